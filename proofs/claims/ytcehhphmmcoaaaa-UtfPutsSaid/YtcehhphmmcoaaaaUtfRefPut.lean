/-
  What the document's own Width and Put answer, for every number. No condition.
-/
import Derived.Test.YtcehhphmmcoaaaaUtfPut
import Derived.Test.YtcehhphmmcoaaaaUtfOrderPlain
namespace Go.Proofs.Ytcehhphmmcoaaaa
open Go.RowKit

set_option maxHeartbeats 400000 in
theorem rwidth_any (r : Int) (w : World) :
    Calls Try.prog 11 #[.int .i64 r] w fun e w' => e = .returned (.int .i64 (Utf.wd r)) ∧ w = w' := by
  have hz : r < 0 ∨ 1114111 < r ∨ (55296 ≤ r ∧ r ≤ 57343) → 0 = Utf.wd r := fun h => by unfold Utf.wd; rw [if_pos h]
  have h1 : 0 ≤ r → r ≤ 127 → 1 = Utf.wd r := fun a b => by unfold Utf.wd; (repeat' split) <;> omega
  have h2 : 127 < r → r ≤ 2047 → 2 = Utf.wd r := fun a b => by unfold Utf.wd; (repeat' split) <;> omega
  have h3 : 2047 < r → r ≤ 65535 → (r < 55296 ∨ 57343 < r) → 3 = Utf.wd r := fun a b c => by unfold Utf.wd; (repeat' split) <;> omega
  have h4 : 65535 < r → r ≤ 1114111 → 4 = Utf.wd r := fun a b => by unfold Utf.wd; (repeat' split) <;> omega
  have Hz := Lib.hid hz
  have H1 := Lib.hid h1
  have H2 := Lib.hid h2
  have H3 := Lib.hid h3
  have H4 := Lib.hid h4
  clear hz h1 h2 h3 h4
  go_enter Try.func11, Try.ntmps11
  go_wp2
  all_goals go_ret
  all_goals refine ⟨ret_int ?_, rfl⟩
  all_goals first | exact Hz.out (by omega) | exact H1.out (by omega) (by omega) | exact H2.out (by omega) (by omega) | exact H3.out (by omega) (by omega) (by omega) | exact H4.out (by omega) (by omega)

theorem rwidth_is (r n : Int) (w : World) (h : Utf.wd r = n) :
    Calls Try.prog 11 #[.int .i64 r] w fun e w' => e = .returned (.int .i64 n) ∧ w = w' := by
  rw [← h]; exact rwidth_any r w

set_option maxHeartbeats 400000 in
theorem rput_0 (r : Int) (w : World) (h : Utf.wd r = 0) :
    Calls Try.prog 9 #[.int .i64 r] w fun e w' => e = .returned (.tuple #[.string ⟨([] : List UInt8).toArray⟩, .int .i64 1]) ∧ Below w.heap.size w w' := by
  have H := Lib.hid h
  clear h
  go_enter Try.func9, Try.ntmps9
  go_wp2_with fail
  refine (rwidth_is _ _ _ H.out).mono ?_
  rintro e w' ⟨rfl, rfl⟩
  go_wp2
  go_ret2
  exact ⟨rfl, Below.refl _ _⟩

set_option maxHeartbeats 400000 in
theorem rput_1 (r : Int) (w : World) (h : Utf.wd r = 1) (h0 : 0 ≤ r) (h1 : r ≤ 127) :
    Calls Try.prog 9 #[.int .i64 r] w fun e w' => e = .returned (.tuple #[.string ⟨[Utf.bt (r)].toArray⟩, .int .i64 0]) ∧ Below w.heap.size w w' := by
  have H := Lib.hid h
  clear h
  have hcv : (convert 42 9 (.slice (some ⟨w.heap.size, 0, none⟩) 1 1)).run Try.prog (w.alloc (.cells #[.int .u8 (r)] 5)) = .ok (.string ⟨[Utf.bt (r)].toArray⟩) (w.alloc (.cells #[.int .u8 (r)] 5)) := conv_cells [r] w (by simp; omega)
  go_enter Try.func9, Try.ntmps9
  go_wp2_with fail
  refine (rwidth_is _ _ _ H.out).mono ?_
  rintro e w' ⟨rfl, rfl⟩
  go_wp2
  go_ret2
  exact ⟨rfl, (Below.refl _ _).alloc (Nat.le_refl _) _⟩

set_option maxHeartbeats 400000 in
theorem rput_2 (r : Int) (w : World) (h : Utf.wd r = 2) (h0 : 128 ≤ r) (h1 : r ≤ 2047) :
    Calls Try.prog 9 #[.int .i64 r] w fun e w' => e = .returned (.tuple #[.string ⟨[Utf.bt (192 + r / 64), Utf.bt (128 + r % 64)].toArray⟩, .int .i64 0]) ∧ Below w.heap.size w w' := by
  have H := Lib.hid h
  clear h
  have hcv : (convert 42 9 (.slice (some ⟨w.heap.size, 0, none⟩) 2 2)).run Try.prog (w.alloc (.cells #[.int .u8 (192 + r / 64), .int .u8 (128 + r % 64)] 5)) = .ok (.string ⟨[Utf.bt (192 + r / 64), Utf.bt (128 + r % 64)].toArray⟩) (w.alloc (.cells #[.int .u8 (192 + r / 64), .int .u8 (128 + r % 64)] 5)) := conv_cells [192 + r / 64, 128 + r % 64] w (by simp; omega)
  go_enter Try.func9, Try.ntmps9
  go_wp2_with fail
  refine (rwidth_is _ _ _ H.out).mono ?_
  rintro e w' ⟨rfl, rfl⟩
  go_wp2
  go_ret2
  exact ⟨rfl, (Below.refl _ _).alloc (Nat.le_refl _) _⟩

set_option maxHeartbeats 400000 in
theorem rput_3 (r : Int) (w : World) (h : Utf.wd r = 3) (h0 : 2048 ≤ r) (h1 : r ≤ 65535) :
    Calls Try.prog 9 #[.int .i64 r] w fun e w' => e = .returned (.tuple #[.string ⟨[Utf.bt (224 + r / 4096), Utf.bt (128 + r / 64 % 64), Utf.bt (128 + r % 64)].toArray⟩, .int .i64 0]) ∧ Below w.heap.size w w' := by
  have H := Lib.hid h
  clear h
  have hcv : (convert 42 9 (.slice (some ⟨w.heap.size, 0, none⟩) 3 3)).run Try.prog (w.alloc (.cells #[.int .u8 (224 + r / 4096), .int .u8 (128 + r / 64 % 64), .int .u8 (128 + r % 64)] 5)) = .ok (.string ⟨[Utf.bt (224 + r / 4096), Utf.bt (128 + r / 64 % 64), Utf.bt (128 + r % 64)].toArray⟩) (w.alloc (.cells #[.int .u8 (224 + r / 4096), .int .u8 (128 + r / 64 % 64), .int .u8 (128 + r % 64)] 5)) := conv_cells [224 + r / 4096, 128 + r / 64 % 64, 128 + r % 64] w (by simp; omega)
  go_enter Try.func9, Try.ntmps9
  go_wp2_with fail
  refine (rwidth_is _ _ _ H.out).mono ?_
  rintro e w' ⟨rfl, rfl⟩
  go_wp2
  go_ret2
  exact ⟨rfl, (Below.refl _ _).alloc (Nat.le_refl _) _⟩

set_option maxHeartbeats 400000 in
theorem rput_4 (r : Int) (w : World) (h : Utf.wd r = 4) (h0 : 65536 ≤ r) (h1 : r ≤ 1114111) :
    Calls Try.prog 9 #[.int .i64 r] w fun e w' => e = .returned (.tuple #[.string ⟨[Utf.bt (240 + r / 262144), Utf.bt (128 + r / 4096 % 64), Utf.bt (128 + r / 64 % 64), Utf.bt (128 + r % 64)].toArray⟩, .int .i64 0]) ∧ Below w.heap.size w w' := by
  have H := Lib.hid h
  clear h
  have hcv : (convert 42 9 (.slice (some ⟨w.heap.size, 0, none⟩) 4 4)).run Try.prog (w.alloc (.cells #[.int .u8 (240 + r / 262144), .int .u8 (128 + r / 4096 % 64), .int .u8 (128 + r / 64 % 64), .int .u8 (128 + r % 64)] 5)) = .ok (.string ⟨[Utf.bt (240 + r / 262144), Utf.bt (128 + r / 4096 % 64), Utf.bt (128 + r / 64 % 64), Utf.bt (128 + r % 64)].toArray⟩) (w.alloc (.cells #[.int .u8 (240 + r / 262144), .int .u8 (128 + r / 4096 % 64), .int .u8 (128 + r / 64 % 64), .int .u8 (128 + r % 64)] 5)) := conv_cells [240 + r / 262144, 128 + r / 4096 % 64, 128 + r / 64 % 64, 128 + r % 64] w (by simp; omega)
  go_enter Try.func9, Try.ntmps9
  go_wp2_with fail
  refine (rwidth_is _ _ _ H.out).mono ?_
  rintro e w' ⟨rfl, rfl⟩
  go_wp2
  go_ret2
  exact ⟨rfl, (Below.refl _ _).alloc (Nat.le_refl _) _⟩

theorem rput_any (r : Int) (w : World) :
    Calls Try.prog 9 #[.int .i64 r] w fun e w' => e = .returned (.tuple #[.string ⟨(Utf.pl r).toArray⟩, .int .i64 (Utf.pe r)]) ∧ Below w.heap.size w w' := by
  by_cases c0 : Utf.wd r = 0
  · rw [show Utf.pl r = [] from by simp [Utf.pl, c0], show Utf.pe r = 1 from by simp [Utf.pe, c0]]
    exact rput_0 r w c0
  rw [show Utf.pe r = 0 from by simp [Utf.pe, c0]]
  rcases Utf.pl_cases r c0 with ⟨x, y, e⟩ | ⟨x, y, e⟩ | ⟨x, y, e⟩ | ⟨x, y, e⟩
  · rw [e]; exact rput_1 r w (by unfold Utf.wd at *; (repeat' split at *) <;> omega) x y
  · rw [e]; exact rput_2 r w (by unfold Utf.wd at *; (repeat' split at *) <;> omega) x y
  · rw [e]; exact rput_3 r w (by unfold Utf.wd at *; (repeat' split at *) <;> omega) x y
  · rw [e]; exact rput_4 r w (by unfold Utf.wd at *; (repeat' split at *) <;> omega) x y

end Go.Proofs.Ytcehhphmmcoaaaa
