/-
  What Put answers, for every number. No condition.
-/
import Derived.Test.YtcehhphmmcoaaaaUtfLeaf
import Derived.Test.YtcehhphmmcoaaaaUtfBits
import Derived.LoopN
import Derived.Laws.IdiomStrings
namespace Go.Proofs.Ytcehhphmmcoaaaa
open Go.RowKit

theorem width_is (r n : Int) (w : World) (h : Utf.wd r = n) :
    Calls Try.prog 10 #[.int .i64 r] w fun e w' => e = .returned (.int .i64 n) ∧ w = w' := by
  rw [← h]; exact width_any r w

theorem mark_is (n m : Int) (w : World) (h : mk n = m) :
    Calls Try.prog 22 #[.int .i64 n] w fun e w' => e = .returned (.int .u8 m) ∧ w = w' := by
  rw [← h]; exact mark_any n w

/-- A new row of bytes, made a text. -/
theorem conv_cells (l : List Int) (w : World) (h : ∀ x ∈ l, 0 ≤ x ∧ x < 256) :
    (convert 42 9 (.slice (some ⟨w.heap.size, 0, none⟩) l.length l.length)).run Try.prog (w.alloc (.cells (l.map (Value.int .u8)).toArray 5)) = .ok (.string ⟨(l.map Utf.bt).toArray⟩) (w.alloc (.cells (l.map (Value.int .u8)).toArray 5)) := by
  have e : l.length = (l.map Utf.bt).length := by simp
  rw [e]
  refine run_convert_bytes_back _ _ _ 5 _ _ _ Try.underlying42 Try.underlying5 Try.underlying9 ?_
  intro j hj
  have hj' : j < l.length := by simpa using hj
  have hb := h l[j] (List.getElem_mem hj')
  have ea : (⟨w.heap.size, 0, none⟩ : Addr).add j = ⟨w.heap.size, j, none⟩ := by simp [Addr.add]; omega
  rw [ea, World.cell?_alloc_mark]
  simp only [List.getElem?_toArray, List.getElem?_map, List.getElem?_eq_getElem hj', Option.map_some, List.getElem_map]
  rw [Utf.bt_toNat _ hb.1 hb.2]

set_option maxHeartbeats 400000 in
theorem put_none (r : Int) (w : World) (h : Utf.wd r = 0) :
    Calls Try.prog 8 #[.int .i64 r] w fun e w' => e = .returned (.tuple #[.string ⟨([] : List UInt8).toArray⟩, .int .i64 1]) ∧ Below w.heap.size w w' := by
  have H := Lib.hid h
  clear h
  go_enter Try.func8, Try.ntmps8
  go_wp2_with fail
  refine (width_is _ _ _ H.out).mono ?_
  rintro e w' ⟨rfl, rfl⟩
  go_wp2
  go_ret2
  exact ⟨rfl, Below.refl _ _⟩

set_option maxHeartbeats 400000 in
theorem put_1 (r : Int) (w : World) (h : Utf.wd r = 1) (h0 : 0 ≤ r) (h1 : r ≤ 127) :
    Calls Try.prog 8 #[.int .i64 r] w fun e w' => e = .returned (.tuple #[.string ⟨[Utf.bt (r)].toArray⟩, .int .i64 0]) ∧ Below w.heap.size w w' := by
  have H := Lib.hid h
  clear h
  have hmk : ∀ w : World, (Instr.makeSlice 42 (.int .i64 1) (.int .i64 1)).run Try.prog w = .ok (.slice (some ⟨w.heap.size, 0, none⟩) 1 1) (w.alloc (.cells #[.int .u8 0] 5)) := fun _ => by kernel_rfl
  have ol : bits .or .u8 0 (r) = r := Utf.u8_or0 _ (by omega) (by omega)
  have hcv : (convert 42 9 (.slice (some ⟨w.heap.size, 0, none⟩) 1 1)).run Try.prog (w.alloc (.cells #[.int .u8 (r)] 5)) = .ok (.string ⟨[Utf.bt (r)].toArray⟩) (w.alloc (.cells #[.int .u8 (r)] 5)) := conv_cells [r] w (by simp; omega)
  go_enter Try.func8, Try.ntmps8
  go_wp2_with fail
  refine (width_is _ _ _ H.out).mono ?_
  rintro e w' ⟨rfl, rfl⟩
  go_wp2_with fail
  refine wp_loop_rounds 1 ?_
  rw [rounds_succ]
  go_wp2_with fail
  refine (mark_is _ 0 _ rfl).mono ?_
  rintro e w' ⟨rfl, rfl⟩
  go_wp2
  go_ret2
  exact ⟨rfl, (Below.refl _ _).alloc (Nat.le_refl _) _⟩

set_option maxHeartbeats 400000 in
theorem put_2 (r : Int) (w : World) (h : Utf.wd r = 2) (h0 : 128 ≤ r) (h1 : r ≤ 2047) :
    Calls Try.prog 8 #[.int .i64 r] w fun e w' => e = .returned (.tuple #[.string ⟨[Utf.bt (192 + r / 64), Utf.bt (128 + r % 64)].toArray⟩, .int .i64 0]) ∧ Below w.heap.size w w' := by
  have H := Lib.hid h
  clear h
  have hmk : ∀ w : World, (Instr.makeSlice 42 (.int .i64 2) (.int .i64 2)).run Try.prog w = .ok (.slice (some ⟨w.heap.size, 0, none⟩) 2 2) (w.alloc (.cells #[.int .u8 0, .int .u8 0] 5)) := fun _ => by kernel_rfl
  have a1 : bits .and .i64 (r) 63 = r % 64 := Utf.i64_and63 _ (by omega) (by omega)
  have o1 : bits .or .u8 128 (r % 64) = 128 + r % 64 := Utf.u8_or128 _ (by omega) (by omega)
  have ol : bits .or .u8 192 (r / 64) = 192 + r / 64 := Utf.u8_or192 _ (by omega) (by omega)
  have hcv : (convert 42 9 (.slice (some ⟨w.heap.size, 0, none⟩) 2 2)).run Try.prog (w.alloc (.cells #[.int .u8 (192 + r / 64), .int .u8 (128 + r % 64)] 5)) = .ok (.string ⟨[Utf.bt (192 + r / 64), Utf.bt (128 + r % 64)].toArray⟩) (w.alloc (.cells #[.int .u8 (192 + r / 64), .int .u8 (128 + r % 64)] 5)) := conv_cells [192 + r / 64, 128 + r % 64] w (by simp; omega)
  go_enter Try.func8, Try.ntmps8
  go_wp2_with fail
  refine (width_is _ _ _ H.out).mono ?_
  rintro e w' ⟨rfl, rfl⟩
  go_wp2_with fail
  refine wp_loop_rounds 2 ?_
  rw [rounds_succ]
  go_wp2
  rw [rounds_succ]
  go_wp2_with fail
  refine (mark_is _ 192 _ rfl).mono ?_
  rintro e w' ⟨rfl, rfl⟩
  go_wp2
  go_ret2
  exact ⟨rfl, (Below.refl _ _).alloc (Nat.le_refl _) _⟩

set_option maxHeartbeats 400000 in
theorem put_3 (r : Int) (w : World) (h : Utf.wd r = 3) (h0 : 2048 ≤ r) (h1 : r ≤ 65535) :
    Calls Try.prog 8 #[.int .i64 r] w fun e w' => e = .returned (.tuple #[.string ⟨[Utf.bt (224 + r / 64 / 64), Utf.bt (128 + r / 64 % 64), Utf.bt (128 + r % 64)].toArray⟩, .int .i64 0]) ∧ Below w.heap.size w w' := by
  have H := Lib.hid h
  clear h
  have hmk : ∀ w : World, (Instr.makeSlice 42 (.int .i64 3) (.int .i64 3)).run Try.prog w = .ok (.slice (some ⟨w.heap.size, 0, none⟩) 3 3) (w.alloc (.cells #[.int .u8 0, .int .u8 0, .int .u8 0] 5)) := fun _ => by kernel_rfl
  have a1 : bits .and .i64 (r) 63 = r % 64 := Utf.i64_and63 _ (by omega) (by omega)
  have o1 : bits .or .u8 128 (r % 64) = 128 + r % 64 := Utf.u8_or128 _ (by omega) (by omega)
  have a2 : bits .and .i64 (r / 64) 63 = r / 64 % 64 := Utf.i64_and63 _ (by omega) (by omega)
  have o2 : bits .or .u8 128 (r / 64 % 64) = 128 + r / 64 % 64 := Utf.u8_or128 _ (by omega) (by omega)
  have ol : bits .or .u8 224 (r / 64 / 64) = 224 + r / 64 / 64 := Utf.u8_or224 _ (by omega) (by omega)
  have hcv : (convert 42 9 (.slice (some ⟨w.heap.size, 0, none⟩) 3 3)).run Try.prog (w.alloc (.cells #[.int .u8 (224 + r / 64 / 64), .int .u8 (128 + r / 64 % 64), .int .u8 (128 + r % 64)] 5)) = .ok (.string ⟨[Utf.bt (224 + r / 64 / 64), Utf.bt (128 + r / 64 % 64), Utf.bt (128 + r % 64)].toArray⟩) (w.alloc (.cells #[.int .u8 (224 + r / 64 / 64), .int .u8 (128 + r / 64 % 64), .int .u8 (128 + r % 64)] 5)) := conv_cells [224 + r / 64 / 64, 128 + r / 64 % 64, 128 + r % 64] w (by simp; omega)
  go_enter Try.func8, Try.ntmps8
  go_wp2_with fail
  refine (width_is _ _ _ H.out).mono ?_
  rintro e w' ⟨rfl, rfl⟩
  go_wp2_with fail
  refine wp_loop_rounds 3 ?_
  rw [rounds_succ]
  go_wp2
  rw [rounds_succ]
  go_wp2
  rw [rounds_succ]
  go_wp2_with fail
  refine (mark_is _ 224 _ rfl).mono ?_
  rintro e w' ⟨rfl, rfl⟩
  go_wp2
  go_ret2
  exact ⟨rfl, (Below.refl _ _).alloc (Nat.le_refl _) _⟩

set_option maxHeartbeats 400000 in
theorem put_4 (r : Int) (w : World) (h : Utf.wd r = 4) (h0 : 65536 ≤ r) (h1 : r ≤ 1114111) :
    Calls Try.prog 8 #[.int .i64 r] w fun e w' => e = .returned (.tuple #[.string ⟨[Utf.bt (240 + r / 64 / 64 / 64), Utf.bt (128 + r / 64 / 64 % 64), Utf.bt (128 + r / 64 % 64), Utf.bt (128 + r % 64)].toArray⟩, .int .i64 0]) ∧ Below w.heap.size w w' := by
  have H := Lib.hid h
  clear h
  have hmk : ∀ w : World, (Instr.makeSlice 42 (.int .i64 4) (.int .i64 4)).run Try.prog w = .ok (.slice (some ⟨w.heap.size, 0, none⟩) 4 4) (w.alloc (.cells #[.int .u8 0, .int .u8 0, .int .u8 0, .int .u8 0] 5)) := fun _ => by kernel_rfl
  have a1 : bits .and .i64 (r) 63 = r % 64 := Utf.i64_and63 _ (by omega) (by omega)
  have o1 : bits .or .u8 128 (r % 64) = 128 + r % 64 := Utf.u8_or128 _ (by omega) (by omega)
  have a2 : bits .and .i64 (r / 64) 63 = r / 64 % 64 := Utf.i64_and63 _ (by omega) (by omega)
  have o2 : bits .or .u8 128 (r / 64 % 64) = 128 + r / 64 % 64 := Utf.u8_or128 _ (by omega) (by omega)
  have a3 : bits .and .i64 (r / 64 / 64) 63 = r / 64 / 64 % 64 := Utf.i64_and63 _ (by omega) (by omega)
  have o3 : bits .or .u8 128 (r / 64 / 64 % 64) = 128 + r / 64 / 64 % 64 := Utf.u8_or128 _ (by omega) (by omega)
  have ol : bits .or .u8 240 (r / 64 / 64 / 64) = 240 + r / 64 / 64 / 64 := Utf.u8_or240 _ (by omega) (by omega)
  have hcv : (convert 42 9 (.slice (some ⟨w.heap.size, 0, none⟩) 4 4)).run Try.prog (w.alloc (.cells #[.int .u8 (240 + r / 64 / 64 / 64), .int .u8 (128 + r / 64 / 64 % 64), .int .u8 (128 + r / 64 % 64), .int .u8 (128 + r % 64)] 5)) = .ok (.string ⟨[Utf.bt (240 + r / 64 / 64 / 64), Utf.bt (128 + r / 64 / 64 % 64), Utf.bt (128 + r / 64 % 64), Utf.bt (128 + r % 64)].toArray⟩) (w.alloc (.cells #[.int .u8 (240 + r / 64 / 64 / 64), .int .u8 (128 + r / 64 / 64 % 64), .int .u8 (128 + r / 64 % 64), .int .u8 (128 + r % 64)] 5)) := conv_cells [240 + r / 64 / 64 / 64, 128 + r / 64 / 64 % 64, 128 + r / 64 % 64, 128 + r % 64] w (by simp; omega)
  go_enter Try.func8, Try.ntmps8
  go_wp2_with fail
  refine (width_is _ _ _ H.out).mono ?_
  rintro e w' ⟨rfl, rfl⟩
  go_wp2_with fail
  refine wp_loop_rounds 4 ?_
  rw [rounds_succ]
  go_wp2
  rw [rounds_succ]
  go_wp2
  rw [rounds_succ]
  go_wp2
  rw [rounds_succ]
  go_wp2_with fail
  refine (mark_is _ 240 _ rfl).mono ?_
  rintro e w' ⟨rfl, rfl⟩
  go_wp2
  go_ret2
  exact ⟨rfl, (Below.refl _ _).alloc (Nat.le_refl _) _⟩

theorem div2 (r : Int) : r / 64 / 64 = r / 4096 := by omega
theorem div3 (r : Int) : r / 64 / 64 / 64 = r / 262144 := by omega

theorem put_any (r : Int) (w : World) :
    Calls Try.prog 8 #[.int .i64 r] w fun e w' => e = .returned (.tuple #[.string ⟨(Utf.pl r).toArray⟩, .int .i64 (Utf.pe r)]) ∧ Below w.heap.size w w' := by
  by_cases c0 : Utf.wd r = 0
  · rw [show Utf.pl r = [] from by simp [Utf.pl, c0], show Utf.pe r = 1 from by simp [Utf.pe, c0]]
    exact put_none r w c0
  rw [show Utf.pe r = 0 from by simp [Utf.pe, c0]]
  by_cases c1 : Utf.wd r = 1
  · rw [show Utf.pl r = [Utf.bt r] from by simp [Utf.pl, c1]]
    have b : 0 ≤ r ∧ r ≤ 127 := by unfold Utf.wd at c1; (repeat' split at c1) <;> omega
    exact put_1 r w c1 b.1 b.2
  by_cases c2 : Utf.wd r = 2
  · rw [show Utf.pl r = [Utf.bt (192 + r / 64), Utf.bt (128 + r % 64)] from by simp [Utf.pl, c2]]
    have b : 128 ≤ r ∧ r ≤ 2047 := by unfold Utf.wd at c2; (repeat' split at c2) <;> omega
    exact put_2 r w c2 b.1 b.2
  by_cases c3 : Utf.wd r = 3
  · rw [show Utf.pl r = [Utf.bt (224 + r / 4096), Utf.bt (128 + r / 64 % 64), Utf.bt (128 + r % 64)] from by simp [Utf.pl, c3], ← div2 r]
    have b : 2048 ≤ r ∧ r ≤ 65535 := by unfold Utf.wd at c3; (repeat' split at c3) <;> omega
    exact put_3 r w c3 b.1 b.2
  have c4 : Utf.wd r = 4 := by unfold Utf.wd at *; (repeat' split at *) <;> omega
  rw [show Utf.pl r = [Utf.bt (240 + r / 262144), Utf.bt (128 + r / 4096 % 64), Utf.bt (128 + r / 64 % 64), Utf.bt (128 + r % 64)] from by simp [Utf.pl, c4], ← div3 r, ← div2 r]
  have b : 65536 ≤ r ∧ r ≤ 1114111 := by unfold Utf.wd at c4; (repeat' split at c4) <;> omega
  exact put_4 r w c4 b.1 b.2

end Go.Proofs.Ytcehhphmmcoaaaa
