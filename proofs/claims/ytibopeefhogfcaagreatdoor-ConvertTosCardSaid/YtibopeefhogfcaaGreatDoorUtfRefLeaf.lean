/-
  What the document's own lead and among answer. Conditions: the bounds named in each theorem.
-/
import Derived.Test.YtibopeefhogfcaaGreatDoorUtfLeaf
namespace Go.Proofs.YtibopeefhogfcaaGreatDoor.Utf

theorem ld4 (x : Int) (h : 240 ≤ x) : ldw x = 4 ∧ ldr x = x - 240 := by unfold ldw ldr; constructor <;> (repeat' split) <;> omega

end Go.Proofs.YtibopeefhogfcaaGreatDoor.Utf
namespace Go.Proofs.YtibopeefhogfcaaGreatDoor
open Go.RowKit

set_option maxHeartbeats 400000 in
theorem rlead_lo (b : Int) (w : World) (h0 : 0 ≤ b) (h1 : b < 248) :
    Calls Tryz.prog 92 #[.int .i64 b] w fun e w' => e = .returned (.tuple #[.int .i64 (Utf.ldw b), .int .i64 (Utf.ldr b)]) ∧ w = w' := by
  have g1 : b ≤ 127 → Utf.ldr b = b ∧ Utf.ldw b = 1 := fun a => by unfold Utf.ldr Utf.ldw; simp [a]
  have g2 : 127 < b → b < 192 → Utf.ldr b = 0 ∧ Utf.ldw b = 0 := fun a c => by unfold Utf.ldr Utf.ldw; constructor <;> (repeat' split) <;> omega
  have g3 : 192 ≤ b → b < 224 → Utf.ldr b = b - 192 ∧ Utf.ldw b = 2 := fun a c => by unfold Utf.ldr Utf.ldw; constructor <;> (repeat' split) <;> omega
  have g4 : 224 ≤ b → b < 240 → Utf.ldr b = b - 224 ∧ Utf.ldw b = 3 := fun a c => by unfold Utf.ldr Utf.ldw; constructor <;> (repeat' split) <;> omega
  have g5 : 240 ≤ b → Utf.ldr b = b - 240 ∧ Utf.ldw b = 4 := fun a => by unfold Utf.ldr Utf.ldw; constructor <;> (repeat' split) <;> omega
  have G1 := Lib.hid g1
  have G2 := Lib.hid g2
  have G3 := Lib.hid g3
  have G4 := Lib.hid g4
  have G5 := Lib.hid g5
  clear g1 g2 g3 g4 g5
  go_enter Tryz.func92, Tryz.ntmps92
  go_wp2
  all_goals go_ret2
  all_goals refine ⟨?_, rfl⟩
  all_goals first | exact ret_i2 (G1.out (by omega)).2.symm (G1.out (by omega)).1.symm | exact ret_i2 (G2.out (by omega) (by omega)).2.symm (G2.out (by omega) (by omega)).1.symm | exact ret_i2 (G3.out (by omega) (by omega)).2.symm (G3.out (by omega) (by omega)).1.symm | exact ret_i2 (G4.out (by omega) (by omega)).2.symm (G4.out (by omega) (by omega)).1.symm | exact ret_i2 (G5.out (by omega)).2.symm (G5.out (by omega)).1.symm

set_option maxHeartbeats 400000 in
theorem rlead_hi (b : Int) (w : World) (h0 : 248 ≤ b) :
    Calls Tryz.prog 92 #[.int .i64 b] w fun e w' => e = .returned (.tuple #[.int .i64 0, .int .i64 0]) ∧ w = w' := by
  go_enter Tryz.func92, Tryz.ntmps92
  go_wp2
  go_ret2
  exact ⟨rfl, rfl⟩

/-- Is one of the numbers from lo to hi a character of 1 bytes? -/
def am1 (lo hi : Int) : Bool := decide (lo ≤ 127 ∧ 0 ≤ hi)

set_option maxHeartbeats 400000 in
theorem among_1 (lo hi : Int) (w : World) (h : lo ≤ hi) :
    Calls Tryz.prog 93 #[.int .i64 lo, .int .i64 hi, .int .i64 1] w fun e w' => e = .returned (.bool (am1 lo hi)) ∧ w = w' := by
  have ht : lo ≤ 127 ∧ 0 ≤ hi → true = am1 lo hi := fun h => by unfold am1; rw [decide_eq_true h]
  have hf : ¬ (lo ≤ 127 ∧ 0 ≤ hi) → false = am1 lo hi := fun h => by unfold am1; rw [decide_eq_false h]
  have HT := Lib.hid ht
  have HF := Lib.hid hf
  clear ht hf
  by_cases a : lo < 0 <;> by_cases b : 127 < hi
  all_goals
    go_enter Tryz.func93, Tryz.ntmps93
    go_wp2
  all_goals go_ret
  all_goals refine ⟨ret_bool ?_, rfl⟩
  all_goals first | exact HT.out (by omega) | exact HF.out (by omega)

/-- Is one of the numbers from lo to hi a character of 2 bytes? -/
def am2 (lo hi : Int) : Bool := decide (lo ≤ 2047 ∧ 128 ≤ hi)

set_option maxHeartbeats 400000 in
theorem among_2 (lo hi : Int) (w : World) (h : lo ≤ hi) :
    Calls Tryz.prog 93 #[.int .i64 lo, .int .i64 hi, .int .i64 2] w fun e w' => e = .returned (.bool (am2 lo hi)) ∧ w = w' := by
  have ht : lo ≤ 2047 ∧ 128 ≤ hi → true = am2 lo hi := fun h => by unfold am2; rw [decide_eq_true h]
  have hf : ¬ (lo ≤ 2047 ∧ 128 ≤ hi) → false = am2 lo hi := fun h => by unfold am2; rw [decide_eq_false h]
  have HT := Lib.hid ht
  have HF := Lib.hid hf
  clear ht hf
  by_cases a : lo < 128 <;> by_cases b : 2047 < hi
  all_goals
    go_enter Tryz.func93, Tryz.ntmps93
    go_wp2
  all_goals go_ret
  all_goals refine ⟨ret_bool ?_, rfl⟩
  all_goals first | exact HT.out (by omega) | exact HF.out (by omega)

/-- Is one of the numbers from lo to hi a character of 3 bytes? -/
def am3 (lo hi : Int) : Bool := decide (lo ≤ 65535 ∧ 2048 ≤ hi ∧ (lo < 55296 ∨ 57343 < hi))

set_option maxHeartbeats 400000 in
theorem among_3 (lo hi : Int) (w : World) (h : lo ≤ hi) :
    Calls Tryz.prog 93 #[.int .i64 lo, .int .i64 hi, .int .i64 3] w fun e w' => e = .returned (.bool (am3 lo hi)) ∧ w = w' := by
  have ht : lo ≤ 65535 ∧ 2048 ≤ hi ∧ (lo < 55296 ∨ 57343 < hi) → true = am3 lo hi := fun h => by unfold am3; rw [decide_eq_true h]
  have hf : ¬ (lo ≤ 65535 ∧ 2048 ≤ hi ∧ (lo < 55296 ∨ 57343 < hi)) → false = am3 lo hi := fun h => by unfold am3; rw [decide_eq_false h]
  have HT := Lib.hid ht
  have HF := Lib.hid hf
  clear ht hf
  by_cases c : 57343 < hi
  · have hc : decide (57343 < hi) = true := decide_eq_true c
    by_cases a : lo < 2048 <;> by_cases b : 65535 < hi
    all_goals
      go_enter Tryz.func93, Tryz.ntmps93
      go_wp2
    all_goals go_ret
    all_goals refine ⟨ret_bool ?_, rfl⟩
    all_goals first | exact HT.out (by omega) | exact HF.out (by omega) | (by_cases d : lo < 55296; (exact (decide_eq_true d).trans (HT.out (by omega))); exact (decide_eq_false d).trans (HF.out (by omega)))
  · have hc : decide (57343 < hi) = false := decide_eq_false c
    by_cases a : lo < 2048 <;> by_cases b : 65535 < hi
    all_goals
      go_enter Tryz.func93, Tryz.ntmps93
      go_wp2
    all_goals go_ret
    all_goals refine ⟨ret_bool ?_, rfl⟩
    all_goals first | exact HT.out (by omega) | exact HF.out (by omega) | (by_cases d : lo < 55296; (exact (decide_eq_true d).trans (HT.out (by omega))); exact (decide_eq_false d).trans (HF.out (by omega)))

/-- Is one of the numbers from lo to hi a character of 4 bytes? -/
def am4 (lo hi : Int) : Bool := decide (lo ≤ 1114111 ∧ 65536 ≤ hi)

set_option maxHeartbeats 400000 in
theorem among_4 (lo hi : Int) (w : World) (h : lo ≤ hi) :
    Calls Tryz.prog 93 #[.int .i64 lo, .int .i64 hi, .int .i64 4] w fun e w' => e = .returned (.bool (am4 lo hi)) ∧ w = w' := by
  have ht : lo ≤ 1114111 ∧ 65536 ≤ hi → true = am4 lo hi := fun h => by unfold am4; rw [decide_eq_true h]
  have hf : ¬ (lo ≤ 1114111 ∧ 65536 ≤ hi) → false = am4 lo hi := fun h => by unfold am4; rw [decide_eq_false h]
  have HT := Lib.hid ht
  have HF := Lib.hid hf
  clear ht hf
  by_cases c : 57343 < hi
  · have hc : decide (57343 < hi) = true := decide_eq_true c
    by_cases a : lo < 65536 <;> by_cases b : 1114111 < hi
    all_goals
      go_enter Tryz.func93, Tryz.ntmps93
      go_wp2
    all_goals go_ret
    all_goals refine ⟨ret_bool ?_, rfl⟩
    all_goals first | exact HT.out (by omega) | exact HF.out (by omega) | (by_cases d : lo < 55296; (exact (decide_eq_true d).trans (HT.out (by omega))); exact (decide_eq_false d).trans (HF.out (by omega)))
  · have hc : decide (57343 < hi) = false := decide_eq_false c
    by_cases a : lo < 65536 <;> by_cases b : 1114111 < hi
    all_goals
      go_enter Tryz.func93, Tryz.ntmps93
      go_wp2
    all_goals go_ret
    all_goals refine ⟨ret_bool ?_, rfl⟩
    all_goals first | exact HT.out (by omega) | exact HF.out (by omega) | (by_cases d : lo < 55296; (exact (decide_eq_true d).trans (HT.out (by omega))); exact (decide_eq_false d).trans (HF.out (by omega)))

theorem am_11 (r : Int) (h : 0 ≤ r) : am1 r r = Utf.bg r 1 1 := by
  rw [Bool.eq_iff_iff]
  simp [am1, Utf.bg, Utf.pw, Utf.wd1]
  omega

theorem am_21 (r : Int) (h : 0 ≤ r) : am2 (r * 64) (r * 64 + 64 - 1) = Utf.bg r 2 1 := by
  rw [Bool.eq_iff_iff]
  simp [am2, Utf.bg, Utf.pw, Utf.wd2]
  omega

theorem am_22 (r : Int) (h : 0 ≤ r) : am2 r r = Utf.bg r 2 2 := by
  rw [Bool.eq_iff_iff]
  simp [am2, Utf.bg, Utf.pw, Utf.wd2]
  omega

theorem am_31 (r : Int) (h : 0 ≤ r) : am3 (r * 4096) (r * 4096 + 4096 - 1) = Utf.bg r 3 1 := by
  rw [Bool.eq_iff_iff]
  simp [am3, Utf.bg, Utf.pw, Utf.wd3]
  omega

theorem am_32 (r : Int) (h : 0 ≤ r) : am3 (r * 64) (r * 64 + 64 - 1) = Utf.bg r 3 2 := by
  rw [Bool.eq_iff_iff]
  simp [am3, Utf.bg, Utf.pw, Utf.wd3]
  omega

theorem am_33 (r : Int) (h : 0 ≤ r) : am3 r r = Utf.bg r 3 3 := by
  rw [Bool.eq_iff_iff]
  simp [am3, Utf.bg, Utf.pw, Utf.wd3]
  omega

theorem am_41 (r : Int) (h : 0 ≤ r) : am4 (r * 262144) (r * 262144 + 262144 - 1) = Utf.bg r 4 1 := by
  rw [Bool.eq_iff_iff]
  simp [am4, Utf.bg, Utf.pw, Utf.wd4]
  omega

theorem am_42 (r : Int) (h : 0 ≤ r) : am4 (r * 4096) (r * 4096 + 4096 - 1) = Utf.bg r 4 2 := by
  rw [Bool.eq_iff_iff]
  simp [am4, Utf.bg, Utf.pw, Utf.wd4]
  omega

theorem am_43 (r : Int) (h : 0 ≤ r) : am4 (r * 64) (r * 64 + 64 - 1) = Utf.bg r 4 3 := by
  rw [Bool.eq_iff_iff]
  simp [am4, Utf.bg, Utf.pw, Utf.wd4]
  omega

theorem am_44 (r : Int) (h : 0 ≤ r) : am4 r r = Utf.bg r 4 4 := by
  rw [Bool.eq_iff_iff]
  simp [am4, Utf.bg, Utf.pw, Utf.wd4]
  omega

end Go.Proofs.YtibopeefhogfcaaGreatDoor
