/-
  What the leaves of package utf answer: Width, mark, lead and begins, for every argument that their callers hand them. Conditions: the bounds named in each theorem.
-/
import Derived.Test.YtibopeefhogfcaaGreatDoorBase
import Derived.Test.YtibopeefhogfcaaGreatDoorUtfPlain
namespace Go.Proofs.YtibopeefhogfcaaGreatDoor
open Go.RowKit

set_option maxHeartbeats 400000 in
theorem width_any (r : Int) (w : World) :
    Calls Tryz.prog 101 #[.int .i64 r] w fun e w' => e = .returned (.int .i64 (Utf.wd r)) ∧ w = w' := by
  have hz : r < 0 ∨ 1114111 < r ∨ (55296 ≤ r ∧ r ≤ 57343) → 0 = Utf.wd r := fun h => by unfold Utf.wd; rw [if_pos h]
  have h1 : 0 ≤ r → r ≤ 127 → 1 = Utf.wd r := fun a b => by unfold Utf.wd; (repeat' split) <;> omega
  have h2 : 127 < r → r ≤ 2047 → 2 = Utf.wd r := fun a b => by unfold Utf.wd; (repeat' split) <;> omega
  have h3 : 2047 < r → r ≤ 65535 → (r < 55296 ∨ 57343 < r) → 3 = Utf.wd r := fun a b c => by unfold Utf.wd; (repeat' split) <;> omega
  have h4 : 65535 < r → r ≤ 1114111 → 4 = Utf.wd r := fun a b => by unfold Utf.wd; (repeat' split) <;> omega
  have Hz := Lib.hid hz
  have H1 := Lib.hid h1
  have H2 := Lib.hid h2
  have H3 := Lib.hid h3
  have H4 := Lib.hid h4
  clear hz h1 h2 h3 h4
  go_enter Tryz.func101, Tryz.ntmps101
  go_wp2
  all_goals go_ret
  all_goals refine ⟨ret_int ?_, rfl⟩
  all_goals first | exact Hz.out (by omega) | exact H1.out (by omega) (by omega) | exact H2.out (by omega) (by omega) | exact H3.out (by omega) (by omega) (by omega) | exact H4.out (by omega) (by omega)

set_option maxHeartbeats 400000 in
theorem lead_any (b : Int) (w : World) (h0 : 0 ≤ b) (h1 : b ≤ 255) :
    Calls Tryz.prog 88 #[.int .u8 b] w fun e w' => e = .returned (.tuple #[.int .i64 (Utf.ldr b), .int .i64 (Utf.ldw b)]) ∧ w = w' := by
  have g1 : b ≤ 127 → Utf.ldr b = b ∧ Utf.ldw b = 1 := fun a => by unfold Utf.ldr Utf.ldw; simp [a]
  have g2 : 127 < b → b < 192 → Utf.ldr b = 0 ∧ Utf.ldw b = 0 := fun a c => by unfold Utf.ldr Utf.ldw; constructor <;> (repeat' split) <;> omega
  have g3 : 192 ≤ b → b < 224 → Utf.ldr b = b - 192 ∧ Utf.ldw b = 2 := fun a c => by unfold Utf.ldr Utf.ldw; constructor <;> (repeat' split) <;> omega
  have g4 : 224 ≤ b → b < 240 → Utf.ldr b = b - 224 ∧ Utf.ldw b = 3 := fun a c => by unfold Utf.ldr Utf.ldw; constructor <;> (repeat' split) <;> omega
  have g5 : 240 ≤ b → Utf.ldr b = b - 240 ∧ Utf.ldw b = 4 := fun a => by unfold Utf.ldr Utf.ldw; constructor <;> (repeat' split) <;> omega
  have G1 := Lib.hid g1
  have G2 := Lib.hid g2
  have G3 := Lib.hid g3
  have G4 := Lib.hid g4
  have G5 := Lib.hid g5
  clear g1 g2 g3 g4 g5
  go_enter Tryz.func88, Tryz.ntmps88
  go_wp2
  all_goals go_ret2
  all_goals refine ⟨?_, rfl⟩
  · exact ret_i2 (G1.out (by omega)).1.symm (G1.out (by omega)).2.symm
  · exact ret_i2 (G2.out (by omega) (by omega)).1.symm (G2.out (by omega) (by omega)).2.symm
  · exact ret_i2 (G3.out (by omega) (by omega)).1.symm (G3.out (by omega) (by omega)).2.symm
  · exact ret_i2 (G4.out (by omega) (by omega)).1.symm (G4.out (by omega) (by omega)).2.symm
  · exact ret_i2 (G5.out (by omega)).1.symm (G5.out (by omega)).2.symm

end Go.Proofs.YtibopeefhogfcaaGreatDoor
