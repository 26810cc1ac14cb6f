/-
  What the leaves of package values and of the document's answers say: isKind, own, Same, cmp.Compare at integers and texts, order. Conditions: the bounds named in each theorem.
-/
import Derived.Test.YtibopeefhogfcaaGreatDoorBase
import Derived.Test.YtibopeefhogfcaaGreatDoorVlPlain
import Derived.Below
import Derived.Laws.StructEq
import Derived.Laws.Cover1
namespace Go.Proofs.YtibopeefhogfcaaGreatDoor
open Go.RowKit

/-- A value as Go's struct. -/
def av (k n b : Int) (s : List UInt8) : Value := .agg #[.int .i64 k, .int .i64 n, .int .u64 b, .string ⟨s.toArray⟩]

theorem bytes_list (s : List UInt8) : (ByteArray.mk s.toArray).toList = s := by rw [ByteArray.toList_eq]

theorem eq24 (k n b : Int) (s : List UInt8) (k' n' b' : Int) (s' : List UInt8) (w : World) :
    (Op.equalIn 10000 24 (.agg #[.int .i64 k, .int .i64 n, .int .u64 b, .string ⟨s.toArray⟩]) (.agg #[.int .i64 k', .int .i64 n', .int .u64 b', .string ⟨s'.toArray⟩])).run Tryz.prog w = .ok (Vl.sm k n b s k' n' b' s') w := by
  have u3 := Tryz.underlying3
  have a3 := Tryz.isAgg3
  have z3 := Tryz.sizeOf3
  have u4 := Tryz.underlying22
  have a4 := Tryz.isAgg22
  have z4 := Tryz.sizeOf22
  have u5 := Tryz.underlying9
  have a5 := Tryz.isAgg9
  have z5 := Tryz.sizeOf9
  have hS : Tryz.prog.underlying 24 = some (.struct (Tryz.prog.fieldsOf 24)) := by kernel_rfl
  have hp : Tryz.prog.stoodInHeld 24 = false := by kernel_rfl
  rw [show (10000 : Nat) = 9999 + 1 from rfl, run_equalIn_agg w 9999 24 _ _ hS hp]
  simp only [Program.fieldsOf, Tryz.underlying24]
  go_simp
  unfold Vl.sm
  by_cases h1 : k = k' <;> by_cases h2 : n = n' <;> by_cases h3 : b = b' <;> by_cases h4 : s = s' <;> simp [h1, h2, h3, h4]

theorem isKind_t (k : Int) (w : World) (h0 : 0 ≤ k) (h1 : k ≤ 5) :
    Calls Tryz.prog 25 #[.int .i64 k] w fun e w' => e = .returned (.bool true) ∧ w = w' := by
  have h2 : k < 6 := by omega
  go_enter Tryz.func25, Tryz.ntmps25
  go_wp2
  go_ret
  exact ⟨rfl, rfl⟩

theorem isKind_f (k : Int) (w : World) (h : k < 0 ∨ 5 < k) :
    Calls Tryz.prog 25 #[.int .i64 k] w fun e w' => e = .returned (.bool false) ∧ w = w' := by
  by_cases h0 : k < 0
  · clear h
    go_enter Tryz.func25, Tryz.ntmps25
    go_wp2
    go_ret
    exact ⟨rfl, rfl⟩
  · have h1 : decide (k < 6) = false := by rw [decide_eq_false_iff_not]; omega
    replace h0 : 0 ≤ k := by omega
    clear h
    go_enter Tryz.func25, Tryz.ntmps25
    go_wp2
    go_ret
    exact ⟨rfl, rfl⟩

end Go.Proofs.YtibopeefhogfcaaGreatDoor
