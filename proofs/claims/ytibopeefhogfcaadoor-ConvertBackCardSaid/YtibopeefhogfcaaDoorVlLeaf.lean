/-
  What the leaves of package values and of the document's answers say: isKind, own, Same, cmp.Compare at integers and texts, order. Conditions: the bounds named in each theorem.
-/
import Derived.Test.YtibopeefhogfcaaDoorBase
import Derived.Test.YtibopeefhogfcaaDoorVlPlain
import Derived.Below
import Derived.Laws.StructEq
import Derived.Laws.Cover1
namespace Go.Proofs.YtibopeefhogfcaaDoor
open Go.RowKit

/-- A value as Go's struct. -/
def av (k n b : Int) (s : List UInt8) : Value := .agg #[.int .i64 k, .int .i64 n, .int .u64 b, .string ⟨s.toArray⟩]

theorem bytes_list (s : List UInt8) : (ByteArray.mk s.toArray).toList = s := by rw [ByteArray.toList_eq]

theorem eq24 (k n b : Int) (s : List UInt8) (k' n' b' : Int) (s' : List UInt8) (w : World) :
    (Op.equalIn 10000 32 (.agg #[.int .i64 k, .int .i64 n, .int .u64 b, .string ⟨s.toArray⟩]) (.agg #[.int .i64 k', .int .i64 n', .int .u64 b', .string ⟨s'.toArray⟩])).run Tryd.prog w = .ok (Vl.sm k n b s k' n' b' s') w := by
  have u3 := Tryd.underlying3
  have a3 := Tryd.isAgg3
  have z3 := Tryd.sizeOf3
  have u4 := Tryd.underlying30
  have a4 := Tryd.isAgg30
  have z4 := Tryd.sizeOf30
  have u5 := Tryd.underlying9
  have a5 := Tryd.isAgg9
  have z5 := Tryd.sizeOf9
  have hS : Tryd.prog.underlying 32 = some (.struct (Tryd.prog.fieldsOf 32)) := by kernel_rfl
  have hp : Tryd.prog.stoodInHeld 32 = false := by kernel_rfl
  rw [show (10000 : Nat) = 9999 + 1 from rfl, run_equalIn_agg w 9999 32 _ _ hS hp]
  simp only [Program.fieldsOf, Tryd.underlying32]
  go_simp
  unfold Vl.sm
  by_cases h1 : k = k' <;> by_cases h2 : n = n' <;> by_cases h3 : b = b' <;> by_cases h4 : s = s' <;> simp [h1, h2, h3, h4]

theorem isKind_t (k : Int) (w : World) (h0 : 0 ≤ k) (h1 : k ≤ 5) :
    Calls Tryd.prog 22 #[.int .i64 k] w fun e w' => e = .returned (.bool true) ∧ w = w' := by
  have h2 : k < 6 := by omega
  go_enter Tryd.func22, Tryd.ntmps22
  go_wp2
  go_ret
  exact ⟨rfl, rfl⟩

theorem isKind_f (k : Int) (w : World) (h : k < 0 ∨ 5 < k) :
    Calls Tryd.prog 22 #[.int .i64 k] w fun e w' => e = .returned (.bool false) ∧ w = w' := by
  by_cases h0 : k < 0
  · clear h
    go_enter Tryd.func22, Tryd.ntmps22
    go_wp2
    go_ret
    exact ⟨rfl, rfl⟩
  · have h1 : decide (k < 6) = false := by rw [decide_eq_false_iff_not]; omega
    replace h0 : 0 ≤ k := by omega
    clear h
    go_enter Tryd.func22, Tryd.ntmps22
    go_wp2
    go_ret
    exact ⟨rfl, rfl⟩

end Go.Proofs.YtibopeefhogfcaaDoor
