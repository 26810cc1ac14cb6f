/-
  What the leaves of package values and of the document's answers say: isKind, own, Same, cmp.Compare at integers and texts, order. Conditions: the bounds named in each theorem.
-/
import Derived.Test.YtfemigdghdbbgaaBase
import Derived.Test.YtfemigdghdbbgaaVlPlain
import Derived.Below
import Derived.Laws.StructEq
import Derived.Laws.Cover1
namespace Go.Proofs.Ytfemigdghdbbgaa
open Go.RowKit

/-- A value as Go's struct. -/
def av (k n b : Int) (s : List UInt8) : Value := .agg #[.int .i64 k, .int .i64 n, .int .u64 b, .string ⟨s.toArray⟩]

theorem bytes_list (s : List UInt8) : (ByteArray.mk s.toArray).toList = s := by rw [ByteArray.toList_eq]

theorem eq24 (k n b : Int) (s : List UInt8) (k' n' b' : Int) (s' : List UInt8) (w : World) :
    (Op.equalIn 10000 33 (.agg #[.int .i64 k, .int .i64 n, .int .u64 b, .string ⟨s.toArray⟩]) (.agg #[.int .i64 k', .int .i64 n', .int .u64 b', .string ⟨s'.toArray⟩])).run Try.prog w = .ok (Vl.sm k n b s k' n' b' s') w := by
  have u3 := Try.underlying3
  have a3 := Try.isAgg3
  have z3 := Try.sizeOf3
  have u4 := Try.underlying31
  have a4 := Try.isAgg31
  have z4 := Try.sizeOf31
  have u5 := Try.underlying9
  have a5 := Try.isAgg9
  have z5 := Try.sizeOf9
  have hS : Try.prog.underlying 33 = some (.struct (Try.prog.fieldsOf 33)) := by kernel_rfl
  have hp : Try.prog.stoodInHeld 33 = false := by kernel_rfl
  rw [show (10000 : Nat) = 9999 + 1 from rfl, run_equalIn_agg w 9999 33 _ _ hS hp]
  simp only [Program.fieldsOf, Try.underlying33]
  go_simp
  unfold Vl.sm
  by_cases h1 : k = k' <;> by_cases h2 : n = n' <;> by_cases h3 : b = b' <;> by_cases h4 : s = s' <;> simp [h1, h2, h3, h4]

theorem isKind_t (k : Int) (w : World) (h0 : 0 ≤ k) (h1 : k ≤ 5) :
    Calls Try.prog 43 #[.int .i64 k] w fun e w' => e = .returned (.bool true) ∧ w = w' := by
  have h2 : k < 6 := by omega
  go_enter Try.func43, Try.ntmps43
  go_wp2
  go_ret
  exact ⟨rfl, rfl⟩

theorem isKind_f (k : Int) (w : World) (h : k < 0 ∨ 5 < k) :
    Calls Try.prog 43 #[.int .i64 k] w fun e w' => e = .returned (.bool false) ∧ w = w' := by
  by_cases h0 : k < 0
  · clear h
    go_enter Try.func43, Try.ntmps43
    go_wp2
    go_ret
    exact ⟨rfl, rfl⟩
  · have h1 : decide (k < 6) = false := by rw [decide_eq_false_iff_not]; omega
    replace h0 : 0 ≤ k := by omega
    clear h
    go_enter Try.func43, Try.ntmps43
    go_wp2
    go_ret
    exact ⟨rfl, rfl⟩

set_option maxHeartbeats 1000000 in
theorem compareInt_any (a b : Int) (w : World) :
    Calls Try.prog 40 #[.int .i64 a, .int .i64 b] w fun e w' => e = .returned (.int .i64 (Vl.ic a b)) ∧ w = w' := by
  by_cases h : a < b
  · have e : Vl.ic a b = -1 := by unfold Vl.ic; rw [if_pos h]
    rw [e]
    clear e
    go_enter Try.func40, Try.ntmps40
    go_wp2
    go_ret
    exact ⟨rfl, rfl⟩
  by_cases g : b < a
  · have e : Vl.ic a b = 1 := by unfold Vl.ic; rw [if_neg h, if_pos g]
    rw [e]
    clear e h
    have g1 : b ≤ a := Int.le_of_lt g
    go_enter Try.func40, Try.ntmps40
    go_wp2
    go_ret
    exact ⟨rfl, rfl⟩
  · have e : Vl.ic a b = 0 := by unfold Vl.ic; rw [if_neg h, if_neg g]
    rw [e]
    obtain rfl : a = b := by omega
    clear e h g
    go_enter Try.func40, Try.ntmps40
    go_wp2
    go_ret
    exact ⟨rfl, rfl⟩

set_option maxHeartbeats 1000000 in
theorem compareStr_any (s t : List UInt8) (w : World) :
    Calls Try.prog 42 #[.string ⟨s.toArray⟩, .string ⟨t.toArray⟩] w fun e w' => e = .returned (.int .i64 (Vl.sc s t)) ∧ w = w' := by
  by_cases h : s < t
  · have e : Vl.sc s t = -1 := by unfold Vl.sc; rw [if_pos h]
    have l1 : Op.bytesLess s t = true := by rw [Vl.less_eq]; simp [h]
    rw [e]
    clear e
    go_enter Try.func42, Try.ntmps42
    go_wp2
    go_ret
    exact ⟨rfl, rfl⟩
  by_cases g : t < s
  · have e : Vl.sc s t = 1 := by unfold Vl.sc; rw [if_neg h, if_pos g]
    have l1 : Op.bytesLess s t = false := by rw [Vl.less_eq]; simpa using h
    have l2 : (s == t) = false := by rw [beq_eq_false_iff_ne]; intro e; subst e; exact Vl.lt_irrefl _ g
    have l3 : ¬ s = t := by intro e; subst e; exact Vl.lt_irrefl _ g
    rw [e]
    clear e h
    go_enter Try.func42, Try.ntmps42
    go_wp2
    go_ret
    exact ⟨rfl, rfl⟩
  · have e : Vl.sc s t = 0 := by unfold Vl.sc; rw [if_neg h, if_neg g]
    rw [e]
    obtain rfl := Vl.lt_total s t h g
    have l1 : Op.bytesLess s s = false := by rw [Vl.less_eq]; simp
    clear e h g
    go_enter Try.func42, Try.ntmps42
    go_wp2
    go_ret
    exact ⟨rfl, rfl⟩

theorem order_t (w : World) :
    Calls Try.prog 38 #[.bool true] w fun e w' => e = .returned (.int .i64 (-1)) ∧ w = w' := by
  go_enter Try.func38, Try.ntmps38
  go_wp2
  go_ret
  exact ⟨rfl, rfl⟩
theorem order_f (w : World) :
    Calls Try.prog 38 #[.bool false] w fun e w' => e = .returned (.int .i64 1) ∧ w = w' := by
  go_enter Try.func38, Try.ntmps38
  go_wp2
  go_ret
  exact ⟨rfl, rfl⟩

end Go.Proofs.Ytfemigdghdbbgaa
