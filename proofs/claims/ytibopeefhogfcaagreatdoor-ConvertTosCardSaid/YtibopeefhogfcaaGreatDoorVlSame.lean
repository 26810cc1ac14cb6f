/-
  What the document's Same answers of any two values; it writes nothing that was there.
-/
import Derived.Test.YtibopeefhogfcaaGreatDoorVlLeaf
namespace Go.Proofs.YtibopeefhogfcaaGreatDoor
open Go.RowKit

theorem below2s (w : World) (o p : Obj) : Below w.heap.size w ((w.alloc o).alloc p) :=
  have b := (Below.refl _ w).alloc (Nat.le_refl _) o
  b.alloc b.size p

set_option maxHeartbeats 2000000 in
theorem rsame_k (k n b : Int) (s : List UInt8) (k' n' b' : Int) (s' : List UInt8) (w : World) (h : k ≠ k') :
    Calls Tryz.prog 8 #[.agg #[.int .i64 k, .int .i64 n, .int .u64 b, .string ⟨(s : List UInt8).toArray⟩], .agg #[.int .i64 k', .int .i64 n', .int .u64 b', .string ⟨(s' : List UInt8).toArray⟩]] w fun e w' => e = .returned (.bool false) ∧ Below w.heap.size w w' := by
  have k1 := beq_f h
  have k2 := bne_t h
  go_enter Tryz.func8, Tryz.ntmps8
  go_wp2
  go_ret
  exact ⟨rfl, below2s _ _ _⟩

set_option maxHeartbeats 2000000 in
theorem rsame_n (k n b : Int) (s : List UInt8) (n' b' : Int) (s' : List UInt8) (w : World) (h : n ≠ n') :
    Calls Tryz.prog 8 #[.agg #[.int .i64 k, .int .i64 n, .int .u64 b, .string ⟨(s : List UInt8).toArray⟩], .agg #[.int .i64 k, .int .i64 n', .int .u64 b', .string ⟨(s' : List UInt8).toArray⟩]] w fun e w' => e = .returned (.bool false) ∧ Below w.heap.size w w' := by
  have n1 := beq_f h
  have n2 := bne_t h
  go_enter Tryz.func8, Tryz.ntmps8
  go_wp2
  go_ret
  exact ⟨rfl, below2s _ _ _⟩

set_option maxHeartbeats 2000000 in
theorem rsame_b (k n b : Int) (s : List UInt8) (b' : Int) (s' : List UInt8) (w : World) (h : b ≠ b') :
    Calls Tryz.prog 8 #[.agg #[.int .i64 k, .int .i64 n, .int .u64 b, .string ⟨(s : List UInt8).toArray⟩], .agg #[.int .i64 k, .int .i64 n, .int .u64 b', .string ⟨(s' : List UInt8).toArray⟩]] w fun e w' => e = .returned (.bool false) ∧ Below w.heap.size w w' := by
  have b1 := beq_f h
  have b2 := bne_t h
  go_enter Tryz.func8, Tryz.ntmps8
  go_wp2
  go_ret
  exact ⟨rfl, below2s _ _ _⟩

set_option maxHeartbeats 2000000 in
theorem rsame_s (k n b : Int) (s s' : List UInt8) (w : World) (h : s ≠ s') :
    Calls Tryz.prog 8 #[.agg #[.int .i64 k, .int .i64 n, .int .u64 b, .string ⟨(s : List UInt8).toArray⟩], .agg #[.int .i64 k, .int .i64 n, .int .u64 b, .string ⟨(s' : List UInt8).toArray⟩]] w fun e w' => e = .returned (.bool false) ∧ Below w.heap.size w w' := by
  have s1 : (s == s') = false := by rw [beq_eq_false_iff_ne]; exact h
  have s2 : (s != s') = true := by simpa using h
  have s3 : ¬ s = s' := h
  go_enter Tryz.func8, Tryz.ntmps8
  go_wp2
  go_ret
  exact ⟨rfl, below2s _ _ _⟩

set_option maxHeartbeats 2000000 in
theorem rsame_t (k n b : Int) (s : List UInt8) (w : World) :
    Calls Tryz.prog 8 #[.agg #[.int .i64 k, .int .i64 n, .int .u64 b, .string ⟨(s : List UInt8).toArray⟩], .agg #[.int .i64 k, .int .i64 n, .int .u64 b, .string ⟨(s : List UInt8).toArray⟩]] w fun e w' => e = .returned (.bool true) ∧ Below w.heap.size w w' := by
  go_enter Tryz.func8, Tryz.ntmps8
  go_wp2
  go_ret
  exact ⟨rfl, below2s _ _ _⟩

theorem rsame_is (k n b : Int) (s : List UInt8) (k' n' b' : Int) (s' : List UInt8) (r : Bool) (w : World) (h : Vl.sm k n b s k' n' b' s' = r) :
    Calls Tryz.prog 8 #[.agg #[.int .i64 k, .int .i64 n, .int .u64 b, .string ⟨(s : List UInt8).toArray⟩], .agg #[.int .i64 k', .int .i64 n', .int .u64 b', .string ⟨(s' : List UInt8).toArray⟩]] w fun e w' => e = .returned (.bool r) ∧ Below w.heap.size w w' := by
  subst h
  unfold Vl.sm
  by_cases hk : k = k'
  · subst hk
    by_cases hn : n = n'
    · subst hn
      by_cases hb : b = b'
      · subst hb
        by_cases hs : s = s'
        · subst hs
          simp only [and_self, decide_true]
          exact rsame_t k n b s w
        · simp only [hs, and_false, decide_false]
          exact rsame_s k n b s s' w hs
      · simp only [hb, false_and, and_false, decide_false]
        exact rsame_b k n b s b' s' w hb
    · simp only [hn, false_and, and_false, decide_false]
      exact rsame_n k n b s n' b' s' w hn
  · simp only [hk, false_and, decide_false]
    exact rsame_k k n b s k' n' b' s' w hk

end Go.Proofs.YtibopeefhogfcaaGreatDoor
