/-
  What the document's Cmp answers of any two values; it writes nothing that was there. Condition: the bounds of Bits.
-/
import Derived.Test.YtfemigdghdbbgaaVlSame
import Derived.Test.YtfemigdghdbbgaaRealsCmp
namespace Go.Proofs.Ytfemigdghdbbgaa
open Go.RowKit

theorem refCmp_is (x y r : Int) (w : World) (hx : Rl.U x) (hy : Rl.U y) (h : Rl.cp x y = r) :
    Calls Try.prog 55 #[.int .u64 x, .int .u64 y] w fun e w' => e = .returned (.int .i64 r) ∧ w = w' := by
  rw [← h]; exact refCmp_any x y w hx hy

set_option maxHeartbeats 2000000 in
theorem rcmp_k_lt (k n b : Int) (s : List UInt8) (k' n' b' : Int) (s' : List UInt8) (w : World) (h : k < k') :
    Calls Try.prog 37 #[.agg #[.int .i64 k, .int .i64 n, .int .u64 b, .string ⟨(s : List UInt8).toArray⟩], .agg #[.int .i64 k', .int .i64 n', .int .u64 b', .string ⟨(s' : List UInt8).toArray⟩]] w fun e w' => e = .returned (.int .i64 (-1)) ∧ Below w.heap.size w w' := by
  have q1 := beq_f (show k ≠ k' from by omega)
  have q2 := bne_t (show k ≠ k' from by omega)
  have d1 : decide (k < k') = true := by rw [decide_eq_true_eq]; exact h
  go_enter Try.func37, Try.ntmps37
  go_wp2_with fail
  refine (order_t _).mono ?_
  rintro e w'' ⟨rfl, rfl⟩
  go_wp2
  go_ret
  exact ⟨rfl, below2s _ _ _⟩

set_option maxHeartbeats 2000000 in
theorem rcmp_n_lt (k n b : Int) (s : List UInt8) (n' b' : Int) (s' : List UInt8) (w : World) (h : n < n') :
    Calls Try.prog 37 #[.agg #[.int .i64 k, .int .i64 n, .int .u64 b, .string ⟨(s : List UInt8).toArray⟩], .agg #[.int .i64 k, .int .i64 n', .int .u64 b', .string ⟨(s' : List UInt8).toArray⟩]] w fun e w' => e = .returned (.int .i64 (-1)) ∧ Below w.heap.size w w' := by
  have q1 := beq_f (show n ≠ n' from by omega)
  have q2 := bne_t (show n ≠ n' from by omega)
  have d1 : decide (n < n') = true := by rw [decide_eq_true_eq]; exact h
  go_enter Try.func37, Try.ntmps37
  go_wp2_with fail
  refine (order_t _).mono ?_
  rintro e w'' ⟨rfl, rfl⟩
  go_wp2
  go_ret
  exact ⟨rfl, below2s _ _ _⟩

set_option maxHeartbeats 2000000 in
theorem rcmp_k_gt (k n b : Int) (s : List UInt8) (k' n' b' : Int) (s' : List UInt8) (w : World) (h : k > k') :
    Calls Try.prog 37 #[.agg #[.int .i64 k, .int .i64 n, .int .u64 b, .string ⟨(s : List UInt8).toArray⟩], .agg #[.int .i64 k', .int .i64 n', .int .u64 b', .string ⟨(s' : List UInt8).toArray⟩]] w fun e w' => e = .returned (.int .i64 1) ∧ Below w.heap.size w w' := by
  have q1 := beq_f (show k ≠ k' from by omega)
  have q2 := bne_t (show k ≠ k' from by omega)
  have d1 : decide (k < k') = false := by rw [decide_eq_false_iff_not]; omega
  go_enter Try.func37, Try.ntmps37
  go_wp2_with fail
  refine (order_f _).mono ?_
  rintro e w'' ⟨rfl, rfl⟩
  go_wp2
  go_ret
  exact ⟨rfl, below2s _ _ _⟩

set_option maxHeartbeats 2000000 in
theorem rcmp_n_gt (k n b : Int) (s : List UInt8) (n' b' : Int) (s' : List UInt8) (w : World) (h : n > n') :
    Calls Try.prog 37 #[.agg #[.int .i64 k, .int .i64 n, .int .u64 b, .string ⟨(s : List UInt8).toArray⟩], .agg #[.int .i64 k, .int .i64 n', .int .u64 b', .string ⟨(s' : List UInt8).toArray⟩]] w fun e w' => e = .returned (.int .i64 1) ∧ Below w.heap.size w w' := by
  have q1 := beq_f (show n ≠ n' from by omega)
  have q2 := bne_t (show n ≠ n' from by omega)
  have d1 : decide (n < n') = false := by rw [decide_eq_false_iff_not]; omega
  go_enter Try.func37, Try.ntmps37
  go_wp2_with fail
  refine (order_f _).mono ?_
  rintro e w'' ⟨rfl, rfl⟩
  go_wp2
  go_ret
  exact ⟨rfl, below2s _ _ _⟩

set_option maxHeartbeats 2000000 in
theorem rcmp_b (k n b : Int) (s : List UInt8) (b' : Int) (s' : List UInt8) (w : World) (hx : Rl.U b) (hy : Rl.U b') (h : Rl.cp b b' ≠ 0) :
    Calls Try.prog 37 #[.agg #[.int .i64 k, .int .i64 n, .int .u64 b, .string ⟨(s : List UInt8).toArray⟩], .agg #[.int .i64 k, .int .i64 n, .int .u64 b', .string ⟨(s' : List UInt8).toArray⟩]] w fun e w' => e = .returned (.int .i64 (Rl.cp b b')) ∧ Below w.heap.size w w' := by
  have U1 := Lib.hid hx
  have U2 := Lib.hid hy
  clear hx hy
  have q1 := beq_f h
  have q2 := bne_t h
  clear h
  go_enter Try.func37, Try.ntmps37
  go_wp2_with fail
  refine (refCmp_is b b' (Rl.cp b b') _ U1.out U2.out rfl).mono ?_
  rintro e w'' ⟨rfl, rfl⟩
  go_wp2
  go_ret
  exact ⟨rfl, below2s _ _ _⟩

set_option maxHeartbeats 2000000 in
theorem rcmp_s_lt (k n b : Int) (s : List UInt8) (b' : Int) (s' : List UInt8) (w : World) (hx : Rl.U b) (hy : Rl.U b') (hz : Rl.cp b b' = 0) (g : s < s') :
    Calls Try.prog 37 #[.agg #[.int .i64 k, .int .i64 n, .int .u64 b, .string ⟨(s : List UInt8).toArray⟩], .agg #[.int .i64 k, .int .i64 n, .int .u64 b', .string ⟨(s' : List UInt8).toArray⟩]] w fun e w' => e = .returned (.int .i64 (-1)) ∧ Below w.heap.size w w' := by
  have U1 := Lib.hid hx
  have U2 := Lib.hid hy
  clear hx hy
  have Z := Lib.hid hz
  clear hz
  have h : s ≠ s' := fun e => Vl.lt_irrefl s' (e ▸ g)
  have s1 : (s == s') = false := by rw [beq_eq_false_iff_ne]; exact h
  have s2 : (s != s') = true := by simpa using h
  have s3 : ¬ s = s' := h
  have l1 : Op.bytesLess s s' = true := by rw [Vl.less_eq]; simpa using g
  clear h g
  go_enter Try.func37, Try.ntmps37
  go_wp2_with fail
  refine (refCmp_is b b' 0 _ U1.out U2.out Z.out).mono ?_
  rintro e w'' ⟨rfl, rfl⟩
  go_wp2_with fail
  refine (order_t _).mono ?_
  rintro e w'' ⟨rfl, rfl⟩
  go_wp2
  go_ret
  exact ⟨rfl, below2s _ _ _⟩

set_option maxHeartbeats 2000000 in
theorem rcmp_s_gt (k n b : Int) (s : List UInt8) (b' : Int) (s' : List UInt8) (w : World) (hx : Rl.U b) (hy : Rl.U b') (hz : Rl.cp b b' = 0) (g : s' < s) :
    Calls Try.prog 37 #[.agg #[.int .i64 k, .int .i64 n, .int .u64 b, .string ⟨(s : List UInt8).toArray⟩], .agg #[.int .i64 k, .int .i64 n, .int .u64 b', .string ⟨(s' : List UInt8).toArray⟩]] w fun e w' => e = .returned (.int .i64 1) ∧ Below w.heap.size w w' := by
  have U1 := Lib.hid hx
  have U2 := Lib.hid hy
  clear hx hy
  have Z := Lib.hid hz
  clear hz
  have h : s ≠ s' := fun e => Vl.lt_irrefl s' (e ▸ g)
  have s1 : (s == s') = false := by rw [beq_eq_false_iff_ne]; exact h
  have s2 : (s != s') = true := by simpa using h
  have s3 : ¬ s = s' := h
  have l1 : Op.bytesLess s s' = false := by rw [Vl.less_eq]; simpa using Vl.lt_asymm g
  clear h g
  go_enter Try.func37, Try.ntmps37
  go_wp2_with fail
  refine (refCmp_is b b' 0 _ U1.out U2.out Z.out).mono ?_
  rintro e w'' ⟨rfl, rfl⟩
  go_wp2_with fail
  refine (order_f _).mono ?_
  rintro e w'' ⟨rfl, rfl⟩
  go_wp2
  go_ret
  exact ⟨rfl, below2s _ _ _⟩

set_option maxHeartbeats 2000000 in
theorem rcmp_same (k n b : Int) (s : List UInt8) (b' : Int) (w : World) (hx : Rl.U b) (hy : Rl.U b') (hz : Rl.cp b b' = 0) :
    Calls Try.prog 37 #[.agg #[.int .i64 k, .int .i64 n, .int .u64 b, .string ⟨(s : List UInt8).toArray⟩], .agg #[.int .i64 k, .int .i64 n, .int .u64 b', .string ⟨(s : List UInt8).toArray⟩]] w fun e w' => e = .returned (.int .i64 0) ∧ Below w.heap.size w w' := by
  have U1 := Lib.hid hx
  have U2 := Lib.hid hy
  clear hx hy
  have Z := Lib.hid hz
  clear hz
  go_enter Try.func37, Try.ntmps37
  go_wp2_with fail
  refine (refCmp_is b b' 0 _ U1.out U2.out Z.out).mono ?_
  rintro e w'' ⟨rfl, rfl⟩
  go_wp2
  go_ret
  exact ⟨rfl, below2s _ _ _⟩

theorem rcmp_is (k n b : Int) (s : List UInt8) (k' n' b' : Int) (s' : List UInt8) (r : Int) (w : World) (hx : Rl.U b) (hy : Rl.U b') (h : Vl.vc k n b s k' n' b' s' = r) :
    Calls Try.prog 37 #[.agg #[.int .i64 k, .int .i64 n, .int .u64 b, .string ⟨(s : List UInt8).toArray⟩], .agg #[.int .i64 k', .int .i64 n', .int .u64 b', .string ⟨(s' : List UInt8).toArray⟩]] w fun e w' => e = .returned (.int .i64 r) ∧ Below w.heap.size w w' := by
  subst h
  by_cases h1 : k < k'
  · rw [show Vl.vc k n b s k' n' b' s' = -1 from by unfold Vl.vc Vl.or4; rw [show Vl.ic k k' = -1 from by unfold Vl.ic; rw [if_pos h1]]; rfl]
    exact rcmp_k_lt k n b s k' n' b' s' w h1
  by_cases h2 : k > k'
  · rw [show Vl.vc k n b s k' n' b' s' = 1 from by unfold Vl.vc Vl.or4; rw [show Vl.ic k k' = 1 from by unfold Vl.ic; rw [if_neg h1, if_pos h2]]; rfl]
    exact rcmp_k_gt k n b s k' n' b' s' w h2
  obtain rfl : k = k' := by omega
  have e1 : Vl.ic k k = 0 := (Vl.ic_zero k k).2 rfl
  by_cases h3 : n < n'
  · rw [show Vl.vc k n b s k n' b' s' = -1 from by unfold Vl.vc Vl.or4; rw [e1, show Vl.ic n n' = -1 from by unfold Vl.ic; rw [if_pos h3]]; rfl]
    exact rcmp_n_lt k n b s n' b' s' w h3
  by_cases h4 : n > n'
  · rw [show Vl.vc k n b s k n' b' s' = 1 from by unfold Vl.vc Vl.or4; rw [e1, show Vl.ic n n' = 1 from by unfold Vl.ic; rw [if_neg h3, if_pos h4]]; rfl]
    exact rcmp_n_gt k n b s n' b' s' w h4
  obtain rfl : n = n' := by omega
  have e2 : Vl.ic n n = 0 := (Vl.ic_zero n n).2 rfl
  by_cases h5 : Rl.cp b b' = 0
  · by_cases h6 : s < s'
    · rw [show Vl.vc k n b s k n b' s' = -1 from by unfold Vl.vc Vl.or4; rw [e1, e2, h5, show Vl.sc s s' = -1 from by unfold Vl.sc; rw [if_pos h6]]; rfl]
      exact rcmp_s_lt k n b s b' s' w hx hy h5 h6
    by_cases h7 : s' < s
    · rw [show Vl.vc k n b s k n b' s' = 1 from by unfold Vl.vc Vl.or4; rw [e1, e2, h5, show Vl.sc s s' = 1 from by unfold Vl.sc; rw [if_neg h6, if_pos h7]]; rfl]
      exact rcmp_s_gt k n b s b' s' w hx hy h5 h7
    obtain rfl := Vl.lt_total s s' h6 h7
    rw [show Vl.vc k n b s k n b' s = 0 from by unfold Vl.vc Vl.or4; rw [e1, e2, h5, (Vl.sc_zero s s).2 rfl]; rfl]
    exact rcmp_same k n b s b' w hx hy h5
  · rw [show Vl.vc k n b s k n b' s' = Rl.cp b b' from by unfold Vl.vc Vl.or4; rw [e1, e2, if_pos rfl, if_pos rfl, if_neg h5]]
    exact rcmp_b k n b s b' s' w hx hy h5

end Go.Proofs.Ytfemigdghdbbgaa
