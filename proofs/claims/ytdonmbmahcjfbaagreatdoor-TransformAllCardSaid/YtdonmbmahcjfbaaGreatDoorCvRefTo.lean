/-
  What the document's own To and Can answer, for every value and every kind. Condition: the bounds named in each theorem.
-/
import Derived.Test.YtdonmbmahcjfbaaGreatDoorCvTo
import Derived.Test.YtdonmbmahcjfbaaGreatDoorCvRefNum
import Derived.Test.YtdonmbmahcjfbaaGreatDoorVlRefCheck
import Derived.Test.YtdonmbmahcjfbaaGreatDoorRealsRefTo
namespace Go.Proofs.YtdonmbmahcjfbaaGreatDoor.Km
open Go.RowKit

theorem refFrom_is (n r : Int) (b : Bool) (w : World) (h0 : -9223372036854775808 ≤ n) (h1 : n < 9223372036854775808) (hr : Rl.fi n = r) (hb : Rl.fo n = b) :
    Calls Tryz.prog 77 #[.int .i64 n] w fun e w' => e = .returned (.tuple #[.int .u64 r, .bool b]) ∧ w = w' := by
  rw [← hr, ← hb]; exact refFrom_any n w h0 h1
theorem refTo_is (x r : Int) (b : Bool) (w : World) (hx : Rl.U x) (hr : Rl.ti x = r) (hb : Rl.to x = b) :
    Calls Tryz.prog 81 #[.int .u64 x] w fun e w' => e = .returned (.tuple #[.int .i64 r, .bool b]) ∧ w = w' := by
  rw [← hr, ← hb]; exact refTo_any x w hx
theorem number8 (s : List UInt8) (N : Nat) (w : World) (h : s.length = 8) (hN : Kc.nm s = N) :
    Calls Tryz.prog 82 #[.string ⟨s.toArray⟩] w fun e w' => e = .returned (.int .u64 N) ∧ w = w' := by
  have := number_is s w (by omega)
  rw [show s.take 8 = s from List.take_of_length_le (by omega), hN] at this
  exact this
theorem eight8 (x : Int) (N : Nat) (S : List UInt8) (w : World) (hx : x = N) (hS : Kc.bn 8 N = S) :
    Calls Tryz.prog 79 #[.int .u64 x] w fun e w' => e = .returned (.string ⟨S.toArray⟩) ∧ Below w.heap.size w w' := by
  subst hx hS; exact eight_is N w

set_option maxHeartbeats 1000000 in
theorem truth_0 (w : World) :
    Calls Tryz.prog 78 #[.int .i64 0] w fun x w' => x = .returned (.tuple #[.agg #[.int .i64 1, .int .i64 0, .int .u64 0, .string ⟨([] : List UInt8).toArray⟩], .int .i64 0]) ∧ Below w.heap.size w w' := by
  go_enter Tryz.func78, Tryz.ntmps78
  go_wp2
  refine bodyPost_ret (v := .tuple #[.agg #[.int .i64 1, .int .i64 0, .int .u64 0, .string ⟨([] : List UInt8).toArray⟩], .int .i64 0]) ?_ rfl ⟨rfl, below1 _ _⟩
  simp [results, Tryz.results78, go_sem]

set_option maxHeartbeats 1000000 in
theorem truth_1 (w : World) :
    Calls Tryz.prog 78 #[.int .i64 1] w fun x w' => x = .returned (.tuple #[.agg #[.int .i64 1, .int .i64 1, .int .u64 0, .string ⟨([] : List UInt8).toArray⟩], .int .i64 0]) ∧ Below w.heap.size w w' := by
  go_enter Tryz.func78, Tryz.ntmps78
  go_wp2
  refine bodyPost_ret (v := .tuple #[.agg #[.int .i64 1, .int .i64 1, .int .u64 0, .string ⟨([] : List UInt8).toArray⟩], .int .i64 0]) ?_ rfl ⟨rfl, below1 _ _⟩
  simp [results, Tryz.results78, go_sem]

set_option maxHeartbeats 1000000 in
theorem truth_x (n : Int) (w : World) (h0 : n ≠ 0) (h1 : n ≠ 1) :
    Calls Tryz.prog 78 #[.int .i64 n] w fun x w' => x = .returned (.tuple #[.agg #[.int .i64 0, .int .i64 0, .int .u64 0, .string ⟨([] : List UInt8).toArray⟩], .int .i64 6]) ∧ Below w.heap.size w w' := by
  have n0 := bne_t h0
  have n1 := bne_t h1
  go_enter Tryz.func78, Tryz.ntmps78
  go_wp2
  refine bodyPost_ret (v := .tuple #[.agg #[.int .i64 0, .int .i64 0, .int .u64 0, .string ⟨([] : List UInt8).toArray⟩], .int .i64 6]) ?_ rfl ⟨rfl, below1 _ _⟩
  simp [results, Tryz.results78, go_sem]

theorem truth_l (n K N B e : Int) (S : List UInt8) (w : World) (hr : Cv.ofn n 1 = ⟨K, N, B, S, e⟩) :
    Calls Tryz.prog 78 #[.int .i64 n] w fun x w' => x = .returned (.tuple #[.agg #[.int .i64 K, .int .i64 N, .int .u64 B, .string ⟨(S : List UInt8).toArray⟩], .int .i64 e]) ∧ Below w.heap.size w w' := by
  by_cases e0 : n = 0
  · subst e0; injection hr with a b c d f; subst a b c d f; exact truth_0 w
  by_cases e1 : n = 1
  · subst e1; injection hr with a b c d f; subst a b c d f; exact truth_1 w
  · have : Cv.ofn n 1 = Cv.er 6 := by unfold Cv.ofn; rw [if_pos rfl, if_neg (by omega)]
    rw [this] at hr; injection hr with a b c d f; subst a b c d f; exact truth_x n w e0 e1

set_option maxHeartbeats 1000000 in
theorem rfB_2 (n : Int) (w : World) :
    Calls Tryz.prog 57 #[.int .i64 n, .int .i64 2] w fun x w' => x = .returned (.tuple #[.agg #[.int .i64 2, .int .i64 n, .int .u64 0, .string ⟨([] : List UInt8).toArray⟩], .int .i64 0]) ∧ Below w.heap.size w w' := by
  go_enter Tryz.func57, Tryz.ntmps57
  go_wp2
  refine bodyPost_ret (v := .tuple #[.agg #[.int .i64 2, .int .i64 n, .int .u64 0, .string ⟨([] : List UInt8).toArray⟩], .int .i64 0]) ?_ rfl ⟨rfl, below1 _ _⟩
  simp [results, Tryz.results57, go_sem]

set_option maxHeartbeats 1000000 in
theorem rfB_3 (n r : Int) (w : World) (h : Cv.I n) (hr : Rl.fi n = r) (hf : Rl.fo n = true) :
    Calls Tryz.prog 57 #[.int .i64 n, .int .i64 3] w fun x w' => x = .returned (.tuple #[.agg #[.int .i64 3, .int .i64 0, .int .u64 r, .string ⟨([] : List UInt8).toArray⟩], .int .i64 0]) ∧ Below w.heap.size w w' := by
  have H := Lib.hid (And.intro h (And.intro hr hf))
  clear h hr hf
  go_enter Tryz.func57, Tryz.ntmps57
  go_wp2_with fail
  refine (refFrom_is n r true _ H.out.1.1 H.out.1.2 H.out.2.1 H.out.2.2).mono ?_
  rintro x w' ⟨rfl, rfl⟩
  go_wp2
  refine bodyPost_ret (v := .tuple #[.agg #[.int .i64 3, .int .i64 0, .int .u64 r, .string ⟨([] : List UInt8).toArray⟩], .int .i64 0]) ?_ rfl ⟨rfl, below1 _ _⟩
  simp [results, Tryz.results57, go_sem]

set_option maxHeartbeats 1000000 in
theorem rfB_5_0 (w : World) :
    Calls Tryz.prog 57 #[.int .i64 0, .int .i64 5] w fun x w' => x = .returned (.tuple #[.agg #[.int .i64 5, .int .i64 0, .int .u64 0, .string ⟨([102, 97, 108, 115, 101] : List UInt8).toArray⟩], .int .i64 0]) ∧ Below w.heap.size w w' := by
  go_enter Tryz.func57, Tryz.ntmps57
  go_wp2
  refine bodyPost_ret (v := .tuple #[.agg #[.int .i64 5, .int .i64 0, .int .u64 0, .string ⟨([102, 97, 108, 115, 101] : List UInt8).toArray⟩], .int .i64 0]) ?_ rfl ⟨rfl, below1 _ _⟩
  simp [results, Tryz.results57, go_sem]

set_option maxHeartbeats 1000000 in
theorem rfB_5_1 (w : World) :
    Calls Tryz.prog 57 #[.int .i64 1, .int .i64 5] w fun x w' => x = .returned (.tuple #[.agg #[.int .i64 5, .int .i64 0, .int .u64 0, .string ⟨([116, 114, 117, 101] : List UInt8).toArray⟩], .int .i64 0]) ∧ Below w.heap.size w w' := by
  go_enter Tryz.func57, Tryz.ntmps57
  go_wp2
  refine bodyPost_ret (v := .tuple #[.agg #[.int .i64 5, .int .i64 0, .int .u64 0, .string ⟨([116, 114, 117, 101] : List UInt8).toArray⟩], .int .i64 0]) ?_ rfl ⟨rfl, below1 _ _⟩
  simp [results, Tryz.results57, go_sem]

set_option maxHeartbeats 1000000 in
theorem rfI_1 (n K N B e : Int) (S : List UInt8) (w : World) (hr : Cv.ofn n 1 = ⟨K, N, B, S, e⟩) :
    Calls Tryz.prog 58 #[.int .i64 n, .int .i64 1] w fun x w' => x = .returned (.tuple #[.agg #[.int .i64 K, .int .i64 N, .int .u64 B, .string ⟨(S : List UInt8).toArray⟩], .int .i64 e]) ∧ Below w.heap.size w w' := by
  have H := Lib.hid hr
  clear hr
  go_enter Tryz.func58, Tryz.ntmps58
  go_wp2_with fail
  refine (truth_l n K N B e S _ H.out).mono ?_
  rintro x w1 ⟨rfl, hb⟩
  have k1 := (Blk.new w #[.int .i64 0, .int .i64 0, .int .u64 0, .string ⟨([] : List UInt8).toArray⟩] 28).below hb
  have g0 := k1.cell 0
  have g1 := k1.cell 1
  have g2 := k1.cell 2
  have g3 := k1.cell 3
  have t0 := k1.frozen 0
  have t1 := k1.frozen 1
  have t2 := k1.frozen 2
  have t3 := k1.frozen 3
  simp at g0 g1 g2 g3
  have BF := Lib.hid (old_1 hb)
  clear hb k1
  go_wp2
  refine bodyPost_ret (v := .tuple #[.agg #[.int .i64 K, .int .i64 N, .int .u64 B, .string ⟨(S : List UInt8).toArray⟩], .int .i64 e]) ?_ rfl ⟨rfl, put4 BF.out (Nat.le_refl _) _ _ _ _⟩
  simp [results, Tryz.results58, go_sem, g0, g1, g2, g3]

set_option maxHeartbeats 1000000 in
theorem rfI_3_t (n r : Int) (w : World) (h : Cv.I n) (hr : Rl.fi n = r) (hf : Rl.fo n = true) :
    Calls Tryz.prog 58 #[.int .i64 n, .int .i64 3] w fun x w' => x = .returned (.tuple #[.agg #[.int .i64 3, .int .i64 0, .int .u64 r, .string ⟨([] : List UInt8).toArray⟩], .int .i64 0]) ∧ Below w.heap.size w w' := by
  have H := Lib.hid (And.intro h (And.intro hr hf))
  clear h hr hf
  go_enter Tryz.func58, Tryz.ntmps58
  go_wp2_with fail
  refine (refFrom_is n r true _ H.out.1.1 H.out.1.2 H.out.2.1 H.out.2.2).mono ?_
  rintro x w' ⟨rfl, rfl⟩
  go_wp2
  refine bodyPost_ret (v := .tuple #[.agg #[.int .i64 3, .int .i64 0, .int .u64 r, .string ⟨([] : List UInt8).toArray⟩], .int .i64 0]) ?_ rfl ⟨rfl, below1 _ _⟩
  simp [results, Tryz.results58, go_sem]

set_option maxHeartbeats 1000000 in
theorem rfI_3_f (n : Int) (w : World) (h : Cv.I n) (hf : Rl.fo n = false) :
    Calls Tryz.prog 58 #[.int .i64 n, .int .i64 3] w fun x w' => x = .returned (.tuple #[.agg #[.int .i64 0, .int .i64 0, .int .u64 0, .string ⟨([] : List UInt8).toArray⟩], .int .i64 6]) ∧ Below w.heap.size w w' := by
  have H := Lib.hid (And.intro h hf)
  clear h hf
  go_enter Tryz.func58, Tryz.ntmps58
  go_wp2_with fail
  refine (refFrom_is n _ false _ H.out.1.1 H.out.1.2 rfl H.out.2).mono ?_
  rintro x w' ⟨rfl, rfl⟩
  go_wp2
  refine bodyPost_ret (v := .tuple #[.agg #[.int .i64 0, .int .i64 0, .int .u64 0, .string ⟨([] : List UInt8).toArray⟩], .int .i64 6]) ?_ rfl ⟨rfl, below1 _ _⟩
  simp [results, Tryz.results58, go_sem]

set_option maxHeartbeats 1000000 in
theorem rfI_4 (n : Int) (N : Nat) (S : List UInt8) (w : World) (hN : (n % 18446744073709551616).toNat = N) (hS : Kc.bn 8 N = S) :
    Calls Tryz.prog 58 #[.int .i64 n, .int .i64 4] w fun x w' => x = .returned (.tuple #[.agg #[.int .i64 4, .int .i64 0, .int .u64 0, .string ⟨(S : List UInt8).toArray⟩], .int .i64 0]) ∧ Below w.heap.size w w' := by
  have hw : IntKind.u64.wrap n = (N : Int) := by rw [IntKind.wrap_u64]; omega
  have H := Lib.hid hS
  clear hN hS
  go_enter Tryz.func58, Tryz.ntmps58
  go_wp2_with fail
  refine (eight8 _ N S _ rfl H.out).mono ?_
  rintro x w1 ⟨rfl, hb⟩
  have k1 := (Blk.new w #[.int .i64 0, .int .i64 0, .int .u64 0, .string ⟨([] : List UInt8).toArray⟩] 28).below hb
  have g0 := k1.cell 0
  have g1 := k1.cell 1
  have g2 := k1.cell 2
  have g3 := k1.cell 3
  have t0 := k1.frozen 0
  have t1 := k1.frozen 1
  have t2 := k1.frozen 2
  have t3 := k1.frozen 3
  simp at g0 g1 g2 g3
  have BF := Lib.hid (old_1 hb)
  clear hb k1
  go_wp2
  refine bodyPost_ret (v := .tuple #[.agg #[.int .i64 4, .int .i64 0, .int .u64 0, .string ⟨(S : List UInt8).toArray⟩], .int .i64 0]) ?_ rfl ⟨rfl, put4 BF.out (Nat.le_refl _) _ _ _ _⟩
  simp [results, Tryz.results58, go_sem, g0, g1, g2, g3]

set_option maxHeartbeats 1000000 in
theorem rfI_5 (n : Int) (S : List UInt8) (w : World) (h : Cv.I n) (hS : Lib.itoa n = S) :
    Calls Tryz.prog 58 #[.int .i64 n, .int .i64 5] w fun x w' => x = .returned (.tuple #[.agg #[.int .i64 5, .int .i64 0, .int .u64 0, .string ⟨(S : List UInt8).toArray⟩], .int .i64 0]) ∧ Below w.heap.size w w' := by
  have H := Lib.hid (And.intro h hS)
  clear h hS
  go_enter Tryz.func58, Tryz.ntmps58
  go_wp2_with fail
  refine (rdigits_is n S _ H.out.1 H.out.2).mono ?_
  rintro x w1 ⟨rfl, hb⟩
  have k1 := (Blk.new w #[.int .i64 0, .int .i64 0, .int .u64 0, .string ⟨([] : List UInt8).toArray⟩] 28).below hb
  have g0 := k1.cell 0
  have g1 := k1.cell 1
  have g2 := k1.cell 2
  have g3 := k1.cell 3
  have t0 := k1.frozen 0
  have t1 := k1.frozen 1
  have t2 := k1.frozen 2
  have t3 := k1.frozen 3
  simp at g0 g1 g2 g3
  have BF := Lib.hid (old_1 hb)
  clear hb k1
  go_wp2
  refine bodyPost_ret (v := .tuple #[.agg #[.int .i64 5, .int .i64 0, .int .u64 0, .string ⟨(S : List UInt8).toArray⟩], .int .i64 0]) ?_ rfl ⟨rfl, put4 BF.out (Nat.le_refl _) _ _ _ _⟩
  simp [results, Tryz.results58, go_sem, g0, g1, g2, g3]

set_option maxHeartbeats 1000000 in
theorem rfR_1_t (b m K N B e : Int) (S : List UInt8) (w : World) (hU : Rl.U b) (hm : Rl.ti b = m) (ho : Rl.to b = true) (hr : Cv.ofn m 1 = ⟨K, N, B, S, e⟩) :
    Calls Tryz.prog 59 #[.int .u64 b, .int .i64 1] w fun x w' => x = .returned (.tuple #[.agg #[.int .i64 K, .int .i64 N, .int .u64 B, .string ⟨(S : List UInt8).toArray⟩], .int .i64 e]) ∧ Below w.heap.size w w' := by
  have H := Lib.hid (And.intro hU (And.intro hm (And.intro ho hr)))
  clear hU hm ho hr
  go_enter Tryz.func59, Tryz.ntmps59
  go_wp2_with fail
  refine (refTo_is b m true _ H.out.1 H.out.2.1 H.out.2.2.1).mono ?_
  rintro x w' ⟨rfl, rfl⟩
  go_wp2_with fail
  refine (truth_l m K N B e S _ H.out.2.2.2).mono ?_
  rintro x w1 ⟨rfl, hb⟩
  have k1 := (Blk.new w #[.int .i64 0, .int .i64 0, .int .u64 0, .string ⟨([] : List UInt8).toArray⟩] 28).below hb
  have g0 := k1.cell 0
  have g1 := k1.cell 1
  have g2 := k1.cell 2
  have g3 := k1.cell 3
  have t0 := k1.frozen 0
  have t1 := k1.frozen 1
  have t2 := k1.frozen 2
  have t3 := k1.frozen 3
  simp at g0 g1 g2 g3
  have BF := Lib.hid (old_1 hb)
  clear hb k1
  go_wp2
  refine bodyPost_ret (v := .tuple #[.agg #[.int .i64 K, .int .i64 N, .int .u64 B, .string ⟨(S : List UInt8).toArray⟩], .int .i64 e]) ?_ rfl ⟨rfl, put4 BF.out (Nat.le_refl _) _ _ _ _⟩
  simp [results, Tryz.results59, go_sem, g0, g1, g2, g3]

set_option maxHeartbeats 1000000 in
theorem rfR_2_t (b m : Int) (w : World) (hU : Rl.U b) (hm : Rl.ti b = m) (ho : Rl.to b = true) :
    Calls Tryz.prog 59 #[.int .u64 b, .int .i64 2] w fun x w' => x = .returned (.tuple #[.agg #[.int .i64 2, .int .i64 m, .int .u64 0, .string ⟨([] : List UInt8).toArray⟩], .int .i64 0]) ∧ Below w.heap.size w w' := by
  have H := Lib.hid (And.intro hU (And.intro hm ho))
  clear hU hm ho
  go_enter Tryz.func59, Tryz.ntmps59
  go_wp2_with fail
  refine (refTo_is b m true _ H.out.1 H.out.2.1 H.out.2.2).mono ?_
  rintro x w' ⟨rfl, rfl⟩
  go_wp2
  refine bodyPost_ret (v := .tuple #[.agg #[.int .i64 2, .int .i64 m, .int .u64 0, .string ⟨([] : List UInt8).toArray⟩], .int .i64 0]) ?_ rfl ⟨rfl, below1 _ _⟩
  simp [results, Tryz.results59, go_sem]

set_option maxHeartbeats 1000000 in
theorem rfR_1_f (b : Int) (w : World) (hU : Rl.U b) (ho : Rl.to b = false) :
    Calls Tryz.prog 59 #[.int .u64 b, .int .i64 1] w fun x w' => x = .returned (.tuple #[.agg #[.int .i64 0, .int .i64 0, .int .u64 0, .string ⟨([] : List UInt8).toArray⟩], .int .i64 6]) ∧ Below w.heap.size w w' := by
  have H := Lib.hid (And.intro hU ho)
  clear hU ho
  go_enter Tryz.func59, Tryz.ntmps59
  go_wp2_with fail
  refine (refTo_is b _ false _ H.out.1 rfl H.out.2).mono ?_
  rintro x w' ⟨rfl, rfl⟩
  go_wp2
  refine bodyPost_ret (v := .tuple #[.agg #[.int .i64 0, .int .i64 0, .int .u64 0, .string ⟨([] : List UInt8).toArray⟩], .int .i64 6]) ?_ rfl ⟨rfl, below1 _ _⟩
  simp [results, Tryz.results59, go_sem]

set_option maxHeartbeats 1000000 in
theorem rfR_2_f (b : Int) (w : World) (hU : Rl.U b) (ho : Rl.to b = false) :
    Calls Tryz.prog 59 #[.int .u64 b, .int .i64 2] w fun x w' => x = .returned (.tuple #[.agg #[.int .i64 0, .int .i64 0, .int .u64 0, .string ⟨([] : List UInt8).toArray⟩], .int .i64 6]) ∧ Below w.heap.size w w' := by
  have H := Lib.hid (And.intro hU ho)
  clear hU ho
  go_enter Tryz.func59, Tryz.ntmps59
  go_wp2_with fail
  refine (refTo_is b _ false _ H.out.1 rfl H.out.2).mono ?_
  rintro x w' ⟨rfl, rfl⟩
  go_wp2
  refine bodyPost_ret (v := .tuple #[.agg #[.int .i64 0, .int .i64 0, .int .u64 0, .string ⟨([] : List UInt8).toArray⟩], .int .i64 6]) ?_ rfl ⟨rfl, below1 _ _⟩
  simp [results, Tryz.results59, go_sem]

set_option maxHeartbeats 1000000 in
theorem rfR_4 (b : Int) (N : Nat) (S : List UInt8) (w : World) (hN : b = N) (hS : Kc.bn 8 N = S) :
    Calls Tryz.prog 59 #[.int .u64 b, .int .i64 4] w fun x w' => x = .returned (.tuple #[.agg #[.int .i64 4, .int .i64 0, .int .u64 0, .string ⟨(S : List UInt8).toArray⟩], .int .i64 0]) ∧ Below w.heap.size w w' := by
  have H := Lib.hid (And.intro hN hS)
  clear hN hS
  go_enter Tryz.func59, Tryz.ntmps59
  go_wp2_with fail
  refine (eight8 b N S _ H.out.1 H.out.2).mono ?_
  rintro x w1 ⟨rfl, hb⟩
  have k1 := (Blk.new w #[.int .i64 0, .int .i64 0, .int .u64 0, .string ⟨([] : List UInt8).toArray⟩] 28).below hb
  have g0 := k1.cell 0
  have g1 := k1.cell 1
  have g2 := k1.cell 2
  have g3 := k1.cell 3
  have t0 := k1.frozen 0
  have t1 := k1.frozen 1
  have t2 := k1.frozen 2
  have t3 := k1.frozen 3
  simp at g0 g1 g2 g3
  have BF := Lib.hid (old_1 hb)
  clear hb k1
  go_wp2
  refine bodyPost_ret (v := .tuple #[.agg #[.int .i64 4, .int .i64 0, .int .u64 0, .string ⟨(S : List UInt8).toArray⟩], .int .i64 0]) ?_ rfl ⟨rfl, put4 BF.out (Nat.le_refl _) _ _ _ _⟩
  simp [results, Tryz.results59, go_sem, g0, g1, g2, g3]

set_option maxHeartbeats 1000000 in
theorem rfY_2_f (s : List UInt8) (w : World) (h8 : s.length ≠ 8) :
    Calls Tryz.prog 60 #[.string ⟨s.toArray⟩, .int .i64 2] w fun x w' => x = .returned (.tuple #[.agg #[.int .i64 0, .int .i64 0, .int .u64 0, .string ⟨([] : List UInt8).toArray⟩], .int .i64 6]) ∧ Below w.heap.size w w' := by
  have h1 : ((s.length : Int) == 8) = false := beq_f (by omega)
  have h2 : ¬ s.length = 8 := h8
  clear h8
  go_enter Tryz.func60, Tryz.ntmps60
  go_wp2
  refine bodyPost_ret (v := .tuple #[.agg #[.int .i64 0, .int .i64 0, .int .u64 0, .string ⟨([] : List UInt8).toArray⟩], .int .i64 6]) ?_ rfl ⟨rfl, below1 _ _⟩
  simp [results, Tryz.results60, go_sem]

set_option maxHeartbeats 1000000 in
theorem rfY_3_f (s : List UInt8) (w : World) (h8 : s.length ≠ 8) :
    Calls Tryz.prog 60 #[.string ⟨s.toArray⟩, .int .i64 3] w fun x w' => x = .returned (.tuple #[.agg #[.int .i64 0, .int .i64 0, .int .u64 0, .string ⟨([] : List UInt8).toArray⟩], .int .i64 6]) ∧ Below w.heap.size w w' := by
  have h1 : ((s.length : Int) == 8) = false := beq_f (by omega)
  have h2 : ¬ s.length = 8 := h8
  clear h8
  go_enter Tryz.func60, Tryz.ntmps60
  go_wp2
  refine bodyPost_ret (v := .tuple #[.agg #[.int .i64 0, .int .i64 0, .int .u64 0, .string ⟨([] : List UInt8).toArray⟩], .int .i64 6]) ?_ rfl ⟨rfl, below1 _ _⟩
  simp [results, Tryz.results60, go_sem]

set_option maxHeartbeats 1000000 in
theorem rfY_2_t (s : List UInt8) (N : Nat) (m : Int) (w : World) (h8 : s.length = 8) (hN : Kc.nm s = N) (hm : wrap64 (N : Int) = m) :
    Calls Tryz.prog 60 #[.string ⟨s.toArray⟩, .int .i64 2] w fun x w' => x = .returned (.tuple #[.agg #[.int .i64 2, .int .i64 m, .int .u64 0, .string ⟨([] : List UInt8).toArray⟩], .int .i64 0]) ∧ Below w.heap.size w w' := by
  have H := Lib.hid (And.intro h8 hN)
  clear hN
  go_enter Tryz.func60, Tryz.ntmps60
  go_wp2_with fail
  refine (number8 s N _ H.out.1 H.out.2).mono ?_
  rintro x w' ⟨rfl, rfl⟩
  go_wp2
  refine bodyPost_ret (v := .tuple #[.agg #[.int .i64 2, .int .i64 m, .int .u64 0, .string ⟨([] : List UInt8).toArray⟩], .int .i64 0]) ?_ rfl ⟨rfl, below1 _ _⟩
  simp [results, Tryz.results60, go_sem]

set_option maxHeartbeats 1000000 in
theorem rfY_3_t (s : List UInt8) (N : Nat) (B : Int) (w : World) (h8 : s.length = 8) (hN : Kc.nm s = N) (hU : Rl.U (N : Int)) (hB : Rl.cn (N : Int) = B) :
    Calls Tryz.prog 60 #[.string ⟨s.toArray⟩, .int .i64 3] w fun x w' => x = .returned (.tuple #[.agg #[.int .i64 3, .int .i64 0, .int .u64 B, .string ⟨([] : List UInt8).toArray⟩], .int .i64 0]) ∧ Below w.heap.size w w' := by
  have H := Lib.hid (And.intro h8 (And.intro hN (And.intro hU hB)))
  clear hN hU hB
  go_enter Tryz.func60, Tryz.ntmps60
  go_wp2_with fail
  refine (number8 s N _ H.out.1 H.out.2.1).mono ?_
  rintro x w' ⟨rfl, rfl⟩
  go_wp2_with fail
  refine (refCanon_is _ B _ H.out.2.2.1 H.out.2.2.2).mono ?_
  rintro x w' ⟨rfl, rfl⟩
  go_wp2
  refine bodyPost_ret (v := .tuple #[.agg #[.int .i64 3, .int .i64 0, .int .u64 B, .string ⟨([] : List UInt8).toArray⟩], .int .i64 0]) ?_ rfl ⟨rfl, below1 _ _⟩
  simp [results, Tryz.results60, go_sem]

set_option maxHeartbeats 1000000 in
theorem rfY_5_t (s : List UInt8) (w : World) (hl : s.length ≤ 2000) (hv : Vl.vd s = true) :
    Calls Tryz.prog 60 #[.string ⟨s.toArray⟩, .int .i64 5] w fun x w' => x = .returned (.tuple #[.agg #[.int .i64 5, .int .i64 0, .int .u64 0, .string ⟨(s : List UInt8).toArray⟩], .int .i64 0]) ∧ Below w.heap.size w w' := by
  have H := Lib.hid (And.intro hl hv)
  clear hl hv
  go_enter Tryz.func60, Tryz.ntmps60
  go_wp2_with fail
  refine (rvalid_is s true _ (by have := H.out.1; omega) H.out.2).mono ?_
  rintro x w' ⟨rfl, rfl⟩
  go_wp2
  refine bodyPost_ret (v := .tuple #[.agg #[.int .i64 5, .int .i64 0, .int .u64 0, .string ⟨(s : List UInt8).toArray⟩], .int .i64 0]) ?_ rfl ⟨rfl, below1 _ _⟩
  simp [results, Tryz.results60, go_sem]

set_option maxHeartbeats 1000000 in
theorem rfY_5_f (s : List UInt8) (w : World) (hl : s.length ≤ 2000) (hv : Vl.vd s = false) :
    Calls Tryz.prog 60 #[.string ⟨s.toArray⟩, .int .i64 5] w fun x w' => x = .returned (.tuple #[.agg #[.int .i64 0, .int .i64 0, .int .u64 0, .string ⟨([] : List UInt8).toArray⟩], .int .i64 7]) ∧ Below w.heap.size w w' := by
  have H := Lib.hid (And.intro hl hv)
  clear hl hv
  go_enter Tryz.func60, Tryz.ntmps60
  go_wp2_with fail
  refine (rvalid_is s false _ (by have := H.out.1; omega) H.out.2).mono ?_
  rintro x w' ⟨rfl, rfl⟩
  go_wp2
  refine bodyPost_ret (v := .tuple #[.agg #[.int .i64 0, .int .i64 0, .int .u64 0, .string ⟨([] : List UInt8).toArray⟩], .int .i64 7]) ?_ rfl ⟨rfl, below1 _ _⟩
  simp [results, Tryz.results60, go_sem]

set_option maxHeartbeats 1000000 in
theorem rfT_1_t (w : World) :
    Calls Tryz.prog 61 #[.string ⟨([116, 114, 117, 101] : List UInt8).toArray⟩, .int .i64 1] w fun x w' => x = .returned (.tuple #[.agg #[.int .i64 1, .int .i64 1, .int .u64 0, .string ⟨([] : List UInt8).toArray⟩], .int .i64 0]) ∧ Below w.heap.size w w' := by
  go_enter Tryz.func61, Tryz.ntmps61
  go_wp2
  refine bodyPost_ret (v := .tuple #[.agg #[.int .i64 1, .int .i64 1, .int .u64 0, .string ⟨([] : List UInt8).toArray⟩], .int .i64 0]) ?_ rfl ⟨rfl, below1 _ _⟩
  simp [results, Tryz.results61, go_sem]

set_option maxHeartbeats 1000000 in
theorem rfT_1_f (w : World) :
    Calls Tryz.prog 61 #[.string ⟨([102, 97, 108, 115, 101] : List UInt8).toArray⟩, .int .i64 1] w fun x w' => x = .returned (.tuple #[.agg #[.int .i64 1, .int .i64 0, .int .u64 0, .string ⟨([] : List UInt8).toArray⟩], .int .i64 0]) ∧ Below w.heap.size w w' := by
  go_enter Tryz.func61, Tryz.ntmps61
  go_wp2
  refine bodyPost_ret (v := .tuple #[.agg #[.int .i64 1, .int .i64 0, .int .u64 0, .string ⟨([] : List UInt8).toArray⟩], .int .i64 0]) ?_ rfl ⟨rfl, below1 _ _⟩
  simp [results, Tryz.results61, go_sem]

set_option maxHeartbeats 1000000 in
theorem rfT_1_x (s : List UInt8) (w : World) (n1 : s ≠ [102, 97, 108, 115, 101]) (n2 : s ≠ [116, 114, 117, 101]) :
    Calls Tryz.prog 61 #[.string ⟨s.toArray⟩, .int .i64 1] w fun x w' => x = .returned (.tuple #[.agg #[.int .i64 0, .int .i64 0, .int .u64 0, .string ⟨([] : List UInt8).toArray⟩], .int .i64 7]) ∧ Below w.heap.size w w' := by
  have m1 : (s == [102, 97, 108, 115, 101]) = false := by rw [beq_eq_false_iff_ne]; exact n1
  have m2 : (s == [116, 114, 117, 101]) = false := by rw [beq_eq_false_iff_ne]; exact n2
  go_enter Tryz.func61, Tryz.ntmps61
  go_wp2
  refine bodyPost_ret (v := .tuple #[.agg #[.int .i64 0, .int .i64 0, .int .u64 0, .string ⟨([] : List UInt8).toArray⟩], .int .i64 7]) ?_ rfl ⟨rfl, below1 _ _⟩
  simp [results, Tryz.results61, go_sem]

set_option maxHeartbeats 1000000 in
theorem rfT_2_t (s : List UInt8) (v : Int) (w : World) (h : Cv.num s = some v) :
    Calls Tryz.prog 61 #[.string ⟨s.toArray⟩, .int .i64 2] w fun x w' => x = .returned (.tuple #[.agg #[.int .i64 2, .int .i64 v, .int .u64 0, .string ⟨([] : List UInt8).toArray⟩], .int .i64 0]) ∧ Below w.heap.size w w' := by
  have H := Lib.hid h
  clear h
  go_enter Tryz.func61, Tryz.ntmps61
  go_wp2_with fail
  refine (rnumber_is s v 0 _ (nv_some H.out) (ne_some H.out)).mono ?_
  rintro x w1 ⟨rfl, hb⟩
  have k1 := (Blk.new w #[.int .i64 0, .int .i64 0, .int .u64 0, .string ⟨([] : List UInt8).toArray⟩] 28).below hb
  have g0 := k1.cell 0
  have g1 := k1.cell 1
  have g2 := k1.cell 2
  have g3 := k1.cell 3
  have t0 := k1.frozen 0
  have t1 := k1.frozen 1
  have t2 := k1.frozen 2
  have t3 := k1.frozen 3
  simp at g0 g1 g2 g3
  have BF := Lib.hid (old_1 hb)
  clear hb k1
  go_wp2
  refine bodyPost_ret (v := .tuple #[.agg #[.int .i64 2, .int .i64 v, .int .u64 0, .string ⟨([] : List UInt8).toArray⟩], .int .i64 0]) ?_ rfl ⟨rfl, put4 BF.out (Nat.le_refl _) _ _ _ _⟩
  simp [results, Tryz.results61, go_sem, g0, g1, g2, g3]

set_option maxHeartbeats 1000000 in
theorem rfT_2_f (s : List UInt8) (w : World) (h : Cv.num s = none) :
    Calls Tryz.prog 61 #[.string ⟨s.toArray⟩, .int .i64 2] w fun x w' => x = .returned (.tuple #[.agg #[.int .i64 0, .int .i64 0, .int .u64 0, .string ⟨([] : List UInt8).toArray⟩], .int .i64 7]) ∧ Below w.heap.size w w' := by
  have H := Lib.hid h
  clear h
  go_enter Tryz.func61, Tryz.ntmps61
  go_wp2_with fail
  refine (rnumber_is s 0 7 _ (nv_none H.out) (ne_none H.out)).mono ?_
  rintro x w1 ⟨rfl, hb⟩
  have k1 := (Blk.new w #[.int .i64 0, .int .i64 0, .int .u64 0, .string ⟨([] : List UInt8).toArray⟩] 28).below hb
  have g0 := k1.cell 0
  have g1 := k1.cell 1
  have g2 := k1.cell 2
  have g3 := k1.cell 3
  have t0 := k1.frozen 0
  have t1 := k1.frozen 1
  have t2 := k1.frozen 2
  have t3 := k1.frozen 3
  simp at g0 g1 g2 g3
  have BF := Lib.hid (old_1 hb)
  clear hb k1
  go_wp2
  refine bodyPost_ret (v := .tuple #[.agg #[.int .i64 0, .int .i64 0, .int .u64 0, .string ⟨([] : List UInt8).toArray⟩], .int .i64 7]) ?_ rfl ⟨rfl, put4 BF.out (Nat.le_refl _) _ _ _ _⟩
  simp [results, Tryz.results61, go_sem, g0, g1, g2, g3]

set_option maxHeartbeats 1000000 in
theorem rfT_4 (s : List UInt8) (w : World) :
    Calls Tryz.prog 61 #[.string ⟨s.toArray⟩, .int .i64 4] w fun x w' => x = .returned (.tuple #[.agg #[.int .i64 4, .int .i64 0, .int .u64 0, .string ⟨(s : List UInt8).toArray⟩], .int .i64 0]) ∧ Below w.heap.size w w' := by
  go_enter Tryz.func61, Tryz.ntmps61
  go_wp2
  refine bodyPost_ret (v := .tuple #[.agg #[.int .i64 4, .int .i64 0, .int .u64 0, .string ⟨(s : List UInt8).toArray⟩], .int .i64 0]) ?_ rfl ⟨rfl, below1 _ _⟩
  simp [results, Tryz.results61, go_sem]

theorem rfB_l (n kd : Int) (K N B e : Int) (S : List UInt8) (w : World) (hn : n = 0 ∨ n = 1) (hk : kd = 2 ∨ kd = 3 ∨ kd = 5) (hr : Cv.fB n kd = ⟨K, N, B, S, e⟩) :
    Calls Tryz.prog 57 #[.int .i64 n, .int .i64 kd] w fun x w' => x = .returned (.tuple #[.agg #[.int .i64 K, .int .i64 N, .int .u64 B, .string ⟨(S : List UInt8).toArray⟩], .int .i64 e]) ∧ Below w.heap.size w w' := by
  have hI : Cv.I n := by unfold Cv.I; omega
  have hf : Rl.fo n = true := by rcases hn with rfl | rfl <;> decide
  rcases hk with rfl | rfl | rfl
  · injection hr with a1 a2 a3 a4 a5; subst a1 a2 a3 a4 a5; exact rfB_2 n w
  · have e3 : Cv.fB n 3 = ⟨3, 0, Rl.fi n, [], 0⟩ := by
      show Cv.ofn n 3 = _
      unfold Cv.ofn; rw [if_neg (by decide), if_pos rfl, if_pos hf]
    rw [e3] at hr; injection hr with a1 a2 a3 a4 a5; subst a1 a2 a3 a4 a5; exact rfB_3 n _ w hI rfl hf
  · rcases hn with rfl | rfl
    · injection hr with a1 a2 a3 a4 a5; subst a1 a2 a3 a4 a5; exact rfB_5_0 w
    · injection hr with a1 a2 a3 a4 a5; subst a1 a2 a3 a4 a5; exact rfB_5_1 w

theorem rfI_l (n kd : Int) (K N B e : Int) (S : List UInt8) (w : World) (hI : Cv.I n) (hk : kd = 1 ∨ kd = 3 ∨ kd = 4 ∨ kd = 5) (hr : Cv.ofn n kd = ⟨K, N, B, S, e⟩) :
    Calls Tryz.prog 58 #[.int .i64 n, .int .i64 kd] w fun x w' => x = .returned (.tuple #[.agg #[.int .i64 K, .int .i64 N, .int .u64 B, .string ⟨(S : List UInt8).toArray⟩], .int .i64 e]) ∧ Below w.heap.size w w' := by
  rcases hk with rfl | rfl | rfl | rfl
  · exact rfI_1 n K N B e S w hr
  · cases f : Rl.fo n with
    | true =>
      rw [show Cv.ofn n 3 = ⟨3, 0, Rl.fi n, [], 0⟩ by unfold Cv.ofn; rw [if_neg (by decide), if_pos rfl, if_pos f]] at hr; injection hr with a1 a2 a3 a4 a5; subst a1 a2 a3 a4 a5; exact rfI_3_t n _ w hI rfl f
    | false =>
      rw [show Cv.ofn n 3 = Cv.er 6 by unfold Cv.ofn; rw [if_neg (by decide), if_pos rfl, if_neg (by rw [f]; simp)]] at hr; injection hr with a1 a2 a3 a4 a5; subst a1 a2 a3 a4 a5; exact rfI_3_f n w hI f
  · injection hr with a1 a2 a3 a4 a5; subst a1 a2 a3 a4 a5; exact rfI_4 n _ _ w rfl rfl
  · injection hr with a1 a2 a3 a4 a5; subst a1 a2 a3 a4 a5; exact rfI_5 n _ w hI rfl

theorem rfR_l (b kd : Int) (K N B e : Int) (S : List UInt8) (w : World) (hU : Rl.U b) (hk : kd = 1 ∨ kd = 2 ∨ kd = 4) (hr : Cv.fR b kd = ⟨K, N, B, S, e⟩) :
    Calls Tryz.prog 59 #[.int .u64 b, .int .i64 kd] w fun x w' => x = .returned (.tuple #[.agg #[.int .i64 K, .int .i64 N, .int .u64 B, .string ⟨(S : List UInt8).toArray⟩], .int .i64 e]) ∧ Below w.heap.size w w' := by
  rcases hk with rfl | rfl | rfl
  · cases o : Rl.to b with
    | true => rw [show Cv.fR b 1 = Cv.ofn (Rl.ti b) 1 by unfold Cv.fR; rw [if_pos (by decide), if_pos o]] at hr; exact rfR_1_t b _ K N B e S w hU rfl o hr
    | false => rw [show Cv.fR b 1 = Cv.er 6 by unfold Cv.fR; rw [if_pos (by decide), if_neg (by rw [o]; simp)]] at hr; injection hr with a1 a2 a3 a4 a5; subst a1 a2 a3 a4 a5; exact rfR_1_f b w hU o
  · cases o : Rl.to b with
    | true => rw [show Cv.fR b 2 = ⟨2, Rl.ti b, 0, [], 0⟩ by unfold Cv.fR; rw [if_pos (by decide), if_pos o]; rfl] at hr; injection hr with a1 a2 a3 a4 a5; subst a1 a2 a3 a4 a5; exact rfR_2_t b _ w hU rfl o
    | false => rw [show Cv.fR b 2 = Cv.er 6 by unfold Cv.fR; rw [if_pos (by decide), if_neg (by rw [o]; simp)]] at hr; injection hr with a1 a2 a3 a4 a5; subst a1 a2 a3 a4 a5; exact rfR_2_f b w hU o
  · injection hr with a1 a2 a3 a4 a5; subst a1 a2 a3 a4 a5; exact rfR_4 b b.toNat _ w (by unfold Rl.U at hU; omega) rfl

theorem rfY_l (s : List UInt8) (kd : Int) (K N B e : Int) (S : List UInt8) (w : World) (hl : s.length ≤ 64) (hk : kd = 2 ∨ kd = 3 ∨ kd = 5) (hr : Cv.fY s kd = ⟨K, N, B, S, e⟩) :
    Calls Tryz.prog 60 #[.string ⟨s.toArray⟩, .int .i64 kd] w fun x w' => x = .returned (.tuple #[.agg #[.int .i64 K, .int .i64 N, .int .u64 B, .string ⟨(S : List UInt8).toArray⟩], .int .i64 e]) ∧ Below w.heap.size w w' := by
  rcases hk with rfl | rfl | rfl
  · by_cases h8 : s.length = 8
    · rw [show Cv.fY s 2 = ⟨2, Cv.i64 (Kc.nm s), 0, [], 0⟩ by unfold Cv.fY; rw [if_pos rfl, if_pos h8]] at hr; injection hr with a1 a2 a3 a4 a5; subst a1 a2 a3 a4 a5; exact rfY_2_t s _ _ w h8 rfl rfl
    · rw [show Cv.fY s 2 = Cv.er 6 by unfold Cv.fY; rw [if_pos rfl, if_neg h8]] at hr; injection hr with a1 a2 a3 a4 a5; subst a1 a2 a3 a4 a5; exact rfY_2_f s w h8
  · by_cases h8 : s.length = 8
    · have hU : Rl.U (Kc.nm s : Int) := by
        have h1 := Kc.nm_lt s
        rw [h8] at h1
        have h2 : (256 : Nat) ^ 8 = 18446744073709551616 := by decide
        unfold Rl.U; omega
      rw [show Cv.fY s 3 = ⟨3, 0, Rl.cn (Kc.nm s), [], 0⟩ by unfold Cv.fY; rw [if_neg (by decide), if_pos rfl, if_pos h8]] at hr; injection hr with a1 a2 a3 a4 a5; subst a1 a2 a3 a4 a5; exact rfY_3_t s _ _ w h8 rfl hU rfl
    · rw [show Cv.fY s 3 = Cv.er 6 by unfold Cv.fY; rw [if_neg (by decide), if_pos rfl, if_neg h8]] at hr; injection hr with a1 a2 a3 a4 a5; subst a1 a2 a3 a4 a5; exact rfY_3_f s w h8
  · cases v : Vl.vd s with
    | true => rw [show Cv.fY s 5 = ⟨5, 0, 0, s, 0⟩ by unfold Cv.fY; rw [if_neg (by decide), if_neg (by decide), if_pos rfl, if_pos v]] at hr; injection hr with a1 a2 a3 a4 a5; subst a1 a2 a3 a4 a5; exact rfY_5_t _ w (by omega) v
    | false => rw [show Cv.fY s 5 = Cv.er 7 by unfold Cv.fY; rw [if_neg (by decide), if_neg (by decide), if_pos rfl, if_neg (by rw [v]; simp)]] at hr; injection hr with a1 a2 a3 a4 a5; subst a1 a2 a3 a4 a5; exact rfY_5_f s w (by omega) v

theorem rfT_l (s : List UInt8) (kd : Int) (K N B e : Int) (S : List UInt8) (w : World) (hk : kd = 1 ∨ kd = 2 ∨ kd = 4) (hr : Cv.fT s kd = ⟨K, N, B, S, e⟩) :
    Calls Tryz.prog 61 #[.string ⟨s.toArray⟩, .int .i64 kd] w fun x w' => x = .returned (.tuple #[.agg #[.int .i64 K, .int .i64 N, .int .u64 B, .string ⟨(S : List UInt8).toArray⟩], .int .i64 e]) ∧ Below w.heap.size w w' := by
  rcases hk with rfl | rfl | rfl
  · by_cases s1 : s = [102, 97, 108, 115, 101]
    · subst s1; injection hr with a1 a2 a3 a4 a5; subst a1 a2 a3 a4 a5; exact rfT_1_f w
    by_cases s2 : s = [116, 114, 117, 101]
    · subst s2; injection hr with a1 a2 a3 a4 a5; subst a1 a2 a3 a4 a5; exact rfT_1_t w
    · rw [show Cv.fT s 1 = Cv.er 7 by unfold Cv.fT; rw [if_pos rfl, if_neg s1, if_neg s2]] at hr; injection hr with a1 a2 a3 a4 a5; subst a1 a2 a3 a4 a5; exact rfT_1_x s w s1 s2
  · cases m : Cv.num s with
    | some v => rw [show Cv.fT s 2 = ⟨2, v, 0, [], 0⟩ by unfold Cv.fT; rw [if_neg (by decide), if_pos rfl, m]] at hr; injection hr with a1 a2 a3 a4 a5; subst a1 a2 a3 a4 a5; exact rfT_2_t s _ w m
    | none => rw [show Cv.fT s 2 = Cv.er 7 by unfold Cv.fT; rw [if_neg (by decide), if_pos rfl, m]] at hr; injection hr with a1 a2 a3 a4 a5; subst a1 a2 a3 a4 a5; exact rfT_2_f s w m
  · injection hr with a1 a2 a3 a4 a5; subst a1 a2 a3 a4 a5; exact rfT_4 _ w

set_option maxHeartbeats 400000 in
theorem rcan_lo1 (a b : Int) (w : World) (h : a < 1) :
    Calls Tryz.prog 56 #[.int .i64 a, .int .i64 b] w fun e w' => e = .returned (.bool false) ∧ w = w' := by
  have d1 : decide (a < 1) = true := by rw [decide_eq_true_eq]; exact h
  clear h
  go_enter Tryz.func56, Tryz.ntmps56
  go_wp2
  go_ret
  exact ⟨rfl, rfl⟩

set_option maxHeartbeats 400000 in
theorem rcan_hi1 (a b : Int) (w : World) (h : 5 < a) :
    Calls Tryz.prog 56 #[.int .i64 a, .int .i64 b] w fun e w' => e = .returned (.bool false) ∧ w = w' := by
  have d1 : decide (a < 1) = false := by rw [decide_eq_false_iff_not]; omega
  have d2 : decide (5 < a) = true := by rw [decide_eq_true_eq]; exact h
  clear h
  go_enter Tryz.func56, Tryz.ntmps56
  go_wp2
  go_ret
  exact ⟨rfl, rfl⟩

set_option maxHeartbeats 400000 in
theorem rcan_lo2 (a b : Int) (w : World) (h0 : 1 ≤ a) (h1 : a ≤ 5) (h : b < 1) :
    Calls Tryz.prog 56 #[.int .i64 a, .int .i64 b] w fun e w' => e = .returned (.bool false) ∧ w = w' := by
  have d1 : decide (a < 1) = false := by rw [decide_eq_false_iff_not]; omega
  have d2 : decide (5 < a) = false := by rw [decide_eq_false_iff_not]; omega
  have d3 : decide (b < 1) = true := by rw [decide_eq_true_eq]; exact h
  clear h0 h1
  clear h
  go_enter Tryz.func56, Tryz.ntmps56
  go_wp2
  go_ret
  exact ⟨rfl, rfl⟩

set_option maxHeartbeats 400000 in
theorem rcan_hi2 (a b : Int) (w : World) (h0 : 1 ≤ a) (h1 : a ≤ 5) (h : 5 < b) :
    Calls Tryz.prog 56 #[.int .i64 a, .int .i64 b] w fun e w' => e = .returned (.bool false) ∧ w = w' := by
  have d1 : decide (a < 1) = false := by rw [decide_eq_false_iff_not]; omega
  have d2 : decide (5 < a) = false := by rw [decide_eq_false_iff_not]; omega
  have d3 : decide (b < 1) = false := by rw [decide_eq_false_iff_not]; omega
  have d4 : decide (5 < b) = true := by rw [decide_eq_true_eq]; exact h
  clear h0 h1
  clear h
  go_enter Tryz.func56, Tryz.ntmps56
  go_wp2
  go_ret
  exact ⟨rfl, rfl⟩

theorem rcan_1_1 (w : World) :
    Calls Tryz.prog 56 #[.int .i64 1, .int .i64 1] w fun e w' => e = .returned (.bool true) ∧ w = w' := by
  go_enter Tryz.func56, Tryz.ntmps56
  go_wp2
  go_ret
  exact ⟨rfl, rfl⟩

theorem rcan_1_2 (w : World) :
    Calls Tryz.prog 56 #[.int .i64 1, .int .i64 2] w fun e w' => e = .returned (.bool true) ∧ w = w' := by
  go_enter Tryz.func56, Tryz.ntmps56
  go_wp2
  go_ret
  exact ⟨rfl, rfl⟩

theorem rcan_1_3 (w : World) :
    Calls Tryz.prog 56 #[.int .i64 1, .int .i64 3] w fun e w' => e = .returned (.bool true) ∧ w = w' := by
  go_enter Tryz.func56, Tryz.ntmps56
  go_wp2
  go_ret
  exact ⟨rfl, rfl⟩

theorem rcan_1_4 (w : World) :
    Calls Tryz.prog 56 #[.int .i64 1, .int .i64 4] w fun e w' => e = .returned (.bool false) ∧ w = w' := by
  go_enter Tryz.func56, Tryz.ntmps56
  go_wp2
  go_ret
  exact ⟨rfl, rfl⟩

theorem rcan_1_5 (w : World) :
    Calls Tryz.prog 56 #[.int .i64 1, .int .i64 5] w fun e w' => e = .returned (.bool true) ∧ w = w' := by
  go_enter Tryz.func56, Tryz.ntmps56
  go_wp2
  go_ret
  exact ⟨rfl, rfl⟩

theorem rcan_2_1 (w : World) :
    Calls Tryz.prog 56 #[.int .i64 2, .int .i64 1] w fun e w' => e = .returned (.bool true) ∧ w = w' := by
  go_enter Tryz.func56, Tryz.ntmps56
  go_wp2
  go_ret
  exact ⟨rfl, rfl⟩

theorem rcan_2_2 (w : World) :
    Calls Tryz.prog 56 #[.int .i64 2, .int .i64 2] w fun e w' => e = .returned (.bool true) ∧ w = w' := by
  go_enter Tryz.func56, Tryz.ntmps56
  go_wp2
  go_ret
  exact ⟨rfl, rfl⟩

theorem rcan_2_3 (w : World) :
    Calls Tryz.prog 56 #[.int .i64 2, .int .i64 3] w fun e w' => e = .returned (.bool true) ∧ w = w' := by
  go_enter Tryz.func56, Tryz.ntmps56
  go_wp2
  go_ret
  exact ⟨rfl, rfl⟩

theorem rcan_2_4 (w : World) :
    Calls Tryz.prog 56 #[.int .i64 2, .int .i64 4] w fun e w' => e = .returned (.bool true) ∧ w = w' := by
  go_enter Tryz.func56, Tryz.ntmps56
  go_wp2
  go_ret
  exact ⟨rfl, rfl⟩

theorem rcan_2_5 (w : World) :
    Calls Tryz.prog 56 #[.int .i64 2, .int .i64 5] w fun e w' => e = .returned (.bool true) ∧ w = w' := by
  go_enter Tryz.func56, Tryz.ntmps56
  go_wp2
  go_ret
  exact ⟨rfl, rfl⟩

theorem rcan_3_1 (w : World) :
    Calls Tryz.prog 56 #[.int .i64 3, .int .i64 1] w fun e w' => e = .returned (.bool true) ∧ w = w' := by
  go_enter Tryz.func56, Tryz.ntmps56
  go_wp2
  go_ret
  exact ⟨rfl, rfl⟩

theorem rcan_3_2 (w : World) :
    Calls Tryz.prog 56 #[.int .i64 3, .int .i64 2] w fun e w' => e = .returned (.bool true) ∧ w = w' := by
  go_enter Tryz.func56, Tryz.ntmps56
  go_wp2
  go_ret
  exact ⟨rfl, rfl⟩

theorem rcan_3_3 (w : World) :
    Calls Tryz.prog 56 #[.int .i64 3, .int .i64 3] w fun e w' => e = .returned (.bool true) ∧ w = w' := by
  go_enter Tryz.func56, Tryz.ntmps56
  go_wp2
  go_ret
  exact ⟨rfl, rfl⟩

theorem rcan_3_4 (w : World) :
    Calls Tryz.prog 56 #[.int .i64 3, .int .i64 4] w fun e w' => e = .returned (.bool true) ∧ w = w' := by
  go_enter Tryz.func56, Tryz.ntmps56
  go_wp2
  go_ret
  exact ⟨rfl, rfl⟩

theorem rcan_3_5 (w : World) :
    Calls Tryz.prog 56 #[.int .i64 3, .int .i64 5] w fun e w' => e = .returned (.bool false) ∧ w = w' := by
  go_enter Tryz.func56, Tryz.ntmps56
  go_wp2
  go_ret
  exact ⟨rfl, rfl⟩

theorem rcan_4_1 (w : World) :
    Calls Tryz.prog 56 #[.int .i64 4, .int .i64 1] w fun e w' => e = .returned (.bool false) ∧ w = w' := by
  go_enter Tryz.func56, Tryz.ntmps56
  go_wp2
  go_ret
  exact ⟨rfl, rfl⟩

theorem rcan_4_2 (w : World) :
    Calls Tryz.prog 56 #[.int .i64 4, .int .i64 2] w fun e w' => e = .returned (.bool true) ∧ w = w' := by
  go_enter Tryz.func56, Tryz.ntmps56
  go_wp2
  go_ret
  exact ⟨rfl, rfl⟩

theorem rcan_4_3 (w : World) :
    Calls Tryz.prog 56 #[.int .i64 4, .int .i64 3] w fun e w' => e = .returned (.bool true) ∧ w = w' := by
  go_enter Tryz.func56, Tryz.ntmps56
  go_wp2
  go_ret
  exact ⟨rfl, rfl⟩

theorem rcan_4_4 (w : World) :
    Calls Tryz.prog 56 #[.int .i64 4, .int .i64 4] w fun e w' => e = .returned (.bool true) ∧ w = w' := by
  go_enter Tryz.func56, Tryz.ntmps56
  go_wp2
  go_ret
  exact ⟨rfl, rfl⟩

theorem rcan_4_5 (w : World) :
    Calls Tryz.prog 56 #[.int .i64 4, .int .i64 5] w fun e w' => e = .returned (.bool true) ∧ w = w' := by
  go_enter Tryz.func56, Tryz.ntmps56
  go_wp2
  go_ret
  exact ⟨rfl, rfl⟩

theorem rcan_5_1 (w : World) :
    Calls Tryz.prog 56 #[.int .i64 5, .int .i64 1] w fun e w' => e = .returned (.bool true) ∧ w = w' := by
  go_enter Tryz.func56, Tryz.ntmps56
  go_wp2
  go_ret
  exact ⟨rfl, rfl⟩

theorem rcan_5_2 (w : World) :
    Calls Tryz.prog 56 #[.int .i64 5, .int .i64 2] w fun e w' => e = .returned (.bool true) ∧ w = w' := by
  go_enter Tryz.func56, Tryz.ntmps56
  go_wp2
  go_ret
  exact ⟨rfl, rfl⟩

theorem rcan_5_3 (w : World) :
    Calls Tryz.prog 56 #[.int .i64 5, .int .i64 3] w fun e w' => e = .returned (.bool false) ∧ w = w' := by
  go_enter Tryz.func56, Tryz.ntmps56
  go_wp2
  go_ret
  exact ⟨rfl, rfl⟩

theorem rcan_5_4 (w : World) :
    Calls Tryz.prog 56 #[.int .i64 5, .int .i64 4] w fun e w' => e = .returned (.bool true) ∧ w = w' := by
  go_enter Tryz.func56, Tryz.ntmps56
  go_wp2
  go_ret
  exact ⟨rfl, rfl⟩

theorem rcan_5_5 (w : World) :
    Calls Tryz.prog 56 #[.int .i64 5, .int .i64 5] w fun e w' => e = .returned (.bool true) ∧ w = w' := by
  go_enter Tryz.func56, Tryz.ntmps56
  go_wp2
  go_ret
  exact ⟨rfl, rfl⟩

/-- What the document's Can answers, in all. -/
theorem rcan_any (a b : Int) (w : World) :
    Calls Tryz.prog 56 #[.int .i64 a, .int .i64 b] w fun e w' => e = .returned (.bool (Cv.can a b)) ∧ w = w' := by
  by_cases a1 : a < 1
  · rw [show Cv.can a b = false by unfold Cv.can; rw [decide_eq_false_iff_not]; omega]; exact rcan_lo1 a b w a1
  by_cases a2 : 5 < a
  · rw [show Cv.can a b = false by unfold Cv.can; rw [decide_eq_false_iff_not]; omega]; exact rcan_hi1 a b w a2
  by_cases b1 : b < 1
  · rw [show Cv.can a b = false by unfold Cv.can; rw [decide_eq_false_iff_not]; omega]; exact rcan_lo2 a b w (by omega) (by omega) b1
  by_cases b2 : 5 < b
  · rw [show Cv.can a b = false by unfold Cv.can; rw [decide_eq_false_iff_not]; omega]; exact rcan_hi2 a b w (by omega) (by omega) b2
  have ca : a = 1 ∨ a = 2 ∨ a = 3 ∨ a = 4 ∨ a = 5 := by omega
  have cb : b = 1 ∨ b = 2 ∨ b = 3 ∨ b = 4 ∨ b = 5 := by omega
  rcases ca with rfl | rfl | rfl | rfl | rfl <;> rcases cb with rfl | rfl | rfl | rfl | rfl
  · exact rcan_1_1 w
  · exact rcan_1_2 w
  · exact rcan_1_3 w
  · exact rcan_1_4 w
  · exact rcan_1_5 w
  · exact rcan_2_1 w
  · exact rcan_2_2 w
  · exact rcan_2_3 w
  · exact rcan_2_4 w
  · exact rcan_2_5 w
  · exact rcan_3_1 w
  · exact rcan_3_2 w
  · exact rcan_3_3 w
  · exact rcan_3_4 w
  · exact rcan_3_5 w
  · exact rcan_4_1 w
  · exact rcan_4_2 w
  · exact rcan_4_3 w
  · exact rcan_4_4 w
  · exact rcan_4_5 w
  · exact rcan_5_1 w
  · exact rcan_5_2 w
  · exact rcan_5_3 w
  · exact rcan_5_4 w
  · exact rcan_5_5 w

theorem rcan_is (a b : Int) (r : Bool) (w : World) (h : Cv.can a b = r) :
    Calls Tryz.prog 56 #[.int .i64 a, .int .i64 b] w fun e w' => e = .returned (.bool r) ∧ w = w' := h ▸ rcan_any a b w
set_option maxHeartbeats 1000000 in
theorem rto_bad (k n b c : Int) (s : List UInt8) (kd : Int) (w : World) (hB : Rl.U b) (hC : Vl.ck k n b s = c) (hc : c ≠ 0) :
    Calls Tryz.prog 35 #[.agg #[.int .i64 k, .int .i64 n, .int .u64 b, .string ⟨(s : List UInt8).toArray⟩], .int .i64 kd] w fun x w' => x = .returned (.tuple #[.agg #[.int .i64 0, .int .i64 0, .int .u64 0, .string ⟨([] : List UInt8).toArray⟩], .int .i64 c]) ∧ Below w.heap.size w w' := by
  have H := Lib.hid (And.intro hB hC)
  have e1 := bne_t hc
  have e2 := beq_f hc
  clear hB hC
  go_enter Tryz.func35, Tryz.ntmps35
  go_wp2_with fail
  refine (rcheck_is k n b c s _ H.out.1 H.out.2).mono ?_
  rintro x w1 ⟨rfl, hb⟩
  obtain ⟨q0, q1, qB⟩ := two_boxes hb
  have B1 := Lib.hid qB
  clear hb qB
  have g0 := q1.cell 0
  have g1 := q1.cell 1
  have g2 := q1.cell 2
  have g3 := q1.cell 3
  have t0 := q1.frozen 0
  have t1 := q1.frozen 1
  have t2 := q1.frozen 2
  have t3 := q1.frozen 3
  simp at g0 g1 g2 g3
  have v0 := q0.cell 0
  have v1 := q0.cell 1
  have v2 := q0.cell 2
  have v3 := q0.cell 3
  simp at v0 v1 v2 v3
  have BF := Lib.hid B1.out
  clear q0 q1
  go_wp2
  refine bodyPost_ret (v := .tuple #[.agg #[.int .i64 0, .int .i64 0, .int .u64 0, .string ⟨([] : List UInt8).toArray⟩], .int .i64 c]) ?_ rfl ⟨rfl, put4 BF.out (Nat.le_succ _) _ _ _ _⟩
  simp [results, Tryz.results35, go_sem, g0, g1, g2, g3]

set_option maxHeartbeats 1000000 in
theorem rto_lo (k n b : Int) (s : List UInt8) (kd : Int) (w : World) (hB : Rl.U b) (hC : Vl.ck k n b s = 0) (h : kd < 1) :
    Calls Tryz.prog 35 #[.agg #[.int .i64 k, .int .i64 n, .int .u64 b, .string ⟨(s : List UInt8).toArray⟩], .int .i64 kd] w fun x w' => x = .returned (.tuple #[.agg #[.int .i64 0, .int .i64 0, .int .u64 0, .string ⟨([] : List UInt8).toArray⟩], .int .i64 5]) ∧ Below w.heap.size w w' := by
  have H := Lib.hid (And.intro hB hC)
  have d1 : decide (kd < 1) = true := by rw [decide_eq_true_eq]; exact h
  clear h
  clear hB hC
  go_enter Tryz.func35, Tryz.ntmps35
  go_wp2_with fail
  refine (rcheck_is k n b 0 s _ H.out.1 H.out.2).mono ?_
  rintro x w1 ⟨rfl, hb⟩
  obtain ⟨q0, q1, qB⟩ := two_boxes hb
  have B1 := Lib.hid qB
  clear hb qB
  have g0 := q1.cell 0
  have g1 := q1.cell 1
  have g2 := q1.cell 2
  have g3 := q1.cell 3
  have t0 := q1.frozen 0
  have t1 := q1.frozen 1
  have t2 := q1.frozen 2
  have t3 := q1.frozen 3
  simp at g0 g1 g2 g3
  have v0 := q0.cell 0
  have v1 := q0.cell 1
  have v2 := q0.cell 2
  have v3 := q0.cell 3
  simp at v0 v1 v2 v3
  have BF := Lib.hid B1.out
  clear q0 q1
  go_wp2
  refine bodyPost_ret (v := .tuple #[.agg #[.int .i64 0, .int .i64 0, .int .u64 0, .string ⟨([] : List UInt8).toArray⟩], .int .i64 5]) ?_ rfl ⟨rfl, put4 BF.out (Nat.le_succ _) _ _ _ _⟩
  simp [results, Tryz.results35, go_sem, g0, g1, g2, g3]

set_option maxHeartbeats 1000000 in
theorem rto_hi (k n b : Int) (s : List UInt8) (kd : Int) (w : World) (hB : Rl.U b) (hC : Vl.ck k n b s = 0) (h : 5 < kd) :
    Calls Tryz.prog 35 #[.agg #[.int .i64 k, .int .i64 n, .int .u64 b, .string ⟨(s : List UInt8).toArray⟩], .int .i64 kd] w fun x w' => x = .returned (.tuple #[.agg #[.int .i64 0, .int .i64 0, .int .u64 0, .string ⟨([] : List UInt8).toArray⟩], .int .i64 5]) ∧ Below w.heap.size w w' := by
  have H := Lib.hid (And.intro hB hC)
  have d1 : decide (kd < 1) = false := by rw [decide_eq_false_iff_not]; omega
  have d2 : decide (5 < kd) = true := by rw [decide_eq_true_eq]; exact h
  clear h
  clear hB hC
  go_enter Tryz.func35, Tryz.ntmps35
  go_wp2_with fail
  refine (rcheck_is k n b 0 s _ H.out.1 H.out.2).mono ?_
  rintro x w1 ⟨rfl, hb⟩
  obtain ⟨q0, q1, qB⟩ := two_boxes hb
  have B1 := Lib.hid qB
  clear hb qB
  have g0 := q1.cell 0
  have g1 := q1.cell 1
  have g2 := q1.cell 2
  have g3 := q1.cell 3
  have t0 := q1.frozen 0
  have t1 := q1.frozen 1
  have t2 := q1.frozen 2
  have t3 := q1.frozen 3
  simp at g0 g1 g2 g3
  have v0 := q0.cell 0
  have v1 := q0.cell 1
  have v2 := q0.cell 2
  have v3 := q0.cell 3
  simp at v0 v1 v2 v3
  have BF := Lib.hid B1.out
  clear q0 q1
  go_wp2
  refine bodyPost_ret (v := .tuple #[.agg #[.int .i64 0, .int .i64 0, .int .u64 0, .string ⟨([] : List UInt8).toArray⟩], .int .i64 5]) ?_ rfl ⟨rfl, put4 BF.out (Nat.le_succ _) _ _ _ _⟩
  simp [results, Tryz.results35, go_sem, g0, g1, g2, g3]

set_option maxHeartbeats 1000000 in
theorem rto_null (n b : Int) (s : List UInt8) (kd : Int) (w : World) (hB : Rl.U b) (hC : Vl.ck 0 n b s = 0) (h0 : 1 ≤ kd) (h1 : kd ≤ 5) :
    Calls Tryz.prog 35 #[.agg #[.int .i64 0, .int .i64 n, .int .u64 b, .string ⟨(s : List UInt8).toArray⟩], .int .i64 kd] w fun x w' => x = .returned (.tuple #[.agg #[.int .i64 0, .int .i64 n, .int .u64 b, .string ⟨(s : List UInt8).toArray⟩], .int .i64 0]) ∧ Below w.heap.size w w' := by
  have H := Lib.hid (And.intro hB hC)
  have d1 : decide (kd < 1) = false := by rw [decide_eq_false_iff_not]; omega
  have d2 : decide (5 < kd) = false := by rw [decide_eq_false_iff_not]; omega
  clear h0 h1
  clear hB hC
  go_enter Tryz.func35, Tryz.ntmps35
  go_wp2_with fail
  refine (rcheck_is 0 n b 0 s _ H.out.1 H.out.2).mono ?_
  rintro x w1 ⟨rfl, hb⟩
  obtain ⟨q0, q1, qB⟩ := two_boxes hb
  have B1 := Lib.hid qB
  clear hb qB
  have g0 := q1.cell 0
  have g1 := q1.cell 1
  have g2 := q1.cell 2
  have g3 := q1.cell 3
  have t0 := q1.frozen 0
  have t1 := q1.frozen 1
  have t2 := q1.frozen 2
  have t3 := q1.frozen 3
  simp at g0 g1 g2 g3
  have v0 := q0.cell 0
  have v1 := q0.cell 1
  have v2 := q0.cell 2
  have v3 := q0.cell 3
  simp at v0 v1 v2 v3
  have BF := Lib.hid B1.out
  clear q0 q1
  go_wp2
  refine bodyPost_ret (v := .tuple #[.agg #[.int .i64 0, .int .i64 n, .int .u64 b, .string ⟨(s : List UInt8).toArray⟩], .int .i64 0]) ?_ rfl ⟨rfl, put4 BF.out (Nat.le_succ _) _ _ _ _⟩
  simp [results, Tryz.results35, go_sem, g0, g1, g2, g3]

set_option maxHeartbeats 1000000 in
theorem rto_same (n b : Int) (s : List UInt8) (kd : Int) (w : World) (hB : Rl.U b) (hC : Vl.ck kd n b s = 0) (h0 : 1 ≤ kd) (h1 : kd ≤ 5) :
    Calls Tryz.prog 35 #[.agg #[.int .i64 kd, .int .i64 n, .int .u64 b, .string ⟨(s : List UInt8).toArray⟩], .int .i64 kd] w fun x w' => x = .returned (.tuple #[.agg #[.int .i64 kd, .int .i64 n, .int .u64 b, .string ⟨(s : List UInt8).toArray⟩], .int .i64 0]) ∧ Below w.heap.size w w' := by
  have H := Lib.hid (And.intro hB hC)
  have d1 : decide (kd < 1) = false := by rw [decide_eq_false_iff_not]; omega
  have d2 : decide (5 < kd) = false := by rw [decide_eq_false_iff_not]; omega
  have k0 := beq_f (show kd ≠ 0 by omega)
  clear h0 h1
  clear hB hC
  go_enter Tryz.func35, Tryz.ntmps35
  go_wp2_with fail
  refine (rcheck_is kd n b 0 s _ H.out.1 H.out.2).mono ?_
  rintro x w1 ⟨rfl, hb⟩
  obtain ⟨q0, q1, qB⟩ := two_boxes hb
  have B1 := Lib.hid qB
  clear hb qB
  have g0 := q1.cell 0
  have g1 := q1.cell 1
  have g2 := q1.cell 2
  have g3 := q1.cell 3
  have t0 := q1.frozen 0
  have t1 := q1.frozen 1
  have t2 := q1.frozen 2
  have t3 := q1.frozen 3
  simp at g0 g1 g2 g3
  have v0 := q0.cell 0
  have v1 := q0.cell 1
  have v2 := q0.cell 2
  have v3 := q0.cell 3
  simp at v0 v1 v2 v3
  have BF := Lib.hid B1.out
  clear q0 q1
  go_wp2
  refine bodyPost_ret (v := .tuple #[.agg #[.int .i64 kd, .int .i64 n, .int .u64 b, .string ⟨(s : List UInt8).toArray⟩], .int .i64 0]) ?_ rfl ⟨rfl, put4 BF.out (Nat.le_succ _) _ _ _ _⟩
  simp [results, Tryz.results35, go_sem, g0, g1, g2, g3]

set_option maxHeartbeats 1000000 in
theorem rto_no (k n b : Int) (s : List UInt8) (kd : Int) (w : World) (hB : Rl.U b) (hC : Vl.ck k n b s = 0) (h0 : 1 ≤ kd) (h1 : kd ≤ 5) (hz : k ≠ 0) (hd : k ≠ kd) (hX : Cv.can k kd = false) :
    Calls Tryz.prog 35 #[.agg #[.int .i64 k, .int .i64 n, .int .u64 b, .string ⟨(s : List UInt8).toArray⟩], .int .i64 kd] w fun x w' => x = .returned (.tuple #[.agg #[.int .i64 0, .int .i64 0, .int .u64 0, .string ⟨([] : List UInt8).toArray⟩], .int .i64 5]) ∧ Below w.heap.size w w' := by
  have H := Lib.hid (And.intro hB hC)
  have d1 : decide (kd < 1) = false := by rw [decide_eq_false_iff_not]; omega
  have d2 : decide (5 < kd) = false := by rw [decide_eq_false_iff_not]; omega
  have k0 := beq_f hz
  have k1 := beq_f hd
  have X := Lib.hid hX
  clear h0 h1 hz hd hX
  clear hB hC
  go_enter Tryz.func35, Tryz.ntmps35
  go_wp2_with fail
  refine (rcheck_is k n b 0 s _ H.out.1 H.out.2).mono ?_
  rintro x w1 ⟨rfl, hb⟩
  obtain ⟨q0, q1, qB⟩ := two_boxes hb
  have B1 := Lib.hid qB
  clear hb qB
  have v0 := q0.cell 0
  have v1 := q0.cell 1
  have v2 := q0.cell 2
  have v3 := q0.cell 3
  simp at v0 v1 v2 v3
  go_wp2_with fail
  refine (rcan_is k kd false _ X.out).mono ?_
  rintro x w' ⟨rfl, rfl⟩
  have g0 := q1.cell 0
  have g1 := q1.cell 1
  have g2 := q1.cell 2
  have g3 := q1.cell 3
  have t0 := q1.frozen 0
  have t1 := q1.frozen 1
  have t2 := q1.frozen 2
  have t3 := q1.frozen 3
  simp at g0 g1 g2 g3
  have BF := Lib.hid B1.out
  clear q0 q1
  go_wp2
  refine bodyPost_ret (v := .tuple #[.agg #[.int .i64 0, .int .i64 0, .int .u64 0, .string ⟨([] : List UInt8).toArray⟩], .int .i64 5]) ?_ rfl ⟨rfl, put4 BF.out (Nat.le_succ _) _ _ _ _⟩
  simp [results, Tryz.results35, go_sem, g0, g1, g2, g3]

set_option maxHeartbeats 1000000 in
theorem rto_1 (n b : Int) (s S : List UInt8) (kd K N B e : Int) (w : World) (hB : Rl.U b) (hC : Vl.ck 1 n b s = 0) (h1 : n = 0 ∨ n = 1) (h2 : kd = 2 ∨ kd = 3 ∨ kd = 5) (hr : Cv.fB n kd = ⟨K, N, B, S, e⟩) :
    Calls Tryz.prog 35 #[.agg #[.int .i64 1, .int .i64 n, .int .u64 b, .string ⟨(s : List UInt8).toArray⟩], .int .i64 kd] w fun x w' => x = .returned (.tuple #[.agg #[.int .i64 K, .int .i64 N, .int .u64 B, .string ⟨(S : List UInt8).toArray⟩], .int .i64 e]) ∧ Below w.heap.size w w' := by
  have H := Lib.hid (And.intro hB hC)
  have Y := Lib.hid (And.intro h1 (And.intro h2 hr))
  have d1 : decide (kd < 1) = false := by rw [decide_eq_false_iff_not]; omega
  have d2 : decide (5 < kd) = false := by rw [decide_eq_false_iff_not]; omega
  have k1 := beq_f (show (1 : Int) ≠ kd by omega)
  have X := Lib.hid (show Cv.can 1 kd = true by unfold Cv.can; rw [decide_eq_true_eq]; omega)
  clear h1 h2 hr
  clear hB hC
  go_enter Tryz.func35, Tryz.ntmps35
  go_wp2_with fail
  refine (rcheck_is 1 n b 0 s _ H.out.1 H.out.2).mono ?_
  rintro x w1 ⟨rfl, hb⟩
  obtain ⟨q0, q1, qB⟩ := two_boxes hb
  have B1 := Lib.hid qB
  clear hb qB
  have Q1 := Lib.hid q1
  have v0 := q0.cell 0
  have v1 := q0.cell 1
  have v2 := q0.cell 2
  have v3 := q0.cell 3
  simp at v0 v1 v2 v3
  go_wp2_with fail
  refine (rcan_is 1 kd true _ X.out).mono ?_
  rintro x w' ⟨rfl, rfl⟩
  go_wp2_with fail
  refine (rfB_l n kd K N B e S _ Y.out.1 Y.out.2.1 Y.out.2.2).mono ?_
  rintro x w2 ⟨rfl, hb⟩
  clear q1
  have q1 := Q1.out.below hb
  have g0 := q1.cell 0
  have g1 := q1.cell 1
  have g2 := q1.cell 2
  have g3 := q1.cell 3
  have t0 := q1.frozen 0
  have t1 := q1.frozen 1
  have t2 := q1.frozen 2
  have t3 := q1.frozen 3
  simp at g0 g1 g2 g3
  have BF := Lib.hid (step0 B1.out hb)
  clear hb q0 q1
  go_wp2
  refine bodyPost_ret (v := .tuple #[.agg #[.int .i64 K, .int .i64 N, .int .u64 B, .string ⟨(S : List UInt8).toArray⟩], .int .i64 e]) ?_ rfl ⟨rfl, put4 BF.out (Nat.le_succ _) _ _ _ _⟩
  simp [results, Tryz.results35, go_sem, g0, g1, g2, g3]

set_option maxHeartbeats 1000000 in
theorem rto_2 (n b : Int) (s S : List UInt8) (kd K N B e : Int) (w : World) (hB : Rl.U b) (hC : Vl.ck 2 n b s = 0) (h1 : Cv.I n) (h2 : kd = 1 ∨ kd = 3 ∨ kd = 4 ∨ kd = 5) (hr : Cv.ofn n kd = ⟨K, N, B, S, e⟩) :
    Calls Tryz.prog 35 #[.agg #[.int .i64 2, .int .i64 n, .int .u64 b, .string ⟨(s : List UInt8).toArray⟩], .int .i64 kd] w fun x w' => x = .returned (.tuple #[.agg #[.int .i64 K, .int .i64 N, .int .u64 B, .string ⟨(S : List UInt8).toArray⟩], .int .i64 e]) ∧ Below w.heap.size w w' := by
  have H := Lib.hid (And.intro hB hC)
  have Y := Lib.hid (And.intro h1 (And.intro h2 hr))
  have d1 : decide (kd < 1) = false := by rw [decide_eq_false_iff_not]; omega
  have d2 : decide (5 < kd) = false := by rw [decide_eq_false_iff_not]; omega
  have k1 := beq_f (show (2 : Int) ≠ kd by omega)
  have X := Lib.hid (show Cv.can 2 kd = true by unfold Cv.can; rw [decide_eq_true_eq]; omega)
  clear h1 h2 hr
  clear hB hC
  go_enter Tryz.func35, Tryz.ntmps35
  go_wp2_with fail
  refine (rcheck_is 2 n b 0 s _ H.out.1 H.out.2).mono ?_
  rintro x w1 ⟨rfl, hb⟩
  obtain ⟨q0, q1, qB⟩ := two_boxes hb
  have B1 := Lib.hid qB
  clear hb qB
  have Q1 := Lib.hid q1
  have v0 := q0.cell 0
  have v1 := q0.cell 1
  have v2 := q0.cell 2
  have v3 := q0.cell 3
  simp at v0 v1 v2 v3
  go_wp2_with fail
  refine (rcan_is 2 kd true _ X.out).mono ?_
  rintro x w' ⟨rfl, rfl⟩
  go_wp2_with fail
  refine (rfI_l n kd K N B e S _ Y.out.1 Y.out.2.1 Y.out.2.2).mono ?_
  rintro x w2 ⟨rfl, hb⟩
  clear q1
  have q1 := Q1.out.below hb
  have g0 := q1.cell 0
  have g1 := q1.cell 1
  have g2 := q1.cell 2
  have g3 := q1.cell 3
  have t0 := q1.frozen 0
  have t1 := q1.frozen 1
  have t2 := q1.frozen 2
  have t3 := q1.frozen 3
  simp at g0 g1 g2 g3
  have BF := Lib.hid (step0 B1.out hb)
  clear hb q0 q1
  go_wp2
  refine bodyPost_ret (v := .tuple #[.agg #[.int .i64 K, .int .i64 N, .int .u64 B, .string ⟨(S : List UInt8).toArray⟩], .int .i64 e]) ?_ rfl ⟨rfl, put4 BF.out (Nat.le_succ _) _ _ _ _⟩
  simp [results, Tryz.results35, go_sem, g0, g1, g2, g3]

set_option maxHeartbeats 1000000 in
theorem rto_3 (n b : Int) (s S : List UInt8) (kd K N B e : Int) (w : World) (hB : Rl.U b) (hC : Vl.ck 3 n b s = 0) (h1 : Rl.U b) (h2 : kd = 1 ∨ kd = 2 ∨ kd = 4) (hr : Cv.fR b kd = ⟨K, N, B, S, e⟩) :
    Calls Tryz.prog 35 #[.agg #[.int .i64 3, .int .i64 n, .int .u64 b, .string ⟨(s : List UInt8).toArray⟩], .int .i64 kd] w fun x w' => x = .returned (.tuple #[.agg #[.int .i64 K, .int .i64 N, .int .u64 B, .string ⟨(S : List UInt8).toArray⟩], .int .i64 e]) ∧ Below w.heap.size w w' := by
  have H := Lib.hid (And.intro hB hC)
  have Y := Lib.hid (And.intro h1 (And.intro h2 hr))
  have d1 : decide (kd < 1) = false := by rw [decide_eq_false_iff_not]; omega
  have d2 : decide (5 < kd) = false := by rw [decide_eq_false_iff_not]; omega
  have k1 := beq_f (show (3 : Int) ≠ kd by omega)
  have X := Lib.hid (show Cv.can 3 kd = true by unfold Cv.can; rw [decide_eq_true_eq]; omega)
  clear h1 h2 hr
  clear hB hC
  go_enter Tryz.func35, Tryz.ntmps35
  go_wp2_with fail
  refine (rcheck_is 3 n b 0 s _ H.out.1 H.out.2).mono ?_
  rintro x w1 ⟨rfl, hb⟩
  obtain ⟨q0, q1, qB⟩ := two_boxes hb
  have B1 := Lib.hid qB
  clear hb qB
  have Q1 := Lib.hid q1
  have v0 := q0.cell 0
  have v1 := q0.cell 1
  have v2 := q0.cell 2
  have v3 := q0.cell 3
  simp at v0 v1 v2 v3
  go_wp2_with fail
  refine (rcan_is 3 kd true _ X.out).mono ?_
  rintro x w' ⟨rfl, rfl⟩
  go_wp2_with fail
  refine (rfR_l b kd K N B e S _ Y.out.1 Y.out.2.1 Y.out.2.2).mono ?_
  rintro x w2 ⟨rfl, hb⟩
  clear q1
  have q1 := Q1.out.below hb
  have g0 := q1.cell 0
  have g1 := q1.cell 1
  have g2 := q1.cell 2
  have g3 := q1.cell 3
  have t0 := q1.frozen 0
  have t1 := q1.frozen 1
  have t2 := q1.frozen 2
  have t3 := q1.frozen 3
  simp at g0 g1 g2 g3
  have BF := Lib.hid (step0 B1.out hb)
  clear hb q0 q1
  go_wp2
  refine bodyPost_ret (v := .tuple #[.agg #[.int .i64 K, .int .i64 N, .int .u64 B, .string ⟨(S : List UInt8).toArray⟩], .int .i64 e]) ?_ rfl ⟨rfl, put4 BF.out (Nat.le_succ _) _ _ _ _⟩
  simp [results, Tryz.results35, go_sem, g0, g1, g2, g3]

set_option maxHeartbeats 1000000 in
theorem rto_4 (n b : Int) (s S : List UInt8) (kd K N B e : Int) (w : World) (hB : Rl.U b) (hC : Vl.ck 4 n b s = 0) (h1 : s.length ≤ 64) (h2 : kd = 2 ∨ kd = 3 ∨ kd = 5) (hr : Cv.fY s kd = ⟨K, N, B, S, e⟩) :
    Calls Tryz.prog 35 #[.agg #[.int .i64 4, .int .i64 n, .int .u64 b, .string ⟨(s : List UInt8).toArray⟩], .int .i64 kd] w fun x w' => x = .returned (.tuple #[.agg #[.int .i64 K, .int .i64 N, .int .u64 B, .string ⟨(S : List UInt8).toArray⟩], .int .i64 e]) ∧ Below w.heap.size w w' := by
  have H := Lib.hid (And.intro hB hC)
  have Y := Lib.hid (And.intro h1 (And.intro h2 hr))
  have d1 : decide (kd < 1) = false := by rw [decide_eq_false_iff_not]; omega
  have d2 : decide (5 < kd) = false := by rw [decide_eq_false_iff_not]; omega
  have k1 := beq_f (show (4 : Int) ≠ kd by omega)
  have X := Lib.hid (show Cv.can 4 kd = true by unfold Cv.can; rw [decide_eq_true_eq]; omega)
  clear h1 h2 hr
  clear hB hC
  go_enter Tryz.func35, Tryz.ntmps35
  go_wp2_with fail
  refine (rcheck_is 4 n b 0 s _ H.out.1 H.out.2).mono ?_
  rintro x w1 ⟨rfl, hb⟩
  obtain ⟨q0, q1, qB⟩ := two_boxes hb
  have B1 := Lib.hid qB
  clear hb qB
  have Q1 := Lib.hid q1
  have v0 := q0.cell 0
  have v1 := q0.cell 1
  have v2 := q0.cell 2
  have v3 := q0.cell 3
  simp at v0 v1 v2 v3
  go_wp2_with fail
  refine (rcan_is 4 kd true _ X.out).mono ?_
  rintro x w' ⟨rfl, rfl⟩
  go_wp2_with fail
  refine (rfY_l s kd K N B e S _ Y.out.1 Y.out.2.1 Y.out.2.2).mono ?_
  rintro x w2 ⟨rfl, hb⟩
  clear q1
  have q1 := Q1.out.below hb
  have g0 := q1.cell 0
  have g1 := q1.cell 1
  have g2 := q1.cell 2
  have g3 := q1.cell 3
  have t0 := q1.frozen 0
  have t1 := q1.frozen 1
  have t2 := q1.frozen 2
  have t3 := q1.frozen 3
  simp at g0 g1 g2 g3
  have BF := Lib.hid (step0 B1.out hb)
  clear hb q0 q1
  go_wp2
  refine bodyPost_ret (v := .tuple #[.agg #[.int .i64 K, .int .i64 N, .int .u64 B, .string ⟨(S : List UInt8).toArray⟩], .int .i64 e]) ?_ rfl ⟨rfl, put4 BF.out (Nat.le_succ _) _ _ _ _⟩
  simp [results, Tryz.results35, go_sem, g0, g1, g2, g3]

set_option maxHeartbeats 1000000 in
theorem rto_5 (n b : Int) (s S : List UInt8) (kd K N B e : Int) (w : World) (hB : Rl.U b) (hC : Vl.ck 5 n b s = 0) (h1 : True) (h2 : kd = 1 ∨ kd = 2 ∨ kd = 4) (hr : Cv.fT s kd = ⟨K, N, B, S, e⟩) :
    Calls Tryz.prog 35 #[.agg #[.int .i64 5, .int .i64 n, .int .u64 b, .string ⟨(s : List UInt8).toArray⟩], .int .i64 kd] w fun x w' => x = .returned (.tuple #[.agg #[.int .i64 K, .int .i64 N, .int .u64 B, .string ⟨(S : List UInt8).toArray⟩], .int .i64 e]) ∧ Below w.heap.size w w' := by
  have H := Lib.hid (And.intro hB hC)
  have Y := Lib.hid (And.intro h1 (And.intro h2 hr))
  have d1 : decide (kd < 1) = false := by rw [decide_eq_false_iff_not]; omega
  have d2 : decide (5 < kd) = false := by rw [decide_eq_false_iff_not]; omega
  have k1 := beq_f (show (5 : Int) ≠ kd by omega)
  have X := Lib.hid (show Cv.can 5 kd = true by unfold Cv.can; rw [decide_eq_true_eq]; omega)
  clear h1 h2 hr
  clear hB hC
  go_enter Tryz.func35, Tryz.ntmps35
  go_wp2_with fail
  refine (rcheck_is 5 n b 0 s _ H.out.1 H.out.2).mono ?_
  rintro x w1 ⟨rfl, hb⟩
  obtain ⟨q0, q1, qB⟩ := two_boxes hb
  have B1 := Lib.hid qB
  clear hb qB
  have Q1 := Lib.hid q1
  have v0 := q0.cell 0
  have v1 := q0.cell 1
  have v2 := q0.cell 2
  have v3 := q0.cell 3
  simp at v0 v1 v2 v3
  go_wp2_with fail
  refine (rcan_is 5 kd true _ X.out).mono ?_
  rintro x w' ⟨rfl, rfl⟩
  go_wp2_with fail
  refine (rfT_l s kd K N B e S _ Y.out.2.1 Y.out.2.2).mono ?_
  rintro x w2 ⟨rfl, hb⟩
  clear q1
  have q1 := Q1.out.below hb
  have g0 := q1.cell 0
  have g1 := q1.cell 1
  have g2 := q1.cell 2
  have g3 := q1.cell 3
  have t0 := q1.frozen 0
  have t1 := q1.frozen 1
  have t2 := q1.frozen 2
  have t3 := q1.frozen 3
  simp at g0 g1 g2 g3
  have BF := Lib.hid (step0 B1.out hb)
  clear hb q0 q1
  go_wp2
  refine bodyPost_ret (v := .tuple #[.agg #[.int .i64 K, .int .i64 N, .int .u64 B, .string ⟨(S : List UInt8).toArray⟩], .int .i64 e]) ?_ rfl ⟨rfl, put4 BF.out (Nat.le_succ _) _ _ _ _⟩
  simp [results, Tryz.results35, go_sem, g0, g1, g2, g3]

/-- What the document's To answers, in all. -/
theorem rto_l (k n b : Int) (s : List UInt8) (kd K N B e : Int) (S : List UInt8) (w : World) (hB : Rl.U b) (hI : Cv.I n) (hr : Cv.to k n b s kd = ⟨K, N, B, S, e⟩) :
    Calls Tryz.prog 35 #[.agg #[.int .i64 k, .int .i64 n, .int .u64 b, .string ⟨(s : List UInt8).toArray⟩], .int .i64 kd] w fun x w' => x = .returned (.tuple #[.agg #[.int .i64 K, .int .i64 N, .int .u64 B, .string ⟨(S : List UInt8).toArray⟩], .int .i64 e]) ∧ Below w.heap.size w w' := by
  by_cases hC : Vl.ck k n b s = 0
  case neg => rw [show Cv.to k n b s kd = Cv.er (Vl.ck k n b s) by unfold Cv.to; rw [if_pos hC]] at hr; injection hr with a1 a2 a3 a4 a5; subst a1 a2 a3 a4 a5; exact rto_bad k n b _ s kd w hB rfl hC
  have T : Cv.to k n b s kd = if kd < 1 ∨ 5 < kd then Cv.er 5 else if k = 0 ∨ k = kd then ⟨k, n, b, s, 0⟩ else if k = 1 then Cv.fB n kd else if k = 2 then Cv.ofn n kd else if k = 3 then Cv.fR b kd else if k = 4 then Cv.fY s kd else Cv.fT s kd := by
    unfold Cv.to; rw [if_neg (by simp [hC])]
  rw [T] at hr
  clear T
  by_cases a1 : kd < 1
  · rw [if_pos (.inl a1)] at hr; injection hr with a1 a2 a3 a4 a5; subst a1 a2 a3 a4 a5; exact rto_lo k n b s kd w hB hC a1
  by_cases a2 : 5 < kd
  · rw [if_pos (.inr a2)] at hr; injection hr with a1 a2 a3 a4 a5; subst a1 a2 a3 a4 a5; exact rto_hi k n b s kd w hB hC a2
  rw [if_neg (by omega)] at hr
  by_cases hz : k = 0
  · subst hz; rw [if_pos (.inl rfl)] at hr; injection hr with a1 a2 a3 a4 a5; subst a1 a2 a3 a4 a5; exact rto_null _ _ _ kd w hB hC (by omega) (by omega)
  by_cases hd : k = kd
  · subst hd; rw [if_pos (.inr rfl)] at hr; injection hr with a1 a2 a3 a4 a5; subst a1 a2 a3 a4 a5; exact rto_same _ _ _ _ w hB hC (by omega) (by omega)
  rw [if_neg (by omega)] at hr
  obtain ⟨k0, k5, _, _, _, h1, _, h64⟩ := Vl.ck_ok hC
  have ca : k = 1 ∨ k = 2 ∨ k = 3 ∨ k = 4 ∨ k = 5 := by omega
  rcases ca with rfl | rfl | rfl | rfl | rfl
  · rw [if_pos rfl] at hr
    by_cases h4 : kd = 4
    · subst h4; injection hr with a1 a2 a3 a4 a5; subst a1 a2 a3 a4 a5; exact rto_no 1 n b s 4 w hB hC (by omega) (by omega) hz hd (by decide)
    · exact rto_1 n b s S kd K N B e w hB hC (h1 rfl) (by omega) hr
  · rw [if_neg (by decide), if_pos rfl] at hr
    exact rto_2 n b s S kd K N B e w hB hC hI (by omega) hr
  · rw [if_neg (by decide), if_neg (by decide), if_pos rfl] at hr
    by_cases h4 : kd = 5
    · subst h4; injection hr with a1 a2 a3 a4 a5; subst a1 a2 a3 a4 a5; exact rto_no 3 n b s 5 w hB hC (by omega) (by omega) hz hd (by decide)
    · exact rto_3 n b s S kd K N B e w hB hC hB (by omega) hr
  · rw [if_neg (by decide), if_neg (by decide), if_neg (by decide), if_pos rfl] at hr
    by_cases h4 : kd = 1
    · subst h4; injection hr with a1 a2 a3 a4 a5; subst a1 a2 a3 a4 a5; exact rto_no 4 n b s 1 w hB hC (by omega) (by omega) hz hd (by decide)
    · exact rto_4 n b s S kd K N B e w hB hC h64 (by omega) hr
  · rw [if_neg (by decide), if_neg (by decide), if_neg (by decide), if_neg (by decide)] at hr
    by_cases h4 : kd = 3
    · subst h4; injection hr with a1 a2 a3 a4 a5; subst a1 a2 a3 a4 a5; exact rto_no 5 n b s 3 w hB hC (by omega) (by omega) hz hd (by decide)
    · exact rto_5 n b s S kd K N B e w hB hC trivial (by omega) hr

end Go.Proofs.YtdonmbmahcjfbaaGreatDoor.Km
