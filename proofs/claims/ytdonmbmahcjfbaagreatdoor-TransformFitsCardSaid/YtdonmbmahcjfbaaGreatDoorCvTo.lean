/-
  What To and Can of package convert answer, for every value and every kind. Condition: the library's tables and variables hold what their initialisers lay; the bounds named in each theorem.
-/
import Derived.Test.YtdonmbmahcjfbaaGreatDoorCvBetween
namespace Go.Proofs.YtdonmbmahcjfbaaGreatDoor.Km
open Go.RowKit

set_option maxHeartbeats 1000000 in
theorem to_bad (k n b c : Int) (s : List UInt8) (kd : Int) (w : World) (hB : Rl.U b) (hC : Vl.ck k n b s = c) (hc : c ≠ 0) :
    Calls Tryz.prog 51 #[.agg #[.int .i64 k, .int .i64 n, .int .u64 b, .string ⟨(s : List UInt8).toArray⟩], .int .i64 kd] w fun x w' => x = .returned (.tuple #[.agg #[.int .i64 0, .int .i64 0, .int .u64 0, .string ⟨([] : List UInt8).toArray⟩], .int .i64 c]) ∧ Below w.heap.size w w' := by
  have H := Lib.hid (And.intro hB hC)
  have fe := fn_eql
  have fz := nil_eql
  have e1 := bne_t hc
  have e2 := beq_f hc
  clear hB hC
  go_enter Tryz.func51, Tryz.ntmps51
  go_wp2_with fail
  refine (check_is k n b c s _ H.out.1 H.out.2).mono ?_
  rintro x w1 ⟨rfl, hb⟩
  obtain ⟨q0, q1, qB⟩ := two_boxes hb
  have B1 := Lib.hid qB
  clear hb qB
  have g0 := q1.cell 0
  have g1 := q1.cell 1
  have g2 := q1.cell 2
  have g3 := q1.cell 3
  have t0 := q1.frozen 0
  have t1 := q1.frozen 1
  have t2 := q1.frozen 2
  have t3 := q1.frozen 3
  simp at g0 g1 g2 g3
  have v0 := q0.cell 0
  have v1 := q0.cell 1
  have v2 := q0.cell 2
  have v3 := q0.cell 3
  simp at v0 v1 v2 v3
  have BF := Lib.hid B1.out
  clear q0 q1
  go_wp2
  refine bodyPost_ret (v := .tuple #[.agg #[.int .i64 0, .int .i64 0, .int .u64 0, .string ⟨([] : List UInt8).toArray⟩], .int .i64 c]) ?_ rfl ⟨rfl, put4 BF.out (Nat.le_succ _) _ _ _ _⟩
  simp [results, Tryz.results51, go_sem, g0, g1, g2, g3]

set_option maxHeartbeats 1000000 in
theorem to_out (k n b : Int) (s : List UInt8) (kd : Int) (w : World) (hB : Rl.U b) (hC : Vl.ck k n b s = 0) (hk : kd < 1 ∨ 5 < kd) :
    Calls Tryz.prog 51 #[.agg #[.int .i64 k, .int .i64 n, .int .u64 b, .string ⟨(s : List UInt8).toArray⟩], .int .i64 kd] w fun x w' => x = .returned (.tuple #[.agg #[.int .i64 0, .int .i64 0, .int .u64 0, .string ⟨([] : List UInt8).toArray⟩], .int .i64 5]) ∧ Below w.heap.size w w' := by
  have H := Lib.hid (And.intro hB hC)
  have fe := fn_eql
  have fz := nil_eql
  have X := Lib.hid hk
  clear hk
  clear hB hC
  go_enter Tryz.func51, Tryz.ntmps51
  go_wp2_with fail
  refine (check_is k n b 0 s _ H.out.1 H.out.2).mono ?_
  rintro x w1 ⟨rfl, hb⟩
  obtain ⟨q0, q1, qB⟩ := two_boxes hb
  have B1 := Lib.hid qB
  clear hb qB
  go_wp2_with fail
  refine (inTable_f kd _ X.out).mono ?_
  rintro x w' ⟨rfl, rfl⟩
  have g0 := q1.cell 0
  have g1 := q1.cell 1
  have g2 := q1.cell 2
  have g3 := q1.cell 3
  have t0 := q1.frozen 0
  have t1 := q1.frozen 1
  have t2 := q1.frozen 2
  have t3 := q1.frozen 3
  simp at g0 g1 g2 g3
  have v0 := q0.cell 0
  have v1 := q0.cell 1
  have v2 := q0.cell 2
  have v3 := q0.cell 3
  simp at v0 v1 v2 v3
  have BF := Lib.hid B1.out
  clear q0 q1
  go_wp2
  refine bodyPost_ret (v := .tuple #[.agg #[.int .i64 0, .int .i64 0, .int .u64 0, .string ⟨([] : List UInt8).toArray⟩], .int .i64 5]) ?_ rfl ⟨rfl, put4 BF.out (Nat.le_succ _) _ _ _ _⟩
  simp [results, Tryz.results51, go_sem, g0, g1, g2, g3]

set_option maxHeartbeats 1000000 in
theorem to_null (n b : Int) (s : List UInt8) (kd : Int) (w : World) (hB : Rl.U b) (hC : Vl.ck 0 n b s = 0) (h0 : 1 ≤ kd) (h1 : kd ≤ 5) :
    Calls Tryz.prog 51 #[.agg #[.int .i64 0, .int .i64 n, .int .u64 b, .string ⟨(s : List UInt8).toArray⟩], .int .i64 kd] w fun x w' => x = .returned (.tuple #[.agg #[.int .i64 0, .int .i64 n, .int .u64 b, .string ⟨(s : List UInt8).toArray⟩], .int .i64 0]) ∧ Below w.heap.size w w' := by
  have H := Lib.hid (And.intro hB hC)
  have fe := fn_eql
  have fz := nil_eql
  have X := Lib.hid (And.intro h0 h1)
  clear h0 h1
  clear hB hC
  go_enter Tryz.func51, Tryz.ntmps51
  go_wp2_with fail
  refine (check_is 0 n b 0 s _ H.out.1 H.out.2).mono ?_
  rintro x w1 ⟨rfl, hb⟩
  obtain ⟨q0, q1, qB⟩ := two_boxes hb
  have B1 := Lib.hid qB
  clear hb qB
  go_wp2_with fail
  refine (inTable_t kd _ X.out.1 X.out.2).mono ?_
  rintro x w' ⟨rfl, rfl⟩
  have g0 := q1.cell 0
  have g1 := q1.cell 1
  have g2 := q1.cell 2
  have g3 := q1.cell 3
  have t0 := q1.frozen 0
  have t1 := q1.frozen 1
  have t2 := q1.frozen 2
  have t3 := q1.frozen 3
  simp at g0 g1 g2 g3
  have v0 := q0.cell 0
  have v1 := q0.cell 1
  have v2 := q0.cell 2
  have v3 := q0.cell 3
  simp at v0 v1 v2 v3
  have BF := Lib.hid B1.out
  clear q0 q1
  go_wp2
  refine bodyPost_ret (v := .tuple #[.agg #[.int .i64 0, .int .i64 n, .int .u64 b, .string ⟨(s : List UInt8).toArray⟩], .int .i64 0]) ?_ rfl ⟨rfl, put4 BF.out (Nat.le_succ _) _ _ _ _⟩
  simp [results, Tryz.results51, go_sem, g0, g1, g2, g3]

set_option maxHeartbeats 1000000 in
theorem to_same (k n b : Int) (s : List UInt8) (w : World) (hB : Rl.U b) (hC : Vl.ck k n b s = 0) (h0 : 1 ≤ k) (h1 : k ≤ 5) :
    Calls Tryz.prog 51 #[.agg #[.int .i64 k, .int .i64 n, .int .u64 b, .string ⟨(s : List UInt8).toArray⟩], .int .i64 k] w fun x w' => x = .returned (.tuple #[.agg #[.int .i64 k, .int .i64 n, .int .u64 b, .string ⟨(s : List UInt8).toArray⟩], .int .i64 0]) ∧ Below w.heap.size w w' := by
  have H := Lib.hid (And.intro hB hC)
  have fe := fn_eql
  have fz := nil_eql
  have X := Lib.hid (And.intro h0 h1)
  have k0 := beq_f (show k ≠ 0 by omega)
  clear h0 h1
  clear hB hC
  go_enter Tryz.func51, Tryz.ntmps51
  go_wp2_with fail
  refine (check_is k n b 0 s _ H.out.1 H.out.2).mono ?_
  rintro x w1 ⟨rfl, hb⟩
  obtain ⟨q0, q1, qB⟩ := two_boxes hb
  have B1 := Lib.hid qB
  clear hb qB
  go_wp2_with fail
  refine (inTable_t k _ X.out.1 X.out.2).mono ?_
  rintro x w' ⟨rfl, rfl⟩
  have Q0 := Lib.hid q0
  have Q1 := Lib.hid q1
  have v0 := q0.cell 0
  simp at v0
  clear q0 q1
  go_wp2_with fail
  refine (bt_same k _ X.out.1 X.out.2).mono ?_
  rintro x w' ⟨rfl, rfl⟩
  have hb2 : Below w1.heap.size w1 w1 := Below.refl _ _
  have q0 := Q0.out.below hb2
  have v0 := q0.cell 0
  have v1 := q0.cell 1
  have v2 := q0.cell 2
  have v3 := q0.cell 3
  simp at v0 v1 v2 v3
  clear q0
  go_wp2_with fail
  refine (way_same k n b s _).mono ?_
  rintro x w3 ⟨rfl, hb⟩
  have q1 := (Q1.out.below hb2).below hb
  have g0 := q1.cell 0
  have g1 := q1.cell 1
  have g2 := q1.cell 2
  have g3 := q1.cell 3
  have t0 := q1.frozen 0
  have t1 := q1.frozen 1
  have t2 := q1.frozen 2
  have t3 := q1.frozen 3
  simp at g0 g1 g2 g3
  have BF := Lib.hid (step0 (step0 B1.out hb2) hb)
  clear hb q1
  go_wp2
  refine bodyPost_ret (v := .tuple #[.agg #[.int .i64 k, .int .i64 n, .int .u64 b, .string ⟨(s : List UInt8).toArray⟩], .int .i64 0]) ?_ rfl ⟨rfl, put4 BF.out (Nat.le_succ _) _ _ _ _⟩
  simp [results, Tryz.results51, go_sem, g0, g1, g2, g3]

set_option maxHeartbeats 1000000 in
theorem to_1_4 (n b : Int) (s : List UInt8) (w : World) (hB : Rl.U b) (hC : Vl.ck 1 n b s = 0) :
    Calls Tryz.prog 51 #[.agg #[.int .i64 1, .int .i64 n, .int .u64 b, .string ⟨(s : List UInt8).toArray⟩], .int .i64 4] w fun x w' => x = .returned (.tuple #[.agg #[.int .i64 0, .int .i64 0, .int .u64 0, .string ⟨([] : List UInt8).toArray⟩], .int .i64 5]) ∧ Below w.heap.size w w' := by
  have H := Lib.hid (And.intro hB hC)
  have fe := fn_eql
  have fz := nil_eql
  clear hB hC
  go_enter Tryz.func51, Tryz.ntmps51
  go_wp2_with fail
  refine (check_is 1 n b 0 s _ H.out.1 H.out.2).mono ?_
  rintro x w1 ⟨rfl, hb⟩
  obtain ⟨q0, q1, qB⟩ := two_boxes hb
  have B1 := Lib.hid qB
  clear hb qB
  go_wp2_with fail
  refine (inTable_t 4 _ (by decide) (by decide)).mono ?_
  rintro x w' ⟨rfl, rfl⟩
  have Q0 := Lib.hid q0
  have Q1 := Lib.hid q1
  have v0 := q0.cell 0
  simp at v0
  clear q0 q1
  go_wp2_with fail
  refine (bt_1_4 _).mono ?_
  rintro x w2 ⟨rfl, hb2⟩
  have q1 := Q1.out.below hb2
  have g0 := q1.cell 0
  have g1 := q1.cell 1
  have g2 := q1.cell 2
  have g3 := q1.cell 3
  have t0 := q1.frozen 0
  have t1 := q1.frozen 1
  have t2 := q1.frozen 2
  have t3 := q1.frozen 3
  simp at g0 g1 g2 g3
  have BF := Lib.hid (step0 B1.out hb2)
  clear hb2 q1
  go_wp2
  refine bodyPost_ret (v := .tuple #[.agg #[.int .i64 0, .int .i64 0, .int .u64 0, .string ⟨([] : List UInt8).toArray⟩], .int .i64 5]) ?_ rfl ⟨rfl, put4 BF.out (Nat.le_succ _) _ _ _ _⟩
  simp [results, Tryz.results51, go_sem, g0, g1, g2, g3]

set_option maxHeartbeats 1000000 in
theorem to_3_5 (n b : Int) (s : List UInt8) (w : World) (hB : Rl.U b) (hC : Vl.ck 3 n b s = 0) :
    Calls Tryz.prog 51 #[.agg #[.int .i64 3, .int .i64 n, .int .u64 b, .string ⟨(s : List UInt8).toArray⟩], .int .i64 5] w fun x w' => x = .returned (.tuple #[.agg #[.int .i64 0, .int .i64 0, .int .u64 0, .string ⟨([] : List UInt8).toArray⟩], .int .i64 5]) ∧ Below w.heap.size w w' := by
  have H := Lib.hid (And.intro hB hC)
  have fe := fn_eql
  have fz := nil_eql
  clear hB hC
  go_enter Tryz.func51, Tryz.ntmps51
  go_wp2_with fail
  refine (check_is 3 n b 0 s _ H.out.1 H.out.2).mono ?_
  rintro x w1 ⟨rfl, hb⟩
  obtain ⟨q0, q1, qB⟩ := two_boxes hb
  have B1 := Lib.hid qB
  clear hb qB
  go_wp2_with fail
  refine (inTable_t 5 _ (by decide) (by decide)).mono ?_
  rintro x w' ⟨rfl, rfl⟩
  have Q0 := Lib.hid q0
  have Q1 := Lib.hid q1
  have v0 := q0.cell 0
  simp at v0
  clear q0 q1
  go_wp2_with fail
  refine (bt_3_5 _).mono ?_
  rintro x w2 ⟨rfl, hb2⟩
  have q1 := Q1.out.below hb2
  have g0 := q1.cell 0
  have g1 := q1.cell 1
  have g2 := q1.cell 2
  have g3 := q1.cell 3
  have t0 := q1.frozen 0
  have t1 := q1.frozen 1
  have t2 := q1.frozen 2
  have t3 := q1.frozen 3
  simp at g0 g1 g2 g3
  have BF := Lib.hid (step0 B1.out hb2)
  clear hb2 q1
  go_wp2
  refine bodyPost_ret (v := .tuple #[.agg #[.int .i64 0, .int .i64 0, .int .u64 0, .string ⟨([] : List UInt8).toArray⟩], .int .i64 5]) ?_ rfl ⟨rfl, put4 BF.out (Nat.le_succ _) _ _ _ _⟩
  simp [results, Tryz.results51, go_sem, g0, g1, g2, g3]

set_option maxHeartbeats 1000000 in
theorem to_4_1 (n b : Int) (s : List UInt8) (w : World) (hB : Rl.U b) (hC : Vl.ck 4 n b s = 0) :
    Calls Tryz.prog 51 #[.agg #[.int .i64 4, .int .i64 n, .int .u64 b, .string ⟨(s : List UInt8).toArray⟩], .int .i64 1] w fun x w' => x = .returned (.tuple #[.agg #[.int .i64 0, .int .i64 0, .int .u64 0, .string ⟨([] : List UInt8).toArray⟩], .int .i64 5]) ∧ Below w.heap.size w w' := by
  have H := Lib.hid (And.intro hB hC)
  have fe := fn_eql
  have fz := nil_eql
  clear hB hC
  go_enter Tryz.func51, Tryz.ntmps51
  go_wp2_with fail
  refine (check_is 4 n b 0 s _ H.out.1 H.out.2).mono ?_
  rintro x w1 ⟨rfl, hb⟩
  obtain ⟨q0, q1, qB⟩ := two_boxes hb
  have B1 := Lib.hid qB
  clear hb qB
  go_wp2_with fail
  refine (inTable_t 1 _ (by decide) (by decide)).mono ?_
  rintro x w' ⟨rfl, rfl⟩
  have Q0 := Lib.hid q0
  have Q1 := Lib.hid q1
  have v0 := q0.cell 0
  simp at v0
  clear q0 q1
  go_wp2_with fail
  refine (bt_4_1 _).mono ?_
  rintro x w2 ⟨rfl, hb2⟩
  have q1 := Q1.out.below hb2
  have g0 := q1.cell 0
  have g1 := q1.cell 1
  have g2 := q1.cell 2
  have g3 := q1.cell 3
  have t0 := q1.frozen 0
  have t1 := q1.frozen 1
  have t2 := q1.frozen 2
  have t3 := q1.frozen 3
  simp at g0 g1 g2 g3
  have BF := Lib.hid (step0 B1.out hb2)
  clear hb2 q1
  go_wp2
  refine bodyPost_ret (v := .tuple #[.agg #[.int .i64 0, .int .i64 0, .int .u64 0, .string ⟨([] : List UInt8).toArray⟩], .int .i64 5]) ?_ rfl ⟨rfl, put4 BF.out (Nat.le_succ _) _ _ _ _⟩
  simp [results, Tryz.results51, go_sem, g0, g1, g2, g3]

set_option maxHeartbeats 1000000 in
theorem to_5_3 (n b : Int) (s : List UInt8) (w : World) (hB : Rl.U b) (hC : Vl.ck 5 n b s = 0) :
    Calls Tryz.prog 51 #[.agg #[.int .i64 5, .int .i64 n, .int .u64 b, .string ⟨(s : List UInt8).toArray⟩], .int .i64 3] w fun x w' => x = .returned (.tuple #[.agg #[.int .i64 0, .int .i64 0, .int .u64 0, .string ⟨([] : List UInt8).toArray⟩], .int .i64 5]) ∧ Below w.heap.size w w' := by
  have H := Lib.hid (And.intro hB hC)
  have fe := fn_eql
  have fz := nil_eql
  clear hB hC
  go_enter Tryz.func51, Tryz.ntmps51
  go_wp2_with fail
  refine (check_is 5 n b 0 s _ H.out.1 H.out.2).mono ?_
  rintro x w1 ⟨rfl, hb⟩
  obtain ⟨q0, q1, qB⟩ := two_boxes hb
  have B1 := Lib.hid qB
  clear hb qB
  go_wp2_with fail
  refine (inTable_t 3 _ (by decide) (by decide)).mono ?_
  rintro x w' ⟨rfl, rfl⟩
  have Q0 := Lib.hid q0
  have Q1 := Lib.hid q1
  have v0 := q0.cell 0
  simp at v0
  clear q0 q1
  go_wp2_with fail
  refine (bt_5_3 _).mono ?_
  rintro x w2 ⟨rfl, hb2⟩
  have q1 := Q1.out.below hb2
  have g0 := q1.cell 0
  have g1 := q1.cell 1
  have g2 := q1.cell 2
  have g3 := q1.cell 3
  have t0 := q1.frozen 0
  have t1 := q1.frozen 1
  have t2 := q1.frozen 2
  have t3 := q1.frozen 3
  simp at g0 g1 g2 g3
  have BF := Lib.hid (step0 B1.out hb2)
  clear hb2 q1
  go_wp2
  refine bodyPost_ret (v := .tuple #[.agg #[.int .i64 0, .int .i64 0, .int .u64 0, .string ⟨([] : List UInt8).toArray⟩], .int .i64 5]) ?_ rfl ⟨rfl, put4 BF.out (Nat.le_succ _) _ _ _ _⟩
  simp [results, Tryz.results51, go_sem, g0, g1, g2, g3]

set_option maxHeartbeats 1000000 in
theorem to_1_5_0 (b : Int) (s : List UInt8) (w : World) (E : Env w) (hB : Rl.U b) (hC : Vl.ck 1 0 b s = 0) :
    Calls Tryz.prog 51 #[.agg #[.int .i64 1, .int .i64 0, .int .u64 b, .string ⟨(s : List UInt8).toArray⟩], .int .i64 5] w fun x w' => x = .returned (.tuple #[.agg #[.int .i64 5, .int .i64 0, .int .u64 0, .string ⟨([102, 97, 108, 115, 101] : List UInt8).toArray⟩], .int .i64 0]) ∧ Below w.heap.size w w' := by
  have H := Lib.hid (And.intro hB hC)
  have fe := fn_eql
  have fz := nil_eql
  clear hB hC
  go_enter Tryz.func51, Tryz.ntmps51
  go_wp2_with fail
  refine (check_is 1 0 b 0 s _ H.out.1 H.out.2).mono ?_
  rintro x w1 ⟨rfl, hb⟩
  obtain ⟨q0, q1, qB⟩ := two_boxes hb
  have B1 := Lib.hid qB
  clear hb qB
  go_wp2_with fail
  refine (inTable_t 5 _ (by decide) (by decide)).mono ?_
  rintro x w' ⟨rfl, rfl⟩
  have Q0 := Lib.hid q0
  have Q1 := Lib.hid q1
  have v0 := q0.cell 0
  simp at v0
  clear q0 q1
  go_wp2_with fail
  refine (bt_1_5 _).mono ?_
  rintro x w2 ⟨g, rfl, cT, hb2⟩
  have CT := Lib.hid cT
  clear cT
  have q0 := Q0.out.below hb2
  have v0 := q0.cell 0
  have v1 := q0.cell 1
  have v2 := q0.cell 2
  have v3 := q0.cell 3
  simp at v0 v1 v2 v3
  clear q0
  go_wp2_with fail
  refine (way_bool_text_0 1 b 5 s g _ CT.out (E.below (step0 B1.out hb2))).mono ?_
  rintro x w3 ⟨rfl, hb⟩
  have q1 := (Q1.out.below hb2).below hb
  have g0 := q1.cell 0
  have g1 := q1.cell 1
  have g2 := q1.cell 2
  have g3 := q1.cell 3
  have t0 := q1.frozen 0
  have t1 := q1.frozen 1
  have t2 := q1.frozen 2
  have t3 := q1.frozen 3
  simp at g0 g1 g2 g3
  have BF := Lib.hid (step0 (step0 B1.out hb2) hb)
  clear hb q1
  go_wp2
  refine bodyPost_ret (v := .tuple #[.agg #[.int .i64 5, .int .i64 0, .int .u64 0, .string ⟨([102, 97, 108, 115, 101] : List UInt8).toArray⟩], .int .i64 0]) ?_ rfl ⟨rfl, put4 BF.out (Nat.le_succ _) _ _ _ _⟩
  simp [results, Tryz.results51, go_sem, g0, g1, g2, g3]

set_option maxHeartbeats 1000000 in
theorem to_1_5_1 (b : Int) (s : List UInt8) (w : World) (E : Env w) (hB : Rl.U b) (hC : Vl.ck 1 1 b s = 0) :
    Calls Tryz.prog 51 #[.agg #[.int .i64 1, .int .i64 1, .int .u64 b, .string ⟨(s : List UInt8).toArray⟩], .int .i64 5] w fun x w' => x = .returned (.tuple #[.agg #[.int .i64 5, .int .i64 0, .int .u64 0, .string ⟨([116, 114, 117, 101] : List UInt8).toArray⟩], .int .i64 0]) ∧ Below w.heap.size w w' := by
  have H := Lib.hid (And.intro hB hC)
  have fe := fn_eql
  have fz := nil_eql
  clear hB hC
  go_enter Tryz.func51, Tryz.ntmps51
  go_wp2_with fail
  refine (check_is 1 1 b 0 s _ H.out.1 H.out.2).mono ?_
  rintro x w1 ⟨rfl, hb⟩
  obtain ⟨q0, q1, qB⟩ := two_boxes hb
  have B1 := Lib.hid qB
  clear hb qB
  go_wp2_with fail
  refine (inTable_t 5 _ (by decide) (by decide)).mono ?_
  rintro x w' ⟨rfl, rfl⟩
  have Q0 := Lib.hid q0
  have Q1 := Lib.hid q1
  have v0 := q0.cell 0
  simp at v0
  clear q0 q1
  go_wp2_with fail
  refine (bt_1_5 _).mono ?_
  rintro x w2 ⟨g, rfl, cT, hb2⟩
  have CT := Lib.hid cT
  clear cT
  have q0 := Q0.out.below hb2
  have v0 := q0.cell 0
  have v1 := q0.cell 1
  have v2 := q0.cell 2
  have v3 := q0.cell 3
  simp at v0 v1 v2 v3
  clear q0
  go_wp2_with fail
  refine (way_bool_text_1 1 b 5 s g _ CT.out (E.below (step0 B1.out hb2))).mono ?_
  rintro x w3 ⟨rfl, hb⟩
  have q1 := (Q1.out.below hb2).below hb
  have g0 := q1.cell 0
  have g1 := q1.cell 1
  have g2 := q1.cell 2
  have g3 := q1.cell 3
  have t0 := q1.frozen 0
  have t1 := q1.frozen 1
  have t2 := q1.frozen 2
  have t3 := q1.frozen 3
  simp at g0 g1 g2 g3
  have BF := Lib.hid (step0 (step0 B1.out hb2) hb)
  clear hb q1
  go_wp2
  refine bodyPost_ret (v := .tuple #[.agg #[.int .i64 5, .int .i64 0, .int .u64 0, .string ⟨([116, 114, 117, 101] : List UInt8).toArray⟩], .int .i64 0]) ?_ rfl ⟨rfl, put4 BF.out (Nat.le_succ _) _ _ _ _⟩
  simp [results, Tryz.results51, go_sem, g0, g1, g2, g3]

set_option maxHeartbeats 1000000 in
theorem to_3_4 (n b : Int) (s S : List UInt8) (w : World) (hB : Rl.U b) (hC : Vl.ck 3 n b s = 0) (hS : Kc.bn 8 b.toNat = S) :
    Calls Tryz.prog 51 #[.agg #[.int .i64 3, .int .i64 n, .int .u64 b, .string ⟨(s : List UInt8).toArray⟩], .int .i64 4] w fun x w' => x = .returned (.tuple #[.agg #[.int .i64 4, .int .i64 0, .int .u64 0, .string ⟨(S : List UInt8).toArray⟩], .int .i64 0]) ∧ Below w.heap.size w w' := by
  have H := Lib.hid (And.intro hB hC)
  have fe := fn_eql
  have fz := nil_eql
  have X := Lib.hid hS
  clear hS
  clear hB hC
  go_enter Tryz.func51, Tryz.ntmps51
  go_wp2_with fail
  refine (check_is 3 n b 0 s _ H.out.1 H.out.2).mono ?_
  rintro x w1 ⟨rfl, hb⟩
  obtain ⟨q0, q1, qB⟩ := two_boxes hb
  have B1 := Lib.hid qB
  clear hb qB
  go_wp2_with fail
  refine (inTable_t 4 _ (by decide) (by decide)).mono ?_
  rintro x w' ⟨rfl, rfl⟩
  have Q0 := Lib.hid q0
  have Q1 := Lib.hid q1
  have v0 := q0.cell 0
  simp at v0
  clear q0 q1
  go_wp2_with fail
  refine (bt_3_4 _).mono ?_
  rintro x w2 ⟨g, rfl, cT, hb2⟩
  have CT := Lib.hid cT
  clear cT
  have q0 := Q0.out.below hb2
  have v0 := q0.cell 0
  have v1 := q0.cell 1
  have v2 := q0.cell 2
  have v3 := q0.cell 3
  simp at v0 v1 v2 v3
  clear q0
  go_wp2_with fail
  refine (way_real_bytes 3 n b 4 s S g _ CT.out H.out.1 X.out).mono ?_
  rintro x w3 ⟨rfl, hb⟩
  have q1 := (Q1.out.below hb2).below hb
  have g0 := q1.cell 0
  have g1 := q1.cell 1
  have g2 := q1.cell 2
  have g3 := q1.cell 3
  have t0 := q1.frozen 0
  have t1 := q1.frozen 1
  have t2 := q1.frozen 2
  have t3 := q1.frozen 3
  simp at g0 g1 g2 g3
  have BF := Lib.hid (step0 (step0 B1.out hb2) hb)
  clear hb q1
  go_wp2
  refine bodyPost_ret (v := .tuple #[.agg #[.int .i64 4, .int .i64 0, .int .u64 0, .string ⟨(S : List UInt8).toArray⟩], .int .i64 0]) ?_ rfl ⟨rfl, put4 BF.out (Nat.le_succ _) _ _ _ _⟩
  simp [results, Tryz.results51, go_sem, g0, g1, g2, g3]

set_option maxHeartbeats 1000000 in
theorem to_4_3_t (n b B : Int) (s : List UInt8) (w : World) (hB : Rl.U b) (hC : Vl.ck 4 n b s = 0) (h8 : s.length = 8) (hV : Rl.cn (Kc.nm s) = B) :
    Calls Tryz.prog 51 #[.agg #[.int .i64 4, .int .i64 n, .int .u64 b, .string ⟨(s : List UInt8).toArray⟩], .int .i64 3] w fun x w' => x = .returned (.tuple #[.agg #[.int .i64 3, .int .i64 0, .int .u64 B, .string ⟨([] : List UInt8).toArray⟩], .int .i64 0]) ∧ Below w.heap.size w w' := by
  have H := Lib.hid (And.intro hB hC)
  have fe := fn_eql
  have fz := nil_eql
  have X := Lib.hid (And.intro h8 hV)
  clear h8 hV
  clear hB hC
  go_enter Tryz.func51, Tryz.ntmps51
  go_wp2_with fail
  refine (check_is 4 n b 0 s _ H.out.1 H.out.2).mono ?_
  rintro x w1 ⟨rfl, hb⟩
  obtain ⟨q0, q1, qB⟩ := two_boxes hb
  have B1 := Lib.hid qB
  clear hb qB
  go_wp2_with fail
  refine (inTable_t 3 _ (by decide) (by decide)).mono ?_
  rintro x w' ⟨rfl, rfl⟩
  have Q0 := Lib.hid q0
  have Q1 := Lib.hid q1
  have v0 := q0.cell 0
  simp at v0
  clear q0 q1
  go_wp2_with fail
  refine (bt_4_3 _).mono ?_
  rintro x w2 ⟨g, rfl, cT, hb2⟩
  have CT := Lib.hid cT
  clear cT
  have q0 := Q0.out.below hb2
  have v0 := q0.cell 0
  have v1 := q0.cell 1
  have v2 := q0.cell 2
  have v3 := q0.cell 3
  simp at v0 v1 v2 v3
  clear q0
  go_wp2_with fail
  refine (way_bytes_real_t 4 n b 3 B s g _ CT.out X.out.1 X.out.2).mono ?_
  rintro x w3 ⟨rfl, hb⟩
  have q1 := (Q1.out.below hb2).below hb
  have g0 := q1.cell 0
  have g1 := q1.cell 1
  have g2 := q1.cell 2
  have g3 := q1.cell 3
  have t0 := q1.frozen 0
  have t1 := q1.frozen 1
  have t2 := q1.frozen 2
  have t3 := q1.frozen 3
  simp at g0 g1 g2 g3
  have BF := Lib.hid (step0 (step0 B1.out hb2) hb)
  clear hb q1
  go_wp2
  refine bodyPost_ret (v := .tuple #[.agg #[.int .i64 3, .int .i64 0, .int .u64 B, .string ⟨([] : List UInt8).toArray⟩], .int .i64 0]) ?_ rfl ⟨rfl, put4 BF.out (Nat.le_succ _) _ _ _ _⟩
  simp [results, Tryz.results51, go_sem, g0, g1, g2, g3]

set_option maxHeartbeats 1000000 in
theorem to_4_3_f (n b : Int) (s : List UInt8) (w : World) (hB : Rl.U b) (hC : Vl.ck 4 n b s = 0) (h8 : s.length ≠ 8) :
    Calls Tryz.prog 51 #[.agg #[.int .i64 4, .int .i64 n, .int .u64 b, .string ⟨(s : List UInt8).toArray⟩], .int .i64 3] w fun x w' => x = .returned (.tuple #[.agg #[.int .i64 0, .int .i64 0, .int .u64 0, .string ⟨([] : List UInt8).toArray⟩], .int .i64 6]) ∧ Below w.heap.size w w' := by
  have H := Lib.hid (And.intro hB hC)
  have fe := fn_eql
  have fz := nil_eql
  have X := Lib.hid h8
  clear h8
  clear hB hC
  go_enter Tryz.func51, Tryz.ntmps51
  go_wp2_with fail
  refine (check_is 4 n b 0 s _ H.out.1 H.out.2).mono ?_
  rintro x w1 ⟨rfl, hb⟩
  obtain ⟨q0, q1, qB⟩ := two_boxes hb
  have B1 := Lib.hid qB
  clear hb qB
  go_wp2_with fail
  refine (inTable_t 3 _ (by decide) (by decide)).mono ?_
  rintro x w' ⟨rfl, rfl⟩
  have Q0 := Lib.hid q0
  have Q1 := Lib.hid q1
  have v0 := q0.cell 0
  simp at v0
  clear q0 q1
  go_wp2_with fail
  refine (bt_4_3 _).mono ?_
  rintro x w2 ⟨g, rfl, cT, hb2⟩
  have CT := Lib.hid cT
  clear cT
  have q0 := Q0.out.below hb2
  have v0 := q0.cell 0
  have v1 := q0.cell 1
  have v2 := q0.cell 2
  have v3 := q0.cell 3
  simp at v0 v1 v2 v3
  clear q0
  go_wp2_with fail
  refine (way_bytes_real_f 4 n b s g _ X.out).mono ?_
  rintro x w3 ⟨rfl, hb⟩
  have q1 := (Q1.out.below hb2).below hb
  have g0 := q1.cell 0
  have g1 := q1.cell 1
  have g2 := q1.cell 2
  have g3 := q1.cell 3
  have t0 := q1.frozen 0
  have t1 := q1.frozen 1
  have t2 := q1.frozen 2
  have t3 := q1.frozen 3
  simp at g0 g1 g2 g3
  have BF := Lib.hid (step0 (step0 B1.out hb2) hb)
  clear hb q1
  go_wp2
  refine bodyPost_ret (v := .tuple #[.agg #[.int .i64 0, .int .i64 0, .int .u64 0, .string ⟨([] : List UInt8).toArray⟩], .int .i64 6]) ?_ rfl ⟨rfl, put4 BF.out (Nat.le_succ _) _ _ _ _⟩
  simp [results, Tryz.results51, go_sem, g0, g1, g2, g3]

set_option maxHeartbeats 1000000 in
theorem to_4_5_t (n b : Int) (s : List UInt8) (w : World) (hB : Rl.U b) (hC : Vl.ck 4 n b s = 0) (hl : s.length ≤ 64) (hv : Vl.vd s = true) :
    Calls Tryz.prog 51 #[.agg #[.int .i64 4, .int .i64 n, .int .u64 b, .string ⟨(s : List UInt8).toArray⟩], .int .i64 5] w fun x w' => x = .returned (.tuple #[.agg #[.int .i64 5, .int .i64 0, .int .u64 0, .string ⟨(s : List UInt8).toArray⟩], .int .i64 0]) ∧ Below w.heap.size w w' := by
  have H := Lib.hid (And.intro hB hC)
  have fe := fn_eql
  have fz := nil_eql
  have X := Lib.hid (And.intro hl hv)
  clear hl hv
  clear hB hC
  go_enter Tryz.func51, Tryz.ntmps51
  go_wp2_with fail
  refine (check_is 4 n b 0 s _ H.out.1 H.out.2).mono ?_
  rintro x w1 ⟨rfl, hb⟩
  obtain ⟨q0, q1, qB⟩ := two_boxes hb
  have B1 := Lib.hid qB
  clear hb qB
  go_wp2_with fail
  refine (inTable_t 5 _ (by decide) (by decide)).mono ?_
  rintro x w' ⟨rfl, rfl⟩
  have Q0 := Lib.hid q0
  have Q1 := Lib.hid q1
  have v0 := q0.cell 0
  simp at v0
  clear q0 q1
  go_wp2_with fail
  refine (bt_4_5 _).mono ?_
  rintro x w2 ⟨g, rfl, cT, hb2⟩
  have CT := Lib.hid cT
  clear cT
  have q0 := Q0.out.below hb2
  have v0 := q0.cell 0
  have v1 := q0.cell 1
  have v2 := q0.cell 2
  have v3 := q0.cell 3
  simp at v0 v1 v2 v3
  clear q0
  go_wp2_with fail
  refine (way_bytes_text_t 4 n b 5 s g _ CT.out X.out.1 X.out.2).mono ?_
  rintro x w3 ⟨rfl, hb⟩
  have q1 := (Q1.out.below hb2).below hb
  have g0 := q1.cell 0
  have g1 := q1.cell 1
  have g2 := q1.cell 2
  have g3 := q1.cell 3
  have t0 := q1.frozen 0
  have t1 := q1.frozen 1
  have t2 := q1.frozen 2
  have t3 := q1.frozen 3
  simp at g0 g1 g2 g3
  have BF := Lib.hid (step0 (step0 B1.out hb2) hb)
  clear hb q1
  go_wp2
  refine bodyPost_ret (v := .tuple #[.agg #[.int .i64 5, .int .i64 0, .int .u64 0, .string ⟨(s : List UInt8).toArray⟩], .int .i64 0]) ?_ rfl ⟨rfl, put4 BF.out (Nat.le_succ _) _ _ _ _⟩
  simp [results, Tryz.results51, go_sem, g0, g1, g2, g3]

set_option maxHeartbeats 1000000 in
theorem to_4_5_f (n b : Int) (s : List UInt8) (w : World) (hB : Rl.U b) (hC : Vl.ck 4 n b s = 0) (hl : s.length ≤ 64) (hv : Vl.vd s = false) :
    Calls Tryz.prog 51 #[.agg #[.int .i64 4, .int .i64 n, .int .u64 b, .string ⟨(s : List UInt8).toArray⟩], .int .i64 5] w fun x w' => x = .returned (.tuple #[.agg #[.int .i64 0, .int .i64 0, .int .u64 0, .string ⟨([] : List UInt8).toArray⟩], .int .i64 7]) ∧ Below w.heap.size w w' := by
  have H := Lib.hid (And.intro hB hC)
  have fe := fn_eql
  have fz := nil_eql
  have X := Lib.hid (And.intro hl hv)
  clear hl hv
  clear hB hC
  go_enter Tryz.func51, Tryz.ntmps51
  go_wp2_with fail
  refine (check_is 4 n b 0 s _ H.out.1 H.out.2).mono ?_
  rintro x w1 ⟨rfl, hb⟩
  obtain ⟨q0, q1, qB⟩ := two_boxes hb
  have B1 := Lib.hid qB
  clear hb qB
  go_wp2_with fail
  refine (inTable_t 5 _ (by decide) (by decide)).mono ?_
  rintro x w' ⟨rfl, rfl⟩
  have Q0 := Lib.hid q0
  have Q1 := Lib.hid q1
  have v0 := q0.cell 0
  simp at v0
  clear q0 q1
  go_wp2_with fail
  refine (bt_4_5 _).mono ?_
  rintro x w2 ⟨g, rfl, cT, hb2⟩
  have CT := Lib.hid cT
  clear cT
  have q0 := Q0.out.below hb2
  have v0 := q0.cell 0
  have v1 := q0.cell 1
  have v2 := q0.cell 2
  have v3 := q0.cell 3
  simp at v0 v1 v2 v3
  clear q0
  go_wp2_with fail
  refine (way_bytes_text_f 4 n b 5 s g _ CT.out X.out.1 X.out.2).mono ?_
  rintro x w3 ⟨rfl, hb⟩
  have q1 := (Q1.out.below hb2).below hb
  have g0 := q1.cell 0
  have g1 := q1.cell 1
  have g2 := q1.cell 2
  have g3 := q1.cell 3
  have t0 := q1.frozen 0
  have t1 := q1.frozen 1
  have t2 := q1.frozen 2
  have t3 := q1.frozen 3
  simp at g0 g1 g2 g3
  have BF := Lib.hid (step0 (step0 B1.out hb2) hb)
  clear hb q1
  go_wp2
  refine bodyPost_ret (v := .tuple #[.agg #[.int .i64 0, .int .i64 0, .int .u64 0, .string ⟨([] : List UInt8).toArray⟩], .int .i64 7]) ?_ rfl ⟨rfl, put4 BF.out (Nat.le_succ _) _ _ _ _⟩
  simp [results, Tryz.results51, go_sem, g0, g1, g2, g3]

set_option maxHeartbeats 1000000 in
theorem to_5_1_f (n b : Int) (w : World) (E : Env w) (hB : Rl.U b) (hC : Vl.ck 5 n b [102, 97, 108, 115, 101] = 0) :
    Calls Tryz.prog 51 #[.agg #[.int .i64 5, .int .i64 n, .int .u64 b, .string ⟨([102, 97, 108, 115, 101] : List UInt8).toArray⟩], .int .i64 1] w fun x w' => x = .returned (.tuple #[.agg #[.int .i64 1, .int .i64 0, .int .u64 0, .string ⟨([] : List UInt8).toArray⟩], .int .i64 0]) ∧ Below w.heap.size w w' := by
  have H := Lib.hid (And.intro hB hC)
  have fe := fn_eql
  have fz := nil_eql
  clear hB hC
  go_enter Tryz.func51, Tryz.ntmps51
  go_wp2_with fail
  refine (check_is 5 n b 0 [102, 97, 108, 115, 101] _ H.out.1 H.out.2).mono ?_
  rintro x w1 ⟨rfl, hb⟩
  obtain ⟨q0, q1, qB⟩ := two_boxes hb
  have B1 := Lib.hid qB
  clear hb qB
  go_wp2_with fail
  refine (inTable_t 1 _ (by decide) (by decide)).mono ?_
  rintro x w' ⟨rfl, rfl⟩
  have Q0 := Lib.hid q0
  have Q1 := Lib.hid q1
  have v0 := q0.cell 0
  simp at v0
  clear q0 q1
  go_wp2_with fail
  refine (bt_5_1 _).mono ?_
  rintro x w2 ⟨g, rfl, cT, hb2⟩
  have CT := Lib.hid cT
  clear cT
  have q0 := Q0.out.below hb2
  have v0 := q0.cell 0
  have v1 := q0.cell 1
  have v2 := q0.cell 2
  have v3 := q0.cell 3
  simp at v0 v1 v2 v3
  clear q0
  go_wp2_with fail
  refine (way_text_bool_f 5 n b 1 g _ CT.out (E.below (step0 B1.out hb2))).mono ?_
  rintro x w3 ⟨rfl, hb⟩
  have q1 := (Q1.out.below hb2).below hb
  have g0 := q1.cell 0
  have g1 := q1.cell 1
  have g2 := q1.cell 2
  have g3 := q1.cell 3
  have t0 := q1.frozen 0
  have t1 := q1.frozen 1
  have t2 := q1.frozen 2
  have t3 := q1.frozen 3
  simp at g0 g1 g2 g3
  have BF := Lib.hid (step0 (step0 B1.out hb2) hb)
  clear hb q1
  go_wp2
  refine bodyPost_ret (v := .tuple #[.agg #[.int .i64 1, .int .i64 0, .int .u64 0, .string ⟨([] : List UInt8).toArray⟩], .int .i64 0]) ?_ rfl ⟨rfl, put4 BF.out (Nat.le_succ _) _ _ _ _⟩
  simp [results, Tryz.results51, go_sem, g0, g1, g2, g3]

set_option maxHeartbeats 1000000 in
theorem to_5_1_t (n b : Int) (w : World) (E : Env w) (hB : Rl.U b) (hC : Vl.ck 5 n b [116, 114, 117, 101] = 0) :
    Calls Tryz.prog 51 #[.agg #[.int .i64 5, .int .i64 n, .int .u64 b, .string ⟨([116, 114, 117, 101] : List UInt8).toArray⟩], .int .i64 1] w fun x w' => x = .returned (.tuple #[.agg #[.int .i64 1, .int .i64 1, .int .u64 0, .string ⟨([] : List UInt8).toArray⟩], .int .i64 0]) ∧ Below w.heap.size w w' := by
  have H := Lib.hid (And.intro hB hC)
  have fe := fn_eql
  have fz := nil_eql
  clear hB hC
  go_enter Tryz.func51, Tryz.ntmps51
  go_wp2_with fail
  refine (check_is 5 n b 0 [116, 114, 117, 101] _ H.out.1 H.out.2).mono ?_
  rintro x w1 ⟨rfl, hb⟩
  obtain ⟨q0, q1, qB⟩ := two_boxes hb
  have B1 := Lib.hid qB
  clear hb qB
  go_wp2_with fail
  refine (inTable_t 1 _ (by decide) (by decide)).mono ?_
  rintro x w' ⟨rfl, rfl⟩
  have Q0 := Lib.hid q0
  have Q1 := Lib.hid q1
  have v0 := q0.cell 0
  simp at v0
  clear q0 q1
  go_wp2_with fail
  refine (bt_5_1 _).mono ?_
  rintro x w2 ⟨g, rfl, cT, hb2⟩
  have CT := Lib.hid cT
  clear cT
  have q0 := Q0.out.below hb2
  have v0 := q0.cell 0
  have v1 := q0.cell 1
  have v2 := q0.cell 2
  have v3 := q0.cell 3
  simp at v0 v1 v2 v3
  clear q0
  go_wp2_with fail
  refine (way_text_bool_t 5 n b 1 g _ CT.out (E.below (step0 B1.out hb2))).mono ?_
  rintro x w3 ⟨rfl, hb⟩
  have q1 := (Q1.out.below hb2).below hb
  have g0 := q1.cell 0
  have g1 := q1.cell 1
  have g2 := q1.cell 2
  have g3 := q1.cell 3
  have t0 := q1.frozen 0
  have t1 := q1.frozen 1
  have t2 := q1.frozen 2
  have t3 := q1.frozen 3
  simp at g0 g1 g2 g3
  have BF := Lib.hid (step0 (step0 B1.out hb2) hb)
  clear hb q1
  go_wp2
  refine bodyPost_ret (v := .tuple #[.agg #[.int .i64 1, .int .i64 1, .int .u64 0, .string ⟨([] : List UInt8).toArray⟩], .int .i64 0]) ?_ rfl ⟨rfl, put4 BF.out (Nat.le_succ _) _ _ _ _⟩
  simp [results, Tryz.results51, go_sem, g0, g1, g2, g3]

set_option maxHeartbeats 1000000 in
theorem to_5_1_x (n b : Int) (s : List UInt8) (w : World) (E : Env w) (hB : Rl.U b) (hC : Vl.ck 5 n b s = 0) (n1 : s ≠ [102, 97, 108, 115, 101]) (n2 : s ≠ [116, 114, 117, 101]) :
    Calls Tryz.prog 51 #[.agg #[.int .i64 5, .int .i64 n, .int .u64 b, .string ⟨(s : List UInt8).toArray⟩], .int .i64 1] w fun x w' => x = .returned (.tuple #[.agg #[.int .i64 0, .int .i64 0, .int .u64 0, .string ⟨([] : List UInt8).toArray⟩], .int .i64 7]) ∧ Below w.heap.size w w' := by
  have H := Lib.hid (And.intro hB hC)
  have fe := fn_eql
  have fz := nil_eql
  have X := Lib.hid (And.intro n1 n2)
  clear n1 n2
  clear hB hC
  go_enter Tryz.func51, Tryz.ntmps51
  go_wp2_with fail
  refine (check_is 5 n b 0 s _ H.out.1 H.out.2).mono ?_
  rintro x w1 ⟨rfl, hb⟩
  obtain ⟨q0, q1, qB⟩ := two_boxes hb
  have B1 := Lib.hid qB
  clear hb qB
  go_wp2_with fail
  refine (inTable_t 1 _ (by decide) (by decide)).mono ?_
  rintro x w' ⟨rfl, rfl⟩
  have Q0 := Lib.hid q0
  have Q1 := Lib.hid q1
  have v0 := q0.cell 0
  simp at v0
  clear q0 q1
  go_wp2_with fail
  refine (bt_5_1 _).mono ?_
  rintro x w2 ⟨g, rfl, cT, hb2⟩
  have CT := Lib.hid cT
  clear cT
  have q0 := Q0.out.below hb2
  have v0 := q0.cell 0
  have v1 := q0.cell 1
  have v2 := q0.cell 2
  have v3 := q0.cell 3
  simp at v0 v1 v2 v3
  clear q0
  go_wp2_with fail
  refine (way_text_bool_x 5 n b 1 s g _ CT.out (E.below (step0 B1.out hb2)) X.out.1 X.out.2).mono ?_
  rintro x w3 ⟨rfl, hb⟩
  have q1 := (Q1.out.below hb2).below hb
  have g0 := q1.cell 0
  have g1 := q1.cell 1
  have g2 := q1.cell 2
  have g3 := q1.cell 3
  have t0 := q1.frozen 0
  have t1 := q1.frozen 1
  have t2 := q1.frozen 2
  have t3 := q1.frozen 3
  simp at g0 g1 g2 g3
  have BF := Lib.hid (step0 (step0 B1.out hb2) hb)
  clear hb q1
  go_wp2
  refine bodyPost_ret (v := .tuple #[.agg #[.int .i64 0, .int .i64 0, .int .u64 0, .string ⟨([] : List UInt8).toArray⟩], .int .i64 7]) ?_ rfl ⟨rfl, put4 BF.out (Nat.le_succ _) _ _ _ _⟩
  simp [results, Tryz.results51, go_sem, g0, g1, g2, g3]

set_option maxHeartbeats 1000000 in
theorem to_5_4 (n b : Int) (s : List UInt8) (w : World) (hB : Rl.U b) (hC : Vl.ck 5 n b s = 0) :
    Calls Tryz.prog 51 #[.agg #[.int .i64 5, .int .i64 n, .int .u64 b, .string ⟨(s : List UInt8).toArray⟩], .int .i64 4] w fun x w' => x = .returned (.tuple #[.agg #[.int .i64 4, .int .i64 0, .int .u64 0, .string ⟨(s : List UInt8).toArray⟩], .int .i64 0]) ∧ Below w.heap.size w w' := by
  have H := Lib.hid (And.intro hB hC)
  have fe := fn_eql
  have fz := nil_eql
  clear hB hC
  go_enter Tryz.func51, Tryz.ntmps51
  go_wp2_with fail
  refine (check_is 5 n b 0 s _ H.out.1 H.out.2).mono ?_
  rintro x w1 ⟨rfl, hb⟩
  obtain ⟨q0, q1, qB⟩ := two_boxes hb
  have B1 := Lib.hid qB
  clear hb qB
  go_wp2_with fail
  refine (inTable_t 4 _ (by decide) (by decide)).mono ?_
  rintro x w' ⟨rfl, rfl⟩
  have Q0 := Lib.hid q0
  have Q1 := Lib.hid q1
  have v0 := q0.cell 0
  simp at v0
  clear q0 q1
  go_wp2_with fail
  refine (bt_5_4 _).mono ?_
  rintro x w2 ⟨g, rfl, cT, hb2⟩
  have CT := Lib.hid cT
  clear cT
  have q0 := Q0.out.below hb2
  have v0 := q0.cell 0
  have v1 := q0.cell 1
  have v2 := q0.cell 2
  have v3 := q0.cell 3
  simp at v0 v1 v2 v3
  clear q0
  go_wp2_with fail
  refine (way_text_bytes 5 n b 4 s g _ CT.out).mono ?_
  rintro x w3 ⟨rfl, hb⟩
  have q1 := (Q1.out.below hb2).below hb
  have g0 := q1.cell 0
  have g1 := q1.cell 1
  have g2 := q1.cell 2
  have g3 := q1.cell 3
  have t0 := q1.frozen 0
  have t1 := q1.frozen 1
  have t2 := q1.frozen 2
  have t3 := q1.frozen 3
  simp at g0 g1 g2 g3
  have BF := Lib.hid (step0 (step0 B1.out hb2) hb)
  clear hb q1
  go_wp2
  refine bodyPost_ret (v := .tuple #[.agg #[.int .i64 4, .int .i64 0, .int .u64 0, .string ⟨(s : List UInt8).toArray⟩], .int .i64 0]) ?_ rfl ⟨rfl, put4 BF.out (Nat.le_succ _) _ _ _ _⟩
  simp [results, Tryz.results51, go_sem, g0, g1, g2, g3]

set_option maxHeartbeats 1000000 in
theorem to_1_2 (n b K N B e : Int) (s S : List UInt8) (w : World) (E : Env w) (hB : Rl.U b) (hC : Vl.ck 1 n b s = 0) (hI : Cv.I n) (hr : Cv.ofn n 2 = ⟨K, N, B, S, e⟩) :
    Calls Tryz.prog 51 #[.agg #[.int .i64 1, .int .i64 n, .int .u64 b, .string ⟨(s : List UInt8).toArray⟩], .int .i64 2] w fun x w' => x = .returned (.tuple #[.agg #[.int .i64 K, .int .i64 N, .int .u64 B, .string ⟨(S : List UInt8).toArray⟩], .int .i64 e]) ∧ Below w.heap.size w w' := by
  have H := Lib.hid (And.intro hB hC)
  have fe := fn_eql
  have fz := nil_eql
  have X := Lib.hid (And.intro hI hr)
  clear hI hr
  clear hB hC
  go_enter Tryz.func51, Tryz.ntmps51
  go_wp2_with fail
  refine (check_is 1 n b 0 s _ H.out.1 H.out.2).mono ?_
  rintro x w1 ⟨rfl, hb⟩
  obtain ⟨q0, q1, qB⟩ := two_boxes hb
  have B1 := Lib.hid qB
  clear hb qB
  go_wp2_with fail
  refine (inTable_t 2 _ (by decide) (by decide)).mono ?_
  rintro x w' ⟨rfl, rfl⟩
  have Q0 := Lib.hid q0
  have Q1 := Lib.hid q1
  have v0 := q0.cell 0
  simp at v0
  clear q0 q1
  go_wp2_with fail
  refine (bt_1_2 _).mono ?_
  rintro x w2 ⟨gn, gt, rfl, cN, cT, hb2⟩
  have CT := Lib.hid (And.intro cN cT)
  clear cT cN
  have q0 := Q0.out.below hb2
  have v0 := q0.cell 0
  have v1 := q0.cell 1
  have v2 := q0.cell 2
  have v3 := q0.cell 3
  simp at v0 v1 v2 v3
  clear q0
  go_wp2_with fail
  refine (by_int_t 1 n b 2 K N B e s S gn gt _ (E.below (step0 B1.out hb2)) CT.out.1 CT.out.2 X.out.1 (by decide) (by decide) X.out.2).mono ?_
  rintro x w3 ⟨rfl, hb⟩
  have q1 := (Q1.out.below hb2).below hb
  have g0 := q1.cell 0
  have g1 := q1.cell 1
  have g2 := q1.cell 2
  have g3 := q1.cell 3
  have t0 := q1.frozen 0
  have t1 := q1.frozen 1
  have t2 := q1.frozen 2
  have t3 := q1.frozen 3
  simp at g0 g1 g2 g3
  have BF := Lib.hid (step0 (step0 B1.out hb2) hb)
  clear hb q1
  go_wp2
  refine bodyPost_ret (v := .tuple #[.agg #[.int .i64 K, .int .i64 N, .int .u64 B, .string ⟨(S : List UInt8).toArray⟩], .int .i64 e]) ?_ rfl ⟨rfl, put4 BF.out (Nat.le_succ _) _ _ _ _⟩
  simp [results, Tryz.results51, go_sem, g0, g1, g2, g3]

set_option maxHeartbeats 1000000 in
theorem to_1_3 (n b K N B e : Int) (s S : List UInt8) (w : World) (E : Env w) (hB : Rl.U b) (hC : Vl.ck 1 n b s = 0) (hI : Cv.I n) (hr : Cv.ofn n 3 = ⟨K, N, B, S, e⟩) :
    Calls Tryz.prog 51 #[.agg #[.int .i64 1, .int .i64 n, .int .u64 b, .string ⟨(s : List UInt8).toArray⟩], .int .i64 3] w fun x w' => x = .returned (.tuple #[.agg #[.int .i64 K, .int .i64 N, .int .u64 B, .string ⟨(S : List UInt8).toArray⟩], .int .i64 e]) ∧ Below w.heap.size w w' := by
  have H := Lib.hid (And.intro hB hC)
  have fe := fn_eql
  have fz := nil_eql
  have X := Lib.hid (And.intro hI hr)
  clear hI hr
  clear hB hC
  go_enter Tryz.func51, Tryz.ntmps51
  go_wp2_with fail
  refine (check_is 1 n b 0 s _ H.out.1 H.out.2).mono ?_
  rintro x w1 ⟨rfl, hb⟩
  obtain ⟨q0, q1, qB⟩ := two_boxes hb
  have B1 := Lib.hid qB
  clear hb qB
  go_wp2_with fail
  refine (inTable_t 3 _ (by decide) (by decide)).mono ?_
  rintro x w' ⟨rfl, rfl⟩
  have Q0 := Lib.hid q0
  have Q1 := Lib.hid q1
  have v0 := q0.cell 0
  simp at v0
  clear q0 q1
  go_wp2_with fail
  refine (bt_1_3 _).mono ?_
  rintro x w2 ⟨gn, gt, rfl, cN, cT, hb2⟩
  have CT := Lib.hid (And.intro cN cT)
  clear cT cN
  have q0 := Q0.out.below hb2
  have v0 := q0.cell 0
  have v1 := q0.cell 1
  have v2 := q0.cell 2
  have v3 := q0.cell 3
  simp at v0 v1 v2 v3
  clear q0
  go_wp2_with fail
  refine (by_int_t 1 n b 3 K N B e s S gn gt _ (E.below (step0 B1.out hb2)) CT.out.1 CT.out.2 X.out.1 (by decide) (by decide) X.out.2).mono ?_
  rintro x w3 ⟨rfl, hb⟩
  have q1 := (Q1.out.below hb2).below hb
  have g0 := q1.cell 0
  have g1 := q1.cell 1
  have g2 := q1.cell 2
  have g3 := q1.cell 3
  have t0 := q1.frozen 0
  have t1 := q1.frozen 1
  have t2 := q1.frozen 2
  have t3 := q1.frozen 3
  simp at g0 g1 g2 g3
  have BF := Lib.hid (step0 (step0 B1.out hb2) hb)
  clear hb q1
  go_wp2
  refine bodyPost_ret (v := .tuple #[.agg #[.int .i64 K, .int .i64 N, .int .u64 B, .string ⟨(S : List UInt8).toArray⟩], .int .i64 e]) ?_ rfl ⟨rfl, put4 BF.out (Nat.le_succ _) _ _ _ _⟩
  simp [results, Tryz.results51, go_sem, g0, g1, g2, g3]

set_option maxHeartbeats 1000000 in
theorem to_2_1 (n b K N B e : Int) (s S : List UInt8) (w : World) (E : Env w) (hB : Rl.U b) (hC : Vl.ck 2 n b s = 0) (hI : Cv.I n) (hr : Cv.ofn n 1 = ⟨K, N, B, S, e⟩) :
    Calls Tryz.prog 51 #[.agg #[.int .i64 2, .int .i64 n, .int .u64 b, .string ⟨(s : List UInt8).toArray⟩], .int .i64 1] w fun x w' => x = .returned (.tuple #[.agg #[.int .i64 K, .int .i64 N, .int .u64 B, .string ⟨(S : List UInt8).toArray⟩], .int .i64 e]) ∧ Below w.heap.size w w' := by
  have H := Lib.hid (And.intro hB hC)
  have fe := fn_eql
  have fz := nil_eql
  have X := Lib.hid (And.intro hI hr)
  clear hI hr
  clear hB hC
  go_enter Tryz.func51, Tryz.ntmps51
  go_wp2_with fail
  refine (check_is 2 n b 0 s _ H.out.1 H.out.2).mono ?_
  rintro x w1 ⟨rfl, hb⟩
  obtain ⟨q0, q1, qB⟩ := two_boxes hb
  have B1 := Lib.hid qB
  clear hb qB
  go_wp2_with fail
  refine (inTable_t 1 _ (by decide) (by decide)).mono ?_
  rintro x w' ⟨rfl, rfl⟩
  have Q0 := Lib.hid q0
  have Q1 := Lib.hid q1
  have v0 := q0.cell 0
  simp at v0
  clear q0 q1
  go_wp2_with fail
  refine (bt_2_1 _).mono ?_
  rintro x w2 ⟨gn, gt, rfl, cN, cT, hb2⟩
  have CT := Lib.hid (And.intro cN cT)
  clear cT cN
  have q0 := Q0.out.below hb2
  have v0 := q0.cell 0
  have v1 := q0.cell 1
  have v2 := q0.cell 2
  have v3 := q0.cell 3
  simp at v0 v1 v2 v3
  clear q0
  go_wp2_with fail
  refine (by_int_t 2 n b 1 K N B e s S gn gt _ (E.below (step0 B1.out hb2)) CT.out.1 CT.out.2 X.out.1 (by decide) (by decide) X.out.2).mono ?_
  rintro x w3 ⟨rfl, hb⟩
  have q1 := (Q1.out.below hb2).below hb
  have g0 := q1.cell 0
  have g1 := q1.cell 1
  have g2 := q1.cell 2
  have g3 := q1.cell 3
  have t0 := q1.frozen 0
  have t1 := q1.frozen 1
  have t2 := q1.frozen 2
  have t3 := q1.frozen 3
  simp at g0 g1 g2 g3
  have BF := Lib.hid (step0 (step0 B1.out hb2) hb)
  clear hb q1
  go_wp2
  refine bodyPost_ret (v := .tuple #[.agg #[.int .i64 K, .int .i64 N, .int .u64 B, .string ⟨(S : List UInt8).toArray⟩], .int .i64 e]) ?_ rfl ⟨rfl, put4 BF.out (Nat.le_succ _) _ _ _ _⟩
  simp [results, Tryz.results51, go_sem, g0, g1, g2, g3]

set_option maxHeartbeats 1000000 in
theorem to_2_3 (n b K N B e : Int) (s S : List UInt8) (w : World) (E : Env w) (hB : Rl.U b) (hC : Vl.ck 2 n b s = 0) (hI : Cv.I n) (hr : Cv.ofn n 3 = ⟨K, N, B, S, e⟩) :
    Calls Tryz.prog 51 #[.agg #[.int .i64 2, .int .i64 n, .int .u64 b, .string ⟨(s : List UInt8).toArray⟩], .int .i64 3] w fun x w' => x = .returned (.tuple #[.agg #[.int .i64 K, .int .i64 N, .int .u64 B, .string ⟨(S : List UInt8).toArray⟩], .int .i64 e]) ∧ Below w.heap.size w w' := by
  have H := Lib.hid (And.intro hB hC)
  have fe := fn_eql
  have fz := nil_eql
  have X := Lib.hid (And.intro hI hr)
  clear hI hr
  clear hB hC
  go_enter Tryz.func51, Tryz.ntmps51
  go_wp2_with fail
  refine (check_is 2 n b 0 s _ H.out.1 H.out.2).mono ?_
  rintro x w1 ⟨rfl, hb⟩
  obtain ⟨q0, q1, qB⟩ := two_boxes hb
  have B1 := Lib.hid qB
  clear hb qB
  go_wp2_with fail
  refine (inTable_t 3 _ (by decide) (by decide)).mono ?_
  rintro x w' ⟨rfl, rfl⟩
  have Q0 := Lib.hid q0
  have Q1 := Lib.hid q1
  have v0 := q0.cell 0
  simp at v0
  clear q0 q1
  go_wp2_with fail
  refine (bt_2_3 _).mono ?_
  rintro x w2 ⟨gn, gt, rfl, cN, cT, hb2⟩
  have CT := Lib.hid (And.intro cN cT)
  clear cT cN
  have q0 := Q0.out.below hb2
  have v0 := q0.cell 0
  have v1 := q0.cell 1
  have v2 := q0.cell 2
  have v3 := q0.cell 3
  simp at v0 v1 v2 v3
  clear q0
  go_wp2_with fail
  refine (by_int_t 2 n b 3 K N B e s S gn gt _ (E.below (step0 B1.out hb2)) CT.out.1 CT.out.2 X.out.1 (by decide) (by decide) X.out.2).mono ?_
  rintro x w3 ⟨rfl, hb⟩
  have q1 := (Q1.out.below hb2).below hb
  have g0 := q1.cell 0
  have g1 := q1.cell 1
  have g2 := q1.cell 2
  have g3 := q1.cell 3
  have t0 := q1.frozen 0
  have t1 := q1.frozen 1
  have t2 := q1.frozen 2
  have t3 := q1.frozen 3
  simp at g0 g1 g2 g3
  have BF := Lib.hid (step0 (step0 B1.out hb2) hb)
  clear hb q1
  go_wp2
  refine bodyPost_ret (v := .tuple #[.agg #[.int .i64 K, .int .i64 N, .int .u64 B, .string ⟨(S : List UInt8).toArray⟩], .int .i64 e]) ?_ rfl ⟨rfl, put4 BF.out (Nat.le_succ _) _ _ _ _⟩
  simp [results, Tryz.results51, go_sem, g0, g1, g2, g3]

set_option maxHeartbeats 1000000 in
theorem to_2_4 (n b K N B e : Int) (s S : List UInt8) (w : World) (E : Env w) (hB : Rl.U b) (hC : Vl.ck 2 n b s = 0) (hI : Cv.I n) (hr : Cv.ofn n 4 = ⟨K, N, B, S, e⟩) :
    Calls Tryz.prog 51 #[.agg #[.int .i64 2, .int .i64 n, .int .u64 b, .string ⟨(s : List UInt8).toArray⟩], .int .i64 4] w fun x w' => x = .returned (.tuple #[.agg #[.int .i64 K, .int .i64 N, .int .u64 B, .string ⟨(S : List UInt8).toArray⟩], .int .i64 e]) ∧ Below w.heap.size w w' := by
  have H := Lib.hid (And.intro hB hC)
  have fe := fn_eql
  have fz := nil_eql
  have X := Lib.hid (And.intro hI hr)
  clear hI hr
  clear hB hC
  go_enter Tryz.func51, Tryz.ntmps51
  go_wp2_with fail
  refine (check_is 2 n b 0 s _ H.out.1 H.out.2).mono ?_
  rintro x w1 ⟨rfl, hb⟩
  obtain ⟨q0, q1, qB⟩ := two_boxes hb
  have B1 := Lib.hid qB
  clear hb qB
  go_wp2_with fail
  refine (inTable_t 4 _ (by decide) (by decide)).mono ?_
  rintro x w' ⟨rfl, rfl⟩
  have Q0 := Lib.hid q0
  have Q1 := Lib.hid q1
  have v0 := q0.cell 0
  simp at v0
  clear q0 q1
  go_wp2_with fail
  refine (bt_2_4 _).mono ?_
  rintro x w2 ⟨gn, gt, rfl, cN, cT, hb2⟩
  have CT := Lib.hid (And.intro cN cT)
  clear cT cN
  have q0 := Q0.out.below hb2
  have v0 := q0.cell 0
  have v1 := q0.cell 1
  have v2 := q0.cell 2
  have v3 := q0.cell 3
  simp at v0 v1 v2 v3
  clear q0
  go_wp2_with fail
  refine (by_int_t 2 n b 4 K N B e s S gn gt _ (E.below (step0 B1.out hb2)) CT.out.1 CT.out.2 X.out.1 (by decide) (by decide) X.out.2).mono ?_
  rintro x w3 ⟨rfl, hb⟩
  have q1 := (Q1.out.below hb2).below hb
  have g0 := q1.cell 0
  have g1 := q1.cell 1
  have g2 := q1.cell 2
  have g3 := q1.cell 3
  have t0 := q1.frozen 0
  have t1 := q1.frozen 1
  have t2 := q1.frozen 2
  have t3 := q1.frozen 3
  simp at g0 g1 g2 g3
  have BF := Lib.hid (step0 (step0 B1.out hb2) hb)
  clear hb q1
  go_wp2
  refine bodyPost_ret (v := .tuple #[.agg #[.int .i64 K, .int .i64 N, .int .u64 B, .string ⟨(S : List UInt8).toArray⟩], .int .i64 e]) ?_ rfl ⟨rfl, put4 BF.out (Nat.le_succ _) _ _ _ _⟩
  simp [results, Tryz.results51, go_sem, g0, g1, g2, g3]

set_option maxHeartbeats 1000000 in
theorem to_2_5 (n b K N B e : Int) (s S : List UInt8) (w : World) (E : Env w) (hB : Rl.U b) (hC : Vl.ck 2 n b s = 0) (hI : Cv.I n) (hr : Cv.ofn n 5 = ⟨K, N, B, S, e⟩) :
    Calls Tryz.prog 51 #[.agg #[.int .i64 2, .int .i64 n, .int .u64 b, .string ⟨(s : List UInt8).toArray⟩], .int .i64 5] w fun x w' => x = .returned (.tuple #[.agg #[.int .i64 K, .int .i64 N, .int .u64 B, .string ⟨(S : List UInt8).toArray⟩], .int .i64 e]) ∧ Below w.heap.size w w' := by
  have H := Lib.hid (And.intro hB hC)
  have fe := fn_eql
  have fz := nil_eql
  have X := Lib.hid (And.intro hI hr)
  clear hI hr
  clear hB hC
  go_enter Tryz.func51, Tryz.ntmps51
  go_wp2_with fail
  refine (check_is 2 n b 0 s _ H.out.1 H.out.2).mono ?_
  rintro x w1 ⟨rfl, hb⟩
  obtain ⟨q0, q1, qB⟩ := two_boxes hb
  have B1 := Lib.hid qB
  clear hb qB
  go_wp2_with fail
  refine (inTable_t 5 _ (by decide) (by decide)).mono ?_
  rintro x w' ⟨rfl, rfl⟩
  have Q0 := Lib.hid q0
  have Q1 := Lib.hid q1
  have v0 := q0.cell 0
  simp at v0
  clear q0 q1
  go_wp2_with fail
  refine (bt_2_5 _).mono ?_
  rintro x w2 ⟨gn, gt, rfl, cN, cT, hb2⟩
  have CT := Lib.hid (And.intro cN cT)
  clear cT cN
  have q0 := Q0.out.below hb2
  have v0 := q0.cell 0
  have v1 := q0.cell 1
  have v2 := q0.cell 2
  have v3 := q0.cell 3
  simp at v0 v1 v2 v3
  clear q0
  go_wp2_with fail
  refine (by_int_t 2 n b 5 K N B e s S gn gt _ (E.below (step0 B1.out hb2)) CT.out.1 CT.out.2 X.out.1 (by decide) (by decide) X.out.2).mono ?_
  rintro x w3 ⟨rfl, hb⟩
  have q1 := (Q1.out.below hb2).below hb
  have g0 := q1.cell 0
  have g1 := q1.cell 1
  have g2 := q1.cell 2
  have g3 := q1.cell 3
  have t0 := q1.frozen 0
  have t1 := q1.frozen 1
  have t2 := q1.frozen 2
  have t3 := q1.frozen 3
  simp at g0 g1 g2 g3
  have BF := Lib.hid (step0 (step0 B1.out hb2) hb)
  clear hb q1
  go_wp2
  refine bodyPost_ret (v := .tuple #[.agg #[.int .i64 K, .int .i64 N, .int .u64 B, .string ⟨(S : List UInt8).toArray⟩], .int .i64 e]) ?_ rfl ⟨rfl, put4 BF.out (Nat.le_succ _) _ _ _ _⟩
  simp [results, Tryz.results51, go_sem, g0, g1, g2, g3]

set_option maxHeartbeats 1000000 in
theorem to_3_1_t (n b m K N B e : Int) (s S : List UInt8) (w : World) (E : Env w) (hB : Rl.U b) (hC : Vl.ck 3 n b s = 0) (hm : Rl.ti b = m) (ho : Rl.to b = true) (hI : Cv.I m) (hr : Cv.ofn m 1 = ⟨K, N, B, S, e⟩) :
    Calls Tryz.prog 51 #[.agg #[.int .i64 3, .int .i64 n, .int .u64 b, .string ⟨(s : List UInt8).toArray⟩], .int .i64 1] w fun x w' => x = .returned (.tuple #[.agg #[.int .i64 K, .int .i64 N, .int .u64 B, .string ⟨(S : List UInt8).toArray⟩], .int .i64 e]) ∧ Below w.heap.size w w' := by
  have H := Lib.hid (And.intro hB hC)
  have fe := fn_eql
  have fz := nil_eql
  have X := Lib.hid (And.intro hm (And.intro ho (And.intro hI hr)))
  clear hm ho hI hr
  clear hB hC
  go_enter Tryz.func51, Tryz.ntmps51
  go_wp2_with fail
  refine (check_is 3 n b 0 s _ H.out.1 H.out.2).mono ?_
  rintro x w1 ⟨rfl, hb⟩
  obtain ⟨q0, q1, qB⟩ := two_boxes hb
  have B1 := Lib.hid qB
  clear hb qB
  go_wp2_with fail
  refine (inTable_t 1 _ (by decide) (by decide)).mono ?_
  rintro x w' ⟨rfl, rfl⟩
  have Q0 := Lib.hid q0
  have Q1 := Lib.hid q1
  have v0 := q0.cell 0
  simp at v0
  clear q0 q1
  go_wp2_with fail
  refine (bt_3_1 _).mono ?_
  rintro x w2 ⟨gn, gt, rfl, cN, cT, hb2⟩
  have CT := Lib.hid (And.intro cN cT)
  clear cT cN
  have q0 := Q0.out.below hb2
  have v0 := q0.cell 0
  have v1 := q0.cell 1
  have v2 := q0.cell 2
  have v3 := q0.cell 3
  simp at v0 v1 v2 v3
  clear q0
  go_wp2_with fail
  refine (by_real_t 3 n b m 1 K N B e s S gn gt _ (E.below (step0 B1.out hb2)) CT.out.1 CT.out.2 H.out.1 X.out.1 X.out.2.1 X.out.2.2.1 (by decide) (by decide) X.out.2.2.2).mono ?_
  rintro x w3 ⟨rfl, hb⟩
  have q1 := (Q1.out.below hb2).below hb
  have g0 := q1.cell 0
  have g1 := q1.cell 1
  have g2 := q1.cell 2
  have g3 := q1.cell 3
  have t0 := q1.frozen 0
  have t1 := q1.frozen 1
  have t2 := q1.frozen 2
  have t3 := q1.frozen 3
  simp at g0 g1 g2 g3
  have BF := Lib.hid (step0 (step0 B1.out hb2) hb)
  clear hb q1
  go_wp2
  refine bodyPost_ret (v := .tuple #[.agg #[.int .i64 K, .int .i64 N, .int .u64 B, .string ⟨(S : List UInt8).toArray⟩], .int .i64 e]) ?_ rfl ⟨rfl, put4 BF.out (Nat.le_succ _) _ _ _ _⟩
  simp [results, Tryz.results51, go_sem, g0, g1, g2, g3]

set_option maxHeartbeats 1000000 in
theorem to_3_1_f (n b : Int) (s : List UInt8) (w : World) (E : Env w) (hB : Rl.U b) (hC : Vl.ck 3 n b s = 0) (ho : Rl.to b = false) :
    Calls Tryz.prog 51 #[.agg #[.int .i64 3, .int .i64 n, .int .u64 b, .string ⟨(s : List UInt8).toArray⟩], .int .i64 1] w fun x w' => x = .returned (.tuple #[.agg #[.int .i64 0, .int .i64 0, .int .u64 0, .string ⟨([] : List UInt8).toArray⟩], .int .i64 6]) ∧ Below w.heap.size w w' := by
  have H := Lib.hid (And.intro hB hC)
  have fe := fn_eql
  have fz := nil_eql
  have X := Lib.hid ho
  clear ho
  clear hB hC
  go_enter Tryz.func51, Tryz.ntmps51
  go_wp2_with fail
  refine (check_is 3 n b 0 s _ H.out.1 H.out.2).mono ?_
  rintro x w1 ⟨rfl, hb⟩
  obtain ⟨q0, q1, qB⟩ := two_boxes hb
  have B1 := Lib.hid qB
  clear hb qB
  go_wp2_with fail
  refine (inTable_t 1 _ (by decide) (by decide)).mono ?_
  rintro x w' ⟨rfl, rfl⟩
  have Q0 := Lib.hid q0
  have Q1 := Lib.hid q1
  have v0 := q0.cell 0
  simp at v0
  clear q0 q1
  go_wp2_with fail
  refine (bt_3_1 _).mono ?_
  rintro x w2 ⟨gn, gt, rfl, cN, cT, hb2⟩
  have CT := Lib.hid (And.intro cN cT)
  clear cT cN
  have q0 := Q0.out.below hb2
  have v0 := q0.cell 0
  have v1 := q0.cell 1
  have v2 := q0.cell 2
  have v3 := q0.cell 3
  simp at v0 v1 v2 v3
  clear q0
  go_wp2_with fail
  refine (by_real_f 3 n b s gn gt _ (E.below (step0 B1.out hb2)) CT.out.1 H.out.1 X.out).mono ?_
  rintro x w3 ⟨rfl, hb⟩
  have q1 := (Q1.out.below hb2).below hb
  have g0 := q1.cell 0
  have g1 := q1.cell 1
  have g2 := q1.cell 2
  have g3 := q1.cell 3
  have t0 := q1.frozen 0
  have t1 := q1.frozen 1
  have t2 := q1.frozen 2
  have t3 := q1.frozen 3
  simp at g0 g1 g2 g3
  have BF := Lib.hid (step0 (step0 B1.out hb2) hb)
  clear hb q1
  go_wp2
  refine bodyPost_ret (v := .tuple #[.agg #[.int .i64 0, .int .i64 0, .int .u64 0, .string ⟨([] : List UInt8).toArray⟩], .int .i64 6]) ?_ rfl ⟨rfl, put4 BF.out (Nat.le_succ _) _ _ _ _⟩
  simp [results, Tryz.results51, go_sem, g0, g1, g2, g3]

set_option maxHeartbeats 1000000 in
theorem to_3_2_t (n b m K N B e : Int) (s S : List UInt8) (w : World) (E : Env w) (hB : Rl.U b) (hC : Vl.ck 3 n b s = 0) (hm : Rl.ti b = m) (ho : Rl.to b = true) (hI : Cv.I m) (hr : Cv.ofn m 2 = ⟨K, N, B, S, e⟩) :
    Calls Tryz.prog 51 #[.agg #[.int .i64 3, .int .i64 n, .int .u64 b, .string ⟨(s : List UInt8).toArray⟩], .int .i64 2] w fun x w' => x = .returned (.tuple #[.agg #[.int .i64 K, .int .i64 N, .int .u64 B, .string ⟨(S : List UInt8).toArray⟩], .int .i64 e]) ∧ Below w.heap.size w w' := by
  have H := Lib.hid (And.intro hB hC)
  have fe := fn_eql
  have fz := nil_eql
  have X := Lib.hid (And.intro hm (And.intro ho (And.intro hI hr)))
  clear hm ho hI hr
  clear hB hC
  go_enter Tryz.func51, Tryz.ntmps51
  go_wp2_with fail
  refine (check_is 3 n b 0 s _ H.out.1 H.out.2).mono ?_
  rintro x w1 ⟨rfl, hb⟩
  obtain ⟨q0, q1, qB⟩ := two_boxes hb
  have B1 := Lib.hid qB
  clear hb qB
  go_wp2_with fail
  refine (inTable_t 2 _ (by decide) (by decide)).mono ?_
  rintro x w' ⟨rfl, rfl⟩
  have Q0 := Lib.hid q0
  have Q1 := Lib.hid q1
  have v0 := q0.cell 0
  simp at v0
  clear q0 q1
  go_wp2_with fail
  refine (bt_3_2 _).mono ?_
  rintro x w2 ⟨gn, gt, rfl, cN, cT, hb2⟩
  have CT := Lib.hid (And.intro cN cT)
  clear cT cN
  have q0 := Q0.out.below hb2
  have v0 := q0.cell 0
  have v1 := q0.cell 1
  have v2 := q0.cell 2
  have v3 := q0.cell 3
  simp at v0 v1 v2 v3
  clear q0
  go_wp2_with fail
  refine (by_real_t 3 n b m 2 K N B e s S gn gt _ (E.below (step0 B1.out hb2)) CT.out.1 CT.out.2 H.out.1 X.out.1 X.out.2.1 X.out.2.2.1 (by decide) (by decide) X.out.2.2.2).mono ?_
  rintro x w3 ⟨rfl, hb⟩
  have q1 := (Q1.out.below hb2).below hb
  have g0 := q1.cell 0
  have g1 := q1.cell 1
  have g2 := q1.cell 2
  have g3 := q1.cell 3
  have t0 := q1.frozen 0
  have t1 := q1.frozen 1
  have t2 := q1.frozen 2
  have t3 := q1.frozen 3
  simp at g0 g1 g2 g3
  have BF := Lib.hid (step0 (step0 B1.out hb2) hb)
  clear hb q1
  go_wp2
  refine bodyPost_ret (v := .tuple #[.agg #[.int .i64 K, .int .i64 N, .int .u64 B, .string ⟨(S : List UInt8).toArray⟩], .int .i64 e]) ?_ rfl ⟨rfl, put4 BF.out (Nat.le_succ _) _ _ _ _⟩
  simp [results, Tryz.results51, go_sem, g0, g1, g2, g3]

set_option maxHeartbeats 1000000 in
theorem to_3_2_f (n b : Int) (s : List UInt8) (w : World) (E : Env w) (hB : Rl.U b) (hC : Vl.ck 3 n b s = 0) (ho : Rl.to b = false) :
    Calls Tryz.prog 51 #[.agg #[.int .i64 3, .int .i64 n, .int .u64 b, .string ⟨(s : List UInt8).toArray⟩], .int .i64 2] w fun x w' => x = .returned (.tuple #[.agg #[.int .i64 0, .int .i64 0, .int .u64 0, .string ⟨([] : List UInt8).toArray⟩], .int .i64 6]) ∧ Below w.heap.size w w' := by
  have H := Lib.hid (And.intro hB hC)
  have fe := fn_eql
  have fz := nil_eql
  have X := Lib.hid ho
  clear ho
  clear hB hC
  go_enter Tryz.func51, Tryz.ntmps51
  go_wp2_with fail
  refine (check_is 3 n b 0 s _ H.out.1 H.out.2).mono ?_
  rintro x w1 ⟨rfl, hb⟩
  obtain ⟨q0, q1, qB⟩ := two_boxes hb
  have B1 := Lib.hid qB
  clear hb qB
  go_wp2_with fail
  refine (inTable_t 2 _ (by decide) (by decide)).mono ?_
  rintro x w' ⟨rfl, rfl⟩
  have Q0 := Lib.hid q0
  have Q1 := Lib.hid q1
  have v0 := q0.cell 0
  simp at v0
  clear q0 q1
  go_wp2_with fail
  refine (bt_3_2 _).mono ?_
  rintro x w2 ⟨gn, gt, rfl, cN, cT, hb2⟩
  have CT := Lib.hid (And.intro cN cT)
  clear cT cN
  have q0 := Q0.out.below hb2
  have v0 := q0.cell 0
  have v1 := q0.cell 1
  have v2 := q0.cell 2
  have v3 := q0.cell 3
  simp at v0 v1 v2 v3
  clear q0
  go_wp2_with fail
  refine (by_real_f 3 n b s gn gt _ (E.below (step0 B1.out hb2)) CT.out.1 H.out.1 X.out).mono ?_
  rintro x w3 ⟨rfl, hb⟩
  have q1 := (Q1.out.below hb2).below hb
  have g0 := q1.cell 0
  have g1 := q1.cell 1
  have g2 := q1.cell 2
  have g3 := q1.cell 3
  have t0 := q1.frozen 0
  have t1 := q1.frozen 1
  have t2 := q1.frozen 2
  have t3 := q1.frozen 3
  simp at g0 g1 g2 g3
  have BF := Lib.hid (step0 (step0 B1.out hb2) hb)
  clear hb q1
  go_wp2
  refine bodyPost_ret (v := .tuple #[.agg #[.int .i64 0, .int .i64 0, .int .u64 0, .string ⟨([] : List UInt8).toArray⟩], .int .i64 6]) ?_ rfl ⟨rfl, put4 BF.out (Nat.le_succ _) _ _ _ _⟩
  simp [results, Tryz.results51, go_sem, g0, g1, g2, g3]

set_option maxHeartbeats 1000000 in
theorem to_4_2_t (n b m K N B e : Int) (s S : List UInt8) (w : World) (E : Env w) (hB : Rl.U b) (hC : Vl.ck 4 n b s = 0) (h8 : s.length = 8) (hm : Cv.i64 (Kc.nm s) = m) (hI : Cv.I m) (hr : Cv.ofn m 2 = ⟨K, N, B, S, e⟩) :
    Calls Tryz.prog 51 #[.agg #[.int .i64 4, .int .i64 n, .int .u64 b, .string ⟨(s : List UInt8).toArray⟩], .int .i64 2] w fun x w' => x = .returned (.tuple #[.agg #[.int .i64 K, .int .i64 N, .int .u64 B, .string ⟨(S : List UInt8).toArray⟩], .int .i64 e]) ∧ Below w.heap.size w w' := by
  have H := Lib.hid (And.intro hB hC)
  have fe := fn_eql
  have fz := nil_eql
  have X := Lib.hid (And.intro h8 (And.intro hm (And.intro hI hr)))
  clear h8 hm hI hr
  clear hB hC
  go_enter Tryz.func51, Tryz.ntmps51
  go_wp2_with fail
  refine (check_is 4 n b 0 s _ H.out.1 H.out.2).mono ?_
  rintro x w1 ⟨rfl, hb⟩
  obtain ⟨q0, q1, qB⟩ := two_boxes hb
  have B1 := Lib.hid qB
  clear hb qB
  go_wp2_with fail
  refine (inTable_t 2 _ (by decide) (by decide)).mono ?_
  rintro x w' ⟨rfl, rfl⟩
  have Q0 := Lib.hid q0
  have Q1 := Lib.hid q1
  have v0 := q0.cell 0
  simp at v0
  clear q0 q1
  go_wp2_with fail
  refine (bt_4_2 _).mono ?_
  rintro x w2 ⟨gn, gt, rfl, cN, cT, hb2⟩
  have CT := Lib.hid (And.intro cN cT)
  clear cT cN
  have q0 := Q0.out.below hb2
  have v0 := q0.cell 0
  have v1 := q0.cell 1
  have v2 := q0.cell 2
  have v3 := q0.cell 3
  simp at v0 v1 v2 v3
  clear q0
  go_wp2_with fail
  refine (by_bytes_t 4 n b m 2 K N B e s S gn gt _ (E.below (step0 B1.out hb2)) CT.out.1 CT.out.2 X.out.1 X.out.2.1 X.out.2.2.1 (by decide) (by decide) X.out.2.2.2).mono ?_
  rintro x w3 ⟨rfl, hb⟩
  have q1 := (Q1.out.below hb2).below hb
  have g0 := q1.cell 0
  have g1 := q1.cell 1
  have g2 := q1.cell 2
  have g3 := q1.cell 3
  have t0 := q1.frozen 0
  have t1 := q1.frozen 1
  have t2 := q1.frozen 2
  have t3 := q1.frozen 3
  simp at g0 g1 g2 g3
  have BF := Lib.hid (step0 (step0 B1.out hb2) hb)
  clear hb q1
  go_wp2
  refine bodyPost_ret (v := .tuple #[.agg #[.int .i64 K, .int .i64 N, .int .u64 B, .string ⟨(S : List UInt8).toArray⟩], .int .i64 e]) ?_ rfl ⟨rfl, put4 BF.out (Nat.le_succ _) _ _ _ _⟩
  simp [results, Tryz.results51, go_sem, g0, g1, g2, g3]

set_option maxHeartbeats 1000000 in
theorem to_4_2_f (n b : Int) (s : List UInt8) (w : World) (E : Env w) (hB : Rl.U b) (hC : Vl.ck 4 n b s = 0) (h8 : s.length ≠ 8) :
    Calls Tryz.prog 51 #[.agg #[.int .i64 4, .int .i64 n, .int .u64 b, .string ⟨(s : List UInt8).toArray⟩], .int .i64 2] w fun x w' => x = .returned (.tuple #[.agg #[.int .i64 0, .int .i64 0, .int .u64 0, .string ⟨([] : List UInt8).toArray⟩], .int .i64 6]) ∧ Below w.heap.size w w' := by
  have H := Lib.hid (And.intro hB hC)
  have fe := fn_eql
  have fz := nil_eql
  have X := Lib.hid h8
  clear h8
  clear hB hC
  go_enter Tryz.func51, Tryz.ntmps51
  go_wp2_with fail
  refine (check_is 4 n b 0 s _ H.out.1 H.out.2).mono ?_
  rintro x w1 ⟨rfl, hb⟩
  obtain ⟨q0, q1, qB⟩ := two_boxes hb
  have B1 := Lib.hid qB
  clear hb qB
  go_wp2_with fail
  refine (inTable_t 2 _ (by decide) (by decide)).mono ?_
  rintro x w' ⟨rfl, rfl⟩
  have Q0 := Lib.hid q0
  have Q1 := Lib.hid q1
  have v0 := q0.cell 0
  simp at v0
  clear q0 q1
  go_wp2_with fail
  refine (bt_4_2 _).mono ?_
  rintro x w2 ⟨gn, gt, rfl, cN, cT, hb2⟩
  have CT := Lib.hid (And.intro cN cT)
  clear cT cN
  have q0 := Q0.out.below hb2
  have v0 := q0.cell 0
  have v1 := q0.cell 1
  have v2 := q0.cell 2
  have v3 := q0.cell 3
  simp at v0 v1 v2 v3
  clear q0
  go_wp2_with fail
  refine (by_bytes_f 4 n b s gn gt _ (E.below (step0 B1.out hb2)) CT.out.1 X.out).mono ?_
  rintro x w3 ⟨rfl, hb⟩
  have q1 := (Q1.out.below hb2).below hb
  have g0 := q1.cell 0
  have g1 := q1.cell 1
  have g2 := q1.cell 2
  have g3 := q1.cell 3
  have t0 := q1.frozen 0
  have t1 := q1.frozen 1
  have t2 := q1.frozen 2
  have t3 := q1.frozen 3
  simp at g0 g1 g2 g3
  have BF := Lib.hid (step0 (step0 B1.out hb2) hb)
  clear hb q1
  go_wp2
  refine bodyPost_ret (v := .tuple #[.agg #[.int .i64 0, .int .i64 0, .int .u64 0, .string ⟨([] : List UInt8).toArray⟩], .int .i64 6]) ?_ rfl ⟨rfl, put4 BF.out (Nat.le_succ _) _ _ _ _⟩
  simp [results, Tryz.results51, go_sem, g0, g1, g2, g3]

set_option maxHeartbeats 1000000 in
theorem to_5_2_t (n b m K N B e : Int) (s S : List UInt8) (w : World) (E : Env w) (hB : Rl.U b) (hC : Vl.ck 5 n b s = 0) (hl : s.length ≤ 64) (hm : Cv.num s = some m) (hI : Cv.I m) (hr : Cv.ofn m 2 = ⟨K, N, B, S, e⟩) :
    Calls Tryz.prog 51 #[.agg #[.int .i64 5, .int .i64 n, .int .u64 b, .string ⟨(s : List UInt8).toArray⟩], .int .i64 2] w fun x w' => x = .returned (.tuple #[.agg #[.int .i64 K, .int .i64 N, .int .u64 B, .string ⟨(S : List UInt8).toArray⟩], .int .i64 e]) ∧ Below w.heap.size w w' := by
  have H := Lib.hid (And.intro hB hC)
  have fe := fn_eql
  have fz := nil_eql
  have X := Lib.hid (And.intro hl (And.intro hm (And.intro hI hr)))
  clear hl hm hI hr
  clear hB hC
  go_enter Tryz.func51, Tryz.ntmps51
  go_wp2_with fail
  refine (check_is 5 n b 0 s _ H.out.1 H.out.2).mono ?_
  rintro x w1 ⟨rfl, hb⟩
  obtain ⟨q0, q1, qB⟩ := two_boxes hb
  have B1 := Lib.hid qB
  clear hb qB
  go_wp2_with fail
  refine (inTable_t 2 _ (by decide) (by decide)).mono ?_
  rintro x w' ⟨rfl, rfl⟩
  have Q0 := Lib.hid q0
  have Q1 := Lib.hid q1
  have v0 := q0.cell 0
  simp at v0
  clear q0 q1
  go_wp2_with fail
  refine (bt_5_2 _).mono ?_
  rintro x w2 ⟨gn, gt, rfl, cN, cT, hb2⟩
  have CT := Lib.hid (And.intro cN cT)
  clear cT cN
  have q0 := Q0.out.below hb2
  have v0 := q0.cell 0
  have v1 := q0.cell 1
  have v2 := q0.cell 2
  have v3 := q0.cell 3
  simp at v0 v1 v2 v3
  clear q0
  go_wp2_with fail
  refine (by_text_t 5 n b m 2 K N B e s S gn gt _ (E.below (step0 B1.out hb2)) CT.out.1 CT.out.2 X.out.1 X.out.2.1 X.out.2.2.1 (by decide) (by decide) X.out.2.2.2).mono ?_
  rintro x w3 ⟨rfl, hb⟩
  have q1 := (Q1.out.below hb2).below hb
  have g0 := q1.cell 0
  have g1 := q1.cell 1
  have g2 := q1.cell 2
  have g3 := q1.cell 3
  have t0 := q1.frozen 0
  have t1 := q1.frozen 1
  have t2 := q1.frozen 2
  have t3 := q1.frozen 3
  simp at g0 g1 g2 g3
  have BF := Lib.hid (step0 (step0 B1.out hb2) hb)
  clear hb q1
  go_wp2
  refine bodyPost_ret (v := .tuple #[.agg #[.int .i64 K, .int .i64 N, .int .u64 B, .string ⟨(S : List UInt8).toArray⟩], .int .i64 e]) ?_ rfl ⟨rfl, put4 BF.out (Nat.le_succ _) _ _ _ _⟩
  simp [results, Tryz.results51, go_sem, g0, g1, g2, g3]

set_option maxHeartbeats 1000000 in
theorem to_5_2_f (n b : Int) (s : List UInt8) (w : World) (E : Env w) (hB : Rl.U b) (hC : Vl.ck 5 n b s = 0) (hl : s.length ≤ 64) (hm : Cv.num s = none) :
    Calls Tryz.prog 51 #[.agg #[.int .i64 5, .int .i64 n, .int .u64 b, .string ⟨(s : List UInt8).toArray⟩], .int .i64 2] w fun x w' => x = .returned (.tuple #[.agg #[.int .i64 0, .int .i64 0, .int .u64 0, .string ⟨([] : List UInt8).toArray⟩], .int .i64 7]) ∧ Below w.heap.size w w' := by
  have H := Lib.hid (And.intro hB hC)
  have fe := fn_eql
  have fz := nil_eql
  have X := Lib.hid (And.intro hl hm)
  clear hl hm
  clear hB hC
  go_enter Tryz.func51, Tryz.ntmps51
  go_wp2_with fail
  refine (check_is 5 n b 0 s _ H.out.1 H.out.2).mono ?_
  rintro x w1 ⟨rfl, hb⟩
  obtain ⟨q0, q1, qB⟩ := two_boxes hb
  have B1 := Lib.hid qB
  clear hb qB
  go_wp2_with fail
  refine (inTable_t 2 _ (by decide) (by decide)).mono ?_
  rintro x w' ⟨rfl, rfl⟩
  have Q0 := Lib.hid q0
  have Q1 := Lib.hid q1
  have v0 := q0.cell 0
  simp at v0
  clear q0 q1
  go_wp2_with fail
  refine (bt_5_2 _).mono ?_
  rintro x w2 ⟨gn, gt, rfl, cN, cT, hb2⟩
  have CT := Lib.hid (And.intro cN cT)
  clear cT cN
  have q0 := Q0.out.below hb2
  have v0 := q0.cell 0
  have v1 := q0.cell 1
  have v2 := q0.cell 2
  have v3 := q0.cell 3
  simp at v0 v1 v2 v3
  clear q0
  go_wp2_with fail
  refine (by_text_f 5 n b s gn gt _ (E.below (step0 B1.out hb2)) CT.out.1 X.out.1 X.out.2).mono ?_
  rintro x w3 ⟨rfl, hb⟩
  have q1 := (Q1.out.below hb2).below hb
  have g0 := q1.cell 0
  have g1 := q1.cell 1
  have g2 := q1.cell 2
  have g3 := q1.cell 3
  have t0 := q1.frozen 0
  have t1 := q1.frozen 1
  have t2 := q1.frozen 2
  have t3 := q1.frozen 3
  simp at g0 g1 g2 g3
  have BF := Lib.hid (step0 (step0 B1.out hb2) hb)
  clear hb q1
  go_wp2
  refine bodyPost_ret (v := .tuple #[.agg #[.int .i64 0, .int .i64 0, .int .u64 0, .string ⟨([] : List UInt8).toArray⟩], .int .i64 7]) ?_ rfl ⟨rfl, put4 BF.out (Nat.le_succ _) _ _ _ _⟩
  simp [results, Tryz.results51, go_sem, g0, g1, g2, g3]

theorem ti_I (b : Int) : Cv.I (Rl.ti b) := by
  unfold Cv.I Rl.ti
  split
  · omega
  · split
    · rename_i h
      have h2 : (if b < 9223372036854775808 then decide (Rl.wv b < 9223372036854775808) else decide (Rl.wv b ≤ 9223372036854775808)) = true := by
        unfold Rl.io at h; simp only [Bool.and_eq_true] at h; exact h.2
      split
      · rename_i g; rw [if_pos g, decide_eq_true_eq] at h2; omega
      · rename_i g; rw [if_neg g, decide_eq_true_eq] at h2; omega
    · omega
theorem i64_I (u : Nat) : Cv.I (Cv.i64 u) := by unfold Cv.I Cv.i64 wrap64; omega

/-- What To answers, in all. -/
theorem to_is (k n b : Int) (s : List UInt8) (kd : Int) (r : Cv.R) (w : World) (E : Env w) (hB : Rl.U b) (hI : Cv.I n) (hr : Cv.to k n b s kd = r) :
    Calls Tryz.prog 51 #[.agg #[.int .i64 k, .int .i64 n, .int .u64 b, .string ⟨(s : List UInt8).toArray⟩], .int .i64 kd] w fun x w' => x = .returned (.tuple #[.agg #[.int .i64 r.k, .int .i64 r.n, .int .u64 r.b, .string ⟨r.s.toArray⟩], .int .i64 r.e]) ∧ Below w.heap.size w w' := by
  subst hr
  by_cases hC : Vl.ck k n b s = 0
  case neg => rw [show Cv.to k n b s kd = Cv.er (Vl.ck k n b s) by unfold Cv.to; rw [if_pos hC]]; exact to_bad k n b _ s kd w hB rfl hC
  have T : Cv.to k n b s kd = if kd < 1 ∨ 5 < kd then Cv.er 5 else if k = 0 ∨ k = kd then ⟨k, n, b, s, 0⟩ else if k = 1 then Cv.fB n kd else if k = 2 then Cv.ofn n kd else if k = 3 then Cv.fR b kd else if k = 4 then Cv.fY s kd else Cv.fT s kd := by
    unfold Cv.to; rw [if_neg (by simp [hC])]
  rw [T]
  clear T
  by_cases hk : kd < 1 ∨ 5 < kd
  · rw [if_pos hk]; exact to_out k n b s kd w hB hC hk
  rw [if_neg hk]
  obtain ⟨k0, k5, hn, hb, hs, h1, hc, hl⟩ := Vl.ck_ok hC
  by_cases hz : k = 0
  · subst hz; rw [if_pos (.inl rfl)]; exact to_null n b s kd w hB hC (by omega) (by omega)
  by_cases hd : k = kd
  · subst hd; rw [if_pos (.inr rfl)]; exact to_same k n b s w hB hC (by omega) (by omega)
  rw [if_neg (by omega)]
  have ca : k = 1 ∨ k = 2 ∨ k = 3 ∨ k = 4 ∨ k = 5 := by omega
  have cb : kd = 1 ∨ kd = 2 ∨ kd = 3 ∨ kd = 4 ∨ kd = 5 := by omega
  rcases ca with rfl | rfl | rfl | rfl | rfl
  · rw [if_pos rfl]
    rcases cb with rfl | rfl | rfl | rfl | rfl
    · exact absurd rfl hd
    · exact to_1_2 n b _ _ _ _ s _ w E hB hC hI rfl
    · exact to_1_3 n b _ _ _ _ s _ w E hB hC hI rfl
    · exact to_1_4 n b s w hB hC
    · rcases h1 rfl with rfl | rfl
      · exact to_1_5_0 b s w E hB hC
      · exact to_1_5_1 b s w E hB hC
  · rw [if_neg (by decide), if_pos rfl]
    rcases cb with rfl | rfl | rfl | rfl | rfl
    · exact to_2_1 n b _ _ _ _ s _ w E hB hC hI rfl
    · exact absurd rfl hd
    · exact to_2_3 n b _ _ _ _ s _ w E hB hC hI rfl
    · exact to_2_4 n b _ _ _ _ s _ w E hB hC hI rfl
    · exact to_2_5 n b _ _ _ _ s _ w E hB hC hI rfl
  · rw [if_neg (by decide), if_neg (by decide), if_pos rfl]
    rcases cb with rfl | rfl | rfl | rfl | rfl
    · cases o : Rl.to b with
      | true => rw [show Cv.fR b 1 = Cv.ofn (Rl.ti b) 1 by unfold Cv.fR; rw [if_pos (by decide), if_pos o]]; exact to_3_1_t n b _ _ _ _ _ s _ w E hB hC rfl o (ti_I b) rfl
      | false => rw [show Cv.fR b 1 = Cv.er 6 by unfold Cv.fR; rw [if_pos (by decide), if_neg (by rw [o]; simp)]]; exact to_3_1_f n b s w E hB hC o
    · cases o : Rl.to b with
      | true => rw [show Cv.fR b 2 = Cv.ofn (Rl.ti b) 2 by unfold Cv.fR; rw [if_pos (by decide), if_pos o]]; exact to_3_2_t n b _ _ _ _ _ s _ w E hB hC rfl o (ti_I b) rfl
      | false => rw [show Cv.fR b 2 = Cv.er 6 by unfold Cv.fR; rw [if_pos (by decide), if_neg (by rw [o]; simp)]]; exact to_3_2_f n b s w E hB hC o
    · exact absurd rfl hd
    · exact to_3_4 n b s _ w hB hC rfl
    · exact to_3_5 n b s w hB hC
  · rw [if_neg (by decide), if_neg (by decide), if_neg (by decide), if_pos rfl]
    rcases cb with rfl | rfl | rfl | rfl | rfl
    · exact to_4_1 n b s w hB hC
    · by_cases h8 : s.length = 8
      · rw [show Cv.fY s 2 = Cv.ofn (Cv.i64 (Kc.nm s)) 2 by unfold Cv.fY; rw [if_pos rfl, if_pos h8]; rfl]; exact to_4_2_t n b _ _ _ _ _ s _ w E hB hC h8 rfl (i64_I _) rfl
      · rw [show Cv.fY s 2 = Cv.er 6 by unfold Cv.fY; rw [if_pos rfl, if_neg h8]]; exact to_4_2_f n b s w E hB hC h8
    · by_cases h8 : s.length = 8
      · rw [show Cv.fY s 3 = ⟨3, 0, Rl.cn (Kc.nm s), [], 0⟩ by unfold Cv.fY; rw [if_neg (by decide), if_pos rfl, if_pos h8]]; exact to_4_3_t n b _ s w hB hC h8 rfl
      · rw [show Cv.fY s 3 = Cv.er 6 by unfold Cv.fY; rw [if_neg (by decide), if_pos rfl, if_neg h8]]; exact to_4_3_f n b s w hB hC h8
    · exact absurd rfl hd
    · cases v : Vl.vd s with
      | true => rw [show Cv.fY s 5 = ⟨5, 0, 0, s, 0⟩ by unfold Cv.fY; rw [if_neg (by decide), if_neg (by decide), if_pos rfl, if_pos v]]; exact to_4_5_t n b s w hB hC hl v
      | false => rw [show Cv.fY s 5 = Cv.er 7 by unfold Cv.fY; rw [if_neg (by decide), if_neg (by decide), if_pos rfl, if_neg (by rw [v]; simp)]]; exact to_4_5_f n b s w hB hC hl v
  · rw [if_neg (by decide), if_neg (by decide), if_neg (by decide), if_neg (by decide)]
    rcases cb with rfl | rfl | rfl | rfl | rfl
    · by_cases s1 : s = [102, 97, 108, 115, 101]
      · subst s1; exact to_5_1_f n b w E hB hC
      by_cases s2 : s = [116, 114, 117, 101]
      · subst s2; exact to_5_1_t n b w E hB hC
      · rw [show Cv.fT s 1 = Cv.er 7 by unfold Cv.fT; rw [if_pos rfl, if_neg s1, if_neg s2]]; exact to_5_1_x n b s w E hB hC s1 s2
    · cases m : Cv.num s with
      | some v => rw [show Cv.fT s 2 = Cv.ofn v 2 by unfold Cv.fT; rw [if_neg (by decide), if_pos rfl, m]; rfl]; exact to_5_2_t n b _ _ _ _ _ s _ w E hB hC hl m (Cv.num_some m).2 rfl
      | none => rw [show Cv.fT s 2 = Cv.er 7 by unfold Cv.fT; rw [if_neg (by decide), if_pos rfl, m]]; exact to_5_2_f n b s w E hB hC hl m
    · exact to_5_3 n b s w hB hC
    · exact to_5_4 n b s w hB hC
    · exact absurd rfl hd

theorem to_l (k n b : Int) (s : List UInt8) (kd K N B e : Int) (S : List UInt8) (w : World) (E : Env w) (hB : Rl.U b) (hI : Cv.I n) (hr : Cv.to k n b s kd = ⟨K, N, B, S, e⟩) :
    Calls Tryz.prog 51 #[.agg #[.int .i64 k, .int .i64 n, .int .u64 b, .string ⟨(s : List UInt8).toArray⟩], .int .i64 kd] w fun x w' => x = .returned (.tuple #[.agg #[.int .i64 K, .int .i64 N, .int .u64 B, .string ⟨(S : List UInt8).toArray⟩], .int .i64 e]) ∧ Below w.heap.size w w' := to_is k n b s kd _ w E hB hI hr

end Go.Proofs.YtdonmbmahcjfbaaGreatDoor.Km
