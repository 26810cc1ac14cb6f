/-
  What the closure that byNumber hands out answers, over each of the closures that tell a value's number. Condition: the library's tables and variables hold what their initialisers lay; the captured variables hold what is said.
-/
import Derived.Test.YtdonmbmahcjfbaaGreatDoorCvWays
namespace Go.Proofs.YtdonmbmahcjfbaaGreatDoor.Km
open Go.RowKit

theorem of_l (n kind K N B e : Int) (S : List UInt8) (w : World) (h : Cv.I n) (E : Env w) (h0 : 1 ≤ kind) (h1 : kind ≤ 5) (hr : Cv.ofn n kind = ⟨K, N, B, S, e⟩) :
    Calls Tryz.prog 140 #[.int .i64 n, .int .i64 kind] w fun x w' => x = .returned (.tuple #[.agg #[.int .i64 K, .int .i64 N, .int .u64 B, .string ⟨(S : List UInt8).toArray⟩], .int .i64 e]) ∧ Below w.heap.size w w' := of_is n kind _ w h E h0 h1 hr

set_option maxHeartbeats 1000000 in
theorem by_int_t (k n b kd K N B e : Int) (s S : List UInt8) (gn gt : Nat) (w : World) (E : Env w) (cN : w.cell? ⟨gn, 0, none⟩ = some (.func (.func 120) #[] #[])) (cT : w.cell? ⟨gt, 0, none⟩ = some (.int .i64 kd))  (hI : Cv.I n) (h0 : 1 ≤ kd) (h1 : kd ≤ 5) (hr : Cv.ofn n kd = ⟨K, N, B, S, e⟩) :
    Calls Tryz.prog 139 #[.agg #[.int .i64 k, .int .i64 n, .int .u64 b, .string ⟨(s : List UInt8).toArray⟩], .pointer (some ⟨gn, 0, none⟩), .pointer (some ⟨gt, 0, none⟩)] w fun x w' => x = .returned (.tuple #[.agg #[.int .i64 K, .int .i64 N, .int .u64 B, .string ⟨(S : List UInt8).toArray⟩], .int .i64 e]) ∧ Below w.heap.size w w' := by
  have c2 := fun o p => cap2 cN o p
  have C := Lib.hid cT
  have E2 := fun o p => E.below (below2s w o p)
  have H := Lib.hid (And.intro hI (And.intro h0 (And.intro h1 hr)))
  clear cT cN hI h0 h1 hr 
  go_enter Tryz.func139, Tryz.ntmps139
  go_wp2_with fail
  refine (num_int k n b s _).mono ?_
  rintro x w1 ⟨rfl, hb⟩
  have cT := cap2b C.out hb
  obtain ⟨q0, q1, qB⟩ := two_boxes hb
  have B1 := Lib.hid qB
  have Q1 := Lib.hid q1
  clear hb q0 q1 qB c2 E2
  go_wp2_with fail
  refine (of_l n kd K N B e S _ H.out.1 (E.below B1.out) H.out.2.1 H.out.2.2.1 H.out.2.2.2).mono ?_
  rintro x w2 ⟨rfl, hb⟩
  have q1 := Q1.out.below hb
  have g0 := q1.cell 0
  have g1 := q1.cell 1
  have g2 := q1.cell 2
  have g3 := q1.cell 3
  have t0 := q1.frozen 0
  have t1 := q1.frozen 1
  have t2 := q1.frozen 2
  have t3 := q1.frozen 3
  simp at g0 g1 g2 g3
  have BF := Lib.hid (step0 B1.out hb)
  clear hb q1 cT
  go_wp2
  refine bodyPost_ret (v := .tuple #[.agg #[.int .i64 K, .int .i64 N, .int .u64 B, .string ⟨(S : List UInt8).toArray⟩], .int .i64 e]) ?_ rfl ⟨rfl, put4 BF.out (Nat.le_succ _) _ _ _ _⟩
  simp [results, Tryz.results139, go_sem, g0, g1, g2, g3]

set_option maxHeartbeats 1000000 in
theorem by_real_t (k n b m kd K N B e : Int) (s S : List UInt8) (gn gt : Nat) (w : World) (E : Env w) (cN : w.cell? ⟨gn, 0, none⟩ = some (.func (.func 121) #[] #[])) (cT : w.cell? ⟨gt, 0, none⟩ = some (.int .i64 kd)) (hU : Rl.U b) (hm : Rl.ti b = m) (ho : Rl.to b = true) (hI : Cv.I m) (h0 : 1 ≤ kd) (h1 : kd ≤ 5) (hr : Cv.ofn m kd = ⟨K, N, B, S, e⟩) :
    Calls Tryz.prog 139 #[.agg #[.int .i64 k, .int .i64 n, .int .u64 b, .string ⟨(s : List UInt8).toArray⟩], .pointer (some ⟨gn, 0, none⟩), .pointer (some ⟨gt, 0, none⟩)] w fun x w' => x = .returned (.tuple #[.agg #[.int .i64 K, .int .i64 N, .int .u64 B, .string ⟨(S : List UInt8).toArray⟩], .int .i64 e]) ∧ Below w.heap.size w w' := by
  have c2 := fun o p => cap2 cN o p
  have C := Lib.hid cT
  have E2 := fun o p => E.below (below2s w o p)
  have H := Lib.hid (And.intro hI (And.intro h0 (And.intro h1 hr)))
  have X := Lib.hid (And.intro hU (And.intro hm ho))
  clear cT cN hI h0 h1 hr hU hm ho
  go_enter Tryz.func139, Tryz.ntmps139
  go_wp2_with fail
  refine (num_real_t k n b m s _ X.out.1 (E2 _ _) X.out.2.1 X.out.2.2).mono ?_
  rintro x w1 ⟨rfl, hb⟩
  have cT := cap2b C.out hb
  obtain ⟨q0, q1, qB⟩ := two_boxes hb
  have B1 := Lib.hid qB
  have Q1 := Lib.hid q1
  clear hb q0 q1 qB c2 E2
  go_wp2_with fail
  refine (of_l m kd K N B e S _ H.out.1 (E.below B1.out) H.out.2.1 H.out.2.2.1 H.out.2.2.2).mono ?_
  rintro x w2 ⟨rfl, hb⟩
  have q1 := Q1.out.below hb
  have g0 := q1.cell 0
  have g1 := q1.cell 1
  have g2 := q1.cell 2
  have g3 := q1.cell 3
  have t0 := q1.frozen 0
  have t1 := q1.frozen 1
  have t2 := q1.frozen 2
  have t3 := q1.frozen 3
  simp at g0 g1 g2 g3
  have BF := Lib.hid (step0 B1.out hb)
  clear hb q1 cT
  go_wp2
  refine bodyPost_ret (v := .tuple #[.agg #[.int .i64 K, .int .i64 N, .int .u64 B, .string ⟨(S : List UInt8).toArray⟩], .int .i64 e]) ?_ rfl ⟨rfl, put4 BF.out (Nat.le_succ _) _ _ _ _⟩
  simp [results, Tryz.results139, go_sem, g0, g1, g2, g3]

set_option maxHeartbeats 1000000 in
theorem by_bytes_t (k n b m kd K N B e : Int) (s S : List UInt8) (gn gt : Nat) (w : World) (E : Env w) (cN : w.cell? ⟨gn, 0, none⟩ = some (.func (.func 125) #[] #[])) (cT : w.cell? ⟨gt, 0, none⟩ = some (.int .i64 kd)) (h8 : s.length = 8) (hm : Cv.i64 (Kc.nm s) = m) (hI : Cv.I m) (h0 : 1 ≤ kd) (h1 : kd ≤ 5) (hr : Cv.ofn m kd = ⟨K, N, B, S, e⟩) :
    Calls Tryz.prog 139 #[.agg #[.int .i64 k, .int .i64 n, .int .u64 b, .string ⟨(s : List UInt8).toArray⟩], .pointer (some ⟨gn, 0, none⟩), .pointer (some ⟨gt, 0, none⟩)] w fun x w' => x = .returned (.tuple #[.agg #[.int .i64 K, .int .i64 N, .int .u64 B, .string ⟨(S : List UInt8).toArray⟩], .int .i64 e]) ∧ Below w.heap.size w w' := by
  have c2 := fun o p => cap2 cN o p
  have C := Lib.hid cT
  have E2 := fun o p => E.below (below2s w o p)
  have H := Lib.hid (And.intro hI (And.intro h0 (And.intro h1 hr)))
  have X := Lib.hid (And.intro h8 hm)
  clear cT cN hI h0 h1 hr h8 hm
  go_enter Tryz.func139, Tryz.ntmps139
  go_wp2_with fail
  refine (num_bytes_t k n b m s _ X.out.1 X.out.2).mono ?_
  rintro x w1 ⟨rfl, hb⟩
  have cT := cap2b C.out hb
  obtain ⟨q0, q1, qB⟩ := two_boxes hb
  have B1 := Lib.hid qB
  have Q1 := Lib.hid q1
  clear hb q0 q1 qB c2 E2
  go_wp2_with fail
  refine (of_l m kd K N B e S _ H.out.1 (E.below B1.out) H.out.2.1 H.out.2.2.1 H.out.2.2.2).mono ?_
  rintro x w2 ⟨rfl, hb⟩
  have q1 := Q1.out.below hb
  have g0 := q1.cell 0
  have g1 := q1.cell 1
  have g2 := q1.cell 2
  have g3 := q1.cell 3
  have t0 := q1.frozen 0
  have t1 := q1.frozen 1
  have t2 := q1.frozen 2
  have t3 := q1.frozen 3
  simp at g0 g1 g2 g3
  have BF := Lib.hid (step0 B1.out hb)
  clear hb q1 cT
  go_wp2
  refine bodyPost_ret (v := .tuple #[.agg #[.int .i64 K, .int .i64 N, .int .u64 B, .string ⟨(S : List UInt8).toArray⟩], .int .i64 e]) ?_ rfl ⟨rfl, put4 BF.out (Nat.le_succ _) _ _ _ _⟩
  simp [results, Tryz.results139, go_sem, g0, g1, g2, g3]

set_option maxHeartbeats 1000000 in
theorem by_text_t (k n b m kd K N B e : Int) (s S : List UInt8) (gn gt : Nat) (w : World) (E : Env w) (cN : w.cell? ⟨gn, 0, none⟩ = some (.func (.func 130) #[] #[])) (cT : w.cell? ⟨gt, 0, none⟩ = some (.int .i64 kd)) (hl : s.length ≤ 64) (hm : Cv.num s = some m) (hI : Cv.I m) (h0 : 1 ≤ kd) (h1 : kd ≤ 5) (hr : Cv.ofn m kd = ⟨K, N, B, S, e⟩) :
    Calls Tryz.prog 139 #[.agg #[.int .i64 k, .int .i64 n, .int .u64 b, .string ⟨(s : List UInt8).toArray⟩], .pointer (some ⟨gn, 0, none⟩), .pointer (some ⟨gt, 0, none⟩)] w fun x w' => x = .returned (.tuple #[.agg #[.int .i64 K, .int .i64 N, .int .u64 B, .string ⟨(S : List UInt8).toArray⟩], .int .i64 e]) ∧ Below w.heap.size w w' := by
  have c2 := fun o p => cap2 cN o p
  have C := Lib.hid cT
  have E2 := fun o p => E.below (below2s w o p)
  have H := Lib.hid (And.intro hI (And.intro h0 (And.intro h1 hr)))
  have X := Lib.hid (And.intro hl hm)
  clear cT cN hI h0 h1 hr hl hm
  go_enter Tryz.func139, Tryz.ntmps139
  go_wp2_with fail
  refine (num_text_t k n b m s _ X.out.1 (E2 _ _) X.out.2).mono ?_
  rintro x w1 ⟨rfl, hb⟩
  have cT := cap2b C.out hb
  obtain ⟨q0, q1, qB⟩ := two_boxes hb
  have B1 := Lib.hid qB
  have Q1 := Lib.hid q1
  clear hb q0 q1 qB c2 E2
  go_wp2_with fail
  refine (of_l m kd K N B e S _ H.out.1 (E.below B1.out) H.out.2.1 H.out.2.2.1 H.out.2.2.2).mono ?_
  rintro x w2 ⟨rfl, hb⟩
  have q1 := Q1.out.below hb
  have g0 := q1.cell 0
  have g1 := q1.cell 1
  have g2 := q1.cell 2
  have g3 := q1.cell 3
  have t0 := q1.frozen 0
  have t1 := q1.frozen 1
  have t2 := q1.frozen 2
  have t3 := q1.frozen 3
  simp at g0 g1 g2 g3
  have BF := Lib.hid (step0 B1.out hb)
  clear hb q1 cT
  go_wp2
  refine bodyPost_ret (v := .tuple #[.agg #[.int .i64 K, .int .i64 N, .int .u64 B, .string ⟨(S : List UInt8).toArray⟩], .int .i64 e]) ?_ rfl ⟨rfl, put4 BF.out (Nat.le_succ _) _ _ _ _⟩
  simp [results, Tryz.results139, go_sem, g0, g1, g2, g3]

set_option maxHeartbeats 1000000 in
theorem by_real_f (k n b : Int) (s : List UInt8) (gn gt : Nat) (w : World) (E : Env w) (cN : w.cell? ⟨gn, 0, none⟩ = some (.func (.func 121) #[] #[])) (hU : Rl.U b) (ho : Rl.to b = false) :
    Calls Tryz.prog 139 #[.agg #[.int .i64 k, .int .i64 n, .int .u64 b, .string ⟨(s : List UInt8).toArray⟩], .pointer (some ⟨gn, 0, none⟩), .pointer (some ⟨gt, 0, none⟩)] w fun x w' => x = .returned (.tuple #[.agg #[.int .i64 0, .int .i64 0, .int .u64 0, .string ⟨([] : List UInt8).toArray⟩], .int .i64 6]) ∧ Below w.heap.size w w' := by
  have c2 := fun o p => cap2 cN o p
  have E2 := fun o p => E.below (below2s w o p)
  have X := Lib.hid (And.intro hU ho)
  clear cN hU ho
  go_enter Tryz.func139, Tryz.ntmps139
  go_wp2_with fail
  refine (num_real_f k n b s _ X.out.1 (E2 _ _) X.out.2).mono ?_
  rintro x w1 ⟨rfl, hb⟩
  obtain ⟨q0, q1, qB⟩ := two_boxes hb
  have g0 := q1.cell 0
  have g1 := q1.cell 1
  have g2 := q1.cell 2
  have g3 := q1.cell 3
  have t0 := q1.frozen 0
  have t1 := q1.frozen 1
  have t2 := q1.frozen 2
  have t3 := q1.frozen 3
  simp at g0 g1 g2 g3
  have BF := Lib.hid qB
  clear hb q0 q1 qB c2 E2
  go_wp2
  refine bodyPost_ret (v := .tuple #[.agg #[.int .i64 0, .int .i64 0, .int .u64 0, .string ⟨([] : List UInt8).toArray⟩], .int .i64 6]) ?_ rfl ⟨rfl, put4 BF.out (Nat.le_succ _) _ _ _ _⟩
  simp [results, Tryz.results139, go_sem, g0, g1, g2, g3]

set_option maxHeartbeats 1000000 in
theorem by_bytes_f (k n b : Int) (s : List UInt8) (gn gt : Nat) (w : World) (E : Env w) (cN : w.cell? ⟨gn, 0, none⟩ = some (.func (.func 125) #[] #[])) (h8 : s.length ≠ 8) :
    Calls Tryz.prog 139 #[.agg #[.int .i64 k, .int .i64 n, .int .u64 b, .string ⟨(s : List UInt8).toArray⟩], .pointer (some ⟨gn, 0, none⟩), .pointer (some ⟨gt, 0, none⟩)] w fun x w' => x = .returned (.tuple #[.agg #[.int .i64 0, .int .i64 0, .int .u64 0, .string ⟨([] : List UInt8).toArray⟩], .int .i64 6]) ∧ Below w.heap.size w w' := by
  have c2 := fun o p => cap2 cN o p
  have E2 := fun o p => E.below (below2s w o p)
  have X := Lib.hid h8
  clear cN h8
  go_enter Tryz.func139, Tryz.ntmps139
  go_wp2_with fail
  refine (num_bytes_f k n b s _ X.out).mono ?_
  rintro x w1 ⟨rfl, hb⟩
  obtain ⟨q0, q1, qB⟩ := two_boxes hb
  have g0 := q1.cell 0
  have g1 := q1.cell 1
  have g2 := q1.cell 2
  have g3 := q1.cell 3
  have t0 := q1.frozen 0
  have t1 := q1.frozen 1
  have t2 := q1.frozen 2
  have t3 := q1.frozen 3
  simp at g0 g1 g2 g3
  have BF := Lib.hid qB
  clear hb q0 q1 qB c2 E2
  go_wp2
  refine bodyPost_ret (v := .tuple #[.agg #[.int .i64 0, .int .i64 0, .int .u64 0, .string ⟨([] : List UInt8).toArray⟩], .int .i64 6]) ?_ rfl ⟨rfl, put4 BF.out (Nat.le_succ _) _ _ _ _⟩
  simp [results, Tryz.results139, go_sem, g0, g1, g2, g3]

set_option maxHeartbeats 1000000 in
theorem by_text_f (k n b : Int) (s : List UInt8) (gn gt : Nat) (w : World) (E : Env w) (cN : w.cell? ⟨gn, 0, none⟩ = some (.func (.func 130) #[] #[])) (hl : s.length ≤ 64) (hm : Cv.num s = none) :
    Calls Tryz.prog 139 #[.agg #[.int .i64 k, .int .i64 n, .int .u64 b, .string ⟨(s : List UInt8).toArray⟩], .pointer (some ⟨gn, 0, none⟩), .pointer (some ⟨gt, 0, none⟩)] w fun x w' => x = .returned (.tuple #[.agg #[.int .i64 0, .int .i64 0, .int .u64 0, .string ⟨([] : List UInt8).toArray⟩], .int .i64 7]) ∧ Below w.heap.size w w' := by
  have c2 := fun o p => cap2 cN o p
  have E2 := fun o p => E.below (below2s w o p)
  have X := Lib.hid (And.intro hl hm)
  clear cN hl hm
  go_enter Tryz.func139, Tryz.ntmps139
  go_wp2_with fail
  refine (num_text_f k n b s _ X.out.1 (E2 _ _) X.out.2).mono ?_
  rintro x w1 ⟨rfl, hb⟩
  obtain ⟨q0, q1, qB⟩ := two_boxes hb
  have g0 := q1.cell 0
  have g1 := q1.cell 1
  have g2 := q1.cell 2
  have g3 := q1.cell 3
  have t0 := q1.frozen 0
  have t1 := q1.frozen 1
  have t2 := q1.frozen 2
  have t3 := q1.frozen 3
  simp at g0 g1 g2 g3
  have BF := Lib.hid qB
  clear hb q0 q1 qB c2 E2
  go_wp2
  refine bodyPost_ret (v := .tuple #[.agg #[.int .i64 0, .int .i64 0, .int .u64 0, .string ⟨([] : List UInt8).toArray⟩], .int .i64 7]) ?_ rfl ⟨rfl, put4 BF.out (Nat.le_succ _) _ _ _ _⟩
  simp [results, Tryz.results139, go_sem, g0, g1, g2, g3]

end Go.Proofs.YtdonmbmahcjfbaaGreatDoor.Km
