/-
  What bytes begin with, by the document: a column. Conditions: texts of 1000000 bytes at most.
-/
import Derived.Test.YtakpieiafoappaaGreatDoorScRefCol
namespace Go.Proofs.YtakpieiafoappaaGreatDoor
open Go.RowKit

set_option maxHeartbeats 4000000 in
theorem rcl_ok (l : List UInt8) (A L1 : List UInt8) (N : Nat) (x : Int) (bb : UInt8) (q : List UInt8) (z : Int) (k n b : Int) (s L4 : List UInt8) (v : Bool) (w : World) (hl : l.length ≤ 1000000) (hq : q.length ≤ 1000000) (h1 : Pk.rt l = (A, L1, 0)) (h2 : small 100 1 L1 = (N, bb :: q, 0)) (hx : x = N) (hz : (bb.toNat : Int) = z) (hb1 : decide (1 < z) = false) (h4 : rd q = ⟨k, n, b, s, L4, 0⟩) (hv : (z == 1) = v) :
    Calls Tryz.prog 56 #[.string ⟨l.toArray⟩] w fun e w' => e = .returned (.tuple #[.agg #[.string ⟨A.toArray⟩, .int .i64 x, .bool v, .int .i64 k, .int .i64 n, .int .u64 b, .string ⟨s.toArray⟩], .string ⟨L4.toArray⟩, .int .i64 0]) ∧ Below w.heap.size w w' := by
  have H_hl := Lib.hid hl
  clear hl
  have hmx : Tryz.prog.follows .mixedOrders = true := by kernel_rfl
  have hba : (ByteArray.mk (bb :: q).toArray)[0]'(by simp [ByteArray.size]) = bb := rfl
  have ln : ((((bb :: q).length : Nat) : Int) == 0) = false := beq_f (by simp; omega)
  have ln2 : (((q.length : Int) + 1) == 0) = false := beq_f (by omega)
  have ct : (ByteArray.mk (bb :: q).toArray).extract 1 (q.length + 1) = ⟨q.toArray⟩ := cut_from (bb :: q) 1
  have l1 : (1 : Int) ≤ (((bb :: q).length : Nat) : Int) := by simp; omega
  have H_hq := Lib.hid hq
  have H_h1 := Lib.hid h1
  have H_h2 := Lib.hid h2
  have H_hx := Lib.hid hx
  have H_h4 := Lib.hid h4
  clear hq h1 h2 hx h4
  go_enter Tryz.func56, Tryz.ntmps56
  have r0 := (Blk.new w #[.string ⟨([] : List UInt8).toArray⟩, .int .i64 0, .bool false, .int .i64 0, .int .i64 0, .int .u64 0, .string ⟨([] : List UInt8).toArray⟩] 33).alloc (.cells #[.string ⟨([] : List UInt8).toArray⟩, .int .i64 0, .bool false, .int .i64 0, .int .i64 0, .int .u64 0, .string ⟨([] : List UInt8).toArray⟩] 33)
  have c0 : Blk ((w.alloc (.cells #[.string ⟨([] : List UInt8).toArray⟩, .int .i64 0, .bool false, .int .i64 0, .int .i64 0, .int .u64 0, .string ⟨([] : List UInt8).toArray⟩] 33)).alloc (.cells #[.string ⟨([] : List UInt8).toArray⟩, .int .i64 0, .bool false, .int .i64 0, .int .i64 0, .int .u64 0, .string ⟨([] : List UInt8).toArray⟩] 33)) (w.heap.size + 1) #[.string ⟨([] : List UInt8).toArray⟩, .int .i64 0, .bool false, .int .i64 0, .int .i64 0, .int .u64 0, .string ⟨([] : List UInt8).toArray⟩] 33 := by have := Blk.new (w.alloc (.cells #[.string ⟨([] : List UInt8).toArray⟩, .int .i64 0, .bool false, .int .i64 0, .int .i64 0, .int .u64 0, .string ⟨([] : List UInt8).toArray⟩] 33)) #[.string ⟨([] : List UInt8).toArray⟩, .int .i64 0, .bool false, .int .i64 0, .int .i64 0, .int .u64 0, .string ⟨([] : List UInt8).toArray⟩] 33; simpa using this
  have B0 := Lib.hid (below2s w (.cells #[.string ⟨([] : List UInt8).toArray⟩, .int .i64 0, .bool false, .int .i64 0, .int .i64 0, .int .u64 0, .string ⟨([] : List UInt8).toArray⟩] 33) (.cells #[.string ⟨([] : List UInt8).toArray⟩, .int .i64 0, .bool false, .int .i64 0, .int .i64 0, .int .u64 0, .string ⟨([] : List UInt8).toArray⟩] 33))
  go_wp2_with fail
  refine (rtextR l A L1 0 _ H_hl.out H_h1.out).mono ?_
  rintro y w1 ⟨rfl, hb⟩
  have r1 := r0.below hb
  have c1 := c0.below hb
  have B1 := Lib.hid (step0 B0.out hb)
  clear hb r0 c0 B0
  go_wp2_with fail
  refine (rsm_is x 0 L1 (bb :: q) N _ H_h2.out H_hx.out).mono ?_
  rintro y w2 ⟨rfl, hb⟩
  have r2 := r1.below hb
  have c2 := c1.below hb
  have B2 := Lib.hid (step0 B1.out hb)
  clear hb r1 c1 B1
  go_wp2_with fail
  refine (rrdv q k n b 0 s L4 _ H_hq.out H_h4.out).mono ?_
  rintro y w3 ⟨rfl, hb⟩
  have r3 := r2.below hb
  have c3 := c2.below hb
  have B3 := Lib.hid (step0 B2.out hb)
  clear hb r2 c2 B2
  have r4 := r3.alloc (.cells #[.int .i64 k, .int .i64 n, .int .u64 b, .string ⟨s.toArray⟩] 31)
  have v4 := Blk.new w3 #[.int .i64 k, .int .i64 n, .int .u64 b, .string ⟨s.toArray⟩] 31
  have B4 := Lib.hid (B3.out.alloc B3.out.size (.cells #[.int .i64 k, .int .i64 n, .int .u64 b, .string ⟨s.toArray⟩] 31))
  have ne : w3.heap.size ≠ w.heap.size := by have := r3.lt; omega
  obtain ⟨W9, hW⟩ : ∃ W9, w3.alloc (.cells #[.int .i64 k, .int .i64 n, .int .u64 b, .string ⟨s.toArray⟩] 31) = W9 := ⟨_, rfl⟩
  rw [hW] at r4 v4 B4
  have x0 : W9.cell? ⟨w3.heap.size, 0, none⟩ = some (.int .i64 k) := v4.cell 0
  have x1 : W9.cell? ⟨w3.heap.size, 1, none⟩ = some (.int .i64 n) := v4.cell 1
  have x2 : W9.cell? ⟨w3.heap.size, 2, none⟩ = some (.int .u64 b) := v4.cell 2
  have x3 : W9.cell? ⟨w3.heap.size, 3, none⟩ = some (.string ⟨s.toArray⟩) := v4.cell 3
  have n0 : W9.cell? ⟨w.heap.size, 0, none⟩ = some (.string ⟨([] : List UInt8).toArray⟩) := r4.cell 0
  have p0 : W9.frozen? ⟨w.heap.size, 0, none⟩ = false := r4.frozen 0
  have n1 : W9.cell? ⟨w.heap.size, 1, none⟩ = some (.int .i64 0) := r4.cell 1
  have p1 : W9.frozen? ⟨w.heap.size, 1, none⟩ = false := r4.frozen 1
  have n2 : W9.cell? ⟨w.heap.size, 2, none⟩ = some (.bool false) := r4.cell 2
  have p2 : W9.frozen? ⟨w.heap.size, 2, none⟩ = false := r4.frozen 2
  have n3 : W9.cell? ⟨w.heap.size, 3, none⟩ = some (.int .i64 0) := r4.cell 3
  have p3 : W9.frozen? ⟨w.heap.size, 3, none⟩ = false := r4.frozen 3
  have n4 : W9.cell? ⟨w.heap.size, 4, none⟩ = some (.int .i64 0) := r4.cell 4
  have p4 : W9.frozen? ⟨w.heap.size, 4, none⟩ = false := r4.frozen 4
  have n5 : W9.cell? ⟨w.heap.size, 5, none⟩ = some (.int .u64 0) := r4.cell 5
  have p5 : W9.frozen? ⟨w.heap.size, 5, none⟩ = false := r4.frozen 5
  have n6 : W9.cell? ⟨w.heap.size, 6, none⟩ = some (.string ⟨([] : List UInt8).toArray⟩) := r4.cell 6
  have p6 : W9.frozen? ⟨w.heap.size, 6, none⟩ = false := r4.frozen 6
  have RQ : Blk (((((((W9.setCell ⟨w.heap.size, 0, none⟩ (.string ⟨A.toArray⟩)).setCell ⟨w.heap.size, 1, none⟩ (.int .i64 x)).setCell ⟨w.heap.size, 2, none⟩ (.bool v)).setCell ⟨w.heap.size, 3, none⟩ (.int .i64 k)).setCell ⟨w.heap.size, 4, none⟩ (.int .i64 n)).setCell ⟨w.heap.size, 5, none⟩ (.int .u64 b)).setCell ⟨w.heap.size, 6, none⟩ (.string ⟨s.toArray⟩)) w.heap.size #[.string ⟨A.toArray⟩, .int .i64 x, .bool v, .int .i64 k, .int .i64 n, .int .u64 b, .string ⟨s.toArray⟩] 33 := (((((((r4.setAt 0 (.string ⟨A.toArray⟩)).setAt 1 (.int .i64 x)).setAt 2 (.bool v)).setAt 3 (.int .i64 k)).setAt 4 (.int .i64 n)).setAt 5 (.int .u64 b)).setAt 6 (.string ⟨s.toArray⟩))
  have RR := Lib.hid (blk_drew RQ)
  clear RQ
  clear r3 c3 B3 r4 v4
  have xd : (World.drew W9).cell? ⟨w3.heap.size, 0, none⟩ = some (.int .i64 k) ∧ (World.drew W9).cell? ⟨w3.heap.size, 1, none⟩ = some (.int .i64 n) ∧ (World.drew W9).cell? ⟨w3.heap.size, 2, none⟩ = some (.int .u64 b) ∧ (World.drew W9).cell? ⟨w3.heap.size, 3, none⟩ = some (.string ⟨s.toArray⟩) := ⟨x0, x1, x2, x3⟩
  have XE := Lib.hid (four_drew (four_far ne ⟨x0, x1, x2, x3⟩ A x v k n b s))
  have XD := Lib.hid xd
  clear xd
  go_wp2
  go_region_held3 (fun u => u.cell? ⟨w3.heap.size, 0, none⟩ = some (.int .i64 k) ∧ u.cell? ⟨w3.heap.size, 1, none⟩ = some (.int .i64 n) ∧ u.cell? ⟨w3.heap.size, 2, none⟩ = some (.int .u64 b) ∧ u.cell? ⟨w3.heap.size, 3, none⟩ = some (.string ⟨s.toArray⟩))
    (first | with_reducible exact XD.out | with_reducible exact XE.out) (fail)
  obtain ⟨W8, hW8⟩ : ∃ W8, World.drew (((((((W9.setCell ⟨w.heap.size, 0, none⟩ (.string ⟨A.toArray⟩)).setCell ⟨w.heap.size, 1, none⟩ (.int .i64 x)).setCell ⟨w.heap.size, 2, none⟩ (.bool v)).setCell ⟨w.heap.size, 3, none⟩ (.int .i64 k)).setCell ⟨w.heap.size, 4, none⟩ (.int .i64 n)).setCell ⟨w.heap.size, 5, none⟩ (.int .u64 b)).setCell ⟨w.heap.size, 6, none⟩ (.string ⟨s.toArray⟩)) = W8 := ⟨_, rfl⟩
  have r8 : Blk W8 w.heap.size #[.string ⟨A.toArray⟩, .int .i64 x, .bool v, .int .i64 k, .int .i64 n, .int .u64 b, .string ⟨s.toArray⟩] 33 := by rw [← hW8]; exact RR.out
  have B8 : Below w.heap.size w W8 := by rw [← hW8]; exact (below_drew1 (below_set (below_set (below_set (below_set (below_set (below_set (below_set B4.out (Nat.le_refl _) 0 (.string ⟨A.toArray⟩)) (Nat.le_refl _) 1 (.int .i64 x)) (Nat.le_refl _) 2 (.bool v)) (Nat.le_refl _) 3 (.int .i64 k)) (Nat.le_refl _) 4 (.int .i64 n)) (Nat.le_refl _) 5 (.int .u64 b)) (Nat.le_refl _) 6 (.string ⟨s.toArray⟩)))
  have u0 : W8.cell? ⟨w.heap.size, 0, none⟩ = some (.string ⟨A.toArray⟩) := r8.cell 0
  have u1 : W8.cell? ⟨w.heap.size, 1, none⟩ = some (.int .i64 x) := r8.cell 1
  have u2 : W8.cell? ⟨w.heap.size, 2, none⟩ = some (.bool v) := r8.cell 2
  have u3 : W8.cell? ⟨w.heap.size, 3, none⟩ = some (.int .i64 k) := r8.cell 3
  have u4 : W8.cell? ⟨w.heap.size, 4, none⟩ = some (.int .i64 n) := r8.cell 4
  have u5 : W8.cell? ⟨w.heap.size, 5, none⟩ = some (.int .u64 b) := r8.cell 5
  have u6 : W8.cell? ⟨w.heap.size, 6, none⟩ = some (.string ⟨s.toArray⟩) := r8.cell 6
  rw [hW8]
  clear hW8 r8 XD XE n0 n1 n2 n3 n4 n5 n6 p0 p1 p2 p3 p4 p5 p6 x0 x1 x2 x3
  go_wp2
  refine bodyPost_ret (v := .tuple #[.agg #[.string ⟨A.toArray⟩, .int .i64 x, .bool v, .int .i64 k, .int .i64 n, .int .u64 b, .string ⟨s.toArray⟩], .string ⟨L4.toArray⟩, .int .i64 0]) ?_ rfl ⟨rfl, B8⟩
  simp [results, Tryz.results56, go_sem, u0, u1, u2, u3, u4, u5, u6]

theorem rcolR_any (l : List UInt8) (w : World) (hl : l.length ≤ 1000000) :
    Calls Tryz.prog 56 #[.string ⟨l.toArray⟩] w fun e w' => e = .returned (Cr (rdc l).1 (rdc l).2.1 (rdc l).2.2) ∧ Below w.heap.size w w' := by
  obtain ⟨A, L1, E1, h1⟩ : ∃ A L1 E1, Pk.rt l = (A, L1, E1) := ⟨_, _, _, rfl⟩
  have n1 := rt_len l
  unfold rdc
  rw [h1] at n1 ⊢
  simp only at n1 ⊢
  by_cases g1 : E1 = 0
  · subst g1
    rw [if_neg (by simp)]
    obtain ⟨N, L2, E2, h2⟩ : ∃ N L2 E2, small 100 1 L1 = (N, L2, E2) := ⟨_, _, _, rfl⟩
    have n2 := small_len 100 1 L1
    rw [h2] at n2 ⊢
    simp only at n2 ⊢
    by_cases g2 : E2 = 0
    · subst g2
      rw [if_neg (by simp)]
      cases L2 with
      | nil => exact rcl_nil l A L1 N N w hl h1 h2 rfl
      | cons bb q =>
        have nq : q.length ≤ 1000000 := by simp at n2; omega
        by_cases g3 : 1 < bb.toNat
        · have e : rdf (bb :: q) = (false, [], 4) := by unfold rdf; simp only [g3, if_true]
          rw [e]
          simp only
          rw [if_pos (by decide)]
          exact rcl_hi l A L1 N N bb q bb.toNat w hl h1 h2 rfl rfl (by omega)
        · have e : rdf (bb :: q) = (decide (bb.toNat = 1), q, 0) := by unfold rdf; simp only [g3, if_false]
          rw [e]
          simp only
          rw [if_neg (by simp)]
          obtain ⟨⟨k, n, b, s, L4, E4⟩, h4⟩ : ∃ Q, rd q = Q := ⟨_, rfl⟩
          rw [h4]
          simp only
          by_cases g4 : E4 = 0
          · subst g4
            rw [if_neg (by simp)]
            exact rcl_ok l A L1 N N bb q bb.toNat k n b s L4 _ w hl nq h1 h2 rfl rfl (by rw [decide_eq_false_iff_not]; omega) h4 (by rw [Bool.eq_iff_iff]; simp; omega)
          · rw [if_pos g4]
            exact rcl_e3 l A L1 N N bb q bb.toNat k n b s L4 E4 w hl nq h1 h2 rfl rfl (by rw [decide_eq_false_iff_not]; omega) h4 g4
    · rw [if_pos g2]
      exact rcl_e1 l A L1 N N L2 E2 w hl h1 h2 rfl g2
  · rw [if_pos g1]
    exact rcl_e0 l A L1 E1 w hl h1 g1
theorem rcolR_is (l r : List UInt8) (c : C) (e : Int) (w : World) (hl : l.length ≤ 1000000) (h : rdc l = (c, r, e)) :
    Calls Tryz.prog 56 #[.string ⟨l.toArray⟩] w fun x w' => x = .returned (.tuple #[.agg #[.string ⟨c.name.toArray⟩, .int .i64 c.kind, .bool c.null, .int .i64 c.d.k, .int .i64 c.d.n, .int .u64 c.d.b, .string ⟨c.d.s.toArray⟩], .string ⟨r.toArray⟩, .int .i64 e]) ∧ Below w.heap.size w w' := by
  have := rcolR_any l w hl
  rw [h] at this
  exact this

end Go.Proofs.YtakpieiafoappaaGreatDoor
