/-
 What bytes begin with, by the document: a column. Conditions: texts of 1000000 bytes at most.
 The table that bytes begin with, by the document: Read. Conditions: texts of 1000000 bytes at most.
-/
import Derived.Test.YtmgdciihpjifgaaGreatDoorQrScRefCol
set_option maxHeartbeats 8000000
namespace Go.Proofs.YtmgdciihpjifgaaGreatDoor
open Go.RowKit
theorem rcl_ok (l : List UInt8) (A L1 : List UInt8) (N : Nat) (x : Int) (bb : UInt8) (q : List UInt8) (z : Int) (k n b : Int) (s L4 : List UInt8) (v : Bool) (w : World) (hl : l.length ≤ 1000000) (hq : q.length ≤ 1000000) (h1 : Pk.rt l = (A, L1, 0)) (h2 : small 100 1 L1 = (N, bb :: q, 0)) (hx : x = N) (hz : (bb.toNat : Int) = z) (hb1 : decide (1 < z) = false) (h4 : rd q = ⟨k, n, b, s, L4, 0⟩) (hv : (z == 1) = v) :
  Calls Tryz.prog 69 #[.string ⟨l.toArray⟩] w fun e w' => e = .returned (.tuple #[.agg #[.string ⟨A.toArray⟩, .int .i64 x, .bool v, .int .i64 k, .int .i64 n, .int .u64 b, .string ⟨s.toArray⟩], .string ⟨L4.toArray⟩, .int .i64 0]) ∧ Below w.heap.size w w' := by
 have H_hl := zh hl
 clear hl
 have hmx : Tryz.prog.follows .mixedOrders = true := by kernel_rfl
 have hba : (ByteArray.mk (bb :: q).toArray)[0]'(by simp [ByteArray.size]) = bb := rfl
 have ln : ((((bb :: q).length : Nat) : Int) == 0) = false := beq_f (by simp; omega)
 have ln2 : (((q.length : Int) + 1) == 0) = false := beq_f (by omega)
 have ct : (ByteArray.mk (bb :: q).toArray).extract 1 (q.length + 1) = ⟨q.toArray⟩ := cut_from (bb :: q) 1
 have l1 : (1 : Int) ≤ (((bb :: q).length : Nat) : Int) := by simp; omega
 have H_hq := zh hq
 have H_h1 := zh h1
 have H_h2 := zh h2
 have H_hx := zh hx
 have H_h4 := zh h4
 clear hq h1 h2 hx h4
 go_enter Tryz.func69, Tryz.ntmps69
 have r0 := (Blk.new w #[.string ⟨([] : List UInt8).toArray⟩, .int .i64 0, .bool false, .int .i64 0, .int .i64 0, .int .u64 0, .string ⟨([] : List UInt8).toArray⟩] 27).alloc (.cells #[.string ⟨([] : List UInt8).toArray⟩, .int .i64 0, .bool false, .int .i64 0, .int .i64 0, .int .u64 0, .string ⟨([] : List UInt8).toArray⟩] 27)
 have c0 : Blk ((w.alloc (.cells #[.string ⟨([] : List UInt8).toArray⟩, .int .i64 0, .bool false, .int .i64 0, .int .i64 0, .int .u64 0, .string ⟨([] : List UInt8).toArray⟩] 27)).alloc (.cells #[.string ⟨([] : List UInt8).toArray⟩, .int .i64 0, .bool false, .int .i64 0, .int .i64 0, .int .u64 0, .string ⟨([] : List UInt8).toArray⟩] 27)) (w.heap.size + 1) #[.string ⟨([] : List UInt8).toArray⟩, .int .i64 0, .bool false, .int .i64 0, .int .i64 0, .int .u64 0, .string ⟨([] : List UInt8).toArray⟩] 27 := by have := Blk.new (w.alloc (.cells #[.string ⟨([] : List UInt8).toArray⟩, .int .i64 0, .bool false, .int .i64 0, .int .i64 0, .int .u64 0, .string ⟨([] : List UInt8).toArray⟩] 27)) #[.string ⟨([] : List UInt8).toArray⟩, .int .i64 0, .bool false, .int .i64 0, .int .i64 0, .int .u64 0, .string ⟨([] : List UInt8).toArray⟩] 27; simpa using this
 have B0 := zh (below2s w (.cells #[.string ⟨([] : List UInt8).toArray⟩, .int .i64 0, .bool false, .int .i64 0, .int .i64 0, .int .u64 0, .string ⟨([] : List UInt8).toArray⟩] 27) (.cells #[.string ⟨([] : List UInt8).toArray⟩, .int .i64 0, .bool false, .int .i64 0, .int .i64 0, .int .u64 0, .string ⟨([] : List UInt8).toArray⟩] 27))
 go_wp2_with fail
 refine (rtextR l A L1 0 _ H_hl.out H_h1.out).mono ?_
 rintro y w1 ⟨rfl, hb⟩
 have r1 := r0.below hb
 have c1 := c0.below hb
 have B1 := zh (step0 B0.out hb)
 clear hb r0 c0 B0
 go_wp2_with fail
 refine (rsm_is x 0 L1 (bb :: q) N _ H_h2.out H_hx.out).mono ?_
 rintro y w2 ⟨rfl, hb⟩
 have r2 := r1.below hb
 have c2 := c1.below hb
 have B2 := zh (step0 B1.out hb)
 clear hb r1 c1 B1
 go_wp2_with fail
 refine (rrdv q k n b 0 s L4 _ H_hq.out H_h4.out).mono ?_
 rintro y w3 ⟨rfl, hb⟩
 have r3 := r2.below hb
 have c3 := c2.below hb
 have B3 := zh (step0 B2.out hb)
 clear hb r2 c2 B2
 have r4 := r3.alloc (.cells #[.int .i64 k, .int .i64 n, .int .u64 b, .string ⟨s.toArray⟩] 25)
 have v4 := Blk.new w3 #[.int .i64 k, .int .i64 n, .int .u64 b, .string ⟨s.toArray⟩] 25
 have B4 := zh (B3.out.alloc B3.out.size (.cells #[.int .i64 k, .int .i64 n, .int .u64 b, .string ⟨s.toArray⟩] 25))
 have ne : w3.heap.size ≠ w.heap.size := by have := r3.lt; omega
 obtain ⟨W9, hW⟩ : ∃ W9, w3.alloc (.cells #[.int .i64 k, .int .i64 n, .int .u64 b, .string ⟨s.toArray⟩] 25) = W9 := ⟨_, rfl⟩
 rw [hW] at r4 v4 B4
 have x0 : W9.cell? ⟨w3.heap.size, 0, none⟩ = some (.int .i64 k) := v4.cell 0
 have x1 : W9.cell? ⟨w3.heap.size, 1, none⟩ = some (.int .i64 n) := v4.cell 1
 have x2 : W9.cell? ⟨w3.heap.size, 2, none⟩ = some (.int .u64 b) := v4.cell 2
 have x3 : W9.cell? ⟨w3.heap.size, 3, none⟩ = some (.string ⟨s.toArray⟩) := v4.cell 3
 have n0 : W9.cell? ⟨w.heap.size, 0, none⟩ = some (.string ⟨([] : List UInt8).toArray⟩) := r4.cell 0
 have p0 : W9.frozen? ⟨w.heap.size, 0, none⟩ = false := r4.frozen 0
 have n1 : W9.cell? ⟨w.heap.size, 1, none⟩ = some (.int .i64 0) := r4.cell 1
 have p1 : W9.frozen? ⟨w.heap.size, 1, none⟩ = false := r4.frozen 1
 have n2 : W9.cell? ⟨w.heap.size, 2, none⟩ = some (.bool false) := r4.cell 2
 have p2 : W9.frozen? ⟨w.heap.size, 2, none⟩ = false := r4.frozen 2
 have n3 : W9.cell? ⟨w.heap.size, 3, none⟩ = some (.int .i64 0) := r4.cell 3
 have p3 : W9.frozen? ⟨w.heap.size, 3, none⟩ = false := r4.frozen 3
 have n4 : W9.cell? ⟨w.heap.size, 4, none⟩ = some (.int .i64 0) := r4.cell 4
 have p4 : W9.frozen? ⟨w.heap.size, 4, none⟩ = false := r4.frozen 4
 have n5 : W9.cell? ⟨w.heap.size, 5, none⟩ = some (.int .u64 0) := r4.cell 5
 have p5 : W9.frozen? ⟨w.heap.size, 5, none⟩ = false := r4.frozen 5
 have n6 : W9.cell? ⟨w.heap.size, 6, none⟩ = some (.string ⟨([] : List UInt8).toArray⟩) := r4.cell 6
 have p6 : W9.frozen? ⟨w.heap.size, 6, none⟩ = false := r4.frozen 6
 have RQ : Blk (((((((W9.setCell ⟨w.heap.size, 0, none⟩ (.string ⟨A.toArray⟩)).setCell ⟨w.heap.size, 1, none⟩ (.int .i64 x)).setCell ⟨w.heap.size, 2, none⟩ (.bool v)).setCell ⟨w.heap.size, 3, none⟩ (.int .i64 k)).setCell ⟨w.heap.size, 4, none⟩ (.int .i64 n)).setCell ⟨w.heap.size, 5, none⟩ (.int .u64 b)).setCell ⟨w.heap.size, 6, none⟩ (.string ⟨s.toArray⟩)) w.heap.size #[.string ⟨A.toArray⟩, .int .i64 x, .bool v, .int .i64 k, .int .i64 n, .int .u64 b, .string ⟨s.toArray⟩] 27 := (((((((r4.setAt 0 (.string ⟨A.toArray⟩)).setAt 1 (.int .i64 x)).setAt 2 (.bool v)).setAt 3 (.int .i64 k)).setAt 4 (.int .i64 n)).setAt 5 (.int .u64 b)).setAt 6 (.string ⟨s.toArray⟩))
 have RR := zh (blk_drew RQ)
 clear RQ
 clear r3 c3 B3 r4 v4
 have xd : (World.drew W9).cell? ⟨w3.heap.size, 0, none⟩ = some (.int .i64 k) ∧ (World.drew W9).cell? ⟨w3.heap.size, 1, none⟩ = some (.int .i64 n) ∧ (World.drew W9).cell? ⟨w3.heap.size, 2, none⟩ = some (.int .u64 b) ∧ (World.drew W9).cell? ⟨w3.heap.size, 3, none⟩ = some (.string ⟨s.toArray⟩) := ⟨x0, x1, x2, x3⟩
 have XE := zh (four_drew (four_far ne ⟨x0, x1, x2, x3⟩ A x v k n b s))
 have XD := zh xd
 clear xd
 go_wp2
 go_region_held3 (fun u => u.cell? ⟨w3.heap.size, 0, none⟩ = some (.int .i64 k) ∧ u.cell? ⟨w3.heap.size, 1, none⟩ = some (.int .i64 n) ∧ u.cell? ⟨w3.heap.size, 2, none⟩ = some (.int .u64 b) ∧ u.cell? ⟨w3.heap.size, 3, none⟩ = some (.string ⟨s.toArray⟩))
  (first | with_reducible exact XD.out | with_reducible exact XE.out) (fail)
 obtain ⟨W8, hW8⟩ : ∃ W8, World.drew (((((((W9.setCell ⟨w.heap.size, 0, none⟩ (.string ⟨A.toArray⟩)).setCell ⟨w.heap.size, 1, none⟩ (.int .i64 x)).setCell ⟨w.heap.size, 2, none⟩ (.bool v)).setCell ⟨w.heap.size, 3, none⟩ (.int .i64 k)).setCell ⟨w.heap.size, 4, none⟩ (.int .i64 n)).setCell ⟨w.heap.size, 5, none⟩ (.int .u64 b)).setCell ⟨w.heap.size, 6, none⟩ (.string ⟨s.toArray⟩)) = W8 := ⟨_, rfl⟩
 have r8 : Blk W8 w.heap.size #[.string ⟨A.toArray⟩, .int .i64 x, .bool v, .int .i64 k, .int .i64 n, .int .u64 b, .string ⟨s.toArray⟩] 27 := by rw [← hW8]; exact RR.out
 have B8 : Below w.heap.size w W8 := by rw [← hW8]; exact (below_drew1 (below_set (below_set (below_set (below_set (below_set (below_set (below_set B4.out (Nat.le_refl _) 0 (.string ⟨A.toArray⟩)) (Nat.le_refl _) 1 (.int .i64 x)) (Nat.le_refl _) 2 (.bool v)) (Nat.le_refl _) 3 (.int .i64 k)) (Nat.le_refl _) 4 (.int .i64 n)) (Nat.le_refl _) 5 (.int .u64 b)) (Nat.le_refl _) 6 (.string ⟨s.toArray⟩)))
 have u0 : W8.cell? ⟨w.heap.size, 0, none⟩ = some (.string ⟨A.toArray⟩) := r8.cell 0
 have u1 : W8.cell? ⟨w.heap.size, 1, none⟩ = some (.int .i64 x) := r8.cell 1
 have u2 : W8.cell? ⟨w.heap.size, 2, none⟩ = some (.bool v) := r8.cell 2
 have u3 : W8.cell? ⟨w.heap.size, 3, none⟩ = some (.int .i64 k) := r8.cell 3
 have u4 : W8.cell? ⟨w.heap.size, 4, none⟩ = some (.int .i64 n) := r8.cell 4
 have u5 : W8.cell? ⟨w.heap.size, 5, none⟩ = some (.int .u64 b) := r8.cell 5
 have u6 : W8.cell? ⟨w.heap.size, 6, none⟩ = some (.string ⟨s.toArray⟩) := r8.cell 6
 rw [hW8]
 clear hW8 r8 XD XE n0 n1 n2 n3 n4 n5 n6 p0 p1 p2 p3 p4 p5 p6 x0 x1 x2 x3
 go_wp2
 refine bodyPost_ret (v := .tuple #[.agg #[.string ⟨A.toArray⟩, .int .i64 x, .bool v, .int .i64 k, .int .i64 n, .int .u64 b, .string ⟨s.toArray⟩], .string ⟨L4.toArray⟩, .int .i64 0]) ?_ rfl ⟨rfl, B8⟩
 simp [results, Tryz.results69, go_sem, u0, u1, u2, u3, u4, u5, u6]
theorem rcolR_any (l : List UInt8) (w : World) (hl : l.length ≤ 1000000) :
  Calls Tryz.prog 69 #[.string ⟨l.toArray⟩] w fun e w' => e = .returned (Cr (rdc l).1 (rdc l).2.1 (rdc l).2.2) ∧ Below w.heap.size w w' := by
 obtain ⟨A, L1, E1, h1⟩ : ∃ A L1 E1, Pk.rt l = (A, L1, E1) := ⟨_, _, _, rfl⟩
 have n1 := rt_len l
 unfold rdc
 rw [h1] at n1 ⊢
 simp only at n1 ⊢
 by_cases g1 : E1 = 0
 ·subst g1
  rw [if_neg (by simp)]
  obtain ⟨N, L2, E2, h2⟩ : ∃ N L2 E2, small 100 1 L1 = (N, L2, E2) := ⟨_, _, _, rfl⟩
  have n2 := small_len 100 1 L1
  rw [h2] at n2 ⊢
  simp only at n2 ⊢
  by_cases g2 : E2 = 0
  ·subst g2
   rw [if_neg (by simp)]
   cases L2 with
   | nil => exact rcl_nil l A L1 N N w hl h1 h2 rfl
   | cons bb q =>
    have nq : q.length ≤ 1000000 := by simp at n2; omega
    by_cases g3 : 1 < bb.toNat
    ·have e : rdf (bb :: q) = (false, [], 4) := by unfold rdf; simp only [g3, if_true]
     rw [e]
     simp only
     rw [if_pos (by decide)]
     exact rcl_hi l A L1 N N bb q bb.toNat w hl h1 h2 rfl rfl (by omega)
    ·have e : rdf (bb :: q) = (decide (bb.toNat = 1), q, 0) := by unfold rdf; simp only [g3, if_false]
     rw [e]
     simp only
     rw [if_neg (by simp)]
     obtain ⟨⟨k, n, b, s, L4, E4⟩, h4⟩ : ∃ Q, rd q = Q := ⟨_, rfl⟩
     rw [h4]
     simp only
     by_cases g4 : E4 = 0
     ·subst g4
      rw [if_neg (by simp)]
      exact rcl_ok l A L1 N N bb q bb.toNat k n b s L4 _ w hl nq h1 h2 rfl rfl (by rw [decide_eq_false_iff_not]; omega) h4 (by rw [Bool.eq_iff_iff]; simp; omega)
     ·rw [if_pos g4]
      exact rcl_e3 l A L1 N N bb q bb.toNat k n b s L4 E4 w hl nq h1 h2 rfl rfl (by rw [decide_eq_false_iff_not]; omega) h4 g4
  ·rw [if_pos g2]
   exact rcl_e1 l A L1 N N L2 E2 w hl h1 h2 rfl g2
 ·rw [if_pos g1]
  exact rcl_e0 l A L1 E1 w hl h1 g1
theorem rcolR_is (l r : List UInt8) (c : C) (e : Int) (w : World) (hl : l.length ≤ 1000000) (h : rdc l = (c, r, e)) :
  Calls Tryz.prog 69 #[.string ⟨l.toArray⟩] w fun x w' => x = .returned (.tuple #[.agg #[.string ⟨c.name.toArray⟩, .int .i64 c.kind, .bool c.null, .int .i64 c.d.k, .int .i64 c.d.n, .int .u64 c.d.b, .string ⟨c.d.s.toArray⟩], .string ⟨r.toArray⟩, .int .i64 e]) ∧ Below w.heap.size w w' := by
 have := rcolR_any l w hl
 rw [h] at this
 exact this
end Go.Proofs.YtmgdciihpjifgaaGreatDoor
namespace Go.Proofs.YtmgdciihpjifgaaGreatDoor
open Go.RowKit
def rdn (A : List UInt8) (x : Int) (N : Nat) (l : List UInt8) : T × List UInt8 × Int := if (rdm A x N l).2.2 ≠ 0 then (T0, [], (rdm A x N l).2.2) else if (rdm A x N l).1.ck ≠ 0 then (T0, [], (rdm A x N l).1.ck) else rdm A x N l
theorem rdn_bad {A : List UInt8} {x : Int} {N : Nat} {l : List UInt8} {e : Int} (h : rdcs N l = ([], [], e)) (he : ¬ e = 0) : rdn A x N l = (T0, [], e) := by unfold rdn; rw [rdm_bad h he, if_pos he]
theorem rdn_ok {A : List UInt8} {x : Int} {N : Nat} {l r : List UInt8} {cs : List C} (h : rdcs N l = (cs, r, 0)) (hc : T.ck ⟨A, x, cs⟩ = 0) : rdn A x N l = (⟨A, x, cs⟩, r, 0) := by unfold rdn; rw [rdm_ok h, if_neg (by simp), if_neg (by simpa using hc)]
theorem rdn_no {A : List UInt8} {x : Int} {N : Nat} {l r : List UInt8} {cs : List C} {E : Int} (h : rdcs N l = (cs, r, 0)) (hc : T.ck ⟨A, x, cs⟩ = E) (hE : ¬ E = 0) : rdn A x N l = (T0, [], E) := by unfold rdn; rw [rdm_ok h, if_neg (by simp), if_pos (by simp only; omega)]; simp only [hc]
theorem OwC.low {w : World} {b B : Nat} {v : Value} {xs : List C} (h : OwC w b v xs) (hB : B < b) (i : Nat) (u : Value) : OwC (w.setCell ⟨B, i, none⟩ u) b v xs := by
 refine ⟨h.1, ?_⟩
 rcases h.2 with hn | ⟨g, cap, cur, hv, hbg, hg, rest⟩
 ·exact .inl hn
 ·exact .inr ⟨g, cap, cur, hv, hbg, Blk.otherAt hg (by omega) i u, rest⟩
theorem OwC.fresh {w : World} {b n cap : Nat} {ao : Option Addr} {xs : List C} (h : OwC w b (.slice ao n cap) xs) : ∀ a, ao = some a → b ≤ a.block := by
 intro a ha
 subst ha
 rcases h.2 with ⟨hv, _⟩ | ⟨g, cap', cur, hv, hbg, _⟩
 ·cases hv
 ·have e : a = ⟨g, 0, none⟩ := by injection hv with h1; injection h1
  rw [e]; exact hbg
theorem rrd_e0 (l : List UInt8) (A L1 : List UInt8) (E : Int) (w : World) (hl : l.length ≤ 1000000) (h1 : Pk.rt l = (A, L1, E)) (hE : ¬ E = 0) :
  Calls Tryz.prog 42 #[.string ⟨l.toArray⟩] w (RT (T0, [], E) w) := by
 have H_hl := zh hl
 clear hl
 have e1 := bne_t hE
 have H_h1 := zh h1
 clear h1
 go_enter Tryz.func42, Tryz.ntmps42
 have r0 := Blk.new w #[.string ⟨([] : List UInt8).toArray⟩, .int .i64 0, .slice none 0 0] 30
 have B0 := zh (below1 w (.cells #[.string ⟨([] : List UInt8).toArray⟩, .int .i64 0, .slice none 0 0] 30))
 go_wp2_with fail
 refine (rtextR l A L1 E _ H_hl.out H_h1.out).mono ?_
 rintro y w1 ⟨rfl, hb⟩
 have r1 := r0.below hb
 have B1 := zh (step0 B0.out hb)
 clear hb r0 B0
 have n0 : w1.cell? ⟨w.heap.size, 0, none⟩ = some (.string ⟨([] : List UInt8).toArray⟩) := r1.cell 0
 have p0 : w1.frozen? ⟨w.heap.size, 0, none⟩ = false := r1.frozen 0
 have n1 : w1.cell? ⟨w.heap.size, 1, none⟩ = some (.int .i64 0) := r1.cell 1
 have p1 : w1.frozen? ⟨w.heap.size, 1, none⟩ = false := r1.frozen 1
 have n2 : w1.cell? ⟨w.heap.size, 2, none⟩ = some (.slice none 0 0) := r1.cell 2
 have p2 : w1.frozen? ⟨w.heap.size, 2, none⟩ = false := r1.frozen 2
 clear r1
 go_wp2
 refine bodyPost_ret (v := .tuple #[.agg #[.string ⟨([] : List UInt8).toArray⟩, .int .i64 0, .slice none 0 0], .string ⟨([] : List UInt8).toArray⟩, .int .i64 E]) ?_ rfl (RT.bad E (below_set (below_set (below_set B1.out (Nat.le_refl _) 0 (.string ⟨([] : List UInt8).toArray⟩)) (Nat.le_refl _) 1 (.int .i64 0)) (Nat.le_refl _) 2 (.slice none 0 0)))
 simp [results, Tryz.results42, go_sem, n0, n1, n2]
theorem rrd_e1 (l : List UInt8) (A L1 : List UInt8) (K : Nat) (x : Int) (L2 : List UInt8) (E : Int) (w : World) (hl : l.length ≤ 1000000) (h1 : Pk.rt l = (A, L1, 0)) (h2 : small 100 1 L1 = (K, L2, E)) (hx : x = K) (hE : ¬ E = 0) :
  Calls Tryz.prog 42 #[.string ⟨l.toArray⟩] w (RT (T0, [], E) w) := by
 have H_hl := zh hl
 clear hl
 have e1 := bne_t hE
 have H_h1 := zh h1
 have H_h2 := zh h2
 have H_hx := zh hx
 clear h1 h2 hx
 go_enter Tryz.func42, Tryz.ntmps42
 have r0 := Blk.new w #[.string ⟨([] : List UInt8).toArray⟩, .int .i64 0, .slice none 0 0] 30
 have B0 := zh (below1 w (.cells #[.string ⟨([] : List UInt8).toArray⟩, .int .i64 0, .slice none 0 0] 30))
 go_wp2_with fail
 refine (rtextR l A L1 0 _ H_hl.out H_h1.out).mono ?_
 rintro y w1 ⟨rfl, hb⟩
 have r1 := r0.below hb
 have B1 := zh (step0 B0.out hb)
 clear hb r0 B0
 go_wp2_with fail
 refine (rsm_is x E L1 L2 K _ H_h2.out H_hx.out).mono ?_
 rintro y w2 ⟨rfl, hb⟩
 have r2 := r1.below hb
 have B2 := zh (step0 B1.out hb)
 clear hb r1 B1
 have n0 : w2.cell? ⟨w.heap.size, 0, none⟩ = some (.string ⟨([] : List UInt8).toArray⟩) := r2.cell 0
 have p0 : w2.frozen? ⟨w.heap.size, 0, none⟩ = false := r2.frozen 0
 have n1 : w2.cell? ⟨w.heap.size, 1, none⟩ = some (.int .i64 0) := r2.cell 1
 have p1 : w2.frozen? ⟨w.heap.size, 1, none⟩ = false := r2.frozen 1
 have n2 : w2.cell? ⟨w.heap.size, 2, none⟩ = some (.slice none 0 0) := r2.cell 2
 have p2 : w2.frozen? ⟨w.heap.size, 2, none⟩ = false := r2.frozen 2
 clear r2
 go_wp2
 refine bodyPost_ret (v := .tuple #[.agg #[.string ⟨([] : List UInt8).toArray⟩, .int .i64 0, .slice none 0 0], .string ⟨([] : List UInt8).toArray⟩, .int .i64 E]) ?_ rfl (RT.bad E (below_set (below_set (below_set B2.out (Nat.le_refl _) 0 (.string ⟨([] : List UInt8).toArray⟩)) (Nat.le_refl _) 1 (.int .i64 0)) (Nat.le_refl _) 2 (.slice none 0 0)))
 simp [results, Tryz.results42, go_sem, n0, n1, n2]
theorem rrd_e2 (l : List UInt8) (A L1 : List UInt8) (K : Nat) (x : Int) (L2 : List UInt8) (N : Nat) (y : Int) (L3 : List UInt8) (E : Int) (w : World) (hl : l.length ≤ 1000000) (h1 : Pk.rt l = (A, L1, 0)) (h2 : small 100 1 L1 = (K, L2, 0)) (hx : x = K) (h3 : Pk.rd L2 0 0 = (N, L3, E)) (hy : y = N) (hE : ¬ E = 0) :
  Calls Tryz.prog 42 #[.string ⟨l.toArray⟩] w (RT (T0, [], E) w) := by
 have H_hl := zh hl
 clear hl
 have e1 := bne_t hE
 have H_h1 := zh h1
 have H_h2 := zh h2
 have H_hx := zh hx
 have H_h3 := zh h3
 have H_hy := zh hy
 clear h1 h2 hx h3 hy
 go_enter Tryz.func42, Tryz.ntmps42
 have r0 := Blk.new w #[.string ⟨([] : List UInt8).toArray⟩, .int .i64 0, .slice none 0 0] 30
 have B0 := zh (below1 w (.cells #[.string ⟨([] : List UInt8).toArray⟩, .int .i64 0, .slice none 0 0] 30))
 go_wp2_with fail
 refine (rtextR l A L1 0 _ H_hl.out H_h1.out).mono ?_
 rintro y w1 ⟨rfl, hb⟩
 have r1 := r0.below hb
 have B1 := zh (step0 B0.out hb)
 clear hb r0 B0
 go_wp2_with fail
 refine (rsm_is x 0 L1 L2 K _ H_h2.out H_hx.out).mono ?_
 rintro y w2 ⟨rfl, hb⟩
 have r2 := r1.below hb
 have B2 := zh (step0 B1.out hb)
 clear hb r1 B1
 go_wp2_with fail
 refine (rreadU L2 L3 N y E _ H_h3.out H_hy.out).mono ?_
 rintro y w3 ⟨rfl, hb⟩
 have r3 := r2.below hb
 have B3 := zh (step0 B2.out hb)
 clear hb r2 B2
 have n0 : w3.cell? ⟨w.heap.size, 0, none⟩ = some (.string ⟨([] : List UInt8).toArray⟩) := r3.cell 0
 have p0 : w3.frozen? ⟨w.heap.size, 0, none⟩ = false := r3.frozen 0
 have n1 : w3.cell? ⟨w.heap.size, 1, none⟩ = some (.int .i64 0) := r3.cell 1
 have p1 : w3.frozen? ⟨w.heap.size, 1, none⟩ = false := r3.frozen 1
 have n2 : w3.cell? ⟨w.heap.size, 2, none⟩ = some (.slice none 0 0) := r3.cell 2
 have p2 : w3.frozen? ⟨w.heap.size, 2, none⟩ = false := r3.frozen 2
 clear r3
 go_wp2
 refine bodyPost_ret (v := .tuple #[.agg #[.string ⟨([] : List UInt8).toArray⟩, .int .i64 0, .slice none 0 0], .string ⟨([] : List UInt8).toArray⟩, .int .i64 E]) ?_ rfl (RT.bad E (below_set (below_set (below_set B3.out (Nat.le_refl _) 0 (.string ⟨([] : List UInt8).toArray⟩)) (Nat.le_refl _) 1 (.int .i64 0)) (Nat.le_refl _) 2 (.slice none 0 0)))
 simp [results, Tryz.results42, go_sem, n0, n1, n2]
theorem rrd_past (l : List UInt8) (A L1 : List UInt8) (K : Nat) (x : Int) (L2 : List UInt8) (N : Nat) (y : Int) (L3 : List UInt8) (w : World) (hl : l.length ≤ 1000000) (h1 : Pk.rt l = (A, L1, 0)) (h2 : small 100 1 L1 = (K, L2, 0)) (hx : x = K) (h3 : Pk.rd L2 0 0 = (N, L3, 0)) (hy : y = N) (hp : 8 < y) :
  Calls Tryz.prog 42 #[.string ⟨l.toArray⟩] w (RT (T0, [], 2) w) := by
 have H_hl := zh hl
 clear hl
 have H_h1 := zh h1
 have H_h2 := zh h2
 have H_hx := zh hx
 have H_h3 := zh h3
 have H_hy := zh hy
 clear h1 h2 hx h3 hy
 go_enter Tryz.func42, Tryz.ntmps42
 have r0 := Blk.new w #[.string ⟨([] : List UInt8).toArray⟩, .int .i64 0, .slice none 0 0] 30
 have B0 := zh (below1 w (.cells #[.string ⟨([] : List UInt8).toArray⟩, .int .i64 0, .slice none 0 0] 30))
 go_wp2_with fail
 refine (rtextR l A L1 0 _ H_hl.out H_h1.out).mono ?_
 rintro y w1 ⟨rfl, hb⟩
 have r1 := r0.below hb
 have B1 := zh (step0 B0.out hb)
 clear hb r0 B0
 go_wp2_with fail
 refine (rsm_is x 0 L1 L2 K _ H_h2.out H_hx.out).mono ?_
 rintro y w2 ⟨rfl, hb⟩
 have r2 := r1.below hb
 have B2 := zh (step0 B1.out hb)
 clear hb r1 B1
 go_wp2_with fail
 refine (rreadU L2 L3 N y 0 _ H_h3.out H_hy.out).mono ?_
 rintro y w3 ⟨rfl, hb⟩
 have r3 := r2.below hb
 have B3 := zh (step0 B2.out hb)
 clear hb r2 B2
 have n0 : w3.cell? ⟨w.heap.size, 0, none⟩ = some (.string ⟨([] : List UInt8).toArray⟩) := r3.cell 0
 have p0 : w3.frozen? ⟨w.heap.size, 0, none⟩ = false := r3.frozen 0
 have n1 : w3.cell? ⟨w.heap.size, 1, none⟩ = some (.int .i64 0) := r3.cell 1
 have p1 : w3.frozen? ⟨w.heap.size, 1, none⟩ = false := r3.frozen 1
 have n2 : w3.cell? ⟨w.heap.size, 2, none⟩ = some (.slice none 0 0) := r3.cell 2
 have p2 : w3.frozen? ⟨w.heap.size, 2, none⟩ = false := r3.frozen 2
 clear r3
 go_wp2
 refine bodyPost_ret (v := .tuple #[.agg #[.string ⟨([] : List UInt8).toArray⟩, .int .i64 0, .slice none 0 0], .string ⟨([] : List UInt8).toArray⟩, .int .i64 2]) ?_ rfl (RT.bad 2 (below_set (below_set (below_set B3.out (Nat.le_refl _) 0 (.string ⟨([] : List UInt8).toArray⟩)) (Nat.le_refl _) 1 (.int .i64 0)) (Nat.le_refl _) 2 (.slice none 0 0)))
 simp [results, Tryz.results42, go_sem, n0, n1, n2]
theorem rrd_main (l : List UInt8) (A L1 : List UInt8) (K : Nat) (x : Int) (L2 : List UInt8) (N : Nat) (y : Int) (L3 : List UInt8) (w : World) (hl : l.length ≤ 1000000) (h1 : Pk.rt l = (A, L1, 0)) (h2 : small 100 1 L1 = (K, L2, 0)) (hx : x = K) (h3 : Pk.rd L2 0 0 = (N, L3, 0)) (hy : y = N) (hp : decide (8 < y) = false) (hwy : wrap64 y = y) (hN : N ≤ 8) (hL : L3.length ≤ l.length) :
  Calls Tryz.prog 42 #[.string ⟨l.toArray⟩] w (RT (rdn A x N L3) w) := by
 have H_hl := zh hl
 clear hl
 have HN := zh (za hN hL)
 clear hN hL
 have H_h1 := zh h1
 have H_h2 := zh h2
 have H_hx := zh hx
 have H_h3 := zh h3
 have H_hy := zh hy
 clear h1 h2 hx h3 hy
 go_enter Tryz.func42, Tryz.ntmps42
 have r0 := Blk.new w #[.string ⟨([] : List UInt8).toArray⟩, .int .i64 0, .slice none 0 0] 30
 have B0 := zh (below1 w (.cells #[.string ⟨([] : List UInt8).toArray⟩, .int .i64 0, .slice none 0 0] 30))
 go_wp2_with fail
 refine (rtextR l A L1 0 _ H_hl.out H_h1.out).mono ?_
 rintro y w1 ⟨rfl, hb⟩
 have r1 := r0.below hb
 have B1 := zh (step0 B0.out hb)
 clear hb r0 B0
 go_wp2_with fail
 refine (rsm_is x 0 L1 L2 K _ H_h2.out H_hx.out).mono ?_
 rintro y w2 ⟨rfl, hb⟩
 have r2 := r1.below hb
 have B2 := zh (step0 B1.out hb)
 clear hb r1 B1
 go_wp2_with fail
 refine (rreadU L2 L3 N y 0 _ H_h3.out H_hy.out).mono ?_
 rintro y w3 ⟨rfl, hb⟩
 have r3 := r2.below hb
 have B3 := zh (step0 B2.out hb)
 clear hb r2 B2
 have r4 := r3.alloc (.cells #[.string ⟨A.toArray⟩, .int .i64 x, .slice none 0 0] 30)
 have t4 := Blk.new w3 #[.string ⟨A.toArray⟩, .int .i64 x, .slice none 0 0] 30
 have lt3 := r3.lt
 have B4 := zh (B3.out.alloc B3.out.size (.cells #[.string ⟨A.toArray⟩, .int .i64 x, .slice none 0 0] 30))
 have LT := zh lt3
 clear r3 B3 lt3
 go_wp2
 go_loopw [0, 10] (fun q i wr => ∃ (j : Nat) (m : List UInt8) (done : List C) (rv : Value), q = .string ⟨m.toArray⟩ ∧ i = .int .i64 j ∧ j ≤ N ∧ done.length = j ∧ OwC wr (w3.heap.size + 1) rv done ∧ Below w.heap.size w wr ∧ Blk wr w3.heap.size #[.string ⟨A.toArray⟩, .int .i64 x, rv] 30 ∧ Blk wr w.heap.size #[.string ⟨([] : List UInt8).toArray⟩, .int .i64 0, .slice none 0 0] 30 ∧ rdcs N L3 = pc done (rdcs (N - j) m) ∧ m.length ≤ l.length) (fun _ i _ => N - (intOf i).toNat)
 case atStart => exact ⟨0, L3, [], .slice none 0 0, rfl, rfl, Nat.zero_le _, rfl, owc_nil _ _, B4.out, t4, r4, rdcs_shape _ _, HN.out.2⟩
 case round =>
  obtain ⟨j, m, done, rv, rfl, rfl, hj, hd, hO, hbel, hc, hr, hpc, hm⟩ := hrel
  have J := zh (za hO (za hbel (za hc (za hr (za hpc (za hm hd))))))
  clear hO hbel hc hr hpc hm hd
  by_cases hlt : j < N
  ·have lty : decide ((j : Int) < y) = true := by have := H_hy.out; rw [decide_eq_true_iff]; omega
   have lty2 : (j : Int) < y := by have := H_hy.out; omega
   obtain ⟨⟨c, r, e⟩, hR⟩ : ∃ Q, rdc m = Q := ⟨_, rfl⟩
   have HR := zh hR
   have hw : wrap64 ((j : Int) + 1) = (j : Int) + 1 := by have := HN.out.1; exact wrap_in _ (by omega) (by omega)
   clear hR
   by_cases he : e = 0
   ·subst he
    have st := pc_step (n := N - (j + 1)) (l := m) done (by rw [HR.out])
    have ln := rdc_len m
    rw [HR.out, show N - (j + 1) + 1 = N - j by omega] at st
    rw [HR.out] at ln
    have ST := zh (za st ln)
    clear st ln
    go_wp2_with fail
    refine (rcolR_is m r c 0 _ (by have := J.out.2.2.2.2.2.1; have := H_hl.out; omega) HR.out).mono ?_
    rintro y' w6 ⟨rfl, hb⟩
    have x6 := (J.out.2.2.1.below hb).alloc (.cells #[.string ⟨c.name.toArray⟩, .int .i64 c.kind, .bool c.null, .int .i64 c.d.k, .int .i64 c.d.n, .int .u64 c.d.b, .string ⟨c.d.s.toArray⟩] 27)
    have O6 := (J.out.1.keep hb).keep (below1 w6 (.cells #[.string ⟨c.name.toArray⟩, .int .i64 c.kind, .bool c.null, .int .i64 c.d.k, .int .i64 c.d.n, .int .u64 c.d.b, .string ⟨c.d.s.toArray⟩] 27))
    obtain ⟨t0, t1, t2⟩ := x6.t3
    have K6 := zh (za O6 (za ((step0 J.out.2.1 hb).alloc (step0 J.out.2.1 hb).size (.cells #[.string ⟨c.name.toArray⟩, .int .i64 c.kind, .bool c.null, .int .i64 c.d.k, .int .i64 c.d.n, .int .u64 c.d.b, .string ⟨c.d.s.toArray⟩] 27)) (za x6 ((J.out.2.2.2.1.below hb).alloc (.cells #[.string ⟨c.name.toArray⟩, .int .i64 c.kind, .bool c.null, .int .i64 c.d.k, .int .i64 c.d.n, .int .u64 c.d.b, .string ⟨c.d.s.toArray⟩] 27)))))
    clear hb x6 O6
    go_wp2_with (at_builtin; refine appC rfl _ _ rfl (w3.heap.size + 1) rv done c _ rfl K6.out.1 (w6.heap.size + 1) (by simp) rfl (by have := J.out.2.2.2.2.2.2; have := HN.out.1; omega) (by have := K6.out.2.2.1.lt; omega) ?_; intro v' w7 hown' hb'; obtain ⟨vo, vc, rfl, _, _⟩ := hown'.sl; obtain ⟨nn, hnn⟩ : ∃ nn, (done ++ [c]).length = nn := ⟨_, rfl⟩; rw [hnn] at hown' ⊢; have x7 := Blk.below' K6.out.2.2.1 hb' (Nat.lt_succ_self _); have y7 := Blk.below' K6.out.2.2.2 hb' (by have := LT.out; omega); have d2 : w7.cell? ⟨w3.heap.size, 2, none⟩ = some rv := x7.cell 2; have f2 : w7.frozen? ⟨w3.heap.size, 2, none⟩ = false := x7.frozen 2; have K7 := zh (za hown' (za (K6.out.2.1.trans (hb'.mono (by have := LT.out; omega))) (za x7 y7))); clear hown' hb' x7 y7; go_frame)
    have NN := zh hnn
    clear hnn
    go_wp2
    go_roundw
    case rel => exact ⟨j + 1, r, done ++ [c], .slice vo nn vc, rfl, by go_num, hlt, by have := J.out.2.2.2.2.2.2; simp; omega, K7.out.1.low (Nat.lt_succ_self _) 2 _, below_set K7.out.2.1 (by have := LT.out; omega) 2 _, K7.out.2.2.1.setAt 2 (.slice vo nn vc), K7.out.2.2.2.otherAt (by have := LT.out; omega) 2 _, J.out.2.2.2.2.1.trans ST.out.1, by have := J.out.2.2.2.2.2.1; have h5 : r.length ≤ m.length := ST.out.2; omega⟩
    case measure => rw [hw]; simp [intOf]; omega
   ·have e1 := bne_t he
    have st := pc_err (n := N - (j + 1)) (l := m) done (by rw [HR.out]; exact he)
    rw [HR.out, show N - (j + 1) + 1 = N - j by omega] at st
    have ST := zh (za st he)
    clear st he
    go_wp2_with fail
    refine (rcolR_is m r c e _ (by have := J.out.2.2.2.2.2.1; have := H_hl.out; omega) HR.out).mono ?_
    rintro y' w6 ⟨rfl, hb⟩
    have k6 := (J.out.2.2.2.1.below hb).alloc (.cells #[.string ⟨c.name.toArray⟩, .int .i64 c.kind, .bool c.null, .int .i64 c.d.k, .int .i64 c.d.n, .int .u64 c.d.b, .string ⟨c.d.s.toArray⟩] 27)
    have D6 := zh ((step0 J.out.2.1 hb).alloc (step0 J.out.2.1 hb).size (.cells #[.string ⟨c.name.toArray⟩, .int .i64 c.kind, .bool c.null, .int .i64 c.d.k, .int .i64 c.d.n, .int .u64 c.d.b, .string ⟨c.d.s.toArray⟩] 27))
    obtain ⟨W9, hW⟩ : ∃ W9, w6.alloc (.cells #[.string ⟨c.name.toArray⟩, .int .i64 c.kind, .bool c.null, .int .i64 c.d.k, .int .i64 c.d.n, .int .u64 c.d.b, .string ⟨c.d.s.toArray⟩] 27) = W9 := ⟨_, rfl⟩
    rw [hW] at k6 D6
    have n0 : W9.cell? ⟨w.heap.size, 0, none⟩ = some (.string ⟨([] : List UInt8).toArray⟩) := k6.cell 0
    have p0 : W9.frozen? ⟨w.heap.size, 0, none⟩ = false := k6.frozen 0
    have n1 : W9.cell? ⟨w.heap.size, 1, none⟩ = some (.int .i64 0) := k6.cell 1
    have p1 : W9.frozen? ⟨w.heap.size, 1, none⟩ = false := k6.frozen 1
    have n2 : W9.cell? ⟨w.heap.size, 2, none⟩ = some (.slice none 0 0) := k6.cell 2
    have p2 : W9.frozen? ⟨w.heap.size, 2, none⟩ = false := k6.frozen 2
    clear k6 hb
    go_wp2
    have rb : RT (rdn A x N L3) w (.returned (.tuple #[.agg #[.string ⟨([] : List UInt8).toArray⟩, .int .i64 0, .slice none 0 0], .string ⟨([] : List UInt8).toArray⟩, .int .i64 e])) (((W9.setCell ⟨w.heap.size, 0, none⟩ (.string ⟨([] : List UInt8).toArray⟩)).setCell ⟨w.heap.size, 1, none⟩ (.int .i64 0)).setCell ⟨w.heap.size, 2, none⟩ (.slice none 0 0)) := by
     rw [rdn_bad (J.out.2.2.2.2.1.trans ST.out.1) ST.out.2]
     exact RT.bad e (below_set (below_set (below_set D6.out (Nat.le_refl _) 0 _) (Nat.le_refl _) 1 _) (Nat.le_refl _) 2 _)
    refine bodyPost_ret (v := .tuple #[.agg #[.string ⟨([] : List UInt8).toArray⟩, .int .i64 0, .slice none 0 0], .string ⟨([] : List UInt8).toArray⟩, .int .i64 e]) ?_ rfl rb
    simp [results, Tryz.results42, go_sem, n0, n1, n2]
  ·obtain rfl : j = N := by omega
   have lty : decide ((j : Int) < y) = false := by have := H_hy.out; rw [decide_eq_false_iff_not]; omega
   have fr := J.out.1
   obtain ⟨ao, cap, ea, hcp, hS⟩ := J.out.1.sl
   subst ea
   have fr2 : ∀ a, ao = some a → w3.heap.size + 1 ≤ a.block := OwC.fresh fr
   have hp := J.out.2.2.2.2.1
   rw [Nat.sub_self, rdcs] at hp
   have hp2 : rdcs j L3 = (done, m, 0) := by rw [hp]; unfold pc; simp
   have hok : ∀ c ∈ done, c.d.ok := by have := (rdcs_ok j L3).1; rw [hp2] at this; exact this
   obtain ⟨t0, t1, t2⟩ := J.out.2.2.1.t3
   obtain ⟨E, hE⟩ : ∃ E, T.ck ⟨A, x, done⟩ = E := ⟨_, rfl⟩
   have ST := zh (za hcp (za hS (za hp2 (za hok (za fr2 hE)))))
   clear fr hcp hS hp hp2 hok fr2 hE
   by_cases hE0 : E = 0
   ·subst hE0
    go_wp2_with fail
    refine (rcheck_t ⟨A, x, done⟩ ao cap 0 _ ⟨ST.out.2.1, ST.out.1, ST.out.2.2.2.1⟩ ST.out.2.2.2.2.2).mono ?_
    rintro y' w6 ⟨rfl, hb⟩
    have k6 := J.out.2.2.2.1.below hb
    obtain ⟨s0, s1, s2⟩ := (J.out.2.2.1.below hb).t3
    have D6 := zh (za (step0 J.out.2.1 hb) (ST.out.2.1.below hb))
    have n0 : w6.cell? ⟨w.heap.size, 0, none⟩ = some (.string ⟨([] : List UInt8).toArray⟩) := k6.cell 0
    have p0 : w6.frozen? ⟨w.heap.size, 0, none⟩ = false := k6.frozen 0
    have n1 : w6.cell? ⟨w.heap.size, 1, none⟩ = some (.int .i64 0) := k6.cell 1
    have p1 : w6.frozen? ⟨w.heap.size, 1, none⟩ = false := k6.frozen 1
    have n2 : w6.cell? ⟨w.heap.size, 2, none⟩ = some (.slice none 0 0) := k6.cell 2
    have p2 : w6.frozen? ⟨w.heap.size, 2, none⟩ = false := k6.frozen 2
    clear k6 hb t0 t1 t2
    go_wp2
    have ne : ∀ a, ao = some a → a.block ≠ w.heap.size := fun a ha => by have := ST.out.2.2.2.2.1 a ha; have := LT.out; omega
    have rb : RT (rdn A x j L3) w (.returned (.tuple #[.agg #[.string ⟨A.toArray⟩, .int .i64 x, .slice ao done.length cap], .string ⟨m.toArray⟩, .int .i64 0])) (((w6.setCell ⟨w.heap.size, 0, none⟩ (.string ⟨A.toArray⟩)).setCell ⟨w.heap.size, 1, none⟩ (.int .i64 x)).setCell ⟨w.heap.size, 2, none⟩ (.slice ao done.length cap)) := by
     rw [rdn_ok ST.out.2.2.1 ST.out.2.2.2.2.2]
     exact ⟨ao, cap, rfl, ((D6.out.2.far ne 0 _).far ne 1 _).far ne 2 _, ST.out.1, (fun a ha => by have := ST.out.2.2.2.2.1 a ha; have := LT.out; omega), below_set (below_set (below_set D6.out.1 (Nat.le_refl _) 0 _) (Nat.le_refl _) 1 _) (Nat.le_refl _) 2 _⟩
    refine bodyPost_ret (v := .tuple #[.agg #[.string ⟨A.toArray⟩, .int .i64 x, .slice ao done.length cap], .string ⟨m.toArray⟩, .int .i64 0]) ?_ rfl rb
    simp [results, Tryz.results42, go_sem, n0, n1, n2]
   ·have e1 := bne_t hE0
    go_wp2_with fail
    refine (rcheck_t ⟨A, x, done⟩ ao cap E _ ⟨ST.out.2.1, ST.out.1, ST.out.2.2.2.1⟩ ST.out.2.2.2.2.2).mono ?_
    rintro y' w6 ⟨rfl, hb⟩
    have k6 := J.out.2.2.2.1.below hb
    have D6 := zh (step0 J.out.2.1 hb)
    have n0 : w6.cell? ⟨w.heap.size, 0, none⟩ = some (.string ⟨([] : List UInt8).toArray⟩) := k6.cell 0
    have p0 : w6.frozen? ⟨w.heap.size, 0, none⟩ = false := k6.frozen 0
    have n1 : w6.cell? ⟨w.heap.size, 1, none⟩ = some (.int .i64 0) := k6.cell 1
    have p1 : w6.frozen? ⟨w.heap.size, 1, none⟩ = false := k6.frozen 1
    have n2 : w6.cell? ⟨w.heap.size, 2, none⟩ = some (.slice none 0 0) := k6.cell 2
    have p2 : w6.frozen? ⟨w.heap.size, 2, none⟩ = false := k6.frozen 2
    clear k6 hb t0 t1 t2
    go_wp2
    have rb : RT (rdn A x j L3) w (.returned (.tuple #[.agg #[.string ⟨([] : List UInt8).toArray⟩, .int .i64 0, .slice none 0 0], .string ⟨([] : List UInt8).toArray⟩, .int .i64 E])) (((w6.setCell ⟨w.heap.size, 0, none⟩ (.string ⟨([] : List UInt8).toArray⟩)).setCell ⟨w.heap.size, 1, none⟩ (.int .i64 0)).setCell ⟨w.heap.size, 2, none⟩ (.slice none 0 0)) := by
     rw [rdn_no ST.out.2.2.1 ST.out.2.2.2.2.2 hE0]
     exact RT.bad E (below_set (below_set (below_set D6.out (Nat.le_refl _) 0 _) (Nat.le_refl _) 1 _) (Nat.le_refl _) 2 _)
    refine bodyPost_ret (v := .tuple #[.agg #[.string ⟨([] : List UInt8).toArray⟩, .int .i64 0, .slice none 0 0], .string ⟨([] : List UInt8).toArray⟩, .int .i64 E]) ?_ rfl rb
    simp [results, Tryz.results42, go_sem, n0, n1, n2]
theorem rread_t (l : List UInt8) (w : World) (hl : l.length ≤ 1000000) : Calls Tryz.prog 42 #[.string ⟨l.toArray⟩] w (RT (rdt l) w) := by
 obtain ⟨A, L1, E1, h1⟩ : ∃ A L1 E1, Pk.rt l = (A, L1, E1) := ⟨_, _, _, rfl⟩
 have n1 := rt_len l
 have bad : ∀ E, rdr l = (T0, [], E) → E ≠ 0 → rdt l = (T0, [], E) := fun E h hE => by unfold rdt; rw [h, if_pos hE]
 by_cases g1 : E1 = 0
 ·subst g1
  obtain ⟨K, L2, E2, h2⟩ : ∃ K L2 E2, small 100 1 L1 = (K, L2, E2) := ⟨_, _, _, rfl⟩
  have n2 := small_len 100 1 L1
  rw [h1] at n1
  rw [h2] at n2
  simp only at n1 n2
  by_cases g2 : E2 = 0
  ·subst g2
   rcases Pk.rd_cases L2 with ⟨N, L3, g, _, eL⟩ | ⟨e', g, he⟩
   ·have n3 : L3.length ≤ L2.length := by rw [← eL, List.length_append]; omega
    by_cases hp : 8 < N
    ·have h3 : small 8 2 L2 = (0, [], 2) := by unfold small; rw [g]; simp only [ne_eq, not_true_eq_false, if_false]; rw [if_pos hp]
     rw [bad 2 (by unfold rdr; simp only [h1, h2, h3]; simp) (by decide)]
     exact rrd_past l A L1 K K L2 N N L3 w hl h1 h2 rfl g rfl (by omega)
    ·have h3 : small 8 2 L2 = (N, L3, 0) := by unfold small; rw [g]; simp only [ne_eq, not_true_eq_false, if_false]; rw [if_neg hp]
     have e : rdr l = rdm A K N L3 := by unfold rdr rdm; simp only [h1, h2, h3]; simp
     have e2 : rdt l = rdn A K N L3 := by unfold rdt rdn; rw [e]
     rw [e2]
     exact rrd_main l A L1 K K L2 N N L3 w hl h1 h2 rfl g rfl (by rw [decide_eq_false_iff_not]; omega) (wrap_in _ (by omega) (by omega)) (by omega) (by omega)
   ·have hn : ¬ e' = 0 := by omega
    have h3 : small 8 2 L2 = (0, [], e') := by unfold small; rw [g, if_pos hn]
    rw [bad e' (by unfold rdr; simp only [h1, h2, h3]; simp [hn]) hn]
    exact rrd_e2 l A L1 K K L2 0 0 [] e' w hl h1 h2 rfl g rfl hn
  ·rw [bad E2 (by unfold rdr; simp only [h1, h2]; simp [g2]) g2]
   exact rrd_e1 l A L1 K K L2 E2 w hl h1 h2 rfl g2
 ·rw [bad E1 (by unfold rdr; simp only [h1]; simp [g1]) g1]
  exact rrd_e0 l A L1 E1 w hl h1 g1
end Go.Proofs.YtmgdciihpjifgaaGreatDoor
