/-
 What bytes begin with, by the document: Small, col. Conditions: texts of 1000000 bytes at most.
-/
import Derived.Test.YtmgdciihpjifgaaGreatDoorQrScRead
import Derived.Test.YtmgdciihpjifgaaGreatDoorQrPackRefInts
import Derived.Deep.RegionHeld3
import Derived.Deep.DrawnRows
set_option maxHeartbeats 4000000
namespace Go.Proofs.YtmgdciihpjifgaaGreatDoor
open Go.RowKit
theorem rtextR (l t r : List UInt8) (e : Int) (w : World) (hl : l.length ≤ 1000000) (h : Pk.rt l = (t, r, e)) :
  Calls Tryz.prog 51 #[.string ⟨l.toArray⟩] w fun x w' => x = .returned (.tuple #[.string ⟨t.toArray⟩, .string ⟨r.toArray⟩, .int .i64 e]) ∧ Below w.heap.size w w' :=
 (rreadText_is l t r e w (by omega) h).mono fun x w' ⟨hx, n, hw⟩ => ⟨hx, hw ▸ drew_b w n⟩
theorem rreadU (l r : List UInt8) (N : Nat) (x e : Int) (w : World) (h : Pk.rd l 0 0 = (N, r, e)) (hx : x = N) :
  Calls Tryz.prog 67 #[.string ⟨l.toArray⟩] w fun y w' => y = .returned (.tuple #[.int .u64 x, .string ⟨r.toArray⟩, .int .i64 e]) ∧ Below w.heap.size w w' := by
 subst hx
 exact (rreadUint_is l r N e w h).mono fun x w' ⟨hx, n, hw⟩ => ⟨hx, hw ▸ drew_b w n⟩
theorem rsm_bad (e : Int) (l : List UInt8) (w : World) (h : Pk.rd l 0 0 = (0, [], e)) (he : ¬ e = 0) :
  Calls Tryz.prog 68 #[.string ⟨l.toArray⟩] w fun x w' => x = .returned (.tuple #[.int .i64 0, .string ⟨([] : List UInt8).toArray⟩, .int .i64 e]) ∧ Below w.heap.size w w' := by
 have e1 := bne_t he
 go_enter Tryz.func68, Tryz.ntmps68
 go_wp2_with fail
 refine (rreadU l [] 0 0 e _ h rfl).mono ?_
 rintro x w1 ⟨rfl, hb⟩
 have B := zh hb
 clear hb
 go_wp2
 go_ret3
 exact ⟨rfl, B.out⟩
theorem rsm_past (x : Int) (N : Nat) (l r : List UInt8) (w : World) (h : Pk.rd l 0 0 = (N, r, 0)) (hx : x = N) (hp : 100 < x) :
  Calls Tryz.prog 68 #[.string ⟨l.toArray⟩] w fun y w' => y = .returned (.tuple #[.int .i64 0, .string ⟨([] : List UInt8).toArray⟩, .int .i64 1]) ∧ Below w.heap.size w w' := by
 have H := zh (za h hx)
 clear h hx
 go_enter Tryz.func68, Tryz.ntmps68
 go_wp2_with fail
 refine (rreadU l r N x 0 _ H.out.1 H.out.2).mono ?_
 rintro y w1 ⟨rfl, hb⟩
 have B := zh hb
 clear hb
 go_wp2
 go_ret3
 exact ⟨rfl, B.out⟩
theorem rsm_ok (x : Int) (N : Nat) (l r : List UInt8) (w : World) (h : Pk.rd l 0 0 = (N, r, 0)) (hx : x = N) (hp : decide (100 < x) = false) (hw : wrap64 x = x) :
  Calls Tryz.prog 68 #[.string ⟨l.toArray⟩] w fun y w' => y = .returned (.tuple #[.int .i64 x, .string ⟨r.toArray⟩, .int .i64 0]) ∧ Below w.heap.size w w' := by
 have H := zh (za h hx)
 clear h hx
 go_enter Tryz.func68, Tryz.ntmps68
 go_wp2_with fail
 refine (rreadU l r N x 0 _ H.out.1 H.out.2).mono ?_
 rintro y w1 ⟨rfl, hb⟩
 have B := zh hb
 clear hb
 go_wp2
 go_ret3
 exact ⟨by rw [hw]; rfl, B.out⟩
theorem rsm_is (x e : Int) (l r : List UInt8) (N : Nat) (w : World) (h : small 100 1 l = (N, r, e)) (hx : x = N) :
  Calls Tryz.prog 68 #[.string ⟨l.toArray⟩] w fun y w' => y = .returned (.tuple #[.int .i64 x, .string ⟨r.toArray⟩, .int .i64 e]) ∧ Below w.heap.size w w' := by
 subst hx
 unfold small at h
 rcases Pk.rd_cases l with ⟨M, q, g, _, _⟩ | ⟨e', g, he⟩
 ·rw [g] at h
  simp only [ne_eq, not_true_eq_false, if_false] at h
  by_cases hp : 100 < M
  ·rw [if_pos hp] at h
   obtain ⟨rfl, rfl, rfl⟩ : 0 = N ∧ [] = r ∧ 1 = e := by simpa using h
   exact rsm_past M M l q w g rfl (by omega)
  ·rw [if_neg hp] at h
   obtain ⟨rfl, rfl, rfl⟩ : M = N ∧ q = r ∧ 0 = e := by simpa using h
   exact rsm_ok M M l q w g rfl (by rw [decide_eq_false_iff_not]; omega) (wrap_in _ (by omega) (by omega))
 ·have hn : ¬ e' = 0 := by omega
  rw [g] at h
  rw [if_pos hn] at h
  obtain ⟨rfl, rfl, rfl⟩ : 0 = N ∧ [] = r ∧ e' = e := by simpa using h
  exact rsm_bad e' l w g hn
theorem blk_drew {W : World} {B : Nat} {cs : Array Value} {t : TypeId} (h : Blk W B cs t) : Blk (World.drew W) B cs t := h
theorem four_drew {W : World} {D : Nat} {u0 u1 u2 u3 : Value} (h : W.cell? ⟨D, 0, none⟩ = some u0 ∧ W.cell? ⟨D, 1, none⟩ = some u1 ∧ W.cell? ⟨D, 2, none⟩ = some u2 ∧ W.cell? ⟨D, 3, none⟩ = some u3) : (World.drew W).cell? ⟨D, 0, none⟩ = some u0 ∧ (World.drew W).cell? ⟨D, 1, none⟩ = some u1 ∧ (World.drew W).cell? ⟨D, 2, none⟩ = some u2 ∧ (World.drew W).cell? ⟨D, 3, none⟩ = some u3 := h
theorem four_far {W : World} {D G : Nat} {k n b : Int} {s : List UInt8} (hne : D ≠ G) (h : W.cell? ⟨D, 0, none⟩ = some (.int .i64 k) ∧ W.cell? ⟨D, 1, none⟩ = some (.int .i64 n) ∧ W.cell? ⟨D, 2, none⟩ = some (.int .u64 b) ∧ W.cell? ⟨D, 3, none⟩ = some (.string ⟨s.toArray⟩)) (A : List UInt8) (x : Int) (v : Bool) (k' n' b' : Int) (s' : List UInt8) :
  ((((((((W.setCell ⟨G, 0, none⟩ (.string ⟨A.toArray⟩)).setCell ⟨G, 1, none⟩ (.int .i64 x)).setCell ⟨G, 2, none⟩ (.bool v)).setCell ⟨G, 3, none⟩ (.int .i64 k')).setCell ⟨G, 4, none⟩ (.int .i64 n')).setCell ⟨G, 5, none⟩ (.int .u64 b')).setCell ⟨G, 6, none⟩ (.string ⟨s'.toArray⟩))).cell? ⟨D, 0, none⟩ = some (.int .i64 k) ∧ ((((((((W.setCell ⟨G, 0, none⟩ (.string ⟨A.toArray⟩)).setCell ⟨G, 1, none⟩ (.int .i64 x)).setCell ⟨G, 2, none⟩ (.bool v)).setCell ⟨G, 3, none⟩ (.int .i64 k')).setCell ⟨G, 4, none⟩ (.int .i64 n')).setCell ⟨G, 5, none⟩ (.int .u64 b')).setCell ⟨G, 6, none⟩ (.string ⟨s'.toArray⟩))).cell? ⟨D, 1, none⟩ = some (.int .i64 n) ∧ ((((((((W.setCell ⟨G, 0, none⟩ (.string ⟨A.toArray⟩)).setCell ⟨G, 1, none⟩ (.int .i64 x)).setCell ⟨G, 2, none⟩ (.bool v)).setCell ⟨G, 3, none⟩ (.int .i64 k')).setCell ⟨G, 4, none⟩ (.int .i64 n')).setCell ⟨G, 5, none⟩ (.int .u64 b')).setCell ⟨G, 6, none⟩ (.string ⟨s'.toArray⟩))).cell? ⟨D, 2, none⟩ = some (.int .u64 b) ∧ ((((((((W.setCell ⟨G, 0, none⟩ (.string ⟨A.toArray⟩)).setCell ⟨G, 1, none⟩ (.int .i64 x)).setCell ⟨G, 2, none⟩ (.bool v)).setCell ⟨G, 3, none⟩ (.int .i64 k')).setCell ⟨G, 4, none⟩ (.int .i64 n')).setCell ⟨G, 5, none⟩ (.int .u64 b')).setCell ⟨G, 6, none⟩ (.string ⟨s'.toArray⟩))).cell? ⟨D, 3, none⟩ = some (.string ⟨s.toArray⟩) := by
 obtain ⟨h0, h1, h2, h3⟩ := h
 exact ⟨(cell_far (p := ⟨_, _, none⟩) hne (cell_far (p := ⟨_, _, none⟩) hne (cell_far (p := ⟨_, _, none⟩) hne (cell_far (p := ⟨_, _, none⟩) hne (cell_far (p := ⟨_, _, none⟩) hne (cell_far (p := ⟨_, _, none⟩) hne (cell_far (p := ⟨_, _, none⟩) hne h0))))))), (cell_far (p := ⟨_, _, none⟩) hne (cell_far (p := ⟨_, _, none⟩) hne (cell_far (p := ⟨_, _, none⟩) hne (cell_far (p := ⟨_, _, none⟩) hne (cell_far (p := ⟨_, _, none⟩) hne (cell_far (p := ⟨_, _, none⟩) hne (cell_far (p := ⟨_, _, none⟩) hne h1))))))), (cell_far (p := ⟨_, _, none⟩) hne (cell_far (p := ⟨_, _, none⟩) hne (cell_far (p := ⟨_, _, none⟩) hne (cell_far (p := ⟨_, _, none⟩) hne (cell_far (p := ⟨_, _, none⟩) hne (cell_far (p := ⟨_, _, none⟩) hne (cell_far (p := ⟨_, _, none⟩) hne h2))))))), (cell_far (p := ⟨_, _, none⟩) hne (cell_far (p := ⟨_, _, none⟩) hne (cell_far (p := ⟨_, _, none⟩) hne (cell_far (p := ⟨_, _, none⟩) hne (cell_far (p := ⟨_, _, none⟩) hne (cell_far (p := ⟨_, _, none⟩) hne (cell_far (p := ⟨_, _, none⟩) hne h3)))))))⟩
theorem rcl_e0 (l : List UInt8) (A L1 : List UInt8) (E : Int) (w : World) (hl : l.length ≤ 1000000) (h1 : Pk.rt l = (A, L1, E)) (hE : ¬ E = 0) :
  Calls Tryz.prog 69 #[.string ⟨l.toArray⟩] w fun e w' => e = .returned (.tuple #[.agg #[.string ⟨([] : List UInt8).toArray⟩, .int .i64 0, .bool false, .int .i64 0, .int .i64 0, .int .u64 0, .string ⟨([] : List UInt8).toArray⟩], .string ⟨([] : List UInt8).toArray⟩, .int .i64 E]) ∧ Below w.heap.size w w' := by
 have H_hl := zh hl
 clear hl
 have e1 := bne_t hE
 have H_h1 := zh h1
 clear h1
 go_enter Tryz.func69, Tryz.ntmps69
 have r0 := (Blk.new w #[.string ⟨([] : List UInt8).toArray⟩, .int .i64 0, .bool false, .int .i64 0, .int .i64 0, .int .u64 0, .string ⟨([] : List UInt8).toArray⟩] 27).alloc (.cells #[.string ⟨([] : List UInt8).toArray⟩, .int .i64 0, .bool false, .int .i64 0, .int .i64 0, .int .u64 0, .string ⟨([] : List UInt8).toArray⟩] 27)
 have c0 : Blk ((w.alloc (.cells #[.string ⟨([] : List UInt8).toArray⟩, .int .i64 0, .bool false, .int .i64 0, .int .i64 0, .int .u64 0, .string ⟨([] : List UInt8).toArray⟩] 27)).alloc (.cells #[.string ⟨([] : List UInt8).toArray⟩, .int .i64 0, .bool false, .int .i64 0, .int .i64 0, .int .u64 0, .string ⟨([] : List UInt8).toArray⟩] 27)) (w.heap.size + 1) #[.string ⟨([] : List UInt8).toArray⟩, .int .i64 0, .bool false, .int .i64 0, .int .i64 0, .int .u64 0, .string ⟨([] : List UInt8).toArray⟩] 27 := by have := Blk.new (w.alloc (.cells #[.string ⟨([] : List UInt8).toArray⟩, .int .i64 0, .bool false, .int .i64 0, .int .i64 0, .int .u64 0, .string ⟨([] : List UInt8).toArray⟩] 27)) #[.string ⟨([] : List UInt8).toArray⟩, .int .i64 0, .bool false, .int .i64 0, .int .i64 0, .int .u64 0, .string ⟨([] : List UInt8).toArray⟩] 27; simpa using this
 have B0 := zh (below2s w (.cells #[.string ⟨([] : List UInt8).toArray⟩, .int .i64 0, .bool false, .int .i64 0, .int .i64 0, .int .u64 0, .string ⟨([] : List UInt8).toArray⟩] 27) (.cells #[.string ⟨([] : List UInt8).toArray⟩, .int .i64 0, .bool false, .int .i64 0, .int .i64 0, .int .u64 0, .string ⟨([] : List UInt8).toArray⟩] 27))
 go_wp2_with fail
 refine (rtextR l A L1 E _ H_hl.out H_h1.out).mono ?_
 rintro y w1 ⟨rfl, hb⟩
 have r1 := r0.below hb
 have c1 := c0.below hb
 have B1 := zh (step0 B0.out hb)
 clear hb r0 c0 B0
 have n0 : w1.cell? ⟨w.heap.size, 0, none⟩ = some (.string ⟨([] : List UInt8).toArray⟩) := r1.cell 0
 have p0 : w1.frozen? ⟨w.heap.size, 0, none⟩ = false := r1.frozen 0
 have m0 : w1.cell? ⟨w.heap.size + 1, 0, none⟩ = some (.string ⟨([] : List UInt8).toArray⟩) := c1.cell 0
 have n1 : w1.cell? ⟨w.heap.size, 1, none⟩ = some (.int .i64 0) := r1.cell 1
 have p1 : w1.frozen? ⟨w.heap.size, 1, none⟩ = false := r1.frozen 1
 have m1 : w1.cell? ⟨w.heap.size + 1, 1, none⟩ = some (.int .i64 0) := c1.cell 1
 have n2 : w1.cell? ⟨w.heap.size, 2, none⟩ = some (.bool false) := r1.cell 2
 have p2 : w1.frozen? ⟨w.heap.size, 2, none⟩ = false := r1.frozen 2
 have m2 : w1.cell? ⟨w.heap.size + 1, 2, none⟩ = some (.bool false) := c1.cell 2
 have n3 : w1.cell? ⟨w.heap.size, 3, none⟩ = some (.int .i64 0) := r1.cell 3
 have p3 : w1.frozen? ⟨w.heap.size, 3, none⟩ = false := r1.frozen 3
 have m3 : w1.cell? ⟨w.heap.size + 1, 3, none⟩ = some (.int .i64 0) := c1.cell 3
 have n4 : w1.cell? ⟨w.heap.size, 4, none⟩ = some (.int .i64 0) := r1.cell 4
 have p4 : w1.frozen? ⟨w.heap.size, 4, none⟩ = false := r1.frozen 4
 have m4 : w1.cell? ⟨w.heap.size + 1, 4, none⟩ = some (.int .i64 0) := c1.cell 4
 have n5 : w1.cell? ⟨w.heap.size, 5, none⟩ = some (.int .u64 0) := r1.cell 5
 have p5 : w1.frozen? ⟨w.heap.size, 5, none⟩ = false := r1.frozen 5
 have m5 : w1.cell? ⟨w.heap.size + 1, 5, none⟩ = some (.int .u64 0) := c1.cell 5
 have n6 : w1.cell? ⟨w.heap.size, 6, none⟩ = some (.string ⟨([] : List UInt8).toArray⟩) := r1.cell 6
 have p6 : w1.frozen? ⟨w.heap.size, 6, none⟩ = false := r1.frozen 6
 have m6 : w1.cell? ⟨w.heap.size + 1, 6, none⟩ = some (.string ⟨([] : List UInt8).toArray⟩) := c1.cell 6
 clear r1 c1
 go_wp2
 refine bodyPost_ret (v := .tuple #[.agg #[.string ⟨([] : List UInt8).toArray⟩, .int .i64 0, .bool false, .int .i64 0, .int .i64 0, .int .u64 0, .string ⟨([] : List UInt8).toArray⟩], .string ⟨([] : List UInt8).toArray⟩, .int .i64 E]) ?_ rfl ⟨rfl, (below_set (below_set (below_set (below_set (below_set (below_set (below_set B1.out (Nat.le_refl _) 0 (.string ⟨([] : List UInt8).toArray⟩)) (Nat.le_refl _) 1 (.int .i64 0)) (Nat.le_refl _) 2 (.bool false)) (Nat.le_refl _) 3 (.int .i64 0)) (Nat.le_refl _) 4 (.int .i64 0)) (Nat.le_refl _) 5 (.int .u64 0)) (Nat.le_refl _) 6 (.string ⟨([] : List UInt8).toArray⟩))⟩
 simp [results, Tryz.results69, go_sem, n0, n1, n2, n3, n4, n5, n6]
theorem rcl_e1 (l : List UInt8) (A L1 : List UInt8) (N : Nat) (x : Int) (L2 : List UInt8) (E : Int) (w : World) (hl : l.length ≤ 1000000) (h1 : Pk.rt l = (A, L1, 0)) (h2 : small 100 1 L1 = (N, L2, E)) (hx : x = N) (hE : ¬ E = 0) :
  Calls Tryz.prog 69 #[.string ⟨l.toArray⟩] w fun e w' => e = .returned (.tuple #[.agg #[.string ⟨([] : List UInt8).toArray⟩, .int .i64 0, .bool false, .int .i64 0, .int .i64 0, .int .u64 0, .string ⟨([] : List UInt8).toArray⟩], .string ⟨([] : List UInt8).toArray⟩, .int .i64 E]) ∧ Below w.heap.size w w' := by
 have H_hl := zh hl
 clear hl
 have e1 := bne_t hE
 have H_h1 := zh h1
 have H_h2 := zh h2
 have H_hx := zh hx
 clear h1 h2 hx
 go_enter Tryz.func69, Tryz.ntmps69
 have r0 := (Blk.new w #[.string ⟨([] : List UInt8).toArray⟩, .int .i64 0, .bool false, .int .i64 0, .int .i64 0, .int .u64 0, .string ⟨([] : List UInt8).toArray⟩] 27).alloc (.cells #[.string ⟨([] : List UInt8).toArray⟩, .int .i64 0, .bool false, .int .i64 0, .int .i64 0, .int .u64 0, .string ⟨([] : List UInt8).toArray⟩] 27)
 have c0 : Blk ((w.alloc (.cells #[.string ⟨([] : List UInt8).toArray⟩, .int .i64 0, .bool false, .int .i64 0, .int .i64 0, .int .u64 0, .string ⟨([] : List UInt8).toArray⟩] 27)).alloc (.cells #[.string ⟨([] : List UInt8).toArray⟩, .int .i64 0, .bool false, .int .i64 0, .int .i64 0, .int .u64 0, .string ⟨([] : List UInt8).toArray⟩] 27)) (w.heap.size + 1) #[.string ⟨([] : List UInt8).toArray⟩, .int .i64 0, .bool false, .int .i64 0, .int .i64 0, .int .u64 0, .string ⟨([] : List UInt8).toArray⟩] 27 := by have := Blk.new (w.alloc (.cells #[.string ⟨([] : List UInt8).toArray⟩, .int .i64 0, .bool false, .int .i64 0, .int .i64 0, .int .u64 0, .string ⟨([] : List UInt8).toArray⟩] 27)) #[.string ⟨([] : List UInt8).toArray⟩, .int .i64 0, .bool false, .int .i64 0, .int .i64 0, .int .u64 0, .string ⟨([] : List UInt8).toArray⟩] 27; simpa using this
 have B0 := zh (below2s w (.cells #[.string ⟨([] : List UInt8).toArray⟩, .int .i64 0, .bool false, .int .i64 0, .int .i64 0, .int .u64 0, .string ⟨([] : List UInt8).toArray⟩] 27) (.cells #[.string ⟨([] : List UInt8).toArray⟩, .int .i64 0, .bool false, .int .i64 0, .int .i64 0, .int .u64 0, .string ⟨([] : List UInt8).toArray⟩] 27))
 go_wp2_with fail
 refine (rtextR l A L1 0 _ H_hl.out H_h1.out).mono ?_
 rintro y w1 ⟨rfl, hb⟩
 have r1 := r0.below hb
 have c1 := c0.below hb
 have B1 := zh (step0 B0.out hb)
 clear hb r0 c0 B0
 go_wp2_with fail
 refine (rsm_is x E L1 L2 N _ H_h2.out H_hx.out).mono ?_
 rintro y w2 ⟨rfl, hb⟩
 have r2 := r1.below hb
 have c2 := c1.below hb
 have B2 := zh (step0 B1.out hb)
 clear hb r1 c1 B1
 have n0 : w2.cell? ⟨w.heap.size, 0, none⟩ = some (.string ⟨([] : List UInt8).toArray⟩) := r2.cell 0
 have p0 : w2.frozen? ⟨w.heap.size, 0, none⟩ = false := r2.frozen 0
 have m0 : w2.cell? ⟨w.heap.size + 1, 0, none⟩ = some (.string ⟨([] : List UInt8).toArray⟩) := c2.cell 0
 have n1 : w2.cell? ⟨w.heap.size, 1, none⟩ = some (.int .i64 0) := r2.cell 1
 have p1 : w2.frozen? ⟨w.heap.size, 1, none⟩ = false := r2.frozen 1
 have m1 : w2.cell? ⟨w.heap.size + 1, 1, none⟩ = some (.int .i64 0) := c2.cell 1
 have n2 : w2.cell? ⟨w.heap.size, 2, none⟩ = some (.bool false) := r2.cell 2
 have p2 : w2.frozen? ⟨w.heap.size, 2, none⟩ = false := r2.frozen 2
 have m2 : w2.cell? ⟨w.heap.size + 1, 2, none⟩ = some (.bool false) := c2.cell 2
 have n3 : w2.cell? ⟨w.heap.size, 3, none⟩ = some (.int .i64 0) := r2.cell 3
 have p3 : w2.frozen? ⟨w.heap.size, 3, none⟩ = false := r2.frozen 3
 have m3 : w2.cell? ⟨w.heap.size + 1, 3, none⟩ = some (.int .i64 0) := c2.cell 3
 have n4 : w2.cell? ⟨w.heap.size, 4, none⟩ = some (.int .i64 0) := r2.cell 4
 have p4 : w2.frozen? ⟨w.heap.size, 4, none⟩ = false := r2.frozen 4
 have m4 : w2.cell? ⟨w.heap.size + 1, 4, none⟩ = some (.int .i64 0) := c2.cell 4
 have n5 : w2.cell? ⟨w.heap.size, 5, none⟩ = some (.int .u64 0) := r2.cell 5
 have p5 : w2.frozen? ⟨w.heap.size, 5, none⟩ = false := r2.frozen 5
 have m5 : w2.cell? ⟨w.heap.size + 1, 5, none⟩ = some (.int .u64 0) := c2.cell 5
 have n6 : w2.cell? ⟨w.heap.size, 6, none⟩ = some (.string ⟨([] : List UInt8).toArray⟩) := r2.cell 6
 have p6 : w2.frozen? ⟨w.heap.size, 6, none⟩ = false := r2.frozen 6
 have m6 : w2.cell? ⟨w.heap.size + 1, 6, none⟩ = some (.string ⟨([] : List UInt8).toArray⟩) := c2.cell 6
 clear r2 c2
 go_wp2
 refine bodyPost_ret (v := .tuple #[.agg #[.string ⟨([] : List UInt8).toArray⟩, .int .i64 0, .bool false, .int .i64 0, .int .i64 0, .int .u64 0, .string ⟨([] : List UInt8).toArray⟩], .string ⟨([] : List UInt8).toArray⟩, .int .i64 E]) ?_ rfl ⟨rfl, (below_set (below_set (below_set (below_set (below_set (below_set (below_set B2.out (Nat.le_refl _) 0 (.string ⟨([] : List UInt8).toArray⟩)) (Nat.le_refl _) 1 (.int .i64 0)) (Nat.le_refl _) 2 (.bool false)) (Nat.le_refl _) 3 (.int .i64 0)) (Nat.le_refl _) 4 (.int .i64 0)) (Nat.le_refl _) 5 (.int .u64 0)) (Nat.le_refl _) 6 (.string ⟨([] : List UInt8).toArray⟩))⟩
 simp [results, Tryz.results69, go_sem, n0, n1, n2, n3, n4, n5, n6]
theorem rcl_nil (l : List UInt8) (A L1 : List UInt8) (N : Nat) (x : Int) (w : World) (hl : l.length ≤ 1000000) (h1 : Pk.rt l = (A, L1, 0)) (h2 : small 100 1 L1 = (N, [], 0)) (hx : x = N) :
  Calls Tryz.prog 69 #[.string ⟨l.toArray⟩] w fun e w' => e = .returned (.tuple #[.agg #[.string ⟨([] : List UInt8).toArray⟩, .int .i64 0, .bool false, .int .i64 0, .int .i64 0, .int .u64 0, .string ⟨([] : List UInt8).toArray⟩], .string ⟨([] : List UInt8).toArray⟩, .int .i64 3]) ∧ Below w.heap.size w w' := by
 have H_hl := zh hl
 clear hl
 have H_h1 := zh h1
 have H_h2 := zh h2
 have H_hx := zh hx
 clear h1 h2 hx
 go_enter Tryz.func69, Tryz.ntmps69
 have r0 := (Blk.new w #[.string ⟨([] : List UInt8).toArray⟩, .int .i64 0, .bool false, .int .i64 0, .int .i64 0, .int .u64 0, .string ⟨([] : List UInt8).toArray⟩] 27).alloc (.cells #[.string ⟨([] : List UInt8).toArray⟩, .int .i64 0, .bool false, .int .i64 0, .int .i64 0, .int .u64 0, .string ⟨([] : List UInt8).toArray⟩] 27)
 have c0 : Blk ((w.alloc (.cells #[.string ⟨([] : List UInt8).toArray⟩, .int .i64 0, .bool false, .int .i64 0, .int .i64 0, .int .u64 0, .string ⟨([] : List UInt8).toArray⟩] 27)).alloc (.cells #[.string ⟨([] : List UInt8).toArray⟩, .int .i64 0, .bool false, .int .i64 0, .int .i64 0, .int .u64 0, .string ⟨([] : List UInt8).toArray⟩] 27)) (w.heap.size + 1) #[.string ⟨([] : List UInt8).toArray⟩, .int .i64 0, .bool false, .int .i64 0, .int .i64 0, .int .u64 0, .string ⟨([] : List UInt8).toArray⟩] 27 := by have := Blk.new (w.alloc (.cells #[.string ⟨([] : List UInt8).toArray⟩, .int .i64 0, .bool false, .int .i64 0, .int .i64 0, .int .u64 0, .string ⟨([] : List UInt8).toArray⟩] 27)) #[.string ⟨([] : List UInt8).toArray⟩, .int .i64 0, .bool false, .int .i64 0, .int .i64 0, .int .u64 0, .string ⟨([] : List UInt8).toArray⟩] 27; simpa using this
 have B0 := zh (below2s w (.cells #[.string ⟨([] : List UInt8).toArray⟩, .int .i64 0, .bool false, .int .i64 0, .int .i64 0, .int .u64 0, .string ⟨([] : List UInt8).toArray⟩] 27) (.cells #[.string ⟨([] : List UInt8).toArray⟩, .int .i64 0, .bool false, .int .i64 0, .int .i64 0, .int .u64 0, .string ⟨([] : List UInt8).toArray⟩] 27))
 go_wp2_with fail
 refine (rtextR l A L1 0 _ H_hl.out H_h1.out).mono ?_
 rintro y w1 ⟨rfl, hb⟩
 have r1 := r0.below hb
 have c1 := c0.below hb
 have B1 := zh (step0 B0.out hb)
 clear hb r0 c0 B0
 go_wp2_with fail
 refine (rsm_is x 0 L1 [] N _ H_h2.out H_hx.out).mono ?_
 rintro y w2 ⟨rfl, hb⟩
 have r2 := r1.below hb
 have c2 := c1.below hb
 have B2 := zh (step0 B1.out hb)
 clear hb r1 c1 B1
 have n0 : w2.cell? ⟨w.heap.size, 0, none⟩ = some (.string ⟨([] : List UInt8).toArray⟩) := r2.cell 0
 have p0 : w2.frozen? ⟨w.heap.size, 0, none⟩ = false := r2.frozen 0
 have m0 : w2.cell? ⟨w.heap.size + 1, 0, none⟩ = some (.string ⟨([] : List UInt8).toArray⟩) := c2.cell 0
 have n1 : w2.cell? ⟨w.heap.size, 1, none⟩ = some (.int .i64 0) := r2.cell 1
 have p1 : w2.frozen? ⟨w.heap.size, 1, none⟩ = false := r2.frozen 1
 have m1 : w2.cell? ⟨w.heap.size + 1, 1, none⟩ = some (.int .i64 0) := c2.cell 1
 have n2 : w2.cell? ⟨w.heap.size, 2, none⟩ = some (.bool false) := r2.cell 2
 have p2 : w2.frozen? ⟨w.heap.size, 2, none⟩ = false := r2.frozen 2
 have m2 : w2.cell? ⟨w.heap.size + 1, 2, none⟩ = some (.bool false) := c2.cell 2
 have n3 : w2.cell? ⟨w.heap.size, 3, none⟩ = some (.int .i64 0) := r2.cell 3
 have p3 : w2.frozen? ⟨w.heap.size, 3, none⟩ = false := r2.frozen 3
 have m3 : w2.cell? ⟨w.heap.size + 1, 3, none⟩ = some (.int .i64 0) := c2.cell 3
 have n4 : w2.cell? ⟨w.heap.size, 4, none⟩ = some (.int .i64 0) := r2.cell 4
 have p4 : w2.frozen? ⟨w.heap.size, 4, none⟩ = false := r2.frozen 4
 have m4 : w2.cell? ⟨w.heap.size + 1, 4, none⟩ = some (.int .i64 0) := c2.cell 4
 have n5 : w2.cell? ⟨w.heap.size, 5, none⟩ = some (.int .u64 0) := r2.cell 5
 have p5 : w2.frozen? ⟨w.heap.size, 5, none⟩ = false := r2.frozen 5
 have m5 : w2.cell? ⟨w.heap.size + 1, 5, none⟩ = some (.int .u64 0) := c2.cell 5
 have n6 : w2.cell? ⟨w.heap.size, 6, none⟩ = some (.string ⟨([] : List UInt8).toArray⟩) := r2.cell 6
 have p6 : w2.frozen? ⟨w.heap.size, 6, none⟩ = false := r2.frozen 6
 have m6 : w2.cell? ⟨w.heap.size + 1, 6, none⟩ = some (.string ⟨([] : List UInt8).toArray⟩) := c2.cell 6
 clear r2 c2
 go_wp2
 refine bodyPost_ret (v := .tuple #[.agg #[.string ⟨([] : List UInt8).toArray⟩, .int .i64 0, .bool false, .int .i64 0, .int .i64 0, .int .u64 0, .string ⟨([] : List UInt8).toArray⟩], .string ⟨([] : List UInt8).toArray⟩, .int .i64 3]) ?_ rfl ⟨rfl, (below_set (below_set (below_set (below_set (below_set (below_set (below_set B2.out (Nat.le_refl _) 0 (.string ⟨([] : List UInt8).toArray⟩)) (Nat.le_refl _) 1 (.int .i64 0)) (Nat.le_refl _) 2 (.bool false)) (Nat.le_refl _) 3 (.int .i64 0)) (Nat.le_refl _) 4 (.int .i64 0)) (Nat.le_refl _) 5 (.int .u64 0)) (Nat.le_refl _) 6 (.string ⟨([] : List UInt8).toArray⟩))⟩
 simp [results, Tryz.results69, go_sem, n0, n1, n2, n3, n4, n5, n6]
theorem rcl_hi (l : List UInt8) (A L1 : List UInt8) (N : Nat) (x : Int) (bb : UInt8) (q : List UInt8) (z : Int) (w : World) (hl : l.length ≤ 1000000) (h1 : Pk.rt l = (A, L1, 0)) (h2 : small 100 1 L1 = (N, bb :: q, 0)) (hx : x = N) (hz : (bb.toNat : Int) = z) (hb1 : 1 < z) :
  Calls Tryz.prog 69 #[.string ⟨l.toArray⟩] w fun e w' => e = .returned (.tuple #[.agg #[.string ⟨([] : List UInt8).toArray⟩, .int .i64 0, .bool false, .int .i64 0, .int .i64 0, .int .u64 0, .string ⟨([] : List UInt8).toArray⟩], .string ⟨([] : List UInt8).toArray⟩, .int .i64 4]) ∧ Below w.heap.size w w' := by
 have H_hl := zh hl
 clear hl
 have hba : (ByteArray.mk (bb :: q).toArray)[0]'(by simp [ByteArray.size]) = bb := rfl
 have ln : ((((bb :: q).length : Nat) : Int) == 0) = false := beq_f (by simp; omega)
 have ln2 : (((q.length : Int) + 1) == 0) = false := beq_f (by omega)
 have H_h1 := zh h1
 have H_h2 := zh h2
 have H_hx := zh hx
 clear h1 h2 hx
 go_enter Tryz.func69, Tryz.ntmps69
 have r0 := (Blk.new w #[.string ⟨([] : List UInt8).toArray⟩, .int .i64 0, .bool false, .int .i64 0, .int .i64 0, .int .u64 0, .string ⟨([] : List UInt8).toArray⟩] 27).alloc (.cells #[.string ⟨([] : List UInt8).toArray⟩, .int .i64 0, .bool false, .int .i64 0, .int .i64 0, .int .u64 0, .string ⟨([] : List UInt8).toArray⟩] 27)
 have c0 : Blk ((w.alloc (.cells #[.string ⟨([] : List UInt8).toArray⟩, .int .i64 0, .bool false, .int .i64 0, .int .i64 0, .int .u64 0, .string ⟨([] : List UInt8).toArray⟩] 27)).alloc (.cells #[.string ⟨([] : List UInt8).toArray⟩, .int .i64 0, .bool false, .int .i64 0, .int .i64 0, .int .u64 0, .string ⟨([] : List UInt8).toArray⟩] 27)) (w.heap.size + 1) #[.string ⟨([] : List UInt8).toArray⟩, .int .i64 0, .bool false, .int .i64 0, .int .i64 0, .int .u64 0, .string ⟨([] : List UInt8).toArray⟩] 27 := by have := Blk.new (w.alloc (.cells #[.string ⟨([] : List UInt8).toArray⟩, .int .i64 0, .bool false, .int .i64 0, .int .i64 0, .int .u64 0, .string ⟨([] : List UInt8).toArray⟩] 27)) #[.string ⟨([] : List UInt8).toArray⟩, .int .i64 0, .bool false, .int .i64 0, .int .i64 0, .int .u64 0, .string ⟨([] : List UInt8).toArray⟩] 27; simpa using this
 have B0 := zh (below2s w (.cells #[.string ⟨([] : List UInt8).toArray⟩, .int .i64 0, .bool false, .int .i64 0, .int .i64 0, .int .u64 0, .string ⟨([] : List UInt8).toArray⟩] 27) (.cells #[.string ⟨([] : List UInt8).toArray⟩, .int .i64 0, .bool false, .int .i64 0, .int .i64 0, .int .u64 0, .string ⟨([] : List UInt8).toArray⟩] 27))
 go_wp2_with fail
 refine (rtextR l A L1 0 _ H_hl.out H_h1.out).mono ?_
 rintro y w1 ⟨rfl, hb⟩
 have r1 := r0.below hb
 have c1 := c0.below hb
 have B1 := zh (step0 B0.out hb)
 clear hb r0 c0 B0
 go_wp2_with fail
 refine (rsm_is x 0 L1 (bb :: q) N _ H_h2.out H_hx.out).mono ?_
 rintro y w2 ⟨rfl, hb⟩
 have r2 := r1.below hb
 have c2 := c1.below hb
 have B2 := zh (step0 B1.out hb)
 clear hb r1 c1 B1
 have n0 : w2.cell? ⟨w.heap.size, 0, none⟩ = some (.string ⟨([] : List UInt8).toArray⟩) := r2.cell 0
 have p0 : w2.frozen? ⟨w.heap.size, 0, none⟩ = false := r2.frozen 0
 have m0 : w2.cell? ⟨w.heap.size + 1, 0, none⟩ = some (.string ⟨([] : List UInt8).toArray⟩) := c2.cell 0
 have n1 : w2.cell? ⟨w.heap.size, 1, none⟩ = some (.int .i64 0) := r2.cell 1
 have p1 : w2.frozen? ⟨w.heap.size, 1, none⟩ = false := r2.frozen 1
 have m1 : w2.cell? ⟨w.heap.size + 1, 1, none⟩ = some (.int .i64 0) := c2.cell 1
 have n2 : w2.cell? ⟨w.heap.size, 2, none⟩ = some (.bool false) := r2.cell 2
 have p2 : w2.frozen? ⟨w.heap.size, 2, none⟩ = false := r2.frozen 2
 have m2 : w2.cell? ⟨w.heap.size + 1, 2, none⟩ = some (.bool false) := c2.cell 2
 have n3 : w2.cell? ⟨w.heap.size, 3, none⟩ = some (.int .i64 0) := r2.cell 3
 have p3 : w2.frozen? ⟨w.heap.size, 3, none⟩ = false := r2.frozen 3
 have m3 : w2.cell? ⟨w.heap.size + 1, 3, none⟩ = some (.int .i64 0) := c2.cell 3
 have n4 : w2.cell? ⟨w.heap.size, 4, none⟩ = some (.int .i64 0) := r2.cell 4
 have p4 : w2.frozen? ⟨w.heap.size, 4, none⟩ = false := r2.frozen 4
 have m4 : w2.cell? ⟨w.heap.size + 1, 4, none⟩ = some (.int .i64 0) := c2.cell 4
 have n5 : w2.cell? ⟨w.heap.size, 5, none⟩ = some (.int .u64 0) := r2.cell 5
 have p5 : w2.frozen? ⟨w.heap.size, 5, none⟩ = false := r2.frozen 5
 have m5 : w2.cell? ⟨w.heap.size + 1, 5, none⟩ = some (.int .u64 0) := c2.cell 5
 have n6 : w2.cell? ⟨w.heap.size, 6, none⟩ = some (.string ⟨([] : List UInt8).toArray⟩) := r2.cell 6
 have p6 : w2.frozen? ⟨w.heap.size, 6, none⟩ = false := r2.frozen 6
 have m6 : w2.cell? ⟨w.heap.size + 1, 6, none⟩ = some (.string ⟨([] : List UInt8).toArray⟩) := c2.cell 6
 clear r2 c2
 go_wp2
 refine bodyPost_ret (v := .tuple #[.agg #[.string ⟨([] : List UInt8).toArray⟩, .int .i64 0, .bool false, .int .i64 0, .int .i64 0, .int .u64 0, .string ⟨([] : List UInt8).toArray⟩], .string ⟨([] : List UInt8).toArray⟩, .int .i64 4]) ?_ rfl ⟨rfl, (below_set (below_set (below_set (below_set (below_set (below_set (below_set B2.out (Nat.le_refl _) 0 (.string ⟨([] : List UInt8).toArray⟩)) (Nat.le_refl _) 1 (.int .i64 0)) (Nat.le_refl _) 2 (.bool false)) (Nat.le_refl _) 3 (.int .i64 0)) (Nat.le_refl _) 4 (.int .i64 0)) (Nat.le_refl _) 5 (.int .u64 0)) (Nat.le_refl _) 6 (.string ⟨([] : List UInt8).toArray⟩))⟩
 simp [results, Tryz.results69, go_sem, n0, n1, n2, n3, n4, n5, n6]
theorem rcl_e3 (l : List UInt8) (A L1 : List UInt8) (N : Nat) (x : Int) (bb : UInt8) (q : List UInt8) (z : Int) (k n b : Int) (s L4 : List UInt8) (E : Int) (w : World) (hl : l.length ≤ 1000000) (hq : q.length ≤ 1000000) (h1 : Pk.rt l = (A, L1, 0)) (h2 : small 100 1 L1 = (N, bb :: q, 0)) (hx : x = N) (hz : (bb.toNat : Int) = z) (hb1 : decide (1 < z) = false) (h4 : rd q = ⟨k, n, b, s, L4, E⟩) (hE : ¬ E = 0) :
  Calls Tryz.prog 69 #[.string ⟨l.toArray⟩] w fun e w' => e = .returned (.tuple #[.agg #[.string ⟨([] : List UInt8).toArray⟩, .int .i64 0, .bool false, .int .i64 0, .int .i64 0, .int .u64 0, .string ⟨([] : List UInt8).toArray⟩], .string ⟨([] : List UInt8).toArray⟩, .int .i64 E]) ∧ Below w.heap.size w w' := by
 have H_hl := zh hl
 clear hl
 have e1 := bne_t hE
 have hba : (ByteArray.mk (bb :: q).toArray)[0]'(by simp [ByteArray.size]) = bb := rfl
 have ln : ((((bb :: q).length : Nat) : Int) == 0) = false := beq_f (by simp; omega)
 have ln2 : (((q.length : Int) + 1) == 0) = false := beq_f (by omega)
 have ct : (ByteArray.mk (bb :: q).toArray).extract 1 (q.length + 1) = ⟨q.toArray⟩ := cut_from (bb :: q) 1
 have l1 : (1 : Int) ≤ (((bb :: q).length : Nat) : Int) := by simp; omega
 have H_hq := zh hq
 have H_h1 := zh h1
 have H_h2 := zh h2
 have H_hx := zh hx
 have H_h4 := zh h4
 clear hq h1 h2 hx h4
 go_enter Tryz.func69, Tryz.ntmps69
 have r0 := (Blk.new w #[.string ⟨([] : List UInt8).toArray⟩, .int .i64 0, .bool false, .int .i64 0, .int .i64 0, .int .u64 0, .string ⟨([] : List UInt8).toArray⟩] 27).alloc (.cells #[.string ⟨([] : List UInt8).toArray⟩, .int .i64 0, .bool false, .int .i64 0, .int .i64 0, .int .u64 0, .string ⟨([] : List UInt8).toArray⟩] 27)
 have c0 : Blk ((w.alloc (.cells #[.string ⟨([] : List UInt8).toArray⟩, .int .i64 0, .bool false, .int .i64 0, .int .i64 0, .int .u64 0, .string ⟨([] : List UInt8).toArray⟩] 27)).alloc (.cells #[.string ⟨([] : List UInt8).toArray⟩, .int .i64 0, .bool false, .int .i64 0, .int .i64 0, .int .u64 0, .string ⟨([] : List UInt8).toArray⟩] 27)) (w.heap.size + 1) #[.string ⟨([] : List UInt8).toArray⟩, .int .i64 0, .bool false, .int .i64 0, .int .i64 0, .int .u64 0, .string ⟨([] : List UInt8).toArray⟩] 27 := by have := Blk.new (w.alloc (.cells #[.string ⟨([] : List UInt8).toArray⟩, .int .i64 0, .bool false, .int .i64 0, .int .i64 0, .int .u64 0, .string ⟨([] : List UInt8).toArray⟩] 27)) #[.string ⟨([] : List UInt8).toArray⟩, .int .i64 0, .bool false, .int .i64 0, .int .i64 0, .int .u64 0, .string ⟨([] : List UInt8).toArray⟩] 27; simpa using this
 have B0 := zh (below2s w (.cells #[.string ⟨([] : List UInt8).toArray⟩, .int .i64 0, .bool false, .int .i64 0, .int .i64 0, .int .u64 0, .string ⟨([] : List UInt8).toArray⟩] 27) (.cells #[.string ⟨([] : List UInt8).toArray⟩, .int .i64 0, .bool false, .int .i64 0, .int .i64 0, .int .u64 0, .string ⟨([] : List UInt8).toArray⟩] 27))
 go_wp2_with fail
 refine (rtextR l A L1 0 _ H_hl.out H_h1.out).mono ?_
 rintro y w1 ⟨rfl, hb⟩
 have r1 := r0.below hb
 have c1 := c0.below hb
 have B1 := zh (step0 B0.out hb)
 clear hb r0 c0 B0
 go_wp2_with fail
 refine (rsm_is x 0 L1 (bb :: q) N _ H_h2.out H_hx.out).mono ?_
 rintro y w2 ⟨rfl, hb⟩
 have r2 := r1.below hb
 have c2 := c1.below hb
 have B2 := zh (step0 B1.out hb)
 clear hb r1 c1 B1
 go_wp2_with fail
 refine (rrdv q k n b E s L4 _ H_hq.out H_h4.out).mono ?_
 rintro y w3 ⟨rfl, hb⟩
 have r3 := r2.below hb
 have c3 := c2.below hb
 have B3 := zh (step0 B2.out hb)
 clear hb r2 c2 B2
 have r4 := r3.alloc (.cells #[.int .i64 k, .int .i64 n, .int .u64 b, .string ⟨s.toArray⟩] 25)
 have c4 := c3.alloc (.cells #[.int .i64 k, .int .i64 n, .int .u64 b, .string ⟨s.toArray⟩] 25)
 have B4 := zh (B3.out.alloc B3.out.size (.cells #[.int .i64 k, .int .i64 n, .int .u64 b, .string ⟨s.toArray⟩] 25))
 obtain ⟨W9, hW⟩ : ∃ W9, w3.alloc (.cells #[.int .i64 k, .int .i64 n, .int .u64 b, .string ⟨s.toArray⟩] 25) = W9 := ⟨_, rfl⟩
 rw [hW] at r4 c4 B4
 clear r3 c3 B3
 have n0 : W9.cell? ⟨w.heap.size, 0, none⟩ = some (.string ⟨([] : List UInt8).toArray⟩) := r4.cell 0
 have p0 : W9.frozen? ⟨w.heap.size, 0, none⟩ = false := r4.frozen 0
 have m0 : W9.cell? ⟨w.heap.size + 1, 0, none⟩ = some (.string ⟨([] : List UInt8).toArray⟩) := c4.cell 0
 have n1 : W9.cell? ⟨w.heap.size, 1, none⟩ = some (.int .i64 0) := r4.cell 1
 have p1 : W9.frozen? ⟨w.heap.size, 1, none⟩ = false := r4.frozen 1
 have m1 : W9.cell? ⟨w.heap.size + 1, 1, none⟩ = some (.int .i64 0) := c4.cell 1
 have n2 : W9.cell? ⟨w.heap.size, 2, none⟩ = some (.bool false) := r4.cell 2
 have p2 : W9.frozen? ⟨w.heap.size, 2, none⟩ = false := r4.frozen 2
 have m2 : W9.cell? ⟨w.heap.size + 1, 2, none⟩ = some (.bool false) := c4.cell 2
 have n3 : W9.cell? ⟨w.heap.size, 3, none⟩ = some (.int .i64 0) := r4.cell 3
 have p3 : W9.frozen? ⟨w.heap.size, 3, none⟩ = false := r4.frozen 3
 have m3 : W9.cell? ⟨w.heap.size + 1, 3, none⟩ = some (.int .i64 0) := c4.cell 3
 have n4 : W9.cell? ⟨w.heap.size, 4, none⟩ = some (.int .i64 0) := r4.cell 4
 have p4 : W9.frozen? ⟨w.heap.size, 4, none⟩ = false := r4.frozen 4
 have m4 : W9.cell? ⟨w.heap.size + 1, 4, none⟩ = some (.int .i64 0) := c4.cell 4
 have n5 : W9.cell? ⟨w.heap.size, 5, none⟩ = some (.int .u64 0) := r4.cell 5
 have p5 : W9.frozen? ⟨w.heap.size, 5, none⟩ = false := r4.frozen 5
 have m5 : W9.cell? ⟨w.heap.size + 1, 5, none⟩ = some (.int .u64 0) := c4.cell 5
 have n6 : W9.cell? ⟨w.heap.size, 6, none⟩ = some (.string ⟨([] : List UInt8).toArray⟩) := r4.cell 6
 have p6 : W9.frozen? ⟨w.heap.size, 6, none⟩ = false := r4.frozen 6
 have m6 : W9.cell? ⟨w.heap.size + 1, 6, none⟩ = some (.string ⟨([] : List UInt8).toArray⟩) := c4.cell 6
 clear r4 c4
 go_wp2
 refine bodyPost_ret (v := .tuple #[.agg #[.string ⟨([] : List UInt8).toArray⟩, .int .i64 0, .bool false, .int .i64 0, .int .i64 0, .int .u64 0, .string ⟨([] : List UInt8).toArray⟩], .string ⟨([] : List UInt8).toArray⟩, .int .i64 E]) ?_ rfl ⟨rfl, (below_set (below_set (below_set (below_set (below_set (below_set (below_set B4.out (Nat.le_refl _) 0 (.string ⟨([] : List UInt8).toArray⟩)) (Nat.le_refl _) 1 (.int .i64 0)) (Nat.le_refl _) 2 (.bool false)) (Nat.le_refl _) 3 (.int .i64 0)) (Nat.le_refl _) 4 (.int .i64 0)) (Nat.le_refl _) 5 (.int .u64 0)) (Nat.le_refl _) 6 (.string ⟨([] : List UInt8).toArray⟩))⟩
 simp [results, Tryz.results69, go_sem, n0, n1, n2, n3, n4, n5, n6]
end Go.Proofs.YtmgdciihpjifgaaGreatDoor
