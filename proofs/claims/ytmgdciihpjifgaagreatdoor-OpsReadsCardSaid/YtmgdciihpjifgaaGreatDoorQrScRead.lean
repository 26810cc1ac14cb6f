/-
 What bytes begin with, of a table: a number up to a bound, the byte of Null, a column: within.Read, readFlag, readCol. Conditions: texts of 1000000 bytes at most.
 The table that bytes begin with: readTable, Read. Conditions: texts of 1000000 bytes at most.
 The table that bytes begin with: readTable, Read. Conditions: texts of 1000000 bytes at most.
 Read; what Few of chapter 9 answers; the statements' own table. Conditions: texts of 1000000 bytes at most.
-/
import Derived.Test.YtmgdciihpjifgaaGreatDoorQrScCheck
import Derived.Test.YtmgdciihpjifgaaGreatDoorQrPackInts
import Derived.BigQuiet
import Derived.Deep.QuietTactic
import Derived.Deep.RegionHeld3
import Derived.Deep.DrawnRows
set_option maxHeartbeats 8000000
namespace Go.Proofs.YtmgdciihpjifgaaGreatDoor
open Go.RowKit
theorem drew_b (w : World) (n : Nat) : Below w.heap.size w (w.drewN n) := below_drewN n (Below.refl _ w)
theorem textR (l t r : List UInt8) (e : Int) (w : World) (hl : l.length ≤ 1000000) (h : Pk.rt l = (t, r, e)) :
  Calls Tryz.prog 63 #[.string ⟨l.toArray⟩] w fun x w' => x = .returned (.tuple #[.string ⟨t.toArray⟩, .string ⟨r.toArray⟩, .int .i64 e]) ∧ Below w.heap.size w w' :=
 (readText_is l t r e w (by omega) h).mono fun x w' ⟨hx, n, hw⟩ => ⟨hx, hw ▸ drew_b w n⟩
theorem win_bad (lo tp ps e : Int) (l : List UInt8) (w : World) (h : Pk.rd l 0 0 = (0, [], e)) (he : ¬ e = 0) :
  Calls Tryz.prog 62 #[.string ⟨l.toArray⟩, .int .u64 lo, .int .u64 tp, .int .i64 ps] w fun x w' => x = .returned (.tuple #[.int .i64 0, .string ⟨([] : List UInt8).toArray⟩, .int .i64 e]) ∧ Below w.heap.size w w' := by
 go_enter Tryz.func62, Tryz.ntmps62
 go_wp2_with fail
 refine (readUint_is l [] 0 e _ h).mono ?_
 rintro x w1 ⟨rfl, n, rfl⟩
 go_wp2
 go_ret3
 exact ⟨rfl, drew_b _ _⟩
theorem win_low (lo tp ps x : Int) (N : Nat) (l r : List UInt8) (w : World) (h : Pk.rd l 0 0 = (N, r, 0)) (hx : x = N) (hp : x < lo) :
  Calls Tryz.prog 62 #[.string ⟨l.toArray⟩, .int .u64 lo, .int .u64 tp, .int .i64 ps] w fun y w' => y = .returned (.tuple #[.int .i64 0, .string ⟨([] : List UInt8).toArray⟩, .int .i64 ps]) ∧ Below w.heap.size w w' := by
 have H := zh (za h hx)
 clear h hx
 go_enter Tryz.func62, Tryz.ntmps62
 go_wp2_with fail
 refine (readUint_int l r N x _ H.out.1 H.out.2).mono ?_
 rintro y w1 ⟨rfl, n, rfl⟩
 go_wp2
 go_ret3
 exact ⟨rfl, drew_b _ _⟩
theorem win_past (lo tp ps x : Int) (N : Nat) (l r : List UInt8) (w : World) (h : Pk.rd l 0 0 = (N, r, 0)) (hx : x = N) (hl : decide (x < lo) = false) (hp : tp < x) :
  Calls Tryz.prog 62 #[.string ⟨l.toArray⟩, .int .u64 lo, .int .u64 tp, .int .i64 ps] w fun y w' => y = .returned (.tuple #[.int .i64 0, .string ⟨([] : List UInt8).toArray⟩, .int .i64 ps]) ∧ Below w.heap.size w w' := by
 have H := zh (za h hx)
 clear h hx
 go_enter Tryz.func62, Tryz.ntmps62
 go_wp2_with fail
 refine (readUint_int l r N x _ H.out.1 H.out.2).mono ?_
 rintro y w1 ⟨rfl, n, rfl⟩
 go_wp2
 go_ret3
 exact ⟨rfl, drew_b _ _⟩
theorem win_ok (lo tp ps x : Int) (N : Nat) (l r : List UInt8) (w : World) (h : Pk.rd l 0 0 = (N, r, 0)) (hx : x = N) (hl : decide (x < lo) = false) (hp : decide (tp < x) = false) (hw : wrap64 x = x) :
  Calls Tryz.prog 62 #[.string ⟨l.toArray⟩, .int .u64 lo, .int .u64 tp, .int .i64 ps] w fun y w' => y = .returned (.tuple #[.int .i64 x, .string ⟨r.toArray⟩, .int .i64 0]) ∧ Below w.heap.size w w' := by
 have H := zh (za h hx)
 clear h hx
 go_enter Tryz.func62, Tryz.ntmps62
 go_wp2_with fail
 refine (readUint_int l r N x _ H.out.1 H.out.2).mono ?_
 rintro y w1 ⟨rfl, n, rfl⟩
 go_wp2
 go_ret3
 exact ⟨by rw [hw]; rfl, drew_b _ _⟩
theorem win_is (lo : Int) (bot top : Nat) (tp ps x e : Int) (l r : List UInt8) (N : Nat) (w : World) (hlo : lo = bot) (ht : tp = top) (h9 : top ≤ 1000) (h : smb bot top ps l = (N, r, e)) (hx : x = N) :
  Calls Tryz.prog 62 #[.string ⟨l.toArray⟩, .int .u64 lo, .int .u64 tp, .int .i64 ps] w fun y w' => y = .returned (.tuple #[.int .i64 x, .string ⟨r.toArray⟩, .int .i64 e]) ∧ Below w.heap.size w w' := by
 subst hx
 unfold smb small at h
 rcases Pk.rd_cases l with ⟨M, q, g, _, _⟩ | ⟨e', g, he⟩
 ·rw [g] at h
  simp only [ne_eq, not_true_eq_false, if_false] at h
  by_cases hp : top < M
  ·rw [if_pos hp] at h
   obtain ⟨rfl, rfl, rfl⟩ : 0 = N ∧ [] = r ∧ ps = e := by
    split at h
    ·simpa using h
    ·simpa using h
   by_cases hl : (M : Int) < lo
   ·exact win_low lo tp ps M M l q w g rfl hl
   ·exact win_past lo tp ps M M l q w g rfl (by rw [decide_eq_false_iff_not]; exact hl) (by omega)
  ·rw [if_neg hp] at h
   by_cases hl : M < bot
   ·rw [if_pos ⟨rfl, hl⟩] at h
    obtain ⟨rfl, rfl, rfl⟩ : 0 = N ∧ [] = r ∧ ps = e := by simpa using h
    exact win_low lo tp ps M M l q w g rfl (by omega)
   ·rw [if_neg (fun q => hl q.2)] at h
    obtain ⟨rfl, rfl, rfl⟩ : M = N ∧ q = r ∧ 0 = e := by simpa using h
    exact win_ok lo tp ps M M l q w g rfl (by rw [decide_eq_false_iff_not]; omega) (by rw [decide_eq_false_iff_not]; omega) (wrap_in _ (by omega) (by omega))
 ·have hn : ¬ e' = 0 := by omega
  rw [g] at h
  rw [if_pos hn, if_neg (fun q => hn q.1)] at h
  obtain ⟨rfl, rfl, rfl⟩ : 0 = N ∧ [] = r ∧ e' = e := by simpa using h
  exact win_bad lo tp ps e' l w g hn
theorem upTo_is (top : Nat) (tp ps x e : Int) (l r : List UInt8) (N : Nat) (w : World) (ht : tp = top) (h9 : top ≤ 1000) (h : small top ps l = (N, r, e)) (hx : x = N) :
  Calls Tryz.prog 62 #[.string ⟨l.toArray⟩, .int .u64 0, .int .u64 tp, .int .i64 ps] w fun y w' => y = .returned (.tuple #[.int .i64 x, .string ⟨r.toArray⟩, .int .i64 e]) ∧ Below w.heap.size w w' :=
 win_is 0 0 top tp ps x e l r N w rfl ht h9 (by unfold smb; rw [if_neg (by omega)]; exact h) hx
theorem flagR_nil (w : World) :
  Calls Tryz.prog 132 #[.string ⟨([] : List UInt8).toArray⟩] w fun y w' => y = .returned (.tuple #[.bool false, .string ⟨([] : List UInt8).toArray⟩, .int .i64 3]) ∧ Below w.heap.size w w' := by
 go_enter Tryz.func132, Tryz.ntmps132
 go_wp2
 go_ret3
 exact ⟨rfl, Below.refl _ _⟩
theorem flagR_high (b : UInt8) (t : List UInt8) (x : Int) (w : World) (hx : (b.toNat : Int) = x) (h : 1 < x) :
  Calls Tryz.prog 132 #[.string ⟨(b :: t).toArray⟩] w fun y w' => y = .returned (.tuple #[.bool false, .string ⟨([] : List UInt8).toArray⟩, .int .i64 4]) ∧ Below w.heap.size w w' := by
 have hba : (ByteArray.mk (b :: t).toArray)[0]'(by simp [ByteArray.size]) = b := rfl
 go_enter Tryz.func132, Tryz.ntmps132
 go_wp2
 go_ret3
 exact ⟨rfl, Below.refl _ _⟩
theorem flagR_ok (b : UInt8) (t : List UInt8) (x : Int) (v : Bool) (w : World) (hx : (b.toNat : Int) = x) (h : decide (1 < x) = false) (hv : (x == 1) = v) :
  Calls Tryz.prog 132 #[.string ⟨(b :: t).toArray⟩] w fun y w' => y = .returned (.tuple #[.bool v, .string ⟨t.toArray⟩, .int .i64 0]) ∧ Below w.heap.size w w' := by
 have hba : (ByteArray.mk (b :: t).toArray)[0]'(by simp [ByteArray.size]) = b := rfl
 have ct : (ByteArray.mk (b :: t).toArray).extract 1 (t.length + 1) = ⟨t.toArray⟩ := cut_from (b :: t) 1
 go_enter Tryz.func132, Tryz.ntmps132
 go_wp2
 go_quiet (fail)
 go_wp2
 go_ret3
 exact ⟨rfl, drew_b _ _⟩
theorem flagR_is (l r : List UInt8) (v : Bool) (e : Int) (w : World) (h : rdf l = (v, r, e)) :
  Calls Tryz.prog 132 #[.string ⟨l.toArray⟩] w fun y w' => y = .returned (.tuple #[.bool v, .string ⟨r.toArray⟩, .int .i64 e]) ∧ Below w.heap.size w w' := by
 cases l with
 | nil =>
  obtain ⟨rfl, rfl, rfl⟩ : false = v ∧ [] = r ∧ 3 = e := by simpa [rdf] using h
  exact flagR_nil w
 | cons b t =>
  unfold rdf at h
  by_cases g : 1 < b.toNat
  ·simp only [g, if_true] at h
   obtain ⟨rfl, rfl, rfl⟩ : false = v ∧ [] = r ∧ 4 = e := by simpa using h
   exact flagR_high b t _ w rfl (by omega)
  ·simp only [g, if_false] at h
   obtain ⟨hv, rfl, rfl⟩ : decide (b.toNat = 1) = v ∧ t = r ∧ 0 = e := by simpa using h
   exact flagR_ok b t _ v w rfl (by rw [decide_eq_false_iff_not]; omega) (by rw [← hv, Bool.eq_iff_iff]; simp; omega)
theorem rcol_e0 (l : List UInt8) (A L1 : List UInt8) (E : Int) (w : World) (hl : l.length ≤ 1000000) (h1 : Pk.rt l = (A, L1, E)) (hE : ¬ E = 0) :
  Calls Tryz.prog 114 #[.string ⟨l.toArray⟩] w fun e w' => e = .returned (.tuple #[.agg #[.string ⟨([] : List UInt8).toArray⟩, .int .i64 0, .bool false, .int .i64 0, .int .i64 0, .int .u64 0, .string ⟨([] : List UInt8).toArray⟩], .string ⟨([] : List UInt8).toArray⟩, .int .i64 E]) ∧ Below w.heap.size w w' := by
 have H_hl := zh hl
 have H_h1 := zh h1
 clear hl h1
 have e1 := bne_t hE
 go_enter Tryz.func114, Tryz.ntmps114
 have r0 := (Blk.new w #[.string ⟨([] : List UInt8).toArray⟩, .int .i64 0, .bool false, .int .i64 0, .int .i64 0, .int .u64 0, .string ⟨([] : List UInt8).toArray⟩] 27).alloc (.cells #[.string ⟨([] : List UInt8).toArray⟩, .int .i64 0, .bool false, .int .i64 0, .int .i64 0, .int .u64 0, .string ⟨([] : List UInt8).toArray⟩] 27)
 have c0 : Blk ((w.alloc (.cells #[.string ⟨([] : List UInt8).toArray⟩, .int .i64 0, .bool false, .int .i64 0, .int .i64 0, .int .u64 0, .string ⟨([] : List UInt8).toArray⟩] 27)).alloc (.cells #[.string ⟨([] : List UInt8).toArray⟩, .int .i64 0, .bool false, .int .i64 0, .int .i64 0, .int .u64 0, .string ⟨([] : List UInt8).toArray⟩] 27)) (w.heap.size + 1) #[.string ⟨([] : List UInt8).toArray⟩, .int .i64 0, .bool false, .int .i64 0, .int .i64 0, .int .u64 0, .string ⟨([] : List UInt8).toArray⟩] 27 := by have := Blk.new (w.alloc (.cells #[.string ⟨([] : List UInt8).toArray⟩, .int .i64 0, .bool false, .int .i64 0, .int .i64 0, .int .u64 0, .string ⟨([] : List UInt8).toArray⟩] 27)) #[.string ⟨([] : List UInt8).toArray⟩, .int .i64 0, .bool false, .int .i64 0, .int .i64 0, .int .u64 0, .string ⟨([] : List UInt8).toArray⟩] 27; simpa using this
 have B0 := zh (below2s w (.cells #[.string ⟨([] : List UInt8).toArray⟩, .int .i64 0, .bool false, .int .i64 0, .int .i64 0, .int .u64 0, .string ⟨([] : List UInt8).toArray⟩] 27) (.cells #[.string ⟨([] : List UInt8).toArray⟩, .int .i64 0, .bool false, .int .i64 0, .int .i64 0, .int .u64 0, .string ⟨([] : List UInt8).toArray⟩] 27))
 go_wp2_with fail
 refine (textR l A L1 E _ (by have := H_hl.out; omega) H_h1.out).mono ?_
 rintro y w1 ⟨rfl, hb⟩
 have r1 := r0.below hb
 have q1 := c0.below hb
 have B1 := zh (step0 B0.out hb)
 clear hb r0 c0
 have g0 : w1.cell? ⟨w.heap.size + 1, 0, none⟩ = some (.string ⟨([] : List UInt8).toArray⟩) := q1.cell 0
 have f0 : w1.frozen? ⟨w.heap.size + 1, 0, none⟩ = false := q1.frozen 0
 have c1 : Blk (w1.setCell ⟨w.heap.size + 1, 0, none⟩ (.string ⟨A.toArray⟩)) (w.heap.size + 1) #[.string ⟨A.toArray⟩, .int .i64 0, .bool false, .int .i64 0, .int .i64 0, .int .u64 0, .string ⟨([] : List UInt8).toArray⟩] 27 := (q1.setAt 0 (.string ⟨A.toArray⟩))
 have s1 : Blk (w1.setCell ⟨w.heap.size + 1, 0, none⟩ (.string ⟨A.toArray⟩)) w.heap.size #[.string ⟨([] : List UInt8).toArray⟩, .int .i64 0, .bool false, .int .i64 0, .int .i64 0, .int .u64 0, .string ⟨([] : List UInt8).toArray⟩] 27 := (r1.otherAt (by omega) 0 (.string ⟨A.toArray⟩))
 have D1 := zh (below_set B1.out (Nat.le_succ _) 0 (.string ⟨A.toArray⟩))
 clear r1 q1 B1
 obtain ⟨W9, hW⟩ : ∃ W9, (w1.setCell ⟨w.heap.size + 1, 0, none⟩ (.string ⟨A.toArray⟩)) = W9 := ⟨_, rfl⟩
 rw [hW] at c1 s1 D1
 have n0 : W9.cell? ⟨w.heap.size, 0, none⟩ = some (.string ⟨([] : List UInt8).toArray⟩) := s1.cell 0
 have p0 : W9.frozen? ⟨w.heap.size, 0, none⟩ = false := s1.frozen 0
 have n1 : W9.cell? ⟨w.heap.size, 1, none⟩ = some (.int .i64 0) := s1.cell 1
 have p1 : W9.frozen? ⟨w.heap.size, 1, none⟩ = false := s1.frozen 1
 have n2 : W9.cell? ⟨w.heap.size, 2, none⟩ = some (.bool false) := s1.cell 2
 have p2 : W9.frozen? ⟨w.heap.size, 2, none⟩ = false := s1.frozen 2
 have n3 : W9.cell? ⟨w.heap.size, 3, none⟩ = some (.int .i64 0) := s1.cell 3
 have p3 : W9.frozen? ⟨w.heap.size, 3, none⟩ = false := s1.frozen 3
 have n4 : W9.cell? ⟨w.heap.size, 4, none⟩ = some (.int .i64 0) := s1.cell 4
 have p4 : W9.frozen? ⟨w.heap.size, 4, none⟩ = false := s1.frozen 4
 have n5 : W9.cell? ⟨w.heap.size, 5, none⟩ = some (.int .u64 0) := s1.cell 5
 have p5 : W9.frozen? ⟨w.heap.size, 5, none⟩ = false := s1.frozen 5
 have n6 : W9.cell? ⟨w.heap.size, 6, none⟩ = some (.string ⟨([] : List UInt8).toArray⟩) := s1.cell 6
 have p6 : W9.frozen? ⟨w.heap.size, 6, none⟩ = false := s1.frozen 6
 clear c1 s1
 go_wp2
 refine bodyPost_ret (v := .tuple #[.agg #[.string ⟨([] : List UInt8).toArray⟩, .int .i64 0, .bool false, .int .i64 0, .int .i64 0, .int .u64 0, .string ⟨([] : List UInt8).toArray⟩], .string ⟨([] : List UInt8).toArray⟩, .int .i64 E]) ?_ rfl ⟨rfl, (below_set (below_set (below_set (below_set (below_set (below_set (below_set D1.out (Nat.le_refl _) 0 (.string ⟨([] : List UInt8).toArray⟩)) (Nat.le_refl _) 1 (.int .i64 0)) (Nat.le_refl _) 2 (.bool false)) (Nat.le_refl _) 3 (.int .i64 0)) (Nat.le_refl _) 4 (.int .i64 0)) (Nat.le_refl _) 5 (.int .u64 0)) (Nat.le_refl _) 6 (.string ⟨([] : List UInt8).toArray⟩))⟩
 simp [results, Tryz.results114, go_sem, n0, n1, n2, n3, n4, n5, n6]
theorem rcol_e1 (l : List UInt8) (A L1 : List UInt8) (N : Nat) (x : Int) (L2 : List UInt8) (E : Int) (w : World) (hl : l.length ≤ 1000000) (h1 : Pk.rt l = (A, L1, 0)) (h2 : small 100 1 L1 = (N, L2, E)) (hx : x = N) (hE : ¬ E = 0) :
  Calls Tryz.prog 114 #[.string ⟨l.toArray⟩] w fun e w' => e = .returned (.tuple #[.agg #[.string ⟨([] : List UInt8).toArray⟩, .int .i64 0, .bool false, .int .i64 0, .int .i64 0, .int .u64 0, .string ⟨([] : List UInt8).toArray⟩], .string ⟨([] : List UInt8).toArray⟩, .int .i64 E]) ∧ Below w.heap.size w w' := by
 have H_hl := zh hl
 have H_h1 := zh h1
 have H_h2 := zh h2
 have H_hx := zh hx
 clear hl h1 h2 hx
 have e1 := bne_t hE
 go_enter Tryz.func114, Tryz.ntmps114
 have r0 := (Blk.new w #[.string ⟨([] : List UInt8).toArray⟩, .int .i64 0, .bool false, .int .i64 0, .int .i64 0, .int .u64 0, .string ⟨([] : List UInt8).toArray⟩] 27).alloc (.cells #[.string ⟨([] : List UInt8).toArray⟩, .int .i64 0, .bool false, .int .i64 0, .int .i64 0, .int .u64 0, .string ⟨([] : List UInt8).toArray⟩] 27)
 have c0 : Blk ((w.alloc (.cells #[.string ⟨([] : List UInt8).toArray⟩, .int .i64 0, .bool false, .int .i64 0, .int .i64 0, .int .u64 0, .string ⟨([] : List UInt8).toArray⟩] 27)).alloc (.cells #[.string ⟨([] : List UInt8).toArray⟩, .int .i64 0, .bool false, .int .i64 0, .int .i64 0, .int .u64 0, .string ⟨([] : List UInt8).toArray⟩] 27)) (w.heap.size + 1) #[.string ⟨([] : List UInt8).toArray⟩, .int .i64 0, .bool false, .int .i64 0, .int .i64 0, .int .u64 0, .string ⟨([] : List UInt8).toArray⟩] 27 := by have := Blk.new (w.alloc (.cells #[.string ⟨([] : List UInt8).toArray⟩, .int .i64 0, .bool false, .int .i64 0, .int .i64 0, .int .u64 0, .string ⟨([] : List UInt8).toArray⟩] 27)) #[.string ⟨([] : List UInt8).toArray⟩, .int .i64 0, .bool false, .int .i64 0, .int .i64 0, .int .u64 0, .string ⟨([] : List UInt8).toArray⟩] 27; simpa using this
 have B0 := zh (below2s w (.cells #[.string ⟨([] : List UInt8).toArray⟩, .int .i64 0, .bool false, .int .i64 0, .int .i64 0, .int .u64 0, .string ⟨([] : List UInt8).toArray⟩] 27) (.cells #[.string ⟨([] : List UInt8).toArray⟩, .int .i64 0, .bool false, .int .i64 0, .int .i64 0, .int .u64 0, .string ⟨([] : List UInt8).toArray⟩] 27))
 go_wp2_with fail
 refine (textR l A L1 0 _ (by have := H_hl.out; omega) H_h1.out).mono ?_
 rintro y w1 ⟨rfl, hb⟩
 have r1 := r0.below hb
 have q1 := c0.below hb
 have B1 := zh (step0 B0.out hb)
 clear hb r0 c0
 have g0 : w1.cell? ⟨w.heap.size + 1, 0, none⟩ = some (.string ⟨([] : List UInt8).toArray⟩) := q1.cell 0
 have f0 : w1.frozen? ⟨w.heap.size + 1, 0, none⟩ = false := q1.frozen 0
 have c1 : Blk (w1.setCell ⟨w.heap.size + 1, 0, none⟩ (.string ⟨A.toArray⟩)) (w.heap.size + 1) #[.string ⟨A.toArray⟩, .int .i64 0, .bool false, .int .i64 0, .int .i64 0, .int .u64 0, .string ⟨([] : List UInt8).toArray⟩] 27 := (q1.setAt 0 (.string ⟨A.toArray⟩))
 have s1 : Blk (w1.setCell ⟨w.heap.size + 1, 0, none⟩ (.string ⟨A.toArray⟩)) w.heap.size #[.string ⟨([] : List UInt8).toArray⟩, .int .i64 0, .bool false, .int .i64 0, .int .i64 0, .int .u64 0, .string ⟨([] : List UInt8).toArray⟩] 27 := (r1.otherAt (by omega) 0 (.string ⟨A.toArray⟩))
 have D1 := zh (below_set B1.out (Nat.le_succ _) 0 (.string ⟨A.toArray⟩))
 clear r1 q1 B1
 have r1 := s1
 have B1 := D1
 clear s1 D1
 go_wp2_with fail
 refine (upTo_is 100 100 1 x E L1 L2 N _ rfl (by decide) H_h2.out H_hx.out).mono ?_
 rintro y w2 ⟨rfl, hb⟩
 have r2 := r1.below hb
 have q2 := c1.below hb
 have B2 := zh (step0 B1.out hb)
 clear hb r1 c1
 have g1 : w2.cell? ⟨w.heap.size + 1, 1, none⟩ = some (.int .i64 0) := q2.cell 1
 have f1 : w2.frozen? ⟨w.heap.size + 1, 1, none⟩ = false := q2.frozen 1
 have c2 : Blk (w2.setCell ⟨w.heap.size + 1, 1, none⟩ (.int .i64 x)) (w.heap.size + 1) #[.string ⟨A.toArray⟩, .int .i64 x, .bool false, .int .i64 0, .int .i64 0, .int .u64 0, .string ⟨([] : List UInt8).toArray⟩] 27 := (q2.setAt 1 (.int .i64 x))
 have s2 : Blk (w2.setCell ⟨w.heap.size + 1, 1, none⟩ (.int .i64 x)) w.heap.size #[.string ⟨([] : List UInt8).toArray⟩, .int .i64 0, .bool false, .int .i64 0, .int .i64 0, .int .u64 0, .string ⟨([] : List UInt8).toArray⟩] 27 := (r2.otherAt (by omega) 1 (.int .i64 x))
 have D2 := zh (below_set B2.out (Nat.le_succ _) 1 (.int .i64 x))
 clear r2 q2 B2
 obtain ⟨W9, hW⟩ : ∃ W9, (w2.setCell ⟨w.heap.size + 1, 1, none⟩ (.int .i64 x)) = W9 := ⟨_, rfl⟩
 rw [hW] at c2 s2 D2
 have n0 : W9.cell? ⟨w.heap.size, 0, none⟩ = some (.string ⟨([] : List UInt8).toArray⟩) := s2.cell 0
 have p0 : W9.frozen? ⟨w.heap.size, 0, none⟩ = false := s2.frozen 0
 have n1 : W9.cell? ⟨w.heap.size, 1, none⟩ = some (.int .i64 0) := s2.cell 1
 have p1 : W9.frozen? ⟨w.heap.size, 1, none⟩ = false := s2.frozen 1
 have n2 : W9.cell? ⟨w.heap.size, 2, none⟩ = some (.bool false) := s2.cell 2
 have p2 : W9.frozen? ⟨w.heap.size, 2, none⟩ = false := s2.frozen 2
 have n3 : W9.cell? ⟨w.heap.size, 3, none⟩ = some (.int .i64 0) := s2.cell 3
 have p3 : W9.frozen? ⟨w.heap.size, 3, none⟩ = false := s2.frozen 3
 have n4 : W9.cell? ⟨w.heap.size, 4, none⟩ = some (.int .i64 0) := s2.cell 4
 have p4 : W9.frozen? ⟨w.heap.size, 4, none⟩ = false := s2.frozen 4
 have n5 : W9.cell? ⟨w.heap.size, 5, none⟩ = some (.int .u64 0) := s2.cell 5
 have p5 : W9.frozen? ⟨w.heap.size, 5, none⟩ = false := s2.frozen 5
 have n6 : W9.cell? ⟨w.heap.size, 6, none⟩ = some (.string ⟨([] : List UInt8).toArray⟩) := s2.cell 6
 have p6 : W9.frozen? ⟨w.heap.size, 6, none⟩ = false := s2.frozen 6
 clear c2 s2
 go_wp2
 refine bodyPost_ret (v := .tuple #[.agg #[.string ⟨([] : List UInt8).toArray⟩, .int .i64 0, .bool false, .int .i64 0, .int .i64 0, .int .u64 0, .string ⟨([] : List UInt8).toArray⟩], .string ⟨([] : List UInt8).toArray⟩, .int .i64 E]) ?_ rfl ⟨rfl, (below_set (below_set (below_set (below_set (below_set (below_set (below_set D2.out (Nat.le_refl _) 0 (.string ⟨([] : List UInt8).toArray⟩)) (Nat.le_refl _) 1 (.int .i64 0)) (Nat.le_refl _) 2 (.bool false)) (Nat.le_refl _) 3 (.int .i64 0)) (Nat.le_refl _) 4 (.int .i64 0)) (Nat.le_refl _) 5 (.int .u64 0)) (Nat.le_refl _) 6 (.string ⟨([] : List UInt8).toArray⟩))⟩
 simp [results, Tryz.results114, go_sem, n0, n1, n2, n3, n4, n5, n6]
theorem rcol_e2 (l : List UInt8) (A L1 : List UInt8) (N : Nat) (x : Int) (L2 : List UInt8) (v : Bool) (L3 : List UInt8) (E : Int) (w : World) (hl : l.length ≤ 1000000) (h1 : Pk.rt l = (A, L1, 0)) (h2 : small 100 1 L1 = (N, L2, 0)) (hx : x = N) (h3 : rdf L2 = (v, L3, E)) (hE : ¬ E = 0) :
  Calls Tryz.prog 114 #[.string ⟨l.toArray⟩] w fun e w' => e = .returned (.tuple #[.agg #[.string ⟨([] : List UInt8).toArray⟩, .int .i64 0, .bool false, .int .i64 0, .int .i64 0, .int .u64 0, .string ⟨([] : List UInt8).toArray⟩], .string ⟨([] : List UInt8).toArray⟩, .int .i64 E]) ∧ Below w.heap.size w w' := by
 have H_hl := zh hl
 have H_h1 := zh h1
 have H_h2 := zh h2
 have H_h3 := zh h3
 have H_hx := zh hx
 clear hl h1 h2 h3 hx
 have e1 := bne_t hE
 go_enter Tryz.func114, Tryz.ntmps114
 have r0 := (Blk.new w #[.string ⟨([] : List UInt8).toArray⟩, .int .i64 0, .bool false, .int .i64 0, .int .i64 0, .int .u64 0, .string ⟨([] : List UInt8).toArray⟩] 27).alloc (.cells #[.string ⟨([] : List UInt8).toArray⟩, .int .i64 0, .bool false, .int .i64 0, .int .i64 0, .int .u64 0, .string ⟨([] : List UInt8).toArray⟩] 27)
 have c0 : Blk ((w.alloc (.cells #[.string ⟨([] : List UInt8).toArray⟩, .int .i64 0, .bool false, .int .i64 0, .int .i64 0, .int .u64 0, .string ⟨([] : List UInt8).toArray⟩] 27)).alloc (.cells #[.string ⟨([] : List UInt8).toArray⟩, .int .i64 0, .bool false, .int .i64 0, .int .i64 0, .int .u64 0, .string ⟨([] : List UInt8).toArray⟩] 27)) (w.heap.size + 1) #[.string ⟨([] : List UInt8).toArray⟩, .int .i64 0, .bool false, .int .i64 0, .int .i64 0, .int .u64 0, .string ⟨([] : List UInt8).toArray⟩] 27 := by have := Blk.new (w.alloc (.cells #[.string ⟨([] : List UInt8).toArray⟩, .int .i64 0, .bool false, .int .i64 0, .int .i64 0, .int .u64 0, .string ⟨([] : List UInt8).toArray⟩] 27)) #[.string ⟨([] : List UInt8).toArray⟩, .int .i64 0, .bool false, .int .i64 0, .int .i64 0, .int .u64 0, .string ⟨([] : List UInt8).toArray⟩] 27; simpa using this
 have B0 := zh (below2s w (.cells #[.string ⟨([] : List UInt8).toArray⟩, .int .i64 0, .bool false, .int .i64 0, .int .i64 0, .int .u64 0, .string ⟨([] : List UInt8).toArray⟩] 27) (.cells #[.string ⟨([] : List UInt8).toArray⟩, .int .i64 0, .bool false, .int .i64 0, .int .i64 0, .int .u64 0, .string ⟨([] : List UInt8).toArray⟩] 27))
 go_wp2_with fail
 refine (textR l A L1 0 _ (by have := H_hl.out; omega) H_h1.out).mono ?_
 rintro y w1 ⟨rfl, hb⟩
 have r1 := r0.below hb
 have q1 := c0.below hb
 have B1 := zh (step0 B0.out hb)
 clear hb r0 c0
 have g0 : w1.cell? ⟨w.heap.size + 1, 0, none⟩ = some (.string ⟨([] : List UInt8).toArray⟩) := q1.cell 0
 have f0 : w1.frozen? ⟨w.heap.size + 1, 0, none⟩ = false := q1.frozen 0
 have c1 : Blk (w1.setCell ⟨w.heap.size + 1, 0, none⟩ (.string ⟨A.toArray⟩)) (w.heap.size + 1) #[.string ⟨A.toArray⟩, .int .i64 0, .bool false, .int .i64 0, .int .i64 0, .int .u64 0, .string ⟨([] : List UInt8).toArray⟩] 27 := (q1.setAt 0 (.string ⟨A.toArray⟩))
 have s1 : Blk (w1.setCell ⟨w.heap.size + 1, 0, none⟩ (.string ⟨A.toArray⟩)) w.heap.size #[.string ⟨([] : List UInt8).toArray⟩, .int .i64 0, .bool false, .int .i64 0, .int .i64 0, .int .u64 0, .string ⟨([] : List UInt8).toArray⟩] 27 := (r1.otherAt (by omega) 0 (.string ⟨A.toArray⟩))
 have D1 := zh (below_set B1.out (Nat.le_succ _) 0 (.string ⟨A.toArray⟩))
 clear r1 q1 B1
 have r1 := s1
 have B1 := D1
 clear s1 D1
 go_wp2_with fail
 refine (upTo_is 100 100 1 x 0 L1 L2 N _ rfl (by decide) H_h2.out H_hx.out).mono ?_
 rintro y w2 ⟨rfl, hb⟩
 have r2 := r1.below hb
 have q2 := c1.below hb
 have B2 := zh (step0 B1.out hb)
 clear hb r1 c1
 have g1 : w2.cell? ⟨w.heap.size + 1, 1, none⟩ = some (.int .i64 0) := q2.cell 1
 have f1 : w2.frozen? ⟨w.heap.size + 1, 1, none⟩ = false := q2.frozen 1
 have c2 : Blk (w2.setCell ⟨w.heap.size + 1, 1, none⟩ (.int .i64 x)) (w.heap.size + 1) #[.string ⟨A.toArray⟩, .int .i64 x, .bool false, .int .i64 0, .int .i64 0, .int .u64 0, .string ⟨([] : List UInt8).toArray⟩] 27 := (q2.setAt 1 (.int .i64 x))
 have s2 : Blk (w2.setCell ⟨w.heap.size + 1, 1, none⟩ (.int .i64 x)) w.heap.size #[.string ⟨([] : List UInt8).toArray⟩, .int .i64 0, .bool false, .int .i64 0, .int .i64 0, .int .u64 0, .string ⟨([] : List UInt8).toArray⟩] 27 := (r2.otherAt (by omega) 1 (.int .i64 x))
 have D2 := zh (below_set B2.out (Nat.le_succ _) 1 (.int .i64 x))
 clear r2 q2 B2
 have r2 := s2
 have B2 := D2
 clear s2 D2
 go_wp2_with fail
 refine (flagR_is L2 L3 v E _ H_h3.out).mono ?_
 rintro y w3 ⟨rfl, hb⟩
 have r3 := r2.below hb
 have q3 := c2.below hb
 have B3 := zh (step0 B2.out hb)
 clear hb r2 c2
 have g2 : w3.cell? ⟨w.heap.size + 1, 2, none⟩ = some (.bool false) := q3.cell 2
 have f2 : w3.frozen? ⟨w.heap.size + 1, 2, none⟩ = false := q3.frozen 2
 have c3 : Blk (w3.setCell ⟨w.heap.size + 1, 2, none⟩ (.bool v)) (w.heap.size + 1) #[.string ⟨A.toArray⟩, .int .i64 x, .bool v, .int .i64 0, .int .i64 0, .int .u64 0, .string ⟨([] : List UInt8).toArray⟩] 27 := (q3.setAt 2 (.bool v))
 have s3 : Blk (w3.setCell ⟨w.heap.size + 1, 2, none⟩ (.bool v)) w.heap.size #[.string ⟨([] : List UInt8).toArray⟩, .int .i64 0, .bool false, .int .i64 0, .int .i64 0, .int .u64 0, .string ⟨([] : List UInt8).toArray⟩] 27 := (r3.otherAt (by omega) 2 (.bool v))
 have D3 := zh (below_set B3.out (Nat.le_succ _) 2 (.bool v))
 clear r3 q3 B3
 obtain ⟨W9, hW⟩ : ∃ W9, (w3.setCell ⟨w.heap.size + 1, 2, none⟩ (.bool v)) = W9 := ⟨_, rfl⟩
 rw [hW] at c3 s3 D3
 have n0 : W9.cell? ⟨w.heap.size, 0, none⟩ = some (.string ⟨([] : List UInt8).toArray⟩) := s3.cell 0
 have p0 : W9.frozen? ⟨w.heap.size, 0, none⟩ = false := s3.frozen 0
 have n1 : W9.cell? ⟨w.heap.size, 1, none⟩ = some (.int .i64 0) := s3.cell 1
 have p1 : W9.frozen? ⟨w.heap.size, 1, none⟩ = false := s3.frozen 1
 have n2 : W9.cell? ⟨w.heap.size, 2, none⟩ = some (.bool false) := s3.cell 2
 have p2 : W9.frozen? ⟨w.heap.size, 2, none⟩ = false := s3.frozen 2
 have n3 : W9.cell? ⟨w.heap.size, 3, none⟩ = some (.int .i64 0) := s3.cell 3
 have p3 : W9.frozen? ⟨w.heap.size, 3, none⟩ = false := s3.frozen 3
 have n4 : W9.cell? ⟨w.heap.size, 4, none⟩ = some (.int .i64 0) := s3.cell 4
 have p4 : W9.frozen? ⟨w.heap.size, 4, none⟩ = false := s3.frozen 4
 have n5 : W9.cell? ⟨w.heap.size, 5, none⟩ = some (.int .u64 0) := s3.cell 5
 have p5 : W9.frozen? ⟨w.heap.size, 5, none⟩ = false := s3.frozen 5
 have n6 : W9.cell? ⟨w.heap.size, 6, none⟩ = some (.string ⟨([] : List UInt8).toArray⟩) := s3.cell 6
 have p6 : W9.frozen? ⟨w.heap.size, 6, none⟩ = false := s3.frozen 6
 clear c3 s3
 go_wp2
 refine bodyPost_ret (v := .tuple #[.agg #[.string ⟨([] : List UInt8).toArray⟩, .int .i64 0, .bool false, .int .i64 0, .int .i64 0, .int .u64 0, .string ⟨([] : List UInt8).toArray⟩], .string ⟨([] : List UInt8).toArray⟩, .int .i64 E]) ?_ rfl ⟨rfl, (below_set (below_set (below_set (below_set (below_set (below_set (below_set D3.out (Nat.le_refl _) 0 (.string ⟨([] : List UInt8).toArray⟩)) (Nat.le_refl _) 1 (.int .i64 0)) (Nat.le_refl _) 2 (.bool false)) (Nat.le_refl _) 3 (.int .i64 0)) (Nat.le_refl _) 4 (.int .i64 0)) (Nat.le_refl _) 5 (.int .u64 0)) (Nat.le_refl _) 6 (.string ⟨([] : List UInt8).toArray⟩))⟩
 simp [results, Tryz.results114, go_sem, n0, n1, n2, n3, n4, n5, n6]
theorem rcol_e3 (l : List UInt8) (A L1 : List UInt8) (N : Nat) (x : Int) (L2 : List UInt8) (v : Bool) (L3 : List UInt8) (k n b : Int) (s L4 : List UInt8) (E : Int) (w : World) (hl : l.length ≤ 1000000) (hl3 : L3.length ≤ 1000000) (h1 : Pk.rt l = (A, L1, 0)) (h2 : small 100 1 L1 = (N, L2, 0)) (hx : x = N) (h3 : rdf L2 = (v, L3, 0)) (h4 : rd L3 = ⟨k, n, b, s, L4, E⟩) (hE : ¬ E = 0) :
  Calls Tryz.prog 114 #[.string ⟨l.toArray⟩] w fun e w' => e = .returned (.tuple #[.agg #[.string ⟨([] : List UInt8).toArray⟩, .int .i64 0, .bool false, .int .i64 0, .int .i64 0, .int .u64 0, .string ⟨([] : List UInt8).toArray⟩], .string ⟨([] : List UInt8).toArray⟩, .int .i64 E]) ∧ Below w.heap.size w w' := by
 have H_hl := zh hl
 have H_hl3 := zh hl3
 have H_h1 := zh h1
 have H_h2 := zh h2
 have H_h3 := zh h3
 have H_h4 := zh h4
 have H_hx := zh hx
 clear hl hl3 h1 h2 h3 h4 hx
 have e1 := bne_t hE
 go_enter Tryz.func114, Tryz.ntmps114
 have r0 := (Blk.new w #[.string ⟨([] : List UInt8).toArray⟩, .int .i64 0, .bool false, .int .i64 0, .int .i64 0, .int .u64 0, .string ⟨([] : List UInt8).toArray⟩] 27).alloc (.cells #[.string ⟨([] : List UInt8).toArray⟩, .int .i64 0, .bool false, .int .i64 0, .int .i64 0, .int .u64 0, .string ⟨([] : List UInt8).toArray⟩] 27)
 have c0 : Blk ((w.alloc (.cells #[.string ⟨([] : List UInt8).toArray⟩, .int .i64 0, .bool false, .int .i64 0, .int .i64 0, .int .u64 0, .string ⟨([] : List UInt8).toArray⟩] 27)).alloc (.cells #[.string ⟨([] : List UInt8).toArray⟩, .int .i64 0, .bool false, .int .i64 0, .int .i64 0, .int .u64 0, .string ⟨([] : List UInt8).toArray⟩] 27)) (w.heap.size + 1) #[.string ⟨([] : List UInt8).toArray⟩, .int .i64 0, .bool false, .int .i64 0, .int .i64 0, .int .u64 0, .string ⟨([] : List UInt8).toArray⟩] 27 := by have := Blk.new (w.alloc (.cells #[.string ⟨([] : List UInt8).toArray⟩, .int .i64 0, .bool false, .int .i64 0, .int .i64 0, .int .u64 0, .string ⟨([] : List UInt8).toArray⟩] 27)) #[.string ⟨([] : List UInt8).toArray⟩, .int .i64 0, .bool false, .int .i64 0, .int .i64 0, .int .u64 0, .string ⟨([] : List UInt8).toArray⟩] 27; simpa using this
 have B0 := zh (below2s w (.cells #[.string ⟨([] : List UInt8).toArray⟩, .int .i64 0, .bool false, .int .i64 0, .int .i64 0, .int .u64 0, .string ⟨([] : List UInt8).toArray⟩] 27) (.cells #[.string ⟨([] : List UInt8).toArray⟩, .int .i64 0, .bool false, .int .i64 0, .int .i64 0, .int .u64 0, .string ⟨([] : List UInt8).toArray⟩] 27))
 go_wp2_with fail
 refine (textR l A L1 0 _ (by have := H_hl.out; omega) H_h1.out).mono ?_
 rintro y w1 ⟨rfl, hb⟩
 have r1 := r0.below hb
 have q1 := c0.below hb
 have B1 := zh (step0 B0.out hb)
 clear hb r0 c0
 have g0 : w1.cell? ⟨w.heap.size + 1, 0, none⟩ = some (.string ⟨([] : List UInt8).toArray⟩) := q1.cell 0
 have f0 : w1.frozen? ⟨w.heap.size + 1, 0, none⟩ = false := q1.frozen 0
 have c1 : Blk (w1.setCell ⟨w.heap.size + 1, 0, none⟩ (.string ⟨A.toArray⟩)) (w.heap.size + 1) #[.string ⟨A.toArray⟩, .int .i64 0, .bool false, .int .i64 0, .int .i64 0, .int .u64 0, .string ⟨([] : List UInt8).toArray⟩] 27 := (q1.setAt 0 (.string ⟨A.toArray⟩))
 have s1 : Blk (w1.setCell ⟨w.heap.size + 1, 0, none⟩ (.string ⟨A.toArray⟩)) w.heap.size #[.string ⟨([] : List UInt8).toArray⟩, .int .i64 0, .bool false, .int .i64 0, .int .i64 0, .int .u64 0, .string ⟨([] : List UInt8).toArray⟩] 27 := (r1.otherAt (by omega) 0 (.string ⟨A.toArray⟩))
 have D1 := zh (below_set B1.out (Nat.le_succ _) 0 (.string ⟨A.toArray⟩))
 clear r1 q1 B1
 have r1 := s1
 have B1 := D1
 clear s1 D1
 go_wp2_with fail
 refine (upTo_is 100 100 1 x 0 L1 L2 N _ rfl (by decide) H_h2.out H_hx.out).mono ?_
 rintro y w2 ⟨rfl, hb⟩
 have r2 := r1.below hb
 have q2 := c1.below hb
 have B2 := zh (step0 B1.out hb)
 clear hb r1 c1
 have g1 : w2.cell? ⟨w.heap.size + 1, 1, none⟩ = some (.int .i64 0) := q2.cell 1
 have f1 : w2.frozen? ⟨w.heap.size + 1, 1, none⟩ = false := q2.frozen 1
 have c2 : Blk (w2.setCell ⟨w.heap.size + 1, 1, none⟩ (.int .i64 x)) (w.heap.size + 1) #[.string ⟨A.toArray⟩, .int .i64 x, .bool false, .int .i64 0, .int .i64 0, .int .u64 0, .string ⟨([] : List UInt8).toArray⟩] 27 := (q2.setAt 1 (.int .i64 x))
 have s2 : Blk (w2.setCell ⟨w.heap.size + 1, 1, none⟩ (.int .i64 x)) w.heap.size #[.string ⟨([] : List UInt8).toArray⟩, .int .i64 0, .bool false, .int .i64 0, .int .i64 0, .int .u64 0, .string ⟨([] : List UInt8).toArray⟩] 27 := (r2.otherAt (by omega) 1 (.int .i64 x))
 have D2 := zh (below_set B2.out (Nat.le_succ _) 1 (.int .i64 x))
 clear r2 q2 B2
 have r2 := s2
 have B2 := D2
 clear s2 D2
 go_wp2_with fail
 refine (flagR_is L2 L3 v 0 _ H_h3.out).mono ?_
 rintro y w3 ⟨rfl, hb⟩
 have r3 := r2.below hb
 have q3 := c2.below hb
 have B3 := zh (step0 B2.out hb)
 clear hb r2 c2
 have g2 : w3.cell? ⟨w.heap.size + 1, 2, none⟩ = some (.bool false) := q3.cell 2
 have f2 : w3.frozen? ⟨w.heap.size + 1, 2, none⟩ = false := q3.frozen 2
 have c3 : Blk (w3.setCell ⟨w.heap.size + 1, 2, none⟩ (.bool v)) (w.heap.size + 1) #[.string ⟨A.toArray⟩, .int .i64 x, .bool v, .int .i64 0, .int .i64 0, .int .u64 0, .string ⟨([] : List UInt8).toArray⟩] 27 := (q3.setAt 2 (.bool v))
 have s3 : Blk (w3.setCell ⟨w.heap.size + 1, 2, none⟩ (.bool v)) w.heap.size #[.string ⟨([] : List UInt8).toArray⟩, .int .i64 0, .bool false, .int .i64 0, .int .i64 0, .int .u64 0, .string ⟨([] : List UInt8).toArray⟩] 27 := (r3.otherAt (by omega) 2 (.bool v))
 have D3 := zh (below_set B3.out (Nat.le_succ _) 2 (.bool v))
 clear r3 q3 B3
 have r3 := s3
 have B3 := D3
 clear s3 D3
 go_wp2_with fail
 refine (rdv L3 k n b E s L4 _ H_hl3.out H_h4.out).mono ?_
 rintro y w4 ⟨rfl, hb⟩
 have r4 := r3.below hb
 have q4 := c3.below hb
 have B4 := zh (step0 B3.out hb)
 clear hb r3 c3
 have g3 : w4.cell? ⟨w.heap.size + 1, 3, none⟩ = some (.int .i64 0) := q4.cell 3
 have f3 : w4.frozen? ⟨w.heap.size + 1, 3, none⟩ = false := q4.frozen 3
 have g4 : w4.cell? ⟨w.heap.size + 1, 4, none⟩ = some (.int .i64 0) := q4.cell 4
 have f4 : w4.frozen? ⟨w.heap.size + 1, 4, none⟩ = false := q4.frozen 4
 have g5 : w4.cell? ⟨w.heap.size + 1, 5, none⟩ = some (.int .u64 0) := q4.cell 5
 have f5 : w4.frozen? ⟨w.heap.size + 1, 5, none⟩ = false := q4.frozen 5
 have g6 : w4.cell? ⟨w.heap.size + 1, 6, none⟩ = some (.string ⟨([] : List UInt8).toArray⟩) := q4.cell 6
 have f6 : w4.frozen? ⟨w.heap.size + 1, 6, none⟩ = false := q4.frozen 6
 have c4 : Blk ((((w4.setCell ⟨w.heap.size + 1, 3, none⟩ (.int .i64 k)).setCell ⟨w.heap.size + 1, 4, none⟩ (.int .i64 n)).setCell ⟨w.heap.size + 1, 5, none⟩ (.int .u64 b)).setCell ⟨w.heap.size + 1, 6, none⟩ (.string ⟨s.toArray⟩)) (w.heap.size + 1) #[.string ⟨A.toArray⟩, .int .i64 x, .bool v, .int .i64 k, .int .i64 n, .int .u64 b, .string ⟨s.toArray⟩] 27 := ((((q4.setAt 3 (.int .i64 k)).setAt 4 (.int .i64 n)).setAt 5 (.int .u64 b)).setAt 6 (.string ⟨s.toArray⟩))
 have s4 : Blk ((((w4.setCell ⟨w.heap.size + 1, 3, none⟩ (.int .i64 k)).setCell ⟨w.heap.size + 1, 4, none⟩ (.int .i64 n)).setCell ⟨w.heap.size + 1, 5, none⟩ (.int .u64 b)).setCell ⟨w.heap.size + 1, 6, none⟩ (.string ⟨s.toArray⟩)) w.heap.size #[.string ⟨([] : List UInt8).toArray⟩, .int .i64 0, .bool false, .int .i64 0, .int .i64 0, .int .u64 0, .string ⟨([] : List UInt8).toArray⟩] 27 := ((((r4.otherAt (by omega) 3 (.int .i64 k)).otherAt (by omega) 4 (.int .i64 n)).otherAt (by omega) 5 (.int .u64 b)).otherAt (by omega) 6 (.string ⟨s.toArray⟩))
 have D4 := zh (below_set (below_set (below_set (below_set B4.out (Nat.le_succ _) 3 (.int .i64 k)) (Nat.le_succ _) 4 (.int .i64 n)) (Nat.le_succ _) 5 (.int .u64 b)) (Nat.le_succ _) 6 (.string ⟨s.toArray⟩))
 clear r4 q4 B4
 obtain ⟨W9, hW⟩ : ∃ W9, ((((w4.setCell ⟨w.heap.size + 1, 3, none⟩ (.int .i64 k)).setCell ⟨w.heap.size + 1, 4, none⟩ (.int .i64 n)).setCell ⟨w.heap.size + 1, 5, none⟩ (.int .u64 b)).setCell ⟨w.heap.size + 1, 6, none⟩ (.string ⟨s.toArray⟩)) = W9 := ⟨_, rfl⟩
 rw [hW] at c4 s4 D4
 have n0 : W9.cell? ⟨w.heap.size, 0, none⟩ = some (.string ⟨([] : List UInt8).toArray⟩) := s4.cell 0
 have p0 : W9.frozen? ⟨w.heap.size, 0, none⟩ = false := s4.frozen 0
 have n1 : W9.cell? ⟨w.heap.size, 1, none⟩ = some (.int .i64 0) := s4.cell 1
 have p1 : W9.frozen? ⟨w.heap.size, 1, none⟩ = false := s4.frozen 1
 have n2 : W9.cell? ⟨w.heap.size, 2, none⟩ = some (.bool false) := s4.cell 2
 have p2 : W9.frozen? ⟨w.heap.size, 2, none⟩ = false := s4.frozen 2
 have n3 : W9.cell? ⟨w.heap.size, 3, none⟩ = some (.int .i64 0) := s4.cell 3
 have p3 : W9.frozen? ⟨w.heap.size, 3, none⟩ = false := s4.frozen 3
 have n4 : W9.cell? ⟨w.heap.size, 4, none⟩ = some (.int .i64 0) := s4.cell 4
 have p4 : W9.frozen? ⟨w.heap.size, 4, none⟩ = false := s4.frozen 4
 have n5 : W9.cell? ⟨w.heap.size, 5, none⟩ = some (.int .u64 0) := s4.cell 5
 have p5 : W9.frozen? ⟨w.heap.size, 5, none⟩ = false := s4.frozen 5
 have n6 : W9.cell? ⟨w.heap.size, 6, none⟩ = some (.string ⟨([] : List UInt8).toArray⟩) := s4.cell 6
 have p6 : W9.frozen? ⟨w.heap.size, 6, none⟩ = false := s4.frozen 6
 clear c4 s4
 go_wp2
 refine bodyPost_ret (v := .tuple #[.agg #[.string ⟨([] : List UInt8).toArray⟩, .int .i64 0, .bool false, .int .i64 0, .int .i64 0, .int .u64 0, .string ⟨([] : List UInt8).toArray⟩], .string ⟨([] : List UInt8).toArray⟩, .int .i64 E]) ?_ rfl ⟨rfl, (below_set (below_set (below_set (below_set (below_set (below_set (below_set D4.out (Nat.le_refl _) 0 (.string ⟨([] : List UInt8).toArray⟩)) (Nat.le_refl _) 1 (.int .i64 0)) (Nat.le_refl _) 2 (.bool false)) (Nat.le_refl _) 3 (.int .i64 0)) (Nat.le_refl _) 4 (.int .i64 0)) (Nat.le_refl _) 5 (.int .u64 0)) (Nat.le_refl _) 6 (.string ⟨([] : List UInt8).toArray⟩))⟩
 simp [results, Tryz.results114, go_sem, n0, n1, n2, n3, n4, n5, n6]
theorem rcol_done (l : List UInt8) (A L1 : List UInt8) (N : Nat) (x : Int) (L2 : List UInt8) (v : Bool) (L3 : List UInt8) (k n b : Int) (s L4 : List UInt8) (w : World) (hl : l.length ≤ 1000000) (hl3 : L3.length ≤ 1000000) (h1 : Pk.rt l = (A, L1, 0)) (h2 : small 100 1 L1 = (N, L2, 0)) (hx : x = N) (h3 : rdf L2 = (v, L3, 0)) (h4 : rd L3 = ⟨k, n, b, s, L4, 0⟩) :
  Calls Tryz.prog 114 #[.string ⟨l.toArray⟩] w fun e w' => e = .returned (.tuple #[.agg #[.string ⟨A.toArray⟩, .int .i64 x, .bool v, .int .i64 k, .int .i64 n, .int .u64 b, .string ⟨s.toArray⟩], .string ⟨L4.toArray⟩, .int .i64 0]) ∧ Below w.heap.size w w' := by
 have H_hl := zh hl
 have H_hl3 := zh hl3
 have H_h1 := zh h1
 have H_h2 := zh h2
 have H_h3 := zh h3
 have H_h4 := zh h4
 have H_hx := zh hx
 clear hl hl3 h1 h2 h3 h4 hx
 go_enter Tryz.func114, Tryz.ntmps114
 have r0 := (Blk.new w #[.string ⟨([] : List UInt8).toArray⟩, .int .i64 0, .bool false, .int .i64 0, .int .i64 0, .int .u64 0, .string ⟨([] : List UInt8).toArray⟩] 27).alloc (.cells #[.string ⟨([] : List UInt8).toArray⟩, .int .i64 0, .bool false, .int .i64 0, .int .i64 0, .int .u64 0, .string ⟨([] : List UInt8).toArray⟩] 27)
 have c0 : Blk ((w.alloc (.cells #[.string ⟨([] : List UInt8).toArray⟩, .int .i64 0, .bool false, .int .i64 0, .int .i64 0, .int .u64 0, .string ⟨([] : List UInt8).toArray⟩] 27)).alloc (.cells #[.string ⟨([] : List UInt8).toArray⟩, .int .i64 0, .bool false, .int .i64 0, .int .i64 0, .int .u64 0, .string ⟨([] : List UInt8).toArray⟩] 27)) (w.heap.size + 1) #[.string ⟨([] : List UInt8).toArray⟩, .int .i64 0, .bool false, .int .i64 0, .int .i64 0, .int .u64 0, .string ⟨([] : List UInt8).toArray⟩] 27 := by have := Blk.new (w.alloc (.cells #[.string ⟨([] : List UInt8).toArray⟩, .int .i64 0, .bool false, .int .i64 0, .int .i64 0, .int .u64 0, .string ⟨([] : List UInt8).toArray⟩] 27)) #[.string ⟨([] : List UInt8).toArray⟩, .int .i64 0, .bool false, .int .i64 0, .int .i64 0, .int .u64 0, .string ⟨([] : List UInt8).toArray⟩] 27; simpa using this
 have B0 := zh (below2s w (.cells #[.string ⟨([] : List UInt8).toArray⟩, .int .i64 0, .bool false, .int .i64 0, .int .i64 0, .int .u64 0, .string ⟨([] : List UInt8).toArray⟩] 27) (.cells #[.string ⟨([] : List UInt8).toArray⟩, .int .i64 0, .bool false, .int .i64 0, .int .i64 0, .int .u64 0, .string ⟨([] : List UInt8).toArray⟩] 27))
 go_wp2_with fail
 refine (textR l A L1 0 _ (by have := H_hl.out; omega) H_h1.out).mono ?_
 rintro y w1 ⟨rfl, hb⟩
 have r1 := r0.below hb
 have q1 := c0.below hb
 have B1 := zh (step0 B0.out hb)
 clear hb r0 c0
 have g0 : w1.cell? ⟨w.heap.size + 1, 0, none⟩ = some (.string ⟨([] : List UInt8).toArray⟩) := q1.cell 0
 have f0 : w1.frozen? ⟨w.heap.size + 1, 0, none⟩ = false := q1.frozen 0
 have c1 : Blk (w1.setCell ⟨w.heap.size + 1, 0, none⟩ (.string ⟨A.toArray⟩)) (w.heap.size + 1) #[.string ⟨A.toArray⟩, .int .i64 0, .bool false, .int .i64 0, .int .i64 0, .int .u64 0, .string ⟨([] : List UInt8).toArray⟩] 27 := (q1.setAt 0 (.string ⟨A.toArray⟩))
 have s1 : Blk (w1.setCell ⟨w.heap.size + 1, 0, none⟩ (.string ⟨A.toArray⟩)) w.heap.size #[.string ⟨([] : List UInt8).toArray⟩, .int .i64 0, .bool false, .int .i64 0, .int .i64 0, .int .u64 0, .string ⟨([] : List UInt8).toArray⟩] 27 := (r1.otherAt (by omega) 0 (.string ⟨A.toArray⟩))
 have D1 := zh (below_set B1.out (Nat.le_succ _) 0 (.string ⟨A.toArray⟩))
 clear r1 q1 B1
 have r1 := s1
 have B1 := D1
 clear s1 D1
 go_wp2_with fail
 refine (upTo_is 100 100 1 x 0 L1 L2 N _ rfl (by decide) H_h2.out H_hx.out).mono ?_
 rintro y w2 ⟨rfl, hb⟩
 have r2 := r1.below hb
 have q2 := c1.below hb
 have B2 := zh (step0 B1.out hb)
 clear hb r1 c1
 have g1 : w2.cell? ⟨w.heap.size + 1, 1, none⟩ = some (.int .i64 0) := q2.cell 1
 have f1 : w2.frozen? ⟨w.heap.size + 1, 1, none⟩ = false := q2.frozen 1
 have c2 : Blk (w2.setCell ⟨w.heap.size + 1, 1, none⟩ (.int .i64 x)) (w.heap.size + 1) #[.string ⟨A.toArray⟩, .int .i64 x, .bool false, .int .i64 0, .int .i64 0, .int .u64 0, .string ⟨([] : List UInt8).toArray⟩] 27 := (q2.setAt 1 (.int .i64 x))
 have s2 : Blk (w2.setCell ⟨w.heap.size + 1, 1, none⟩ (.int .i64 x)) w.heap.size #[.string ⟨([] : List UInt8).toArray⟩, .int .i64 0, .bool false, .int .i64 0, .int .i64 0, .int .u64 0, .string ⟨([] : List UInt8).toArray⟩] 27 := (r2.otherAt (by omega) 1 (.int .i64 x))
 have D2 := zh (below_set B2.out (Nat.le_succ _) 1 (.int .i64 x))
 clear r2 q2 B2
 have r2 := s2
 have B2 := D2
 clear s2 D2
 go_wp2_with fail
 refine (flagR_is L2 L3 v 0 _ H_h3.out).mono ?_
 rintro y w3 ⟨rfl, hb⟩
 have r3 := r2.below hb
 have q3 := c2.below hb
 have B3 := zh (step0 B2.out hb)
 clear hb r2 c2
 have g2 : w3.cell? ⟨w.heap.size + 1, 2, none⟩ = some (.bool false) := q3.cell 2
 have f2 : w3.frozen? ⟨w.heap.size + 1, 2, none⟩ = false := q3.frozen 2
 have c3 : Blk (w3.setCell ⟨w.heap.size + 1, 2, none⟩ (.bool v)) (w.heap.size + 1) #[.string ⟨A.toArray⟩, .int .i64 x, .bool v, .int .i64 0, .int .i64 0, .int .u64 0, .string ⟨([] : List UInt8).toArray⟩] 27 := (q3.setAt 2 (.bool v))
 have s3 : Blk (w3.setCell ⟨w.heap.size + 1, 2, none⟩ (.bool v)) w.heap.size #[.string ⟨([] : List UInt8).toArray⟩, .int .i64 0, .bool false, .int .i64 0, .int .i64 0, .int .u64 0, .string ⟨([] : List UInt8).toArray⟩] 27 := (r3.otherAt (by omega) 2 (.bool v))
 have D3 := zh (below_set B3.out (Nat.le_succ _) 2 (.bool v))
 clear r3 q3 B3
 have r3 := s3
 have B3 := D3
 clear s3 D3
 go_wp2_with fail
 refine (rdv L3 k n b 0 s L4 _ H_hl3.out H_h4.out).mono ?_
 rintro y w4 ⟨rfl, hb⟩
 have r4 := r3.below hb
 have q4 := c3.below hb
 have B4 := zh (step0 B3.out hb)
 clear hb r3 c3
 have g3 : w4.cell? ⟨w.heap.size + 1, 3, none⟩ = some (.int .i64 0) := q4.cell 3
 have f3 : w4.frozen? ⟨w.heap.size + 1, 3, none⟩ = false := q4.frozen 3
 have g4 : w4.cell? ⟨w.heap.size + 1, 4, none⟩ = some (.int .i64 0) := q4.cell 4
 have f4 : w4.frozen? ⟨w.heap.size + 1, 4, none⟩ = false := q4.frozen 4
 have g5 : w4.cell? ⟨w.heap.size + 1, 5, none⟩ = some (.int .u64 0) := q4.cell 5
 have f5 : w4.frozen? ⟨w.heap.size + 1, 5, none⟩ = false := q4.frozen 5
 have g6 : w4.cell? ⟨w.heap.size + 1, 6, none⟩ = some (.string ⟨([] : List UInt8).toArray⟩) := q4.cell 6
 have f6 : w4.frozen? ⟨w.heap.size + 1, 6, none⟩ = false := q4.frozen 6
 have c4 : Blk ((((w4.setCell ⟨w.heap.size + 1, 3, none⟩ (.int .i64 k)).setCell ⟨w.heap.size + 1, 4, none⟩ (.int .i64 n)).setCell ⟨w.heap.size + 1, 5, none⟩ (.int .u64 b)).setCell ⟨w.heap.size + 1, 6, none⟩ (.string ⟨s.toArray⟩)) (w.heap.size + 1) #[.string ⟨A.toArray⟩, .int .i64 x, .bool v, .int .i64 k, .int .i64 n, .int .u64 b, .string ⟨s.toArray⟩] 27 := ((((q4.setAt 3 (.int .i64 k)).setAt 4 (.int .i64 n)).setAt 5 (.int .u64 b)).setAt 6 (.string ⟨s.toArray⟩))
 have s4 : Blk ((((w4.setCell ⟨w.heap.size + 1, 3, none⟩ (.int .i64 k)).setCell ⟨w.heap.size + 1, 4, none⟩ (.int .i64 n)).setCell ⟨w.heap.size + 1, 5, none⟩ (.int .u64 b)).setCell ⟨w.heap.size + 1, 6, none⟩ (.string ⟨s.toArray⟩)) w.heap.size #[.string ⟨([] : List UInt8).toArray⟩, .int .i64 0, .bool false, .int .i64 0, .int .i64 0, .int .u64 0, .string ⟨([] : List UInt8).toArray⟩] 27 := ((((r4.otherAt (by omega) 3 (.int .i64 k)).otherAt (by omega) 4 (.int .i64 n)).otherAt (by omega) 5 (.int .u64 b)).otherAt (by omega) 6 (.string ⟨s.toArray⟩))
 have D4 := zh (below_set (below_set (below_set (below_set B4.out (Nat.le_succ _) 3 (.int .i64 k)) (Nat.le_succ _) 4 (.int .i64 n)) (Nat.le_succ _) 5 (.int .u64 b)) (Nat.le_succ _) 6 (.string ⟨s.toArray⟩))
 clear r4 q4 B4
 obtain ⟨W9, hW⟩ : ∃ W9, ((((w4.setCell ⟨w.heap.size + 1, 3, none⟩ (.int .i64 k)).setCell ⟨w.heap.size + 1, 4, none⟩ (.int .i64 n)).setCell ⟨w.heap.size + 1, 5, none⟩ (.int .u64 b)).setCell ⟨w.heap.size + 1, 6, none⟩ (.string ⟨s.toArray⟩)) = W9 := ⟨_, rfl⟩
 rw [hW] at c4 s4 D4
 have m0 : W9.cell? ⟨w.heap.size + 1, 0, none⟩ = some (.string ⟨A.toArray⟩) := c4.cell 0
 have m1 : W9.cell? ⟨w.heap.size + 1, 1, none⟩ = some (.int .i64 x) := c4.cell 1
 have m2 : W9.cell? ⟨w.heap.size + 1, 2, none⟩ = some (.bool v) := c4.cell 2
 have m3 : W9.cell? ⟨w.heap.size + 1, 3, none⟩ = some (.int .i64 k) := c4.cell 3
 have m4 : W9.cell? ⟨w.heap.size + 1, 4, none⟩ = some (.int .i64 n) := c4.cell 4
 have m5 : W9.cell? ⟨w.heap.size + 1, 5, none⟩ = some (.int .u64 b) := c4.cell 5
 have m6 : W9.cell? ⟨w.heap.size + 1, 6, none⟩ = some (.string ⟨s.toArray⟩) := c4.cell 6
 have n0 : W9.cell? ⟨w.heap.size, 0, none⟩ = some (.string ⟨([] : List UInt8).toArray⟩) := s4.cell 0
 have p0 : W9.frozen? ⟨w.heap.size, 0, none⟩ = false := s4.frozen 0
 have n1 : W9.cell? ⟨w.heap.size, 1, none⟩ = some (.int .i64 0) := s4.cell 1
 have p1 : W9.frozen? ⟨w.heap.size, 1, none⟩ = false := s4.frozen 1
 have n2 : W9.cell? ⟨w.heap.size, 2, none⟩ = some (.bool false) := s4.cell 2
 have p2 : W9.frozen? ⟨w.heap.size, 2, none⟩ = false := s4.frozen 2
 have n3 : W9.cell? ⟨w.heap.size, 3, none⟩ = some (.int .i64 0) := s4.cell 3
 have p3 : W9.frozen? ⟨w.heap.size, 3, none⟩ = false := s4.frozen 3
 have n4 : W9.cell? ⟨w.heap.size, 4, none⟩ = some (.int .i64 0) := s4.cell 4
 have p4 : W9.frozen? ⟨w.heap.size, 4, none⟩ = false := s4.frozen 4
 have n5 : W9.cell? ⟨w.heap.size, 5, none⟩ = some (.int .u64 0) := s4.cell 5
 have p5 : W9.frozen? ⟨w.heap.size, 5, none⟩ = false := s4.frozen 5
 have n6 : W9.cell? ⟨w.heap.size, 6, none⟩ = some (.string ⟨([] : List UInt8).toArray⟩) := s4.cell 6
 have p6 : W9.frozen? ⟨w.heap.size, 6, none⟩ = false := s4.frozen 6
 clear c4 s4
 go_wp2
 refine bodyPost_ret (v := .tuple #[.agg #[.string ⟨A.toArray⟩, .int .i64 x, .bool v, .int .i64 k, .int .i64 n, .int .u64 b, .string ⟨s.toArray⟩], .string ⟨L4.toArray⟩, .int .i64 0]) ?_ rfl ⟨rfl, (below_set (below_set (below_set (below_set (below_set (below_set (below_set D4.out (Nat.le_refl _) 0 (.string ⟨A.toArray⟩)) (Nat.le_refl _) 1 (.int .i64 x)) (Nat.le_refl _) 2 (.bool v)) (Nat.le_refl _) 3 (.int .i64 k)) (Nat.le_refl _) 4 (.int .i64 n)) (Nat.le_refl _) 5 (.int .u64 b)) (Nat.le_refl _) 6 (.string ⟨s.toArray⟩))⟩
 simp [results, Tryz.results114, go_sem, n0, n1, n2, n3, n4, n5, n6]
def Cr (c : C) (r : List UInt8) (e : Int) : Value := .tuple #[.agg #[.string ⟨c.name.toArray⟩, .int .i64 c.kind, .bool c.null, .int .i64 c.d.k, .int .i64 c.d.n, .int .u64 c.d.b, .string ⟨c.d.s.toArray⟩], .string ⟨r.toArray⟩, .int .i64 e]
theorem readCol_any (l : List UInt8) (w : World) (hl : l.length ≤ 1000000) :
  Calls Tryz.prog 114 #[.string ⟨l.toArray⟩] w fun e w' => e = .returned (Cr (rdc l).1 (rdc l).2.1 (rdc l).2.2) ∧ Below w.heap.size w w' := by
 obtain ⟨A, L1, E1, h1⟩ : ∃ A L1 E1, Pk.rt l = (A, L1, E1) := ⟨_, _, _, rfl⟩
 have n1 := rt_len l
 unfold rdc
 rw [h1] at n1 ⊢
 simp only at n1 ⊢
 by_cases g1 : E1 = 0
 ·subst g1
  rw [if_neg (by simp)]
  obtain ⟨N, L2, E2, h2⟩ : ∃ N L2 E2, small 100 1 L1 = (N, L2, E2) := ⟨_, _, _, rfl⟩
  have n2 := small_len 100 1 L1
  rw [h2] at n2 ⊢
  simp only at n2 ⊢
  by_cases g2 : E2 = 0
  ·subst g2
   rw [if_neg (by simp)]
   obtain ⟨v, L3, E3, h3⟩ : ∃ v L3 E3, rdf L2 = (v, L3, E3) := ⟨_, _, _, rfl⟩
   have n3 := rdf_len L2
   rw [h3] at n3 ⊢
   simp only at n3 ⊢
   by_cases g3 : E3 = 0
   ·subst g3
    rw [if_neg (by simp)]
    obtain ⟨⟨k, n, b, s, L4, E4⟩, h4⟩ : ∃ Q, rd L3 = Q := ⟨_, rfl⟩
    rw [h4]
    simp only
    by_cases g4 : E4 = 0
    ·subst g4
     rw [if_neg (by simp)]
     exact rcol_done l A L1 N N L2 v L3 k n b s L4 w hl (by omega) h1 h2 rfl h3 h4
    ·rw [if_pos g4]
     exact rcol_e3 l A L1 N N L2 v L3 k n b s L4 E4 w hl (by omega) h1 h2 rfl h3 h4 g4
   ·rw [if_pos g3]
    exact rcol_e2 l A L1 N N L2 v L3 E3 w hl h1 h2 rfl h3 g3
  ·rw [if_pos g2]
   exact rcol_e1 l A L1 N N L2 E2 w hl h1 h2 rfl g2
 ·rw [if_pos g1]
  exact rcol_e0 l A L1 E1 w hl h1 g1
theorem readCol_is (l r : List UInt8) (c : C) (e : Int) (w : World) (hl : l.length ≤ 1000000) (h : rdc l = (c, r, e)) :
  Calls Tryz.prog 114 #[.string ⟨l.toArray⟩] w fun x w' => x = .returned (.tuple #[.agg #[.string ⟨c.name.toArray⟩, .int .i64 c.kind, .bool c.null, .int .i64 c.d.k, .int .i64 c.d.n, .int .u64 c.d.b, .string ⟨c.d.s.toArray⟩], .string ⟨r.toArray⟩, .int .i64 e]) ∧ Below w.heap.size w w' := by
 have := readCol_any l w hl
 rw [h] at this
 exact this
end Go.Proofs.YtmgdciihpjifgaaGreatDoor
namespace Go.Proofs.YtmgdciihpjifgaaGreatDoor
open Go.RowKit
theorem OwC.other {w : World} {b B g n cap : Nat} {xs : List C} (h : OwC w b (.slice (some ⟨g, 0, none⟩) n cap) xs) (hne : g ≠ B) (i : Nat) (v : Value) : OwC (w.setCell ⟨B, i, none⟩ v) b (.slice (some ⟨g, 0, none⟩) n cap) xs := by
 refine ⟨h.1, ?_⟩
 rcases h.2 with hn | ⟨g', cap', cur, hv, hbg, hg, rest⟩
 ·exact .inl hn
 ·obtain ⟨rfl, _, rfl⟩ : g = g' ∧ n = xs.length ∧ cap = cap' := by simpa using hv
  exact .inr ⟨g, cap, cur, hv, hbg, Blk.otherAt hg hne i v, rest⟩
theorem row_set {wr w3 : World} {b g N j : Nat} {done : List C} (hb : Below wr.heap.size wr w3) (hO : OwC wr b (.slice (some ⟨g, 0, none⟩) N N) (done ++ List.replicate (N - j) C0)) (hd : done.length = j) (hj : j < N) (c : C) :
  (w3.cell? ⟨g, j * 7, none⟩ = some (.string ⟨C0.name.toArray⟩) ∧ w3.cell? ⟨g, j * 7 + 1, none⟩ = some (.int .i64 C0.kind) ∧ w3.cell? ⟨g, j * 7 + 2, none⟩ = some (.bool C0.null) ∧ w3.cell? ⟨g, j * 7 + 3, none⟩ = some (.int .i64 C0.d.k) ∧ w3.cell? ⟨g, j * 7 + 4, none⟩ = some (.int .i64 C0.d.n) ∧ w3.cell? ⟨g, j * 7 + 5, none⟩ = some (.int .u64 C0.d.b) ∧ w3.cell? ⟨g, j * 7 + 6, none⟩ = some (.string ⟨C0.d.s.toArray⟩)) ∧
  (w3.frozen? ⟨g, j * 7, none⟩ = false ∧ w3.frozen? ⟨g, j * 7 + 1, none⟩ = false ∧ w3.frozen? ⟨g, j * 7 + 2, none⟩ = false ∧ w3.frozen? ⟨g, j * 7 + 3, none⟩ = false ∧ w3.frozen? ⟨g, j * 7 + 4, none⟩ = false ∧ w3.frozen? ⟨g, j * 7 + 5, none⟩ = false ∧ w3.frozen? ⟨g, j * 7 + 6, none⟩ = false) ∧
  OwC (((((((w3.setCell ⟨g, j * 7, none⟩ (.string ⟨c.name.toArray⟩)).setCell ⟨g, j * 7 + 1, none⟩ (.int .i64 c.kind)).setCell ⟨g, j * 7 + 2, none⟩ (.bool c.null)).setCell ⟨g, j * 7 + 3, none⟩ (.int .i64 c.d.k)).setCell ⟨g, j * 7 + 4, none⟩ (.int .i64 c.d.n)).setCell ⟨g, j * 7 + 5, none⟩ (.int .u64 c.d.b)).setCell ⟨g, j * 7 + 6, none⟩ (.string ⟨c.d.s.toArray⟩)) b (.slice (some ⟨g, 0, none⟩) N N) ((done ++ [c]) ++ List.replicate (N - (j + 1)) C0) ∧ b ≤ g := by
 have hO3 := hO.keep hb
 have hy : (done ++ List.replicate (N - j) C0)[j]? = some C0 := by
  rw [List.getElem?_append_right (by omega), List.getElem?_replicate, hd, if_pos (by omega)]
 obtain ⟨hst, hbg, hgl, hfz⟩ := hO3.store (by simp; omega) j (by simp; omega) c
 refine ⟨hO3.at j C0 hy, ⟨hfz _, hfz _, hfz _, hfz _, hfz _, hfz _, hfz _⟩, ?_, hbg⟩
 rw [← cset_next done N j c hd hj]
 exact hst
theorem blk_set {w3 : World} {B g j : Nat} {cs : Array Value} {t : TypeId} (h : Blk w3 B cs t) (hne : B ≠ g) (c : C) : Blk (((((((w3.setCell ⟨g, j * 7, none⟩ (.string ⟨c.name.toArray⟩)).setCell ⟨g, j * 7 + 1, none⟩ (.int .i64 c.kind)).setCell ⟨g, j * 7 + 2, none⟩ (.bool c.null)).setCell ⟨g, j * 7 + 3, none⟩ (.int .i64 c.d.k)).setCell ⟨g, j * 7 + 4, none⟩ (.int .i64 c.d.n)).setCell ⟨g, j * 7 + 5, none⟩ (.int .u64 c.d.b)).setCell ⟨g, j * 7 + 6, none⟩ (.string ⟨c.d.s.toArray⟩)) B cs t :=
 ((((((h.otherAt hne _ _).otherAt hne _ _).otherAt hne _ _).otherAt hne _ _).otherAt hne _ _).otherAt hne _ _).otherAt hne _ _
theorem bel_set {w w3 : World} {b g j : Nat} (h : Below b w w3) (hg : b ≤ g) (c : C) : Below b w (((((((w3.setCell ⟨g, j * 7, none⟩ (.string ⟨c.name.toArray⟩)).setCell ⟨g, j * 7 + 1, none⟩ (.int .i64 c.kind)).setCell ⟨g, j * 7 + 2, none⟩ (.bool c.null)).setCell ⟨g, j * 7 + 3, none⟩ (.int .i64 c.d.k)).setCell ⟨g, j * 7 + 4, none⟩ (.int .i64 c.d.n)).setCell ⟨g, j * 7 + 5, none⟩ (.int .u64 c.d.b)).setCell ⟨g, j * 7 + 6, none⟩ (.string ⟨c.d.s.toArray⟩)) := set7 h hg
def rdm (A : List UInt8) (x : Int) (N : Nat) (l : List UInt8) : T × List UInt8 × Int := if (rdcs N l).2.2 ≠ 0 then (T0, [], (rdcs N l).2.2) else (⟨A, x, (rdcs N l).1⟩, (rdcs N l).2.1, 0)
theorem rdm_bad {A : List UInt8} {x : Int} {N : Nat} {l : List UInt8} {e : Int} (h : rdcs N l = ([], [], e)) (he : ¬ e = 0) : rdm A x N l = (T0, [], e) := by unfold rdm; rw [h, if_pos he]
theorem rdm_ok {A : List UInt8} {x : Int} {N : Nat} {l r : List UInt8} {cs : List C} (h : rdcs N l = (cs, r, 0)) : rdm A x N l = (⟨A, x, cs⟩, r, 0) := by unfold rdm; rw [h, if_neg (by simp)]
def RT (R : T × List UInt8 × Int) (w : World) (e : Ending) (w' : World) : Prop :=
 ∃ ao cap, e = .returned (.tuple #[.agg #[.string ⟨R.1.name.toArray⟩, .int .i64 R.1.keys, .slice ao R.1.cs.length cap], .string ⟨R.2.1.toArray⟩, .int .i64 R.2.2]) ∧ SlC w' ao R.1.cs ∧ R.1.cs.length ≤ cap ∧ (∀ a, ao = some a → w.heap.size ≤ a.block) ∧ Below w.heap.size w w'
theorem RT.bad {w w' : World} (E : Int) (hb : Below w.heap.size w w') : RT (T0, [], E) w (.returned (.tuple #[.agg #[.string ⟨([] : List UInt8).toArray⟩, .int .i64 0, .slice none 0 0], .string ⟨([] : List UInt8).toArray⟩, .int .i64 E])) w' :=
 ⟨none, 0, rfl, fun i c h => by simp [T0] at h, Nat.zero_le _, (fun a h => by cases h), hb⟩
theorem rtab_e0 (l : List UInt8) (A L1 : List UInt8) (E : Int) (w : World) (hl : l.length ≤ 1000000) (h1 : Pk.rt l = (A, L1, E)) (hE : ¬ E = 0) :
  Calls Tryz.prog 94 #[.string ⟨l.toArray⟩] w (RT (T0, [], E) w) := by
 have H_hl := zh hl
 have H_h1 := zh h1
 clear hl h1
 have e1 := bne_t hE
 go_enter Tryz.func94, Tryz.ntmps94
 have r0 := (Blk.new w #[.string ⟨([] : List UInt8).toArray⟩, .int .i64 0, .slice none 0 0] 30).alloc (.cells #[.string ⟨([] : List UInt8).toArray⟩, .int .i64 0, .slice none 0 0] 30)
 have c0 : Blk ((w.alloc (.cells #[.string ⟨([] : List UInt8).toArray⟩, .int .i64 0, .slice none 0 0] 30)).alloc (.cells #[.string ⟨([] : List UInt8).toArray⟩, .int .i64 0, .slice none 0 0] 30)) (w.heap.size + 1) #[.string ⟨([] : List UInt8).toArray⟩, .int .i64 0, .slice none 0 0] 30 := by have := Blk.new (w.alloc (.cells #[.string ⟨([] : List UInt8).toArray⟩, .int .i64 0, .slice none 0 0] 30)) #[.string ⟨([] : List UInt8).toArray⟩, .int .i64 0, .slice none 0 0] 30; simpa using this
 have B0 := zh (below2s w (.cells #[.string ⟨([] : List UInt8).toArray⟩, .int .i64 0, .slice none 0 0] 30) (.cells #[.string ⟨([] : List UInt8).toArray⟩, .int .i64 0, .slice none 0 0] 30))
 go_wp2_with fail
 refine (textR l A L1 E _ H_hl.out H_h1.out).mono ?_
 rintro q w1 ⟨rfl, hb⟩
 have r1 := r0.below hb
 have q1 := c0.below hb
 have B1 := zh (step0 B0.out hb)
 clear hb r0 c0 B0
 have g0 : w1.cell? ⟨w.heap.size + 1, 0, none⟩ = some (.string ⟨([] : List UInt8).toArray⟩) := q1.cell 0
 have f0 : w1.frozen? ⟨w.heap.size + 1, 0, none⟩ = false := q1.frozen 0
 have c1 : Blk (w1.setCell ⟨w.heap.size + 1, 0, none⟩ (.string ⟨A.toArray⟩)) (w.heap.size + 1) #[.string ⟨A.toArray⟩, .int .i64 0, .slice none 0 0] 30 := q1.setAt 0 (.string ⟨A.toArray⟩)
 have s1 : Blk (w1.setCell ⟨w.heap.size + 1, 0, none⟩ (.string ⟨A.toArray⟩)) w.heap.size #[.string ⟨([] : List UInt8).toArray⟩, .int .i64 0, .slice none 0 0] 30 := r1.otherAt (by omega) 0 (.string ⟨A.toArray⟩)
 have D1 := zh (below_set B1.out (Nat.le_succ _) 0 (.string ⟨A.toArray⟩))
 clear r1 q1 B1
 have r1 := s1
 have B1 := D1
 clear s1 D1
 obtain ⟨W9, hW⟩ : ∃ W9, (w1.setCell ⟨w.heap.size + 1, 0, none⟩ (.string ⟨A.toArray⟩)) = W9 := ⟨_, rfl⟩
 rw [hW] at r1 B1
 have n0 : W9.cell? ⟨w.heap.size, 0, none⟩ = some (.string ⟨([] : List UInt8).toArray⟩) := r1.cell 0
 have p0 : W9.frozen? ⟨w.heap.size, 0, none⟩ = false := r1.frozen 0
 have n1 : W9.cell? ⟨w.heap.size, 1, none⟩ = some (.int .i64 0) := r1.cell 1
 have p1 : W9.frozen? ⟨w.heap.size, 1, none⟩ = false := r1.frozen 1
 have n2 : W9.cell? ⟨w.heap.size, 2, none⟩ = some (.slice none 0 0) := r1.cell 2
 have p2 : W9.frozen? ⟨w.heap.size, 2, none⟩ = false := r1.frozen 2
 clear r1 c1
 go_wp2
 refine bodyPost_ret (v := .tuple #[.agg #[.string ⟨([] : List UInt8).toArray⟩, .int .i64 0, .slice none 0 0], .string ⟨([] : List UInt8).toArray⟩, .int .i64 E]) ?_ rfl (RT.bad E (below_set (below_set (below_set B1.out (Nat.le_refl _) 0 (.string ⟨([] : List UInt8).toArray⟩)) (Nat.le_refl _) 1 (.int .i64 0)) (Nat.le_refl _) 2 (.slice none 0 0)))
 simp [results, Tryz.results94, go_sem, n0, n1, n2]
theorem rtab_e1 (l : List UInt8) (A L1 : List UInt8) (K : Nat) (x : Int) (L2 : List UInt8) (E : Int) (w : World) (hl : l.length ≤ 1000000) (h1 : Pk.rt l = (A, L1, 0)) (h2 : small 100 1 L1 = (K, L2, E)) (hx : x = K) (hE : ¬ E = 0) :
  Calls Tryz.prog 94 #[.string ⟨l.toArray⟩] w (RT (T0, [], E) w) := by
 have H_hl := zh hl
 have H_h1 := zh h1
 have H_h2 := zh h2
 have H_hx := zh hx
 clear hl h1 h2 hx
 have e1 := bne_t hE
 go_enter Tryz.func94, Tryz.ntmps94
 have r0 := (Blk.new w #[.string ⟨([] : List UInt8).toArray⟩, .int .i64 0, .slice none 0 0] 30).alloc (.cells #[.string ⟨([] : List UInt8).toArray⟩, .int .i64 0, .slice none 0 0] 30)
 have c0 : Blk ((w.alloc (.cells #[.string ⟨([] : List UInt8).toArray⟩, .int .i64 0, .slice none 0 0] 30)).alloc (.cells #[.string ⟨([] : List UInt8).toArray⟩, .int .i64 0, .slice none 0 0] 30)) (w.heap.size + 1) #[.string ⟨([] : List UInt8).toArray⟩, .int .i64 0, .slice none 0 0] 30 := by have := Blk.new (w.alloc (.cells #[.string ⟨([] : List UInt8).toArray⟩, .int .i64 0, .slice none 0 0] 30)) #[.string ⟨([] : List UInt8).toArray⟩, .int .i64 0, .slice none 0 0] 30; simpa using this
 have B0 := zh (below2s w (.cells #[.string ⟨([] : List UInt8).toArray⟩, .int .i64 0, .slice none 0 0] 30) (.cells #[.string ⟨([] : List UInt8).toArray⟩, .int .i64 0, .slice none 0 0] 30))
 go_wp2_with fail
 refine (textR l A L1 0 _ H_hl.out H_h1.out).mono ?_
 rintro q w1 ⟨rfl, hb⟩
 have r1 := r0.below hb
 have q1 := c0.below hb
 have B1 := zh (step0 B0.out hb)
 clear hb r0 c0 B0
 have g0 : w1.cell? ⟨w.heap.size + 1, 0, none⟩ = some (.string ⟨([] : List UInt8).toArray⟩) := q1.cell 0
 have f0 : w1.frozen? ⟨w.heap.size + 1, 0, none⟩ = false := q1.frozen 0
 have c1 : Blk (w1.setCell ⟨w.heap.size + 1, 0, none⟩ (.string ⟨A.toArray⟩)) (w.heap.size + 1) #[.string ⟨A.toArray⟩, .int .i64 0, .slice none 0 0] 30 := q1.setAt 0 (.string ⟨A.toArray⟩)
 have s1 : Blk (w1.setCell ⟨w.heap.size + 1, 0, none⟩ (.string ⟨A.toArray⟩)) w.heap.size #[.string ⟨([] : List UInt8).toArray⟩, .int .i64 0, .slice none 0 0] 30 := r1.otherAt (by omega) 0 (.string ⟨A.toArray⟩)
 have D1 := zh (below_set B1.out (Nat.le_succ _) 0 (.string ⟨A.toArray⟩))
 clear r1 q1 B1
 have r1 := s1
 have B1 := D1
 clear s1 D1
 go_wp2_with fail
 refine (upTo_is 100 100 1 x E L1 L2 K _ rfl (by decide) H_h2.out H_hx.out).mono ?_
 rintro q w2 ⟨rfl, hb⟩
 have r2 := r1.below hb
 have q2 := c1.below hb
 have B2 := zh (step0 B1.out hb)
 clear hb r1 c1 B1
 have g1 : w2.cell? ⟨w.heap.size + 1, 1, none⟩ = some (.int .i64 0) := q2.cell 1
 have f1 : w2.frozen? ⟨w.heap.size + 1, 1, none⟩ = false := q2.frozen 1
 have c2 : Blk (w2.setCell ⟨w.heap.size + 1, 1, none⟩ (.int .i64 x)) (w.heap.size + 1) #[.string ⟨A.toArray⟩, .int .i64 x, .slice none 0 0] 30 := q2.setAt 1 (.int .i64 x)
 have s2 : Blk (w2.setCell ⟨w.heap.size + 1, 1, none⟩ (.int .i64 x)) w.heap.size #[.string ⟨([] : List UInt8).toArray⟩, .int .i64 0, .slice none 0 0] 30 := r2.otherAt (by omega) 1 (.int .i64 x)
 have D2 := zh (below_set B2.out (Nat.le_succ _) 1 (.int .i64 x))
 clear r2 q2 B2
 have r2 := s2
 have B2 := D2
 clear s2 D2
 obtain ⟨W9, hW⟩ : ∃ W9, (w2.setCell ⟨w.heap.size + 1, 1, none⟩ (.int .i64 x)) = W9 := ⟨_, rfl⟩
 rw [hW] at r2 B2
 have n0 : W9.cell? ⟨w.heap.size, 0, none⟩ = some (.string ⟨([] : List UInt8).toArray⟩) := r2.cell 0
 have p0 : W9.frozen? ⟨w.heap.size, 0, none⟩ = false := r2.frozen 0
 have n1 : W9.cell? ⟨w.heap.size, 1, none⟩ = some (.int .i64 0) := r2.cell 1
 have p1 : W9.frozen? ⟨w.heap.size, 1, none⟩ = false := r2.frozen 1
 have n2 : W9.cell? ⟨w.heap.size, 2, none⟩ = some (.slice none 0 0) := r2.cell 2
 have p2 : W9.frozen? ⟨w.heap.size, 2, none⟩ = false := r2.frozen 2
 clear r2 c2
 go_wp2
 refine bodyPost_ret (v := .tuple #[.agg #[.string ⟨([] : List UInt8).toArray⟩, .int .i64 0, .slice none 0 0], .string ⟨([] : List UInt8).toArray⟩, .int .i64 E]) ?_ rfl (RT.bad E (below_set (below_set (below_set B2.out (Nat.le_refl _) 0 (.string ⟨([] : List UInt8).toArray⟩)) (Nat.le_refl _) 1 (.int .i64 0)) (Nat.le_refl _) 2 (.slice none 0 0)))
 simp [results, Tryz.results94, go_sem, n0, n1, n2]
theorem rtab_e2 (l : List UInt8) (A L1 : List UInt8) (K : Nat) (x : Int) (L2 : List UInt8) (N : Nat) (y : Int) (L3 : List UInt8) (E : Int) (w : World) (hl : l.length ≤ 1000000) (h1 : Pk.rt l = (A, L1, 0)) (h2 : small 100 1 L1 = (K, L2, 0)) (hx : x = K) (h3 : small 8 2 L2 = (N, L3, E)) (hy : y = N) (hE : ¬ E = 0) :
  Calls Tryz.prog 94 #[.string ⟨l.toArray⟩] w (RT (T0, [], E) w) := by
 have H_hl := zh hl
 have H_h1 := zh h1
 have H_h2 := zh h2
 have H_h3 := zh h3
 have H_hx := zh hx
 have H_hy := zh hy
 clear hl h1 h2 h3 hx hy
 have e1 := bne_t hE
 go_enter Tryz.func94, Tryz.ntmps94
 have r0 := (Blk.new w #[.string ⟨([] : List UInt8).toArray⟩, .int .i64 0, .slice none 0 0] 30).alloc (.cells #[.string ⟨([] : List UInt8).toArray⟩, .int .i64 0, .slice none 0 0] 30)
 have c0 : Blk ((w.alloc (.cells #[.string ⟨([] : List UInt8).toArray⟩, .int .i64 0, .slice none 0 0] 30)).alloc (.cells #[.string ⟨([] : List UInt8).toArray⟩, .int .i64 0, .slice none 0 0] 30)) (w.heap.size + 1) #[.string ⟨([] : List UInt8).toArray⟩, .int .i64 0, .slice none 0 0] 30 := by have := Blk.new (w.alloc (.cells #[.string ⟨([] : List UInt8).toArray⟩, .int .i64 0, .slice none 0 0] 30)) #[.string ⟨([] : List UInt8).toArray⟩, .int .i64 0, .slice none 0 0] 30; simpa using this
 have B0 := zh (below2s w (.cells #[.string ⟨([] : List UInt8).toArray⟩, .int .i64 0, .slice none 0 0] 30) (.cells #[.string ⟨([] : List UInt8).toArray⟩, .int .i64 0, .slice none 0 0] 30))
 go_wp2_with fail
 refine (textR l A L1 0 _ H_hl.out H_h1.out).mono ?_
 rintro q w1 ⟨rfl, hb⟩
 have r1 := r0.below hb
 have q1 := c0.below hb
 have B1 := zh (step0 B0.out hb)
 clear hb r0 c0 B0
 have g0 : w1.cell? ⟨w.heap.size + 1, 0, none⟩ = some (.string ⟨([] : List UInt8).toArray⟩) := q1.cell 0
 have f0 : w1.frozen? ⟨w.heap.size + 1, 0, none⟩ = false := q1.frozen 0
 have c1 : Blk (w1.setCell ⟨w.heap.size + 1, 0, none⟩ (.string ⟨A.toArray⟩)) (w.heap.size + 1) #[.string ⟨A.toArray⟩, .int .i64 0, .slice none 0 0] 30 := q1.setAt 0 (.string ⟨A.toArray⟩)
 have s1 : Blk (w1.setCell ⟨w.heap.size + 1, 0, none⟩ (.string ⟨A.toArray⟩)) w.heap.size #[.string ⟨([] : List UInt8).toArray⟩, .int .i64 0, .slice none 0 0] 30 := r1.otherAt (by omega) 0 (.string ⟨A.toArray⟩)
 have D1 := zh (below_set B1.out (Nat.le_succ _) 0 (.string ⟨A.toArray⟩))
 clear r1 q1 B1
 have r1 := s1
 have B1 := D1
 clear s1 D1
 go_wp2_with fail
 refine (upTo_is 100 100 1 x 0 L1 L2 K _ rfl (by decide) H_h2.out H_hx.out).mono ?_
 rintro q w2 ⟨rfl, hb⟩
 have r2 := r1.below hb
 have q2 := c1.below hb
 have B2 := zh (step0 B1.out hb)
 clear hb r1 c1 B1
 have g1 : w2.cell? ⟨w.heap.size + 1, 1, none⟩ = some (.int .i64 0) := q2.cell 1
 have f1 : w2.frozen? ⟨w.heap.size + 1, 1, none⟩ = false := q2.frozen 1
 have c2 : Blk (w2.setCell ⟨w.heap.size + 1, 1, none⟩ (.int .i64 x)) (w.heap.size + 1) #[.string ⟨A.toArray⟩, .int .i64 x, .slice none 0 0] 30 := q2.setAt 1 (.int .i64 x)
 have s2 : Blk (w2.setCell ⟨w.heap.size + 1, 1, none⟩ (.int .i64 x)) w.heap.size #[.string ⟨([] : List UInt8).toArray⟩, .int .i64 0, .slice none 0 0] 30 := r2.otherAt (by omega) 1 (.int .i64 x)
 have D2 := zh (below_set B2.out (Nat.le_succ _) 1 (.int .i64 x))
 clear r2 q2 B2
 have r2 := s2
 have B2 := D2
 clear s2 D2
 go_wp2_with fail
 refine (upTo_is 8 8 2 y E L2 L3 N _ rfl (by decide) H_h3.out H_hy.out).mono ?_
 rintro q w3 ⟨rfl, hb⟩
 have r3 := r2.below hb
 have q3 := c2.below hb
 have B3 := zh (step0 B2.out hb)
 clear hb r2 c2 B2
 have c3 := q3
 clear q3
 obtain ⟨W9, hW⟩ : ∃ W9, w3 = W9 := ⟨_, rfl⟩
 rw [hW] at r3 B3
 have n0 : W9.cell? ⟨w.heap.size, 0, none⟩ = some (.string ⟨([] : List UInt8).toArray⟩) := r3.cell 0
 have p0 : W9.frozen? ⟨w.heap.size, 0, none⟩ = false := r3.frozen 0
 have n1 : W9.cell? ⟨w.heap.size, 1, none⟩ = some (.int .i64 0) := r3.cell 1
 have p1 : W9.frozen? ⟨w.heap.size, 1, none⟩ = false := r3.frozen 1
 have n2 : W9.cell? ⟨w.heap.size, 2, none⟩ = some (.slice none 0 0) := r3.cell 2
 have p2 : W9.frozen? ⟨w.heap.size, 2, none⟩ = false := r3.frozen 2
 clear r3 c3
 go_wp2
 refine bodyPost_ret (v := .tuple #[.agg #[.string ⟨([] : List UInt8).toArray⟩, .int .i64 0, .slice none 0 0], .string ⟨([] : List UInt8).toArray⟩, .int .i64 E]) ?_ rfl (RT.bad E (below_set (below_set (below_set B3.out (Nat.le_refl _) 0 (.string ⟨([] : List UInt8).toArray⟩)) (Nat.le_refl _) 1 (.int .i64 0)) (Nat.le_refl _) 2 (.slice none 0 0)))
 simp [results, Tryz.results94, go_sem, n0, n1, n2]
end Go.Proofs.YtmgdciihpjifgaaGreatDoor
namespace Go.Proofs.YtmgdciihpjifgaaGreatDoor
open Go.RowKit
theorem rtab_main (l : List UInt8) (A L1 : List UInt8) (K : Nat) (x : Int) (L2 : List UInt8) (N : Nat) (y : Int) (L3 : List UInt8) (w : World) (hl : l.length ≤ 1000000) (h1 : Pk.rt l = (A, L1, 0)) (h2 : small 100 1 L1 = (K, L2, 0)) (hx : x = K) (h3 : small 8 2 L2 = (N, L3, 0)) (hy : y = N) (hN : N ≤ 8) (hL3 : L3.length ≤ l.length) :
  Calls Tryz.prog 94 #[.string ⟨l.toArray⟩] w (RT (rdm A x N L3) w) := by
 have H_hl := zh hl
 have H_h1 := zh h1
 have H_h2 := zh h2
 have H_h3 := zh h3
 have H_hx := zh hx
 have H_hy := zh hy
 clear hl h1 h2 h3 hx hy
 have HN := zh hN
 have HL := zh hL3
 clear hN hL3
 have hmx : Tryz.prog.follows .mixedOrders = true := by kernel_rfl
 go_enter Tryz.func94, Tryz.ntmps94
 have r0 := (Blk.new w #[.string ⟨([] : List UInt8).toArray⟩, .int .i64 0, .slice none 0 0] 30).alloc (.cells #[.string ⟨([] : List UInt8).toArray⟩, .int .i64 0, .slice none 0 0] 30)
 have c0 : Blk ((w.alloc (.cells #[.string ⟨([] : List UInt8).toArray⟩, .int .i64 0, .slice none 0 0] 30)).alloc (.cells #[.string ⟨([] : List UInt8).toArray⟩, .int .i64 0, .slice none 0 0] 30)) (w.heap.size + 1) #[.string ⟨([] : List UInt8).toArray⟩, .int .i64 0, .slice none 0 0] 30 := by have := Blk.new (w.alloc (.cells #[.string ⟨([] : List UInt8).toArray⟩, .int .i64 0, .slice none 0 0] 30)) #[.string ⟨([] : List UInt8).toArray⟩, .int .i64 0, .slice none 0 0] 30; simpa using this
 have B0 := zh (below2s w (.cells #[.string ⟨([] : List UInt8).toArray⟩, .int .i64 0, .slice none 0 0] 30) (.cells #[.string ⟨([] : List UInt8).toArray⟩, .int .i64 0, .slice none 0 0] 30))
 go_wp2_with fail
 refine (textR l A L1 0 _ H_hl.out H_h1.out).mono ?_
 rintro q w1 ⟨rfl, hb⟩
 have r1 := r0.below hb
 have q1 := c0.below hb
 have B1 := zh (step0 B0.out hb)
 clear hb r0 c0 B0
 have g0 : w1.cell? ⟨w.heap.size + 1, 0, none⟩ = some (.string ⟨([] : List UInt8).toArray⟩) := q1.cell 0
 have f0 : w1.frozen? ⟨w.heap.size + 1, 0, none⟩ = false := q1.frozen 0
 have c1 : Blk (w1.setCell ⟨w.heap.size + 1, 0, none⟩ (.string ⟨A.toArray⟩)) (w.heap.size + 1) #[.string ⟨A.toArray⟩, .int .i64 0, .slice none 0 0] 30 := q1.setAt 0 (.string ⟨A.toArray⟩)
 have s1 : Blk (w1.setCell ⟨w.heap.size + 1, 0, none⟩ (.string ⟨A.toArray⟩)) w.heap.size #[.string ⟨([] : List UInt8).toArray⟩, .int .i64 0, .slice none 0 0] 30 := r1.otherAt (by omega) 0 (.string ⟨A.toArray⟩)
 have D1 := zh (below_set B1.out (Nat.le_succ _) 0 (.string ⟨A.toArray⟩))
 clear r1 q1 B1
 have r1 := s1
 have B1 := D1
 clear s1 D1
 go_wp2_with fail
 refine (upTo_is 100 100 1 x 0 L1 L2 K _ rfl (by decide) H_h2.out H_hx.out).mono ?_
 rintro q w2 ⟨rfl, hb⟩
 have r2 := r1.below hb
 have q2 := c1.below hb
 have B2 := zh (step0 B1.out hb)
 clear hb r1 c1 B1
 have g1 : w2.cell? ⟨w.heap.size + 1, 1, none⟩ = some (.int .i64 0) := q2.cell 1
 have f1 : w2.frozen? ⟨w.heap.size + 1, 1, none⟩ = false := q2.frozen 1
 have c2 : Blk (w2.setCell ⟨w.heap.size + 1, 1, none⟩ (.int .i64 x)) (w.heap.size + 1) #[.string ⟨A.toArray⟩, .int .i64 x, .slice none 0 0] 30 := q2.setAt 1 (.int .i64 x)
 have s2 : Blk (w2.setCell ⟨w.heap.size + 1, 1, none⟩ (.int .i64 x)) w.heap.size #[.string ⟨([] : List UInt8).toArray⟩, .int .i64 0, .slice none 0 0] 30 := r2.otherAt (by omega) 1 (.int .i64 x)
 have D2 := zh (below_set B2.out (Nat.le_succ _) 1 (.int .i64 x))
 clear r2 q2 B2
 have r2 := s2
 have B2 := D2
 clear s2 D2
 go_wp2_with fail
 refine (upTo_is 8 8 2 y 0 L2 L3 N _ rfl (by decide) H_h3.out H_hy.out).mono ?_
 rintro q w3 ⟨rfl, hb⟩
 have r3 := r2.below hb
 have q3 := c2.below hb
 have B3 := zh (step0 B2.out hb)
 clear hb r2 c2 B2
 have c3 := q3
 clear q3
 go_wp2_with (at_make; refine makeC _ rfl _ _ rfl .i64 .i64 y y N rfl rfl H_hy.out H_hy.out (by have := HN.out; omega) ?_; intro g v4 hg hO hb; have c4 := c3.below hb; have r4 := r3.below hb; have hlt := c3.lt; have G := zh (za (show w.heap.size + 1 < g from by omega) (za (hO.base B3.out.size) (step0 B3.out hb))); have g2 : v4.cell? ⟨w.heap.size + 1, 2, none⟩ = some (.slice none 0 0) := c4.cell 2; have f2 : v4.frozen? ⟨w.heap.size + 1, 2, none⟩ = false := c4.frozen 2; clear hO hb hg hlt c3 r3 B3; go_frame)
 have hgne : ¬ (g = w.heap.size + 1) := by have := G.out.1; omega
 have hgn0 : ¬ (g = w.heap.size) := by have := G.out.1; omega
 have c5 : Blk (v4.setCell ⟨w.heap.size + 1, 2, none⟩ (.slice (some ⟨g, 0, none⟩) N N)) (w.heap.size + 1) #[.string ⟨A.toArray⟩, .int .i64 x, .slice (some ⟨g, 0, none⟩) N N] 30 := c4.setAt 2 (.slice (some ⟨g, 0, none⟩) N N)
 have r5 : Blk (v4.setCell ⟨w.heap.size + 1, 2, none⟩ (.slice (some ⟨g, 0, none⟩) N N)) w.heap.size #[.string ⟨([] : List UInt8).toArray⟩, .int .i64 0, .slice none 0 0] 30 := r4.otherAt (by omega) 2 (.slice (some ⟨g, 0, none⟩) N N)
 have S := zh (za (G.out.2.1.other (B := w.heap.size + 1) hgne 2 (.slice (some ⟨g, 0, none⟩) N N)) (za (below_set G.out.2.2 (Nat.le_succ _) 2 (.slice (some ⟨g, 0, none⟩) N N)) (za c5 r5)))
 have HG := zh (za hgne hgn0)
 have HG2 := zh (za (show w.heap.size + 1 ≠ g from fun e => hgne e.symm) (show w.heap.size ≠ g from fun e => hgn0 e.symm))
 obtain ⟨t0, t1, t2⟩ := c5.t3
 clear c4 r4 c5 r5 hgne hgn0
 go_wp2
 go_loopw [0, 47] (fun q i wr => ∃ (j : Nat) (m : List UInt8) (done : List C), q = .string ⟨m.toArray⟩ ∧ i = .int .i64 j ∧ j ≤ N ∧ done.length = j ∧ OwC wr w.heap.size (.slice (some ⟨g, 0, none⟩) N N) (done ++ List.replicate (N - j) C0) ∧ Below w.heap.size w wr ∧ Blk wr (w.heap.size + 1) #[.string ⟨A.toArray⟩, .int .i64 x, .slice (some ⟨g, 0, none⟩) N N] 30 ∧ Blk wr w.heap.size #[.string ⟨([] : List UInt8).toArray⟩, .int .i64 0, .slice none 0 0] 30 ∧ rdcs N L3 = pc done (rdcs (N - j) m) ∧ m.length ≤ l.length) (fun _ i _ => N - (intOf i).toNat)
 case atStart => exact ⟨0, L3, [], rfl, rfl, Nat.zero_le _, rfl, S.out.1, S.out.2.1, S.out.2.2.1, S.out.2.2.2, rdcs_shape _ _, HL.out⟩
 case round =>
  obtain ⟨j, m, done, rfl, rfl, hj, hd, hO, hbel, hc, hr, hpc, hm⟩ := hrel
  obtain ⟨t0, t1, t2⟩ := hc.t3
  have J := zh (za hO (za hbel (za hc (za hr (za hpc (za hm hd))))))
  clear hO hbel hc hr hpc hm hd
  by_cases hlt : j < N
  ·obtain ⟨⟨c, r, e⟩, hR⟩ : ∃ Q, rdc m = Q := ⟨_, rfl⟩
   have HR := zh hR
   have hw : wrap64 ((j : Int) + 1) = (j : Int) + 1 := by have := HN.out; exact wrap_in _ (by omega) (by omega)
   clear hR
   by_cases he : e = 0
   ·subst he
    have st := pc_step (n := N - (j + 1)) (l := m) done (by rw [HR.out])
    have ln := rdc_len m
    rw [HR.out, show N - (j + 1) + 1 = N - j by omega] at st
    rw [HR.out] at ln
    have ST := zh (za st ln)
    clear st ln
    have kd : (World.drew wr).cell? ⟨w.heap.size + 1, 2, none⟩ = some (.slice (some ⟨g, 0, none⟩) N N) := t2
    go_wp2
    go_region_held3 (fun v => v.cell? ⟨w.heap.size + 1, 2, none⟩ = some (.slice (some ⟨g, 0, none⟩) N N))
     (first | with_reducible exact kd | with_reducible exact (J.out.2.2.1.below hb).t3.2.2 | with_reducible exact (blk_set (j := j) (J.out.2.2.1.below hb) HG2.out.1 c).t3.2.2)
     (first | (go_at_call 114; refine (readCol_is m r c 0 _ (by have := J.out.2.2.2.2.2.1; have := H_hl.out; omega) HR.out).mono ?_; rintro e w6 ⟨rfl, hb0⟩; have hb := step0 (below_drew1 (Below.refl _ wr)) hb0; clear hb0; obtain ⟨⟨d0, d1, d2, d3, d4, d5, d6⟩, ⟨f0, f1, f2, f3, f4, f5, f6⟩, hst, hbg⟩ := row_set (show Below wr.heap.size wr w6 from hb) J.out.1 J.out.2.2.2.2.2.2 hlt c; have KK := zh (za hst hbg); clear hst hbg))
    have K2 := zh (za KK.out.1 (za (bel_set (j := j) (step0 J.out.2.1 (show Below wr.heap.size wr w6 from hb)) KK.out.2 c) (za (blk_set (j := j) (J.out.2.2.1.below hb) HG2.out.1 c) (blk_set (j := j) (J.out.2.2.2.1.below hb) HG2.out.2 c))))
    clear hb
    go_wp2
    go_roundw
    case rel => exact ⟨j + 1, r, done ++ [c], rfl, by go_num, hlt, by have := J.out.2.2.2.2.2.2; simp; omega, K2.out.1, K2.out.2.1, K2.out.2.2.1, K2.out.2.2.2, J.out.2.2.2.2.1.trans ST.out.1, by have := J.out.2.2.2.2.2.1; have h5 : r.length ≤ m.length := ST.out.2; omega⟩
    case measure => rw [hw]; simp [intOf]; omega
   ·have e1 := bne_t he
    have st := pc_err (n := N - (j + 1)) (l := m) done (by rw [HR.out]; exact he)
    rw [HR.out, show N - (j + 1) + 1 = N - j by omega] at st
    have ST := zh (za st he)
    clear st he
    have kd : (World.drew wr).cell? ⟨w.heap.size + 1, 2, none⟩ = some (.slice (some ⟨g, 0, none⟩) N N) := t2
    go_wp2
    go_region_held3 (fun v => v.cell? ⟨w.heap.size + 1, 2, none⟩ = some (.slice (some ⟨g, 0, none⟩) N N))
     (first | with_reducible exact kd | with_reducible exact (J.out.2.2.1.below hb).t3.2.2 | with_reducible exact (blk_set (j := j) (J.out.2.2.1.below hb) HG2.out.1 c).t3.2.2)
     (first | (go_at_call 114; refine (readCol_is m r c e _ (by have := J.out.2.2.2.2.2.1; have := H_hl.out; omega) HR.out).mono ?_; rintro e w6 ⟨rfl, hb0⟩; have hb := step0 (below_drew1 (Below.refl _ wr)) hb0; clear hb0; obtain ⟨⟨d0, d1, d2, d3, d4, d5, d6⟩, ⟨f0, f1, f2, f3, f4, f5, f6⟩, hst, hbg⟩ := row_set (show Below wr.heap.size wr w6 from hb) J.out.1 J.out.2.2.2.2.2.2 hlt c; have KK := zh (za hst hbg); clear hst hbg))
    have k3 := blk_set (j := j) (J.out.2.2.2.1.below hb) HG2.out.2 c
    have D9 := zh (bel_set (j := j) (step0 J.out.2.1 (show Below wr.heap.size wr w6 from hb)) KK.out.2 c)
    obtain ⟨W9, hW⟩ : ∃ W9, (((((((w6.setCell ⟨g, j * 7, none⟩ (.string ⟨c.name.toArray⟩)).setCell ⟨g, j * 7 + 1, none⟩ (.int .i64 c.kind)).setCell ⟨g, j * 7 + 2, none⟩ (.bool c.null)).setCell ⟨g, j * 7 + 3, none⟩ (.int .i64 c.d.k)).setCell ⟨g, j * 7 + 4, none⟩ (.int .i64 c.d.n)).setCell ⟨g, j * 7 + 5, none⟩ (.int .u64 c.d.b)).setCell ⟨g, j * 7 + 6, none⟩ (.string ⟨c.d.s.toArray⟩)) = W9 := ⟨_, rfl⟩
    rw [hW] at k3 D9 ⊢
    have n0 : W9.cell? ⟨w.heap.size, 0, none⟩ = some (.string ⟨([] : List UInt8).toArray⟩) := k3.cell 0
    have p0 : W9.frozen? ⟨w.heap.size, 0, none⟩ = false := k3.frozen 0
    have n1 : W9.cell? ⟨w.heap.size, 1, none⟩ = some (.int .i64 0) := k3.cell 1
    have p1 : W9.frozen? ⟨w.heap.size, 1, none⟩ = false := k3.frozen 1
    have n2 : W9.cell? ⟨w.heap.size, 2, none⟩ = some (.slice none 0 0) := k3.cell 2
    have p2 : W9.frozen? ⟨w.heap.size, 2, none⟩ = false := k3.frozen 2
    clear k3 hb
    go_wp2
    have rb : RT (rdm A x N L3) w (.returned (.tuple #[.agg #[.string ⟨([] : List UInt8).toArray⟩, .int .i64 0, .slice none 0 0], .string ⟨([] : List UInt8).toArray⟩, .int .i64 e])) (((W9.setCell ⟨w.heap.size, 0, none⟩ (.string ⟨([] : List UInt8).toArray⟩)).setCell ⟨w.heap.size, 1, none⟩ (.int .i64 0)).setCell ⟨w.heap.size, 2, none⟩ (.slice none 0 0)) := by
     rw [rdm_bad (J.out.2.2.2.2.1.trans ST.out.1) ST.out.2]
     exact RT.bad e (below_set (below_set (below_set D9.out (Nat.le_refl _) 0 _) (Nat.le_refl _) 1 _) (Nat.le_refl _) 2 _)
    refine bodyPost_ret (v := .tuple #[.agg #[.string ⟨([] : List UInt8).toArray⟩, .int .i64 0, .slice none 0 0], .string ⟨([] : List UInt8).toArray⟩, .int .i64 e]) ?_ rfl rb
    simp [results, Tryz.results94, go_sem, n0, n1, n2]
  ·obtain rfl : j = N := by omega
   have hO := J.out.1
   rw [Nat.sub_self, List.replicate_zero, List.append_nil] at hO
   obtain ⟨ao, cap, ea, hcp, hS⟩ := hO.sl
   have hp := J.out.2.2.2.2.1
   rw [Nat.sub_self, rdcs] at hp
   have hp2 : rdcs j L3 = (done, m, 0) := by rw [hp]; unfold pc; simp
   have n0 : wr.cell? ⟨w.heap.size, 0, none⟩ = some (.string ⟨([] : List UInt8).toArray⟩) := J.out.2.2.2.1.cell 0
   have n1 : wr.cell? ⟨w.heap.size, 1, none⟩ = some (.int .i64 0) := J.out.2.2.2.1.cell 1
   have n2 : wr.cell? ⟨w.heap.size, 2, none⟩ = some (.slice none 0 0) := J.out.2.2.2.1.cell 2
   have p0 : wr.frozen? ⟨w.heap.size, 0, none⟩ = false := J.out.2.2.2.1.frozen 0
   have p1 : wr.frozen? ⟨w.heap.size, 1, none⟩ = false := J.out.2.2.2.1.frozen 1
   have p2 : wr.frozen? ⟨w.heap.size, 2, none⟩ = false := J.out.2.2.2.1.frozen 2
   have ST := zh (za ea (za hcp (za hS hp2)))
   clear hO ea hcp hS hp hp2
   go_wp2
   have hO9 := ((J.out.1.other (B := w.heap.size) HG.out.2 0 (.string ⟨A.toArray⟩)).other (B := w.heap.size) HG.out.2 1 (.int .i64 x)).other (B := w.heap.size) HG.out.2 2 (.slice (some ⟨g, 0, none⟩) j j)
   rw [Nat.sub_self, List.replicate_zero, List.append_nil] at hO9
   obtain ⟨ao', cap', ea', hcp', hS'⟩ := hO9.sl
   have rb : RT (rdm A x j L3) w (.returned (.tuple #[.agg #[.string ⟨A.toArray⟩, .int .i64 x, .slice (some ⟨g, 0, none⟩) j j], .string ⟨m.toArray⟩, .int .i64 0])) (((wr.setCell ⟨w.heap.size, 0, none⟩ (.string ⟨A.toArray⟩)).setCell ⟨w.heap.size, 1, none⟩ (.int .i64 x)).setCell ⟨w.heap.size, 2, none⟩ (.slice (some ⟨g, 0, none⟩) j j)) := by
    rw [rdm_ok ST.out.2.2.2]
    have ea2 : some (⟨g, 0, none⟩ : Addr) = ao' := by injection ea'
    exact ⟨ao', cap', by rw [ea'], hS', hcp', (fun a h => by rw [← ea2] at h; cases h; have := G.out.1; show w.heap.size ≤ g; omega), below_set (below_set (below_set J.out.2.1 (Nat.le_refl _) 0 _) (Nat.le_refl _) 1 _) (Nat.le_refl _) 2 _⟩
   refine bodyPost_ret (v := .tuple #[.agg #[.string ⟨A.toArray⟩, .int .i64 x, .slice (some ⟨g, 0, none⟩) j j], .string ⟨m.toArray⟩, .int .i64 0]) ?_ rfl rb
   simp [results, Tryz.results94, go_sem, n0, n1, n2]
theorem readTable_is (l : List UInt8) (w : World) (hl : l.length ≤ 1000000) :
  Calls Tryz.prog 94 #[.string ⟨l.toArray⟩] w (RT (rdr l) w) := by
 obtain ⟨A, L1, E1, h1⟩ : ∃ A L1 E1, Pk.rt l = (A, L1, E1) := ⟨_, _, _, rfl⟩
 have n1 := rt_len l
 unfold rdr
 rw [h1] at n1 ⊢
 simp only at n1 ⊢
 by_cases g1 : E1 = 0
 ·subst g1
  rw [if_neg (by simp)]
  obtain ⟨K, L2, E2, h2⟩ : ∃ K L2 E2, small 100 1 L1 = (K, L2, E2) := ⟨_, _, _, rfl⟩
  have n2 := small_len 100 1 L1
  rw [h2] at n2 ⊢
  simp only at n2 ⊢
  by_cases g2 : E2 = 0
  ·subst g2
   rw [if_neg (by simp)]
   obtain ⟨N, L3, E3, h3⟩ : ∃ N L3 E3, small 8 2 L2 = (N, L3, E3) := ⟨_, _, _, rfl⟩
   have n3 := small_len 8 2 L2
   have t3 := small_top 8 2 L2
   rw [h3] at n3 t3 ⊢
   simp only at n3 t3 ⊢
   by_cases g3 : E3 = 0
   ·subst g3
    rw [if_neg (by simp)]
    exact rtab_main l A L1 K K L2 N N L3 w hl h1 h2 rfl h3 rfl t3 (by omega)
   ·rw [if_pos g3]
    exact rtab_e2 l A L1 K K L2 N N L3 E3 w hl h1 h2 rfl h3 rfl g3
  ·rw [if_pos g2]
   exact rtab_e1 l A L1 K K L2 E2 w hl h1 h2 rfl g2
 ·rw [if_pos g1]
  exact rtab_e0 l A L1 E1 w hl h1 g1
theorem rdr_ok (l : List UInt8) : ∀ c ∈ (rdr l).1.cs, c.d.ok := by
 unfold rdr
 split
 ·intro c h; simp [T0] at h
 ·split
  ·intro c h; simp [T0] at h
  ·split
   ·intro c h; simp [T0] at h
   ·split
    ·intro c h; simp [T0] at h
    ·exact (rdcs_ok _ _).1
theorem rdr_bad (l : List UInt8) (h : (rdr l).2.2 ≠ 0) : rdr l = (T0, [], (rdr l).2.2) := by
 unfold rdr at h ⊢
 split
 ·rfl
 ·rename_i h1
  rw [if_neg h1] at h
  split
  ·rfl
  ·rename_i h2
   rw [if_neg h2] at h
   split
   ·rfl
   ·rename_i h3
    rw [if_neg h3] at h
    split
    ·rfl
    ·rename_i h4
     rw [if_neg h4] at h
     simp at h
theorem read_err (l : List UInt8) (E : Int) (w : World) (hl : l.length ≤ 1000000) (h : rdr l = (T0, [], E)) (hE : ¬ E = 0) :
  Calls Tryz.prog 66 #[.string ⟨l.toArray⟩] w (RT (T0, [], E) w) := by
 have H := zh h
 clear h
 have e1 := bne_t hE
 go_enter Tryz.func66, Tryz.ntmps66
 go_wp2_with fail
 refine (readTable_is l _ hl).mono ?_
 rintro q w1 ⟨ao, cap, rfl, _, _, _, hb⟩
 have r1 := ((Blk.new w #[.string ⟨([] : List UInt8).toArray⟩, .int .i64 0, .slice none 0 0] 30).below hb).alloc (.cells #[.string ⟨(rdr l).1.name.toArray⟩, .int .i64 (rdr l).1.keys, .slice ao (rdr l).1.cs.length cap] 30)
 have B1 := zh (step1 (Below.refl _ w) hb)
 clear hb
 rw [H.out] at r1 ⊢
 have D9 := zh (B1.out.alloc B1.out.size (.cells #[.string ⟨(T0, ([] : List UInt8), E).1.name.toArray⟩, .int .i64 (T0, ([] : List UInt8), E).1.keys, .slice ao (T0, ([] : List UInt8), E).1.cs.length cap] 30))
 obtain ⟨W9, hW⟩ : ∃ W9, w1.alloc (.cells #[.string ⟨(T0, ([] : List UInt8), E).1.name.toArray⟩, .int .i64 (T0, ([] : List UInt8), E).1.keys, .slice ao (T0, ([] : List UInt8), E).1.cs.length cap] 30) = W9 := ⟨_, rfl⟩
 rw [hW] at r1 D9
 have n0 : W9.cell? ⟨w.heap.size, 0, none⟩ = some (.string ⟨([] : List UInt8).toArray⟩) := r1.cell 0
 have p0 : W9.frozen? ⟨w.heap.size, 0, none⟩ = false := r1.frozen 0
 have n1 : W9.cell? ⟨w.heap.size, 1, none⟩ = some (.int .i64 0) := r1.cell 1
 have p1 : W9.frozen? ⟨w.heap.size, 1, none⟩ = false := r1.frozen 1
 have n2 : W9.cell? ⟨w.heap.size, 2, none⟩ = some (.slice none 0 0) := r1.cell 2
 have p2 : W9.frozen? ⟨w.heap.size, 2, none⟩ = false := r1.frozen 2
 clear r1
 go_wp2
 refine bodyPost_ret (v := .tuple #[.agg #[.string ⟨([] : List UInt8).toArray⟩, .int .i64 0, .slice none 0 0], .string ⟨([] : List UInt8).toArray⟩, .int .i64 E]) ?_ rfl (RT.bad E (below_set (below_set (below_set D9.out (Nat.le_refl _) 0 _) (Nat.le_refl _) 1 _) (Nat.le_refl _) 2 _))
 simp [results, Tryz.results66, go_sem, n0, n1, n2]
end Go.Proofs.YtmgdciihpjifgaaGreatDoor
namespace Go.Proofs.YtmgdciihpjifgaaGreatDoor
open Go.RowKit
theorem add_block (a : Addr) (n : Nat) : (a.add n).block = a.block := by unfold Addr.add; split <;> rfl
theorem cell_far {W : World} {g o : Nat} {p : Addr} {v x : Value} (hne : p.block ≠ g) (h : W.cell? p = some x) : (W.setCell ⟨g, o, none⟩ v).cell? p = some x := by
 unfold World.cell? at h ⊢
 have e : (W.setCell ⟨g, o, none⟩ v).heap[p.block]? = W.heap[p.block]? := by
  rw [World.setCell]
  simp [Array.getElem?_modify, Ne.symm hne]
 rw [e]; exact h
theorem SlC.far {W : World} {ao : Option Addr} {cs : List C} {B : Nat} (h : SlC W ao cs) (hf : ∀ a, ao = some a → a.block ≠ B) (i : Nat) (v : Value) : SlC (W.setCell ⟨B, i, none⟩ v) ao cs := by
 intro j c hj
 obtain ⟨a, ha, h0, h1, h2, h3, h4, h5, h6⟩ := h j c hj
 have k : (a.add (j * 7)).block ≠ B := by rw [add_block]; exact hf a ha
 exact ⟨a, ha, cell_far k h0, cell_far (p := ⟨_, _, none⟩) k h1, cell_far (p := ⟨_, _, none⟩) k h2, cell_far (p := ⟨_, _, none⟩) k h3, cell_far (p := ⟨_, _, none⟩) k h4, cell_far (p := ⟨_, _, none⟩) k h5, cell_far (p := ⟨_, _, none⟩) k h6⟩
theorem read_no (l r : List UInt8) (t : T) (E : Int) (w : World) (hg : Env w) (hl : l.length ≤ 1000000) (h : rdr l = (t, r, 0)) (hE : t.ck = E) (hE0 : ¬ E = 0) :
  Calls Tryz.prog 66 #[.string ⟨l.toArray⟩] w (RT (T0, [], E) w) := by
 have ho : ∀ c ∈ t.cs, c.d.ok := by have := rdr_ok l; rw [h] at this; exact this
 have H := zh (za h (za hE (za hg ho)))
 have e1 := bne_t hE0
 clear h hE hg ho
 go_enter Tryz.func66, Tryz.ntmps66
 go_wp2_with fail
 refine (readTable_is l _ hl).mono ?_
 rw [H.out.1]
 rintro q w1 ⟨ao, cap, rfl, hS, hc, _, hb⟩
 have r1 := ((Blk.new w #[.string ⟨([] : List UInt8).toArray⟩, .int .i64 0, .slice none 0 0] 30).below hb).alloc (.cells #[.string ⟨t.name.toArray⟩, .int .i64 t.keys, .slice ao t.cs.length cap] 30)
 have B1 := zh (za (step1 (Below.refl _ w) hb) (za hS (za hc r1)))
 clear hb hS hc r1
 go_wp2_with fail
 refine (check_t t ao cap E _ (H.out.2.2.1.keep (B1.out.1.alloc B1.out.1.size _)) ⟨B1.out.2.1.below (below1 _ _), B1.out.2.2.1, H.out.2.2.2⟩ H.out.2.1).mono ?_
 rintro q w2 ⟨rfl, hb⟩
 have r2 := B1.out.2.2.2.below hb
 have D9 := zh (step1 B1.out.1 hb)
 have n0 : w2.cell? ⟨w.heap.size, 0, none⟩ = some (.string ⟨([] : List UInt8).toArray⟩) := r2.cell 0
 have p0 : w2.frozen? ⟨w.heap.size, 0, none⟩ = false := r2.frozen 0
 have n1 : w2.cell? ⟨w.heap.size, 1, none⟩ = some (.int .i64 0) := r2.cell 1
 have p1 : w2.frozen? ⟨w.heap.size, 1, none⟩ = false := r2.frozen 1
 have n2 : w2.cell? ⟨w.heap.size, 2, none⟩ = some (.slice none 0 0) := r2.cell 2
 have p2 : w2.frozen? ⟨w.heap.size, 2, none⟩ = false := r2.frozen 2
 clear r2 hb
 go_wp2
 refine bodyPost_ret (v := .tuple #[.agg #[.string ⟨([] : List UInt8).toArray⟩, .int .i64 0, .slice none 0 0], .string ⟨([] : List UInt8).toArray⟩, .int .i64 E]) ?_ rfl (RT.bad E (below_set (below_set (below_set D9.out (Nat.le_refl _) 0 _) (Nat.le_refl _) 1 _) (Nat.le_refl _) 2 _))
 simp [results, Tryz.results66, go_sem, n0, n1, n2]
theorem read_yes (l r : List UInt8) (t : T) (w : World) (hg : Env w) (hl : l.length ≤ 1000000) (h : rdr l = (t, r, 0)) (hE : t.ck = 0) :
  Calls Tryz.prog 66 #[.string ⟨l.toArray⟩] w (RT (t, r, 0) w) := by
 have ho : ∀ c ∈ t.cs, c.d.ok := by have := rdr_ok l; rw [h] at this; exact this
 have H := zh (za h (za hE (za hg ho)))
 clear h hE hg ho
 go_enter Tryz.func66, Tryz.ntmps66
 go_wp2_with fail
 refine (readTable_is l _ hl).mono ?_
 rw [H.out.1]
 rintro q w1 ⟨ao, cap, rfl, hS, hc, hf, hb⟩
 have r1 := ((Blk.new w #[.string ⟨([] : List UInt8).toArray⟩, .int .i64 0, .slice none 0 0] 30).below hb).alloc (.cells #[.string ⟨t.name.toArray⟩, .int .i64 t.keys, .slice ao t.cs.length cap] 30)
 have B1 := zh (za (step1 (Below.refl _ w) hb) (za hS (za hc (za r1 (show ∀ a, ao = some a → w.heap.size < a.block from fun a ha => by have := hf a ha; simp at this; omega)))))
 clear hb hS hc r1 hf
 go_wp2_with fail
 refine (check_t t ao cap 0 _ (H.out.2.2.1.keep (B1.out.1.alloc B1.out.1.size _)) ⟨B1.out.2.1.below (below1 _ _), B1.out.2.2.1, H.out.2.2.2⟩ H.out.2.1).mono ?_
 rintro q w2 ⟨rfl, hb⟩
 have r2 := B1.out.2.2.2.1.below hb
 have D9 := zh (za (step1 B1.out.1 hb) ((B1.out.2.1.below (below1 _ _)).below hb))
 have n0 : w2.cell? ⟨w.heap.size, 0, none⟩ = some (.string ⟨([] : List UInt8).toArray⟩) := r2.cell 0
 have p0 : w2.frozen? ⟨w.heap.size, 0, none⟩ = false := r2.frozen 0
 have n1 : w2.cell? ⟨w.heap.size, 1, none⟩ = some (.int .i64 0) := r2.cell 1
 have p1 : w2.frozen? ⟨w.heap.size, 1, none⟩ = false := r2.frozen 1
 have n2 : w2.cell? ⟨w.heap.size, 2, none⟩ = some (.slice none 0 0) := r2.cell 2
 have p2 : w2.frozen? ⟨w.heap.size, 2, none⟩ = false := r2.frozen 2
 have t3 := (Blk.new w1 #[.string ⟨t.name.toArray⟩, .int .i64 t.keys, .slice ao t.cs.length cap] 30).below hb
 have m0 : w2.cell? ⟨w1.heap.size, 0, none⟩ = some (.string ⟨t.name.toArray⟩) := t3.cell 0
 have m1 : w2.cell? ⟨w1.heap.size, 1, none⟩ = some (.int .i64 t.keys) := t3.cell 1
 have m2 : w2.cell? ⟨w1.heap.size, 2, none⟩ = some (.slice ao t.cs.length cap) := t3.cell 2
 clear r2 hb t3
 go_wp2
 have ne : ∀ a, ao = some a → a.block ≠ w.heap.size := fun a ha => by have := B1.out.2.2.2.2 a ha; omega
 have rb : RT (t, r, 0) w (.returned (.tuple #[.agg #[.string ⟨t.name.toArray⟩, .int .i64 t.keys, .slice ao t.cs.length cap], .string ⟨r.toArray⟩, .int .i64 0])) (((w2.setCell ⟨w.heap.size, 0, none⟩ (.string ⟨t.name.toArray⟩)).setCell ⟨w.heap.size, 1, none⟩ (.int .i64 t.keys)).setCell ⟨w.heap.size, 2, none⟩ (.slice ao t.cs.length cap)) :=
  ⟨ao, cap, rfl, ((D9.out.2.far ne 0 _).far ne 1 _).far ne 2 _, B1.out.2.2.1, fun a ha => by have := B1.out.2.2.2.2 a ha; omega, below_set (below_set (below_set D9.out.1 (Nat.le_refl _) 0 _) (Nat.le_refl _) 1 _) (Nat.le_refl _) 2 _⟩
 refine bodyPost_ret (v := .tuple #[.agg #[.string ⟨t.name.toArray⟩, .int .i64 t.keys, .slice ao t.cs.length cap], .string ⟨r.toArray⟩, .int .i64 0]) ?_ rfl rb
 simp [results, Tryz.results66, go_sem, n0, n1, n2]
theorem read_t (l : List UInt8) (w : World) (hg : Env w) (hl : l.length ≤ 1000000) : Calls Tryz.prog 66 #[.string ⟨l.toArray⟩] w (RT (rdt l) w) := by
 unfold rdt
 by_cases h1 : (rdr l).2.2 = 0
 ·rw [if_neg (by simpa using h1)]
  obtain ⟨⟨t, r, e⟩, h⟩ : ∃ Q, rdr l = Q := ⟨_, rfl⟩
  rw [h] at h1 ⊢
  simp only at h1 ⊢
  subst h1
  by_cases h2 : t.ck = 0
  ·rw [if_neg (by simpa using h2)]
   exact read_yes l r t w hg hl h h2
  ·rw [if_pos h2]
   exact read_no l r t _ w hg hl h rfl h2
 ·rw [if_pos h1]
  exact read_err l _ w hl (rdr_bad l h1) h1
theorem read_is (l r : List UInt8) (t : T) (e : Int) (w : World) (hg : Env w) (hl : l.length ≤ 1000000) (h : rdt l = (t, r, e)) : Calls Tryz.prog 66 #[.string ⟨l.toArray⟩] w (RT (t, r, e) w) := by
 have := read_t l w hg hl
 rw [h] at this
 exact this
end Go.Proofs.YtmgdciihpjifgaaGreatDoor
