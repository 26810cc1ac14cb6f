/-
 Whether any two ask the same, by the document. Conditions: what is asked lies in memory and keeps a value's bounds.
-/
import Derived.Test.YtmgdciihpjifgaaGreatDoorQrOpRefO
import Derived.Test.YtmgdciihpjifgaaGreatDoorQrOpSame
import Derived.Test.YtmgdciihpjifgaaGreatDoorQrScPlain
set_option maxHeartbeats 4000000
namespace Go.Proofs.YtmgdciihpjifgaaGreatDoor
open Go.RowKit
set_option linter.unusedVariables false
set_option linter.unusedSimpArgs false
theorem sro_1 (a b : O) (p q : Ps) (w : World) (h1 : (a.kind != b.kind) = true) :
  Calls Tryz.prog 20 #[.agg (a.a p), .agg (b.a q)] w fun e w' => e = .returned (.bool false) ∧ Below w.heap.size w w' := by
 go_enter Tryz.func20, Tryz.ntmps20
 go_wp2
 go_ret
 exact ⟨rfl, below2s _ _ _⟩
theorem sro_2 (a b : O) (p q : Ps) (w : World) (h1 : (a.kind != b.kind) = false) (h2 : ¬ a.table = b.table) :
  Calls Tryz.prog 20 #[.agg (a.a p), .agg (b.a q)] w fun e w' => e = .returned (.bool false) ∧ Below w.heap.size w w' := by
 have e2 : (a.table == b.table) = false := by simpa using h2
 have e2 : (a.table != b.table) = true := by simpa using h2
 go_enter Tryz.func20, Tryz.ntmps20
 go_wp2
 go_ret
 exact ⟨rfl, below2s _ _ _⟩
theorem sro_3 (a b : O) (p q : Ps) (w : World) (h1 : (a.kind != b.kind) = false) (h2 : a.table = b.table) (h3 : (a.max != b.max) = true) :
  Calls Tryz.prog 20 #[.agg (a.a p), .agg (b.a q)] w fun e w' => e = .returned (.bool false) ∧ Below w.heap.size w w' := by
 go_enter Tryz.func20, Tryz.ntmps20
 go_wp2
 go_ret
 exact ⟨rfl, below2s _ _ _⟩
theorem sro_4 (a b : O) (p q : Ps) (r : Bool) (w : World) (ha : InO w a p) (hb : InO w b q) (hla : a.row.length ≤ 1000000 ∧ a.lo.length ≤ 1000000 ∧ a.hi.length ≤ 1000000 ∧ True) (h1 : (a.kind != b.kind) = false) (h2 : a.table = b.table) (h3 : (a.max != b.max) = false) (h : (Rk.rs a.row b.row && Rk.rs a.lo b.lo && Rk.rs a.hi b.hi && (decide (a.kind ≠ 6) || (decide (a.ch.pe = 0) && decide (b.ch.pe = 0) && decide (a.ch.pb = b.ch.pb)))) = r) :
  Calls Tryz.prog 20 #[.agg (a.a p), .agg (b.a q)] w fun e w' => e = .returned (.bool r) ∧ Below w.heap.size w w' := by
 have H := zh (za ha (za hb (za hla h)))
 obtain ⟨s0, hs0⟩ : ∃ s, Rk.rs a.row b.row = s := ⟨_, rfl⟩
 obtain ⟨s1, hs1⟩ : ∃ s, Rk.rs a.lo b.lo = s := ⟨_, rfl⟩
 obtain ⟨s2, hs2⟩ : ∃ s, Rk.rs a.hi b.hi = s := ⟨_, rfl⟩
 rw [hs0, hs1, hs2] at h
 have G := zh (za hs0 (za hs1 (za hs2 h)))
 clear ha hb hla h hs0 hs1 hs2
 go_enter Tryz.func20, Tryz.ntmps20
 have K0 := zh (show Below w.heap.size w ((w.alloc (.cells (a.a p) 48)).alloc (.cells (b.a q) 48)) ∧ Blk ((w.alloc (.cells (a.a p) 48)).alloc (.cells (b.a q) 48)) w.heap.size (a.a p) 48 ∧ Blk ((w.alloc (.cells (a.a p) 48)).alloc (.cells (b.a q) 48)) (w.heap.size + 1) (b.a q) 48 from ⟨below2s w _ _, (Blk.new w _ _).alloc _, Blk.new' _ _ _ _ (by simp)⟩)
 go_wp2_with fail
 refine (Rk.same06 a.row b.row s0 p.r q.r p.rc q.rc _ (Nat.le_trans (H.out.2.2.1.1) (by decide)) (H.out.1.below K0.out.1).1 (H.out.2.1.below K0.out.1).1 G.out.1).mono ?_
 rintro e w1 ⟨rfl, hb⟩
 have K1 := zh (za (step0 K0.out.1 hb) (za (K0.out.2.1.below hb) (K0.out.2.2.below hb)))
 clear hb
 cases s0 with
 | false =>
  have FN := zh (show r = false from by rw [← G.out.2.2.2]; simp)
  go_wp2
  go_ret
  rw [FN.out]
  exact ⟨rfl, K1.out.1⟩
 | true =>
  have qc := K1.out.2.1.cell
  have qd := K1.out.2.2.cell
  go_wp2_with fail
  refine (Rk.same06 a.lo b.lo s1 p.l q.l p.lc q.lc _ (Nat.le_trans (H.out.2.2.1.2.1) (by decide)) (H.out.1.below K1.out.1).2.1 (H.out.2.1.below K1.out.1).2.1 G.out.2.1).mono ?_
  rintro e w2 ⟨rfl, hb⟩
  have K2 := zh (za (step0 K1.out.1 hb) (za (K1.out.2.1.below hb) (K1.out.2.2.below hb)))
  clear hb qc qd
  cases s1 with
  | false =>
   have FN := zh (show r = false from by rw [← G.out.2.2.2]; simp)
   go_wp2
   go_ret
   rw [FN.out]
   exact ⟨rfl, K2.out.1⟩
  | true =>
   have qc := K2.out.2.1.cell
   have qd := K2.out.2.2.cell
   go_wp2_with fail
   refine (Rk.same06 a.hi b.hi s2 p.h q.h p.hc q.hc _ (Nat.le_trans (H.out.2.2.1.2.2.1) (by decide)) (H.out.1.below K2.out.1).2.2.1 (H.out.2.1.below K2.out.1).2.2.1 G.out.2.2.1).mono ?_
   rintro e w3 ⟨rfl, hb⟩
   have K3 := zh (za (step0 K2.out.1 hb) (za (K2.out.2.1.below hb) (K2.out.2.2.below hb)))
   clear hb qc qd
   cases s2 with
   | false =>
    have FN := zh (show r = false from by rw [← G.out.2.2.2]; simp)
    go_wp2
    go_ret
    rw [FN.out]
    exact ⟨rfl, K3.out.1⟩
   | true =>
    have qc := K3.out.2.1.cell
    have qd := K3.out.2.2.cell
    obtain ⟨pa, hpa⟩ : ∃ x, a.ch.pe = x := ⟨_, rfl⟩
    obtain ⟨pb, hpb⟩ : ∃ x, b.ch.pe = x := ⟨_, rfl⟩
    obtain ⟨A, hA⟩ : ∃ x, a.ch.pb = x := ⟨_, rfl⟩
    obtain ⟨B, hB⟩ : ∃ x, b.ch.pb = x := ⟨_, rfl⟩
    have hr := G.out.2.2.2
    by_cases h6 : a.kind = 6
    ·have e6 : (a.kind != 6) = false := by simpa using h6
     have HRR := zh (show (decide (pa = 0) && decide (pb = 0) && decide (A = B)) = r from by rw [← hr, hpa, hpb, hA, hB]; simp [h6])
     have U := zh (za hpa (za hpb (za hA hB)))
     clear h6 hr hpa hpb hA hB
     go_wp2_with ((refine (?_ : wpList _ _ _ (Oper.mk _ (Op.load 32 _) _ _ _ _ :: _) _ _)); refine wpList_load_part rfl 32 48 _ rfl (w.heap.size) 6 rfl (a.pre p) [] (a.ch.a p.n p.nc p.d p.dc) _ (K3.out.2.1) rfl Tryz.underlying32 rfl (infoCh) ?_; go_frame)
     refine (rputc_is a.ch p.n p.nc p.d p.dc A pa _ (H.out.1.below K3.out.1).2.2.2.1 U.out.2.2.1 U.out.1).mono ?_
     rintro e w4 ⟨rfl, hb⟩
     have K4 := zh (za (step0 K3.out.1 hb) (K3.out.2.2.below hb))
     clear hb qc qd
     go_wp2_with ((refine (?_ : wpList _ _ _ (Oper.mk _ (Op.load 32 _) _ _ _ _ :: _) _ _)); refine wpList_load_part rfl 32 48 _ rfl (w.heap.size + 1) 6 rfl (b.pre q) [] (b.ch.a q.n q.nc q.d q.dc) _ (K4.out.2) rfl Tryz.underlying32 rfl (infoCh) ?_; go_frame)
     refine (rputc_is b.ch q.n q.nc q.d q.dc B pb _ (H.out.2.1.below K4.out.1).2.2.2.1 U.out.2.2.2 U.out.2.1).mono ?_
     rintro e w5 ⟨rfl, hb⟩
     have K5 := zh (step0 K4.out.1 hb)
     clear hb
     have hr := HRR.out
     by_cases hp : pa = 0
     ·have e1 : (pa == 0) = true := eqb_t hp
      subst hp
      by_cases hq : pb = 0
      ·have e2 : (pb == 0) = true := eqb_t hq
       subst hq
       by_cases he : A = B
       ·have e3 : (A == B) = true := by simpa using he
        have FN := zh (show r = true by rw [← hr]; simp [he])
        clear he hr
        go_wp2
        go_ret
        rw [FN.out]
        exact ⟨rfl, K5.out⟩
       ·have e3 : (A == B) = false := by simpa using he
        have FN := zh (show r = false by rw [← hr]; simp [he])
        clear he hr
        go_wp2
        go_ret
        rw [FN.out]
        exact ⟨rfl, K5.out⟩
      ·have e2 : (pb == 0) = false := eqb_f hq
       have FN := zh (show r = false by rw [← hr]; simp [hq])
       clear hq hr
       go_wp2
       go_ret
       rw [FN.out]
       exact ⟨rfl, K5.out⟩
     ·have e1 : (pa == 0) = false := eqb_f hp
      have FN := zh (show r = false by rw [← hr]; simp [hp])
      clear hp hr
      go_wp2
      go_ret
      rw [FN.out]
      exact ⟨rfl, K5.out⟩
    ·have e6 : (a.kind != 6) = true := by simpa using h6
     have FN := zh (show r = true from by rw [← hr]; simp [h6])
     clear h6 hr hpa hpb hA hB
     go_wp2
     go_ret
     rw [FN.out]
     exact ⟨rfl, K3.out.1⟩
theorem same_ro (a b : O) (p q : Ps) (r : Bool) (w : World) (ha : InO w a p) (hb : InO w b q) (hla : ∀ y ∈ a.rv p, y.xs.length ≤ 1000000) (h : a.sm b = r) :
  Calls Tryz.prog 20 #[.agg (a.a p), .agg (b.a q)] w fun e w' => e = .returned (.bool r) ∧ Below w.heap.size w w' := by
 subst h
 unfold O.sm
 by_cases h1 : a.kind = b.kind
 ·have e1 : (a.kind != b.kind) = false := by simpa using h1
  by_cases h2 : a.table = b.table
  ·by_cases h3 : a.max = b.max
   ·exact sro_4 a b p q _ w ha hb ⟨hla ⟨a.row, p.r, p.rc⟩ (by simp [O.rv]), hla ⟨a.lo, p.l, p.lc⟩ (by simp [O.rv]), hla ⟨a.hi, p.h, p.hc⟩ (by simp [O.rv]), trivial⟩ e1 h2 (by simpa using h3) (by simp [h1, h2, h3])
   ·rw [show (decide (a.kind = b.kind) && decide (a.table = b.table) && decide (a.max = b.max)) = false from by simp [h3]]
    exact sro_3 a b p q w e1 h2 (by simpa using h3)
  ·rw [show (decide (a.kind = b.kind) && decide (a.table = b.table)) = false from by simp [h2]]
   exact sro_2 a b p q w e1 h2
 ·rw [show decide (a.kind = b.kind) = false from by simp [h1]]
  exact sro_1 a b p q w (by simpa using h1)
end Go.Proofs.YtmgdciihpjifgaaGreatDoor
