/-
  A table and lines as a sheet of its own: sheetOf. Conditions: the bounds named in each theorem.
-/
import Derived.Test.YtfgakoldedpfoaaDoorShCopied
namespace Go.Proofs.YtfgakoldedpfoaaDoor
open Go.RowKit
set_option linter.unusedVariables false
set_option linter.unusedSimpArgs false

theorem OwC.slv {w : World} {b n cap : Nat} {ao : Option Addr} {l : List C} (h : OwC w b (.slice ao n cap) l) : SlC w ao l := by
  obtain ⟨_, _, e, _, hsl⟩ := h.sl
  injection e with e1 _ _
  rw [e1]
  exact hsl
theorem OwC.cap {w : World} {b n cap : Nat} {ao : Option Addr} {l : List C} (h : OwC w b (.slice ao n cap) l) : l.length ≤ cap := by
  obtain ⟨_, _, e, hc, _⟩ := h.sl
  injection e with _ _ e1
  rw [e1]
  exact hc
/-- A table's columns in memory of its own: from a block on. -/
def TB (b : Nat) (W : World) (cs : List C) (ao : Option Addr) (cap : Nat) : Prop := OwC W b (.slice ao cs.length cap) cs
theorem TB.at3 {b : Nat} {W : World} {nm : Nm.S} {ks : Int} {cs : List C} {ao : Option Addr} {cap : Nat} (h : TB b W cs ao cap) (ho : ∀ c ∈ cs, c.d.ok) : At3 W ⟨nm, ks, cs⟩ ao cap := ⟨OwC.slv h, OwC.cap h, ho⟩

set_option maxHeartbeats 4000000 in
theorem sheetOf_is (nm : Nm.S) (ks : Int) (cs : List C) (zs : List LV) (n : Nat) (ao lo : Option Addr) (cap lc : Nat) (w : World) (hn : zs.length = n) (hT : SlC w ao cs) (hL : LS w zs lo lc) (hcl : cs.length ≤ 1000) (hzl : zs.length ≤ 1000) (hs : (cat zs).length ≤ 1000000) :
    Calls Tryd.prog 31 #[.agg #[.string ⟨nm.toArray⟩, .int .i64 ks, .slice ao cs.length cap], .slice lo n lc] w fun e w' => ∃ vo vc lo' lc' zs', e = .returned (.agg #[.string ⟨nm.toArray⟩, .int .i64 ks, .slice vo cs.length vc, .slice lo' n lc']) ∧ TB w.heap.size w' cs vo vc ∧ LS w' zs' lo' lc' ∧ LB w.heap.size zs' lo' ∧ lls zs' = lls zs ∧ Below w.heap.size w w' := by
  subst hn
  have H := Lib.hid (And.intro hT (And.intro hL (And.intro hcl (And.intro hzl hs))))
  clear hT hL hcl hzl hs
  go_enter Tryd.func31, Tryd.ntmps31
  go_wp2_with fail
  refine (clone_is cs ao cap _ (H.out.1.below (below2s _ _ _)) H.out.2.2.1).mono ?_
  rintro e w3 ⟨v, rfl, hO, hb⟩
  obtain ⟨vo, vc, rfl, _, _⟩ := hO.sl
  have hO' : OwC w3 (w.heap.size + 2) (.slice vo cs.length vc) cs := by simpa using hO
  have q0 := ((Blk.new w #[.string ⟨nm.toArray⟩, .int .i64 ks, .slice ao cs.length cap] 24).alloc _).below hb
  have q1 := (Blk.new (w.alloc (.cells #[.string ⟨nm.toArray⟩, .int .i64 ks, .slice ao cs.length cap] 24)) #[.string ⟨#[]⟩, .int .i64 0, .slice none 0 0, .slice none 0 0] 27).below hb
  have hsz : (w.alloc (.cells #[.string ⟨nm.toArray⟩, .int .i64 ks, .slice ao cs.length cap] 24)).heap.size = w.heap.size + 1 := by simp
  rw [hsz] at q1
  have qB := step0 (below2s w _ _) hb
  have c2 := q0.cell 2
  have f2 := q0.frozen 2
  have p0 := q0.setAt 2 (.slice vo cs.length vc)
  have p1 := q1.otherAt (show w.heap.size + 1 ≠ w.heap.size by omega) 2 (.slice vo cs.length vc)
  have pB := qB.setCell (p := ⟨w.heap.size, 2, none⟩) (Nat.le_refl _) (.slice vo cs.length vc)
  have pO := hO'.off 2 (.slice vo cs.length vc) (show w.heap.size < w.heap.size + 2 by omega)
  have sz : w.heap.size + 2 ≤ (w3.setCell ⟨w.heap.size, 2, none⟩ (.slice vo cs.length vc)).heap.size := by have := hb.size; simp at this ⊢; omega
  obtain ⟨W2, hW2⟩ : ∃ W2, w3.setCell ⟨w.heap.size, 2, none⟩ (.slice vo cs.length vc) = W2 := ⟨_, rfl⟩
  rw [hW2] at p0 p1 pB pO sz
  have p0' : Blk W2 w.heap.size #[.string ⟨nm.toArray⟩, .int .i64 ks, .slice vo cs.length vc] 24 := by simpa using p0
  simp at c2
  have PB := Lib.hid (And.intro pB (And.intro pO (And.intro p0' (And.intro p1 sz))))
  clear hb q0 q1 qB p0 p1 pB pO hO hO' hsz p0' sz
  go_wp2_with fail
  clear hW2 c2 f2
  refine wp_region_held_drew (S := fun v => v.cell? ⟨w.heap.size, 0, none⟩ = some (.string ⟨nm.toArray⟩) ∧ v.cell? ⟨w.heap.size, 1, none⟩ = some (.int .i64 ks) ∧ v.cell? ⟨w.heap.size, 2, none⟩ = some (.slice vo cs.length vc)) (by kernel_rfl) PB.out.2.2.1.t3 (fun hH0 => ?_)
  refine wpAnyH_take (i := 0) (oi := _) (v := .agg #[.string ⟨nm.toArray⟩, .int .i64 ks, .slice vo cs.length vc]) rfl (by kernel_rfl) (by kernel_rfl) (by kernel_rfl) (fun _ _ _ h => h) (Or.inl ⟨by rfl, by intro v hv; obtain ⟨c0, c1, c2⟩ := hv; go_simp⟩) hH0 ?_
  try simp only [Act.put, List.getElem_toArray, List.getElem_cons_succ, List.getElem_cons_zero, List.setIfInBounds_toArray, List.set_cons_zero, List.set_cons_succ]
  refine wpAnyH_take (i := 1) (oi := _) (v := .slice lo zs.length lc) rfl (by kernel_rfl) (by kernel_rfl) (by kernel_rfl) (fun _ _ _ h => h) (Or.inl ⟨by rfl, by intro v hv; go_simp⟩) hH0 ?_
  try simp only [Act.put, List.getElem_toArray, List.getElem_cons_succ, List.getElem_cons_zero, List.setIfInBounds_toArray, List.set_cons_zero, List.set_cons_succ]
  refine wpAnyH_ready (rs := [2]) (by kernel_rfl) (by simp) ?_
  refine AllReadyH.cons (o := _) rfl (fun K' hK => ?_) AllReadyH.nil
  go_simp
  refine (lcopied_is zs _ lo lc _ rfl (H.out.2.1.below (below_drew1 PB.out.1)) H.out.2.2.2.1 H.out.2.2.2.2).mono ?_
  rintro e w5 ⟨lo', lc', zs', rfl, hLS, hLB, hls, hb⟩
  have B5 := Lib.hid (And.intro (show Below W2.heap.size W2 w5 from step0 (below_drew1 (Below.refl _ W2)) hb) (And.intro hLS (And.intro hLB hls)))
  clear hb hLS hLB hls
  go_wp2_with fail
  refine hK.out _ _ (PB.out.2.2.1.below B5.out.1).t3 (fun hH1 => ?_)
  clear hK K' hH0
  try simp only [Act.put, List.getElem_toArray, List.getElem_cons_succ, List.getElem_cons_zero, List.setIfInBounds_toArray, List.set_cons_zero, List.set_cons_succ]
  refine wpAnyH_take (i := 3) (oi := _) (v := .agg #[.string ⟨nm.toArray⟩, .int .i64 ks, .slice vo cs.length vc, .slice lo' zs.length lc']) rfl (by kernel_rfl) (by kernel_rfl) (by kernel_rfl) (fun _ _ _ h => h) (Or.inl ⟨by rfl, by intro v hv; go_simp⟩) hH1 ?_
  try simp only [Act.put, List.getElem_toArray, List.getElem_cons_succ, List.getElem_cons_zero, List.setIfInBounds_toArray, List.set_cons_zero, List.set_cons_succ]
  obtain ⟨⟨d0, d1, d2, d3⟩, f0, f1, f2, f3⟩ := (PB.out.2.2.2.1.below B5.out.1).s4
  refine wpAnyH_ready (rs := [4]) (by kernel_rfl) (by simp) ?_
  refine AllReadyH.cons (o := _) rfl (fun K' hK => ?_) AllReadyH.nil
  go_simp
  refine hK.out _ _ ((PB.out.2.2.1.below B5.out.1).off4 (show w.heap.size ≠ w.heap.size + 1 by omega) _ _ _ _).t3 (fun hH2 => ?_)
  clear hK K' hH1
  try simp only [Act.put, List.getElem_toArray, List.getElem_cons_succ, List.getElem_cons_zero, List.setIfInBounds_toArray, List.set_cons_zero, List.set_cons_succ]
  refine wpAnyH_done (by kernel_rfl) ?_ _
  clear hH2
  have pB := (PB.out.2.2.2.1.below B5.out.1).put4 (.string ⟨nm.toArray⟩) (.int .i64 ks) (.slice vo cs.length vc) (.slice lo' zs.length lc')
  obtain ⟨⟨e0, e1, e2, e3⟩, _⟩ := pB.s4
  unfold st4 at e0 e1 e2 e3
  clear d0 d1 d2 d3 f0 f1 f2 f3 pB
  go_wp2_with fail
  refine bodyPost_ret (v := .agg #[.string ⟨nm.toArray⟩, .int .i64 ks, .slice vo cs.length vc, .slice lo' zs.length lc']) ?_ rfl ⟨vo, vc, lo', lc', zs', ?_, ?_, ?_, ?_, B5.out.2.2.2, ?_⟩
  · simp [results, Tryd.results31, go_sem, e0, e1, e2, e3]
  · rfl
  · exact OwC.base ((PB.out.2.1.keep B5.out.1).off4 (by omega) _ _ _ _) (by omega)
  · exact B5.out.2.1.off4 B5.out.2.2.1 (by have := PB.out.2.2.2.2; show w.heap.size + 1 < W2.heap.size; omega) _ _ _ _
  · exact B5.out.2.2.1.mono (by have := PB.out.2.2.2.2; show w.heap.size ≤ W2.heap.size; omega)
  · exact below_st4 (PB.out.1.trans (B5.out.1.mono PB.out.1.size)) (by omega) _ _ _ _

end Go.Proofs.YtfgakoldedpfoaaDoor
