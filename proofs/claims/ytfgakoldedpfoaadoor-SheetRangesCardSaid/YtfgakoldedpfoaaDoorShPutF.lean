/-
  A row put as a new one. Conditions: as in the text before.
-/
import Derived.Test.YtfgakoldedpfoaaDoorShPut
namespace Go.Proofs.YtfgakoldedpfoaaDoor
open Go.RowKit
set_option linter.unusedVariables false
set_option linter.unusedSimpArgs false

set_option maxRecDepth 1000000 in
set_option maxHeartbeats 4000000 in
theorem put_false (nm : Nm.S) (ks : Int) (cs : List C) (zs : List LV) (ao lo : Option Addr) (cap lc : Nat) (xs : List V) (ro : Option Addr) (rc : Nat) (key : Nm.S) (w : World) (hg : Env w) (hT : At3 w ⟨nm, ks, cs⟩ ao cap) (hL : LS w zs lo lc) (hm : Smal cs zs) (hx : Sl w ro xs) (hx30 : xs.length ≤ 30) (hok : ∀ x ∈ xs, x.ok) (hrc : xs.length ≤ rc) (hro : ro = none → rc = 0) (hr : Ris (lls zs)) (hE : T.fit ⟨nm, ks, cs⟩ xs = 0) (hk : T.key ⟨nm, ks, cs⟩ xs = key) (hB : isk (lls zs) key = false) :
    Calls Tryd.prog 17 #[.agg #[.string ⟨nm.toArray⟩, .int .i64 ks, .slice ao cs.length cap, .slice lo zs.length lc], .slice ro xs.length rc] w fun e w' => ∃ v, e = .returned (.tuple #[v, .bool true, .int .i64 0]) ∧ SV w.heap.size w' nm ks cs (putl (lls zs) ⟨key, xs⟩) v ∧ Below w.heap.size w w' := by
  obtain ⟨I, hI⟩ : ∃ I, fnd (lls zs) key = I := ⟨_, rfl⟩
  have hIle : I ≤ zs.length := by rw [← hI, ← lls_len]; exact fnd_le _ _
  have i0 : (0 : Int) ≤ (I : Int) := by omega
  have i1 : (I : Int) ≤ (zs.length : Int) := by omega
  have i2 : (I : Int) ≤ (lc : Int) := by have := hL.2.2.1; omega
  have hsz : zs.length < 4611686018427387904 := by have := hm.2.1; omega
  have H := Lib.hid (And.intro hg (And.intro hT (And.intro hL (And.intro hm (And.intro hx (And.intro hx30 (And.intro hok (And.intro hrc (And.intro hro (And.intro hr (And.intro hE (And.intro hk (And.intro hB hI)))))))))))))
  clear hg hT hL hm hx hx30 hok hrc hro hr hE hk hB hI
  go_enter Tryd.func17, Tryd.ntmps17
  go_wp2_with fail
  refine (key_k nm ks cs xs key ao ro cap rc _ (H.out.2.1.keep (below2s _ _ _)) (H.out.2.2.2.2.1.below (below2s _ _ _)) H.out.2.2.2.2.2.1 H.out.2.2.2.2.2.2.1 (H.out.1.keep (below2s _ _ _)) H.out.2.2.2.2.2.2.2.1 0 H.out.2.2.2.2.2.2.2.2.2.2.1 H.out.2.2.2.2.2.2.2.2.2.2.2.1).mono ?_
  rintro e w1 ⟨rfl, hb⟩
  have K1 := Lib.hid (two_boxes hb)
  clear hb
  obtain ⟨⟨c0, c1, c2, c3⟩, _⟩ := K1.out.2.1.s4
  go_wp2_with fail
  refine (find_s nm ks cs zs key ao lo cap _ lc _ rfl (H.out.2.2.1.1.below K1.out.1) (by have := H.out.2.2.2.1.2.1; omega) H.out.2.2.2.2.2.2.2.2.2.1 I false H.out.2.2.2.2.2.2.2.2.2.2.2.2.2 H.out.2.2.2.2.2.2.2.2.2.2.2.2.1).mono ?_
  rintro e w2 ⟨rfl, hb⟩
  clear c0 c1 c2 c3
  have K2 := Lib.hid (And.intro (K1.out.1.trans (hb.mono K1.out.1.size)) (And.intro (K1.out.2.1.below hb) (And.intro (K1.out.2.2.1.below hb) (Nat.le_trans K1.out.2.2.2 hb.size))))
  clear hb
  go_wp2_with fail
  refine wp_region_held_drew (S := fun v => v.cell? ⟨w.heap.size, 3, none⟩ = some (.slice lo zs.length lc)) (by kernel_rfl) K2.out.2.1.s4.1.2.2.2 (fun hH0 => ?_)
  refine wpAnyH_take (i := 0) (oi := _) (v := .pointer (some ⟨w.heap.size, 3, none⟩)) rfl (by kernel_rfl) (by kernel_rfl) (by kernel_rfl) (fun _ _ _ h => h) (Or.inl ⟨by rfl, by intro v hv; go_simp⟩) hH0 ?_
  try simp only [Act.put, List.getElem_toArray, List.getElem_cons_succ, List.getElem_cons_zero, List.setIfInBounds_toArray, List.set_cons_zero, List.set_cons_succ]
  refine wpAnyH_take (i := 1) (oi := _) (v := .slice lo zs.length lc) rfl (by kernel_rfl) (by kernel_rfl) (by kernel_rfl) (fun _ _ _ h => h) (Or.inl ⟨by rfl, by intro v hv; go_simp⟩) hH0 ?_
  try simp only [Act.put, List.getElem_toArray, List.getElem_cons_succ, List.getElem_cons_zero, List.setIfInBounds_toArray, List.set_cons_zero, List.set_cons_succ]
  refine wpAnyH_take (i := 2) (oi := _) (v := .int .i64 (I : Int)) rfl (by kernel_rfl) (by kernel_rfl) (by kernel_rfl) (fun _ _ _ h => h) (Or.inl ⟨by rfl, by intro v hv; go_simp⟩) hH0 ?_
  try simp only [Act.put, List.getElem_toArray, List.getElem_cons_succ, List.getElem_cons_zero, List.setIfInBounds_toArray, List.set_cons_zero, List.set_cons_succ]
  refine wpAnyH_take (i := 3) (oi := _) (v := .slice lo I lc) rfl (by kernel_rfl) (by kernel_rfl) (by kernel_rfl) (fun _ _ _ h => h) (Or.inl ⟨by rfl, by intro v hv; go_simp⟩) hH0 ?_
  try simp only [Act.put, List.getElem_toArray, List.getElem_cons_succ, List.getElem_cons_zero, List.setIfInBounds_toArray, List.set_cons_zero, List.set_cons_succ]
  refine wpAnyH_take (i := 4) (oi := _) (v := .string ⟨key.toArray⟩) rfl (by kernel_rfl) (by kernel_rfl) (by kernel_rfl) (fun _ _ _ h => h) (Or.inl ⟨by rfl, by intro v hv; go_simp⟩) hH0 ?_
  try simp only [Act.put, List.getElem_toArray, List.getElem_cons_succ, List.getElem_cons_zero, List.setIfInBounds_toArray, List.set_cons_zero, List.set_cons_succ]
  refine wpAnyH_take (i := 5) (oi := _) (v := .slice ro xs.length rc) rfl (by kernel_rfl) (by kernel_rfl) (by kernel_rfl) (fun _ _ _ h => h) (Or.inl ⟨by rfl, by intro v hv; go_simp⟩) hH0 ?_
  try simp only [Act.put, List.getElem_toArray, List.getElem_cons_succ, List.getElem_cons_zero, List.setIfInBounds_toArray, List.set_cons_zero, List.set_cons_succ]
  refine wpAnyH_take (i := 6) (oi := _) (v := .agg #[.string ⟨key.toArray⟩, .slice ro xs.length rc]) rfl (by kernel_rfl) (by kernel_rfl) (by kernel_rfl) (fun _ _ _ h => h) (Or.inl ⟨by rfl, by intro v hv; go_simp⟩) hH0 ?_
  try simp only [Act.put, List.getElem_toArray, List.getElem_cons_succ, List.getElem_cons_zero, List.setIfInBounds_toArray, List.set_cons_zero, List.set_cons_succ]
  refine wpAnyH_take (i := 8) (oi := _) (v := .pointer (some ⟨w.heap.size, 3, none⟩)) rfl (by kernel_rfl) (by kernel_rfl) (by kernel_rfl) (fun _ _ _ h => h) (Or.inl ⟨by rfl, by intro v hv; go_simp⟩) hH0 ?_
  try simp only [Act.put, List.getElem_toArray, List.getElem_cons_succ, List.getElem_cons_zero, List.setIfInBounds_toArray, List.set_cons_zero, List.set_cons_succ]
  refine wpAnyH_take (i := 9) (oi := _) (v := .slice lo zs.length lc) rfl (by kernel_rfl) (by kernel_rfl) (by kernel_rfl) (fun _ _ _ h => h) (Or.inl ⟨by rfl, by intro v hv; go_simp⟩) hH0 ?_
  try simp only [Act.put, List.getElem_toArray, List.getElem_cons_succ, List.getElem_cons_zero, List.setIfInBounds_toArray, List.set_cons_zero, List.set_cons_succ]
  refine wpAnyH_take (i := 10) (oi := _) (v := .int .i64 (I : Int)) rfl (by kernel_rfl) (by kernel_rfl) (by kernel_rfl) (fun _ _ _ h => h) (Or.inl ⟨by rfl, by intro v hv; go_simp⟩) hH0 ?_
  try simp only [Act.put, List.getElem_toArray, List.getElem_cons_succ, List.getElem_cons_zero, List.setIfInBounds_toArray, List.set_cons_zero, List.set_cons_succ]
  refine wpAnyH_take (i := 11) (oi := _) (v := .slice (cuta lo lc I 2) (zs.length - I) (lc - I)) rfl (by kernel_rfl) (by kernel_rfl) (by kernel_rfl) (fun _ _ _ h => h) (Or.inl ⟨by rfl, by intro v hv; unfold cuta; go_simp⟩) hH0 ?_
  try simp only [Act.put, List.getElem_toArray, List.getElem_cons_succ, List.getElem_cons_zero, List.setIfInBounds_toArray, List.set_cons_zero, List.set_cons_succ]
  have q2 := K2.out.2.1.drw.alloc (.cells #[.string ⟨key.toArray⟩, .slice ro xs.length rc] 54)
  refine wpAnyH_ready (rs := [7]) (by kernel_rfl) (by simp) ?_
  refine AllReadyH.cons (o := _) rfl (fun K' hK => ?_) AllReadyH.nil
  go_simp
  refine hK.out _ _ q2.s4.1.2.2.2 (fun hH1 => ?_)
  clear hK K' hH0
  try simp only [Act.put, List.getElem_toArray, List.getElem_cons_succ, List.getElem_cons_zero, List.setIfInBounds_toArray, List.set_cons_zero, List.set_cons_succ]
  have q3 := q2.alloc (.cells #[.slice lo I lc, .slice (some ⟨w2.heap.size, 0, none⟩) 1 1, .slice (cuta lo lc I 2) (zs.length - I) (lc - I)] 25)
  refine wpAnyH_ready (rs := [12]) (by kernel_rfl) (by simp) ?_
  refine AllReadyH.cons (o := _) rfl (fun K' hK => ?_) AllReadyH.nil
  go_simp
  refine hK.out _ _ q3.s4.1.2.2.2 (fun hH2 => ?_)
  clear hK K' hH1
  try simp only [Act.put, List.getElem_toArray, List.getElem_cons_succ, List.getElem_cons_zero, List.setIfInBounds_toArray, List.set_cons_zero, List.set_cons_succ]
  obtain ⟨W3, hW3⟩ : ∃ W3, w2.alloc (.cells #[.string ⟨key.toArray⟩, .slice ro xs.length rc] 54) = W3 := ⟨_, rfl⟩
  have hs3 : W3.heap.size = w2.heap.size + 1 := by rw [← hW3]; simp
  have hB3 : Blk W3 w2.heap.size #[.string ⟨key.toArray⟩, .slice ro xs.length rc] 54 := hW3 ▸ Blk.new w2 _ _
  have hc3 : Below w2.heap.size w2 W3 := hW3 ▸ below1 _ _
  have q5 : Blk W3 w.heap.size #[.string ⟨nm.toArray⟩, .int .i64 ks, .slice ao cs.length cap, .slice lo zs.length lc] 27 := hW3 ▸ K2.out.2.1.alloc _
  obtain ⟨W4, hW4⟩ : ∃ W4, (W3.alloc (.cells #[.slice lo I lc, .slice (some ⟨w2.heap.size, 0, none⟩) 1 1, .slice (cuta lo lc I 2) (zs.length - I) (lc - I)] 25)).drew = W4 := ⟨_, rfl⟩
  have hB4 : Blk W4 (w2.heap.size + 1) #[.slice lo I lc, .slice (some ⟨w2.heap.size, 0, none⟩) 1 1, .slice (cuta lo lc I 2) (zs.length - I) (lc - I)] 25 := by have := (Blk.new W3 #[.slice lo I lc, .slice (some ⟨w2.heap.size, 0, none⟩) 1 1, .slice (cuta lo lc I 2) (zs.length - I) (lc - I)] 25).drw; rw [hW4, hs3] at this; exact this
  have hc4 : Below w2.heap.size w2 W4 := hW4 ▸ below_drew1 (hc3.alloc hc3.size _)
  have hb4 : Below w.heap.size w W4 := step0 K2.out.1 hc4
  have q6 : Blk W4 w.heap.size #[.string ⟨nm.toArray⟩, .int .i64 ks, .slice ao cs.length cap, .slice lo zs.length lc] 27 := hW4 ▸ (q5.alloc _).drw
  have hB3' : Blk W4 w2.heap.size #[.string ⟨key.toArray⟩, .slice ro xs.length rc] 54 := hW4 ▸ (hB3.alloc _).drw
  have HC := Lib.hid hc4
  clear hc3 hc4 q5
  have hlt : (zs.take I).length = I := by rw [List.length_take]; omega
  have hP : SlP W4 (some ⟨w2.heap.size + 1, 0, none⟩) [⟨zs.take I, lo, lc⟩, ⟨[⟨key, xs, ro, rc⟩], some ⟨w2.heap.size, 0, none⟩, 1⟩, ⟨zs.drop I, cuta lo lc I 2, lc - I⟩] := slP_three (by
    show Blk W4 (w2.heap.size + 1) #[.slice lo (zs.take I).length lc, .slice (some ⟨w2.heap.size, 0, none⟩) 1 1, .slice (cuta lo lc I 2) (zs.drop I).length (lc - I)] 25
    rw [hlt, List.length_drop]; exact hB4)
  have hF : FitP W4 [⟨zs.take I, lo, lc⟩, ⟨[⟨key, xs, ro, rc⟩], some ⟨w2.heap.size, 0, none⟩, 1⟩, ⟨zs.drop I, cuta lo lc I 2, lc - I⟩] := by
    intro p hp
    simp only [List.mem_cons, List.not_mem_nil, or_false] at hp
    rcases hp with rfl | rfl | rfl
    · exact (H.out.2.2.1.below hb4).take I
    · exact ls_one hB3' (H.out.2.2.2.2.1.below hb4) H.out.2.2.2.2.2.2.1 H.out.2.2.2.2.2.2.2.1 H.out.2.2.2.2.2.2.2.2.1
    · exact (H.out.2.2.1.below hb4).drop I (by omega)
  have hpc : pcat [⟨zs.take I, lo, lc⟩, ⟨[⟨key, xs, ro, rc⟩], some ⟨w2.heap.size, 0, none⟩, 1⟩, ⟨zs.drop I, cuta lo lc I 2, lc - I⟩] = plv zs I I ⟨key, xs, ro, rc⟩ := by simp [pcat, plv]
  have hpl : (plv zs I I ⟨key, xs, ro, rc⟩).length ≤ 101 := Nat.le_trans (plv_len (by omega)) (by have := H.out.2.2.2.1.2.1; omega)
  have PP := Lib.hid (And.intro hP (And.intro hF (And.intro hpc (And.intro hpl (And.intro hb4 (And.intro q6 (plv_lls (z := ⟨key, xs, ro, rc⟩) H.out.2.2.2.2.2.2.2.2.2.2.2.2.2 H.out.2.2.2.2.2.2.2.2.2.2.2.2.1 (show I = I + if false = true then 1 else 0 by simp))))))))
  clear hP hF hpc hpl hb4 q3 q2 q6 hB3 hB4 hB3' hlt hs3
  refine wpAnyH_ready (rs := [13]) (by kernel_rfl) (by simp) ?_
  refine AllReadyH.cons (o := _) rfl (fun K' hK => ?_) AllReadyH.nil
  go_simp
  refine (concat_is [⟨zs.take I, lo, lc⟩, ⟨[⟨key, xs, ro, rc⟩], some ⟨w2.heap.size, 0, none⟩, 1⟩, ⟨zs.drop I, cuta lo lc I 2, lc - I⟩] 3 _ 3 _ rfl PP.out.1 PP.out.2.1 (by simp) (by rw [PP.out.2.2.1]; have := PP.out.2.2.2.1; omega)).mono ?_
  rintro e w5 ⟨v, rfl, hO, hb⟩
  rw [PP.out.2.2.1] at hO
  obtain ⟨ao1, cap1, hv, hLS1⟩ := hO.ls (fun z hz => by
    rcases plv_mem hz with rfl | hz
    · exact ⟨(H.out.2.2.2.2.1.below PP.out.2.2.2.2.1).below hb, H.out.2.2.2.2.2.2.2.1, H.out.2.2.2.2.2.2.2.2.1, H.out.2.2.2.2.2.2.1⟩
    · exact ((H.out.2.2.1.2.1.below PP.out.2.2.2.2.1).below hb) z hz)
  subst hv
  have K5 := Lib.hid (And.intro hLS1 (And.intro (PP.out.2.2.2.2.2.1.below hb) (And.intro (PP.out.2.2.2.2.1.trans (hb.mono PP.out.2.2.2.2.1.size)) (HC.out.trans (hb.mono HC.out.size)))))
  clear hO hLS1 hb
  go_wp2_with fail
  refine hK.out _ _ K5.out.2.1.s4.1.2.2.2 (fun hH3 => ?_)
  clear hK K' hH2
  try simp only [Act.put, List.getElem_toArray, List.getElem_cons_succ, List.getElem_cons_zero, List.setIfInBounds_toArray, List.set_cons_zero, List.set_cons_succ]
  refine wpAnyH_take (i := 14) (oi := _) (v := .slice ao1 (plv zs I I ⟨key, xs, ro, rc⟩).length cap1) rfl (by kernel_rfl) (by kernel_rfl) (by kernel_rfl) (fun _ _ _ h => h) (Or.inl ⟨by rfl, by intro v hv; go_simp⟩) hH3 ?_
  try simp only [Act.put, List.getElem_toArray, List.getElem_cons_succ, List.getElem_cons_zero, List.setIfInBounds_toArray, List.set_cons_zero, List.set_cons_succ]
  refine wpAnyH_done (by kernel_rfl) ?_ _
  clear hH3
  obtain ⟨⟨c0, c1, c2, c3⟩, _⟩ := K5.out.2.1.s4
  go_wp2_with fail
  refine (sheetOf_is nm ks cs (plv zs I I ⟨key, xs, ro, rc⟩) _ ao ao1 cap cap1 _ rfl (H.out.2.1.1.below K5.out.2.2.1) K5.out.1 H.out.2.2.2.1.1 (by have := PP.out.2.2.2.1; omega) (smal_cat (by have := PP.out.2.2.2.1; omega) (fun z hz => by
    rcases plv_mem hz with rfl | hz
    · exact H.out.2.2.2.2.2.1
    · exact H.out.2.2.2.1.2.2 z hz))).mono ?_
  rintro e w6 ⟨vo, vc, lo', lc', zs', rfl, hTB, hLS, hLB, hls, hb⟩
  clear c0 c1 c2 c3
  have B6 := Lib.hid (And.intro hTB (And.intro hLS (And.intro hLB (And.intro hls (And.intro ((K2.out.2.2.1.below K5.out.2.2.2).below hb) (And.intro (K5.out.2.2.1.trans (hb.mono K5.out.2.2.1.size)) (Nat.le_trans K2.out.2.2.2 K5.out.2.2.2.size)))))))
  clear hTB hLS hLB hls hb
  obtain ⟨⟨d0, d1, d2, d3⟩, f0, f1, f2, f3⟩ := B6.out.2.2.2.2.1.s4
  go_wp2
  have pB := B6.out.2.2.2.2.1.put4 (.string ⟨nm.toArray⟩) (.int .i64 ks) (.slice vo cs.length vc) (.slice lo' (plv zs I I ⟨key, xs, ro, rc⟩).length lc')
  obtain ⟨⟨e0, e1, e2, e3⟩, _⟩ := pB.s4
  unfold st4 at e0 e1 e2 e3
  refine bodyPost_ret (v := .tuple #[.agg #[.string ⟨nm.toArray⟩, .int .i64 ks, .slice vo cs.length vc, .slice lo' (plv zs I I ⟨key, xs, ro, rc⟩).length lc'], .bool true, .int .i64 0]) ?_ rfl ⟨_, rfl, ⟨vo, vc, lo', lc', zs', ?_, ?_, ?_, ?_, ?_⟩, ?_⟩
  · simp [results, Tryd.results17, go_sem, e0, e1, e2, e3]
  · rw [lls_length B6.out.2.2.2.1]
  · exact OwC.base (OwC.off4 (B6.out.1) (by have := B6.out.2.2.2.2.2.2; omega) _ _ _ _) (by have := B6.out.2.2.2.2.2.2; omega)
  · exact LS.off4 (B6.out.2.1) (B6.out.2.2.1) (by have := B6.out.2.2.2.2.2.2; omega) _ _ _ _
  · exact LB.mono (B6.out.2.2.1) (by have := B6.out.2.2.2.2.2.2; omega)
  · exact (B6.out.2.2.2.1.trans PP.out.2.2.2.2.2.2)
  · exact below_st4 (B6.out.2.2.2.2.2.1) (by have := B6.out.2.2.2.2.2.2; omega) _ _ _ _

end Go.Proofs.YtfgakoldedpfoaaDoor
