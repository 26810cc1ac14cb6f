/-
  A key's row taken out: Delete. Conditions: a sheet in memory, of at most 1000 columns and 100 lines by rising keys of at most 30 values.
-/
import Derived.Test.YtfgakoldedpfoaaDoorShPut
namespace Go.Proofs.YtfgakoldedpfoaaDoor
open Go.RowKit
set_option linter.unusedVariables false
set_option linter.unusedSimpArgs false

def dlv (zs : List LV) (I : Nat) : List LV := zs.take I ++ zs.drop (I + 1)
theorem dlv_lls {zs : List LV} {key : Nm.S} {I : Nat} (hI : fnd (lls zs) key = I) (hB : isk (lls zs) key = true) : lls (dlv zs I) = dell (lls zs) key := by
  unfold dlv dell
  rw [if_pos hB, lls_append, llk_take, llk_drop, hI]
theorem dlv_len (zs : List LV) (I : Nat) : (dlv zs I).length ≤ zs.length := by
  unfold dlv
  rw [List.length_append, List.length_take, List.length_drop]
  omega
theorem dlv_mem {zs : List LV} {I : Nat} {x : LV} (h : x ∈ dlv zs I) : x ∈ zs := by
  unfold dlv at h
  rcases List.mem_append.1 h with h | h
  · exact List.mem_of_mem_take h
  · exact List.mem_of_mem_drop h

set_option maxRecDepth 1000000 in
set_option maxHeartbeats 4000000 in
theorem del_false (nm : Nm.S) (ks : Int) (cs : List C) (zs : List LV) (ao lo : Option Addr) (cap lc : Nat) (key : Nm.S) (w : World) (hT : SlC w ao cs) (hL : LS w zs lo lc) (hm : Smal cs zs) (hr : Ris (lls zs)) (hB : isk (lls zs) key = false) :
    Calls Tryd.prog 22 #[.agg #[.string ⟨nm.toArray⟩, .int .i64 ks, .slice ao cs.length cap, .slice lo zs.length lc], .string ⟨key.toArray⟩] w fun e w' => ∃ v, e = .returned (.tuple #[v, .bool false]) ∧ SV w.heap.size w' nm ks cs (lls zs) v ∧ Below w.heap.size w w' := by
  obtain ⟨I, hI⟩ : ∃ I, fnd (lls zs) key = I := ⟨_, rfl⟩
  have H := Lib.hid (And.intro hT (And.intro hL (And.intro hm (And.intro hr (And.intro hB hI)))))
  clear hT hL hm hr hB hI
  go_enter Tryd.func22, Tryd.ntmps22
  go_wp2_with fail
  refine (find_s nm ks cs zs key ao lo cap _ lc _ rfl (H.out.2.1.1.below (below2s _ _ _)) (by have := H.out.2.2.1.2.1; omega) H.out.2.2.2.1 I false H.out.2.2.2.2.2 H.out.2.2.2.2.1).mono ?_
  rintro e w2 ⟨rfl, hb⟩
  have K2 := Lib.hid (two_boxes hb)
  clear hb
  obtain ⟨⟨c0, c1, c2, c3⟩, _⟩ := K2.out.2.1.s4
  go_wp2_with fail
  refine (sheetOf_is nm ks cs zs _ ao lo cap lc _ rfl (H.out.1.below K2.out.1) (H.out.2.1.below K2.out.1) H.out.2.2.1.1 (by have := H.out.2.2.1.2.1; omega) H.out.2.2.1.cat).mono ?_
  rintro e w3 ⟨vo, vc, lo', lc', zs', rfl, hTB, hLS, hLB, hls, hb⟩
  clear c0 c1 c2 c3
  have B2 := Lib.hid (And.intro hTB (And.intro hLS (And.intro hLB (And.intro hls (And.intro (K2.out.2.2.1.below hb) (And.intro (K2.out.1.trans (hb.mono K2.out.1.size)) K2.out.2.2.2))))))
  clear hTB hLS hLB hls hb
  obtain ⟨⟨d0, d1, d2, d3⟩, f0, f1, f2, f3⟩ := B2.out.2.2.2.2.1.s4
  go_wp2
  have pB := B2.out.2.2.2.2.1.put4 (.string ⟨nm.toArray⟩) (.int .i64 ks) (.slice vo cs.length vc) (.slice lo' zs.length lc')
  obtain ⟨⟨e0, e1, e2, e3⟩, _⟩ := pB.s4
  unfold st4 at e0 e1 e2 e3
  refine bodyPost_ret (v := .tuple #[.agg #[.string ⟨nm.toArray⟩, .int .i64 ks, .slice vo cs.length vc, .slice lo' zs.length lc'], .bool false]) ?_ rfl ⟨_, rfl, ⟨vo, vc, lo', lc', zs', ?_, ?_, ?_, ?_, ?_⟩, ?_⟩
  · simp [results, Tryd.results22, go_sem, e0, e1, e2, e3]
  · rw [lls_length B2.out.2.2.2.1]
  · exact OwC.base (OwC.off4 (B2.out.1) (by have := B2.out.2.2.2.2.2.2; omega) _ _ _ _) (by have := B2.out.2.2.2.2.2.2; omega)
  · exact LS.off4 (B2.out.2.1) (B2.out.2.2.1) (by have := B2.out.2.2.2.2.2.2; omega) _ _ _ _
  · exact LB.mono (B2.out.2.2.1) (by have := B2.out.2.2.2.2.2.2; omega)
  · exact (B2.out.2.2.2.1)
  · exact below_st4 (B2.out.2.2.2.2.2.1) (by have := B2.out.2.2.2.2.2.2; omega) _ _ _ _

set_option maxRecDepth 1000000 in
set_option maxHeartbeats 1000000 in
theorem del_true (nm : Nm.S) (ks : Int) (cs : List C) (zs : List LV) (ao lo : Option Addr) (cap lc : Nat) (key : Nm.S) (w : World) (hT : SlC w ao cs) (hL : LS w zs lo lc) (hm : Smal cs zs) (hr : Ris (lls zs)) (hB : isk (lls zs) key = true) :
    Calls Tryd.prog 22 #[.agg #[.string ⟨nm.toArray⟩, .int .i64 ks, .slice ao cs.length cap, .slice lo zs.length lc], .string ⟨key.toArray⟩] w fun e w' => ∃ v, e = .returned (.tuple #[v, .bool true]) ∧ SV w.heap.size w' nm ks cs (dell (lls zs) key) v ∧ Below w.heap.size w w' := by
  obtain ⟨I, hI⟩ : ∃ I, fnd (lls zs) key = I := ⟨_, rfl⟩
  have hIlt : I < zs.length := by
    obtain ⟨hl, _⟩ := isk_at hB
    rw [lls_len, hI] at hl; exact hl
  have b0 : (0 : Int) ≤ (I : Int) + 1 := by omega
  have b1 : (I : Int) + 1 ≤ (zs.length : Int) := by omega
  have wI : IntKind.i64.wrap ((I : Int) + 1) = (I : Int) + 1 := by have := hm.2.1; rw [IntKind.wrap_i64]; omega
  have i0 : (0 : Int) ≤ (I : Int) := by omega
  have i2 : (I : Int) ≤ (lc : Int) := by have := hL.2.2.1; omega
  have hsz : zs.length < 4611686018427387904 := by have := hm.2.1; omega
  have H := Lib.hid (And.intro hT (And.intro hL (And.intro hm (And.intro hr (And.intro hB hI)))))
  clear hT hL hm hr hB hI
  go_enter Tryd.func22, Tryd.ntmps22
  go_wp2_with fail
  refine (find_s nm ks cs zs key ao lo cap _ lc _ rfl (H.out.2.1.1.below (below2s _ _ _)) (by have := H.out.2.2.1.2.1; omega) H.out.2.2.2.1 I true H.out.2.2.2.2.2 H.out.2.2.2.2.1).mono ?_
  rintro e w2 ⟨rfl, hb⟩
  have K2 := Lib.hid (two_boxes hb)
  clear hb
  go_wp2_with fail
  refine wp_region_held_drew (S := fun v => v.cell? ⟨w.heap.size, 0, none⟩ = some (.string ⟨nm.toArray⟩) ∧ v.cell? ⟨w.heap.size, 1, none⟩ = some (.int .i64 ks) ∧ v.cell? ⟨w.heap.size, 2, none⟩ = some (.slice ao cs.length cap) ∧ v.cell? ⟨w.heap.size, 3, none⟩ = some (.slice lo zs.length lc)) (by kernel_rfl) K2.out.2.1.s4.1 (fun hH0 => ?_)
  refine wpAnyH_take (i := 0) (oi := _) (v := .pointer (some ⟨w.heap.size, 0, none⟩)) rfl (by kernel_rfl) (by kernel_rfl) (by kernel_rfl) (fun _ _ _ h => h) (Or.inl ⟨by rfl, by intro v hv; go_simp⟩) hH0 ?_
  try simp only [Act.put, List.getElem_toArray, List.getElem_cons_succ, List.getElem_cons_zero, List.setIfInBounds_toArray, List.set_cons_zero, List.set_cons_succ]
  refine wpAnyH_take (i := 1) (oi := _) (v := .agg #[.string ⟨nm.toArray⟩, .int .i64 ks, .slice ao cs.length cap]) rfl (by kernel_rfl) (by kernel_rfl) (by kernel_rfl) (fun _ _ _ h => h) (Or.inl ⟨by rfl, by intro v hv; obtain ⟨c0, c1, c2, c3⟩ := hv; go_simp⟩) hH0 ?_
  try simp only [Act.put, List.getElem_toArray, List.getElem_cons_succ, List.getElem_cons_zero, List.setIfInBounds_toArray, List.set_cons_zero, List.set_cons_succ]
  refine wpAnyH_take (i := 2) (oi := _) (v := .pointer (some ⟨w.heap.size, 3, none⟩)) rfl (by kernel_rfl) (by kernel_rfl) (by kernel_rfl) (fun _ _ _ h => h) (Or.inl ⟨by rfl, by intro v hv; go_simp⟩) hH0 ?_
  try simp only [Act.put, List.getElem_toArray, List.getElem_cons_succ, List.getElem_cons_zero, List.setIfInBounds_toArray, List.set_cons_zero, List.set_cons_succ]
  refine wpAnyH_take (i := 3) (oi := _) (v := .slice lo zs.length lc) rfl (by kernel_rfl) (by kernel_rfl) (by kernel_rfl) (fun _ _ _ h => h) (Or.inl ⟨by rfl, by intro v hv; obtain ⟨c0, c1, c2, c3⟩ := hv; go_simp⟩) hH0 ?_
  try simp only [Act.put, List.getElem_toArray, List.getElem_cons_succ, List.getElem_cons_zero, List.setIfInBounds_toArray, List.set_cons_zero, List.set_cons_succ]
  refine wpAnyH_take (i := 4) (oi := _) (v := .int .i64 (I : Int)) rfl (by kernel_rfl) (by kernel_rfl) (by kernel_rfl) (fun _ _ _ h => h) (Or.inl ⟨by rfl, by intro v hv; go_simp⟩) hH0 ?_
  try simp only [Act.put, List.getElem_toArray, List.getElem_cons_succ, List.getElem_cons_zero, List.setIfInBounds_toArray, List.set_cons_zero, List.set_cons_succ]
  refine wpAnyH_take (i := 5) (oi := _) (v := .slice lo I lc) rfl (by kernel_rfl) (by kernel_rfl) (by kernel_rfl) (fun _ _ _ h => h) (Or.inl ⟨by rfl, by intro v hv; go_simp⟩) hH0 ?_
  try simp only [Act.put, List.getElem_toArray, List.getElem_cons_succ, List.getElem_cons_zero, List.setIfInBounds_toArray, List.set_cons_zero, List.set_cons_succ]
  refine wpAnyH_take (i := 6) (oi := _) (v := .pointer (some ⟨w.heap.size, 3, none⟩)) rfl (by kernel_rfl) (by kernel_rfl) (by kernel_rfl) (fun _ _ _ h => h) (Or.inl ⟨by rfl, by intro v hv; go_simp⟩) hH0 ?_
  try simp only [Act.put, List.getElem_toArray, List.getElem_cons_succ, List.getElem_cons_zero, List.setIfInBounds_toArray, List.set_cons_zero, List.set_cons_succ]
  refine wpAnyH_take (i := 7) (oi := _) (v := .slice lo zs.length lc) rfl (by kernel_rfl) (by kernel_rfl) (by kernel_rfl) (fun _ _ _ h => h) (Or.inl ⟨by rfl, by intro v hv; obtain ⟨c0, c1, c2, c3⟩ := hv; go_simp⟩) hH0 ?_
  try simp only [Act.put, List.getElem_toArray, List.getElem_cons_succ, List.getElem_cons_zero, List.setIfInBounds_toArray, List.set_cons_zero, List.set_cons_succ]
  refine wpAnyH_take (i := 8) (oi := _) (v := .int .i64 (I : Int)) rfl (by kernel_rfl) (by kernel_rfl) (by kernel_rfl) (fun _ _ _ h => h) (Or.inl ⟨by rfl, by intro v hv; go_simp⟩) hH0 ?_
  try simp only [Act.put, List.getElem_toArray, List.getElem_cons_succ, List.getElem_cons_zero, List.setIfInBounds_toArray, List.set_cons_zero, List.set_cons_succ]
  refine wpAnyH_take (i := 9) (oi := _) (v := .int .i64 ((I : Int) + 1)) rfl (by kernel_rfl) (by kernel_rfl) (by kernel_rfl) (fun _ _ _ h => h) (Or.inl ⟨by rfl, by intro v hv; go_simp⟩) hH0 ?_
  try simp only [Act.put, List.getElem_toArray, List.getElem_cons_succ, List.getElem_cons_zero, List.setIfInBounds_toArray, List.set_cons_zero, List.set_cons_succ]
  refine wpAnyH_take (i := 10) (oi := _) (v := .slice (cuta lo lc (I + 1) 2) (zs.length - (I + 1)) (lc - (I + 1))) rfl (by kernel_rfl) (by kernel_rfl) (by kernel_rfl) (fun _ _ _ h => h) (Or.inl ⟨by rfl, by intro v hv; unfold cuta; go_simp⟩) hH0 ?_
  try simp only [Act.put, List.getElem_toArray, List.getElem_cons_succ, List.getElem_cons_zero, List.setIfInBounds_toArray, List.set_cons_zero, List.set_cons_succ]
  have q2 := K2.out.2.1.drw.alloc (.cells #[.slice lo I lc, .slice (cuta lo lc (I + 1) 2) (zs.length - (I + 1)) (lc - (I + 1))] 25)
  refine wpAnyH_ready (rs := [11]) (by kernel_rfl) (by simp) ?_
  refine AllReadyH.cons (o := _) rfl (fun K' hK => ?_) AllReadyH.nil
  go_simp
  refine hK.out _ _ q2.s4.1 (fun hH1 => ?_)
  clear hK K' hH0
  try simp only [Act.put, List.getElem_toArray, List.getElem_cons_succ, List.getElem_cons_zero, List.setIfInBounds_toArray, List.set_cons_zero, List.set_cons_succ]
  obtain ⟨W4, hW4⟩ : ∃ W4, (w2.alloc (.cells #[.slice lo I lc, .slice (cuta lo lc (I + 1) 2) (zs.length - (I + 1)) (lc - (I + 1))] 25)).drew = W4 := ⟨_, rfl⟩
  have hB4 : Blk W4 w2.heap.size #[.slice lo I lc, .slice (cuta lo lc (I + 1) 2) (zs.length - (I + 1)) (lc - (I + 1))] 25 := hW4 ▸ (Blk.new w2 _ _).drw
  have hc4 : Below w2.heap.size w2 W4 := hW4 ▸ below_drew1 (below1 _ _)
  have hb4 : Below w.heap.size w W4 := step0 K2.out.1 hc4
  have q6 : Blk W4 w.heap.size #[.string ⟨nm.toArray⟩, .int .i64 ks, .slice ao cs.length cap, .slice lo zs.length lc] 27 := K2.out.2.1.below hc4
  have HC := Lib.hid hc4
  clear hc4
  have hlt : (zs.take I).length = I := by rw [List.length_take]; omega
  have hP : SlP W4 (some ⟨w2.heap.size, 0, none⟩) [⟨zs.take I, lo, lc⟩, ⟨zs.drop (I + 1), cuta lo lc (I + 1) 2, lc - (I + 1)⟩] := slP_two (by
    show Blk W4 w2.heap.size #[.slice lo (zs.take I).length lc, .slice (cuta lo lc (I + 1) 2) (zs.drop (I + 1)).length (lc - (I + 1))] 25
    rw [hlt, List.length_drop]; exact hB4)
  have hF : FitP W4 [⟨zs.take I, lo, lc⟩, ⟨zs.drop (I + 1), cuta lo lc (I + 1) 2, lc - (I + 1)⟩] := by
    intro p hp
    simp only [List.mem_cons, List.not_mem_nil, or_false] at hp
    rcases hp with rfl | rfl
    · exact (H.out.2.1.below hb4).take I
    · exact (H.out.2.1.below hb4).drop (I + 1) (by omega)
  have hpc : pcat [⟨zs.take I, lo, lc⟩, ⟨zs.drop (I + 1), cuta lo lc (I + 1) 2, lc - (I + 1)⟩] = dlv zs I := by simp [pcat, dlv]
  have hpl : (dlv zs I).length ≤ 100 := Nat.le_trans (dlv_len _ _) H.out.2.2.1.2.1
  have PP := Lib.hid (And.intro hP (And.intro hF (And.intro hpc (And.intro hpl (And.intro hb4 (And.intro q6 (dlv_lls H.out.2.2.2.2.2 H.out.2.2.2.2.1)))))))
  clear hP hF hpc hpl hb4 q2 q6 hB4 hlt
  refine wpAnyH_ready (rs := [12]) (by kernel_rfl) (by simp) ?_
  refine AllReadyH.cons (o := _) rfl (fun K' hK => ?_) AllReadyH.nil
  go_simp
  refine (concat_is [⟨zs.take I, lo, lc⟩, ⟨zs.drop (I + 1), cuta lo lc (I + 1) 2, lc - (I + 1)⟩] 2 _ 2 _ rfl PP.out.1 PP.out.2.1 (by simp) (by rw [PP.out.2.2.1]; have := PP.out.2.2.2.1; omega)).mono ?_
  rintro e w5 ⟨v, rfl, hO, hb⟩
  rw [PP.out.2.2.1] at hO
  obtain ⟨ao1, cap1, hv, hLS1⟩ := hO.ls (fun z hz => ((H.out.2.1.2.1.below PP.out.2.2.2.2.1).below hb) z (dlv_mem hz))
  subst hv
  have K5 := Lib.hid (And.intro hLS1 (And.intro (PP.out.2.2.2.2.2.1.below hb) (And.intro (PP.out.2.2.2.2.1.trans (hb.mono PP.out.2.2.2.2.1.size)) (HC.out.trans (hb.mono HC.out.size)))))
  clear hO hLS1 hb
  go_wp2_with fail
  refine hK.out _ _ K5.out.2.1.s4.1 (fun hH2 => ?_)
  clear hK K' hH1
  try simp only [Act.put, List.getElem_toArray, List.getElem_cons_succ, List.getElem_cons_zero, List.setIfInBounds_toArray, List.set_cons_zero, List.set_cons_succ]
  refine wpAnyH_ready (rs := [13]) (by kernel_rfl) (by simp) ?_
  refine AllReadyH.cons (o := _) rfl (fun K' hK => ?_) AllReadyH.nil
  go_simp
  refine (sheetOf_is nm ks cs (dlv zs I) _ ao ao1 cap cap1 _ rfl (H.out.1.below K5.out.2.2.1) K5.out.1 H.out.2.2.1.1 (by have := PP.out.2.2.2.1; omega) (smal_cat (by have := PP.out.2.2.2.1; omega) (fun z hz => H.out.2.2.1.2.2 z (dlv_mem hz)))).mono ?_
  rintro e w6 ⟨vo, vc, lo', lc', zs', rfl, hTB, hLS, hLB, hls, hb⟩
  have B6 := Lib.hid (And.intro hTB (And.intro hLS (And.intro hLB (And.intro hls (And.intro ((K2.out.2.2.1.below K5.out.2.2.2).below hb) (And.intro (K5.out.2.2.1.trans (hb.mono K5.out.2.2.1.size)) (Nat.le_trans K2.out.2.2.2 K5.out.2.2.2.size)))))))
  have B7 := Lib.hid (K5.out.2.1.below hb)
  clear hTB hLS hLB hls hb
  go_wp2_with fail
  refine hK.out _ _ B7.out.s4.1 (fun hH3 => ?_)
  clear hK K' hH2
  try simp only [Act.put, List.getElem_toArray, List.getElem_cons_succ, List.getElem_cons_zero, List.setIfInBounds_toArray, List.set_cons_zero, List.set_cons_succ]
  obtain ⟨⟨d0, d1, d2, d3⟩, f0, f1, f2, f3⟩ := B6.out.2.2.2.2.1.s4
  refine wpAnyH_ready (rs := [14]) (by kernel_rfl) (by simp) ?_
  refine AllReadyH.cons (o := _) rfl (fun K' hK => ?_) AllReadyH.nil
  go_simp
  refine hK.out _ _ (B7.out.off4 (show w.heap.size ≠ w.heap.size + 1 by omega) _ _ _ _).s4.1 (fun hH4 => ?_)
  clear hK K' hH3
  try simp only [Act.put, List.getElem_toArray, List.getElem_cons_succ, List.getElem_cons_zero, List.setIfInBounds_toArray, List.set_cons_zero, List.set_cons_succ]
  refine wpAnyH_take (i := 15) (oi := _) (v := .bool true) rfl (by kernel_rfl) (by kernel_rfl) (by kernel_rfl) (fun _ _ _ h => h) (Or.inl ⟨by rfl, by intro v hv; go_simp⟩) hH4 ?_
  try simp only [Act.put, List.getElem_toArray, List.getElem_cons_succ, List.getElem_cons_zero, List.setIfInBounds_toArray, List.set_cons_zero, List.set_cons_succ]
  refine wpAnyH_done (by kernel_rfl) ?_ _
  clear hH4
  go_wp2
  have pB := B6.out.2.2.2.2.1.put4 (.string ⟨nm.toArray⟩) (.int .i64 ks) (.slice vo cs.length vc) (.slice lo' (dlv zs I).length lc')
  obtain ⟨⟨e0, e1, e2, e3⟩, _⟩ := pB.s4
  unfold st4 at e0 e1 e2 e3
  refine bodyPost_ret (v := .tuple #[.agg #[.string ⟨nm.toArray⟩, .int .i64 ks, .slice vo cs.length vc, .slice lo' (dlv zs I).length lc'], .bool true]) ?_ rfl ⟨_, rfl, ⟨vo, vc, lo', lc', zs', ?_, ?_, ?_, ?_, ?_⟩, ?_⟩
  · simp [results, Tryd.results22, go_sem, e0, e1, e2, e3]
  · rw [lls_length B6.out.2.2.2.1]
  · exact OwC.base (OwC.off4 (B6.out.1) (by have := B6.out.2.2.2.2.2.2; omega) _ _ _ _) (by have := B6.out.2.2.2.2.2.2; omega)
  · exact LS.off4 (B6.out.2.1) (B6.out.2.2.1) (by have := B6.out.2.2.2.2.2.2; omega) _ _ _ _
  · exact LB.mono (B6.out.2.2.1) (by have := B6.out.2.2.2.2.2.2; omega)
  · exact (B6.out.2.2.2.1.trans PP.out.2.2.2.2.2.2)
  · exact below_st4 (B6.out.2.2.2.2.2.1) (by have := B6.out.2.2.2.2.2.2; omega) _ _ _ _

end Go.Proofs.YtfgakoldedpfoaaDoor
