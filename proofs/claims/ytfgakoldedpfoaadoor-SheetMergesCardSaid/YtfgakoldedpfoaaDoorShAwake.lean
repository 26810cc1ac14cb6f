/-
  The example that each statement ends with: it is true. Condition: the library's variable errors.errorType holds the handle of the type error.
-/
import Derived.Test.YtfgakoldedpfoaaDoorShFew
import Derived.Test.YtfgakoldedpfoaaDoorShPutT
import Derived.Test.YtfgakoldedpfoaaDoorShPutF
import Derived.Test.YtfgakoldedpfoaaDoorShDel
import Derived.Test.YtfgakoldedpfoaaDoorShRange
import Derived.Test.YtfgakoldedpfoaaDoorShMerge
import Derived.Deep.DeepCutAuto
namespace Go.Proofs.YtfgakoldedpfoaaDoor
open Go.RowKit
set_option linter.unusedVariables false
set_option linter.unusedSimpArgs false

def aT : T := tP false
def aR (n : Int) : List V := [⟨2, n, 0, []⟩, ⟨0, 0, 0, []⟩]
def aK (n : Int) : Nm.S := T.key ⟨[116], 1, aT.cs⟩ (aR n)
def aL (n : Int) : L := ⟨aK n, aR n⟩
def a1 : List L := putl [] (aL 3)
def a2 : List L := putl a1 (aL 1)
def a3 : List L := putl a2 (aL 2)
def a4 : List L := putl a3 (aL 2)
theorem aU0 : Rl.U 0 := ⟨by decide, by decide⟩
theorem aOk (n : Int) (h : -9223372036854775808 ≤ n ∧ n < 9223372036854775808) : ∀ x ∈ aR n, x.ok := by
  intro x hx
  simp [aR] at hx
  rcases hx with rfl | rfl
  · exact ⟨aU0, h.1, h.2⟩
  · exact ⟨aU0, by decide, by decide⟩
theorem aCs : ∀ c ∈ aT.cs, c.d.ok := by
  intro c hc
  simp [aT, tP] at hc
  rcases hc with rfl | rfl <;> exact ⟨aU0, by decide, by decide⟩
theorem aFit : ∀ n ∈ [(1 : Int), 2, 3], T.fit ⟨[116], 1, aT.cs⟩ (aR n) = 0 := by decide +kernel
theorem aCk : T.ck ⟨[116], 1, aT.cs⟩ = 0 := by decide +kernel
theorem b1 : isk [] (aK 3) = false := by decide +kernel
theorem b2 : isk a1 (aK 1) = false := by decide +kernel
theorem b3 : isk a2 (aK 2) = false := by decide +kernel
theorem b4 : isk a3 (aK 2) = true := by decide +kernel
theorem r0 : Ris ([] : List L) := List.Pairwise.nil
theorem r1 : Ris a1 := put_ris r0 _
theorem r2 : Ris a2 := put_ris r1 _
theorem r3 : Ris a3 := put_ris r2 _
theorem s0 : sck ⟨[116], 1, aT.cs⟩ [] = 0 := sck_of aCk (fun l hl => by cases hl) r0
theorem s1 : sck ⟨[116], 1, aT.cs⟩ a1 = 0 := sck_put s0 (aFit 3 (by decide))
theorem s2 : sck ⟨[116], 1, aT.cs⟩ a2 = 0 := sck_put s1 (aFit 1 (by decide))
theorem s3 : sck ⟨[116], 1, aT.cs⟩ a3 = 0 := sck_put s2 (aFit 2 (by decide))
theorem n3 : a3.length = 3 := by decide +kernel
theorem n4 : a4.length = 3 := by decide +kernel
theorem k3 : (a3[1]?).map L.k = some (aK 2) := by decide +kernel
theorem f3 : fnd a3 (aK 2) = 1 := by decide +kernel
theorem d3 : (dell a3 (aK 2)).length = 2 := by decide +kernel
theorem h3 : (a3[0]?).map L.k = some (aK 1) := by decide +kernel
theorem h4 : ((dell a3 (aK 2))[0]?).map L.k = some (aK 1) := by decide +kernel
theorem g3 : (rgl a3 (aK 2) [] 5).length = 2 := by decide +kernel
theorem m3 : mrg a3 (dell a3 (aK 2)) = ([], 15) := by
  have e1 := h3
  have e2 := h4
  revert e1 e2
  generalize a3 = x
  generalize dell x (aK 2) = y
  cases x with
  | nil => intro e1; simp at e1
  | cons u us =>
    cases y with
    | nil => intro _ e2; simp at e2
    | cons v vs =>
      intro e1 e2
      simp at e1 e2
      exact mrg_eq (e1.trans e2.symm)

theorem lrow_is (n : Int) (w : World) : Calls Tryd.prog 25 #[.int .i64 n] w fun e w' => ∃ g, e = .returned (.slice (some ⟨g, 0, none⟩) 2 2) ∧ Sl w' (some ⟨g, 0, none⟩) (aR n) ∧ Below w.heap.size w w' := by
  go_enter Tryd.func25, Tryd.ntmps25
  go_wp2
  go_ret
  refine ⟨_, rfl, ?_, below1 _ _⟩
  exact sl_pair (x := ⟨2, n, 0, []⟩) (y := ⟨0, 0, 0, []⟩) (Blk.new _ _ _)

/-- The example's sheet in its variable. -/
def AW (w : World) (G : Nat) (ls : List L) (wx : World) : Prop := Below w.heap.size w wx ∧ w.heap.size ≤ G ∧ ∃ vo vc lo' lc' zs', Blk wx G #[.string ⟨([116] : List UInt8).toArray⟩, .int .i64 1, .slice vo aT.cs.length vc, .slice lo' zs'.length lc'] 27 ∧ At3 wx ⟨[116], 1, aT.cs⟩ vo vc ∧ LS wx zs' lo' lc' ∧ lls zs' = ls
theorem AW.keep {w W W' : World} {G : Nat} {ls : List L} (h : AW w G ls W) (hb : Below W.heap.size W W') : AW w G ls W' := by
  obtain ⟨h1, h2, vo, vc, lo', lc', zs', h3, h4, h5, h6⟩ := h
  exact ⟨step0 h1 hb, h2, vo, vc, lo', lc', zs', h3.below hb, h4.keep hb, h5.below hb, h6⟩
theorem smal_of {zs : List LV} {ls : List L} (h : lls zs = ls) (hl : ls.length ≤ 100) (hr : ∀ l ∈ ls, l.r.length ≤ 30) : Smal aT.cs zs :=
  ⟨by decide, by rw [← lls_len, h]; exact hl, fun z hz => hr z.l (by rw [← h]; exact List.mem_map_of_mem hz)⟩
theorem q0 : ([] : List L).length ≤ 100 ∧ ∀ l ∈ ([] : List L), l.r.length ≤ 30 := by decide +kernel
theorem q1 : a1.length ≤ 100 ∧ ∀ l ∈ a1, l.r.length ≤ 30 := by decide +kernel
theorem q2 : a2.length ≤ 100 ∧ ∀ l ∈ a2, l.r.length ≤ 30 := by decide +kernel
theorem q3 : a3.length ≤ 100 ∧ ∀ l ∈ a3, l.r.length ≤ 30 := by decide +kernel
theorem SV.aw {b : Nat} {wx : World} {ls : List L} {v : Value} (h : SV b wx [116] 1 aT.cs ls v) : ∃ vo vc lo' lc' zs', v = .agg #[.string ⟨([116] : List UInt8).toArray⟩, .int .i64 1, .slice vo aT.cs.length vc, .slice lo' zs'.length lc'] ∧ TB b wx aT.cs vo vc ∧ LS wx zs' lo' lc' ∧ LB b zs' lo' ∧ lls zs' = ls := h

set_option maxRecDepth 1000000 in
set_option maxHeartbeats 4000000 in
theorem awake_s (w : World) (hg : Env w) : Calls Tryd.prog 8 #[] w fun e w' => e = .returned (.bool true) ∧ Below w.heap.size w w' := by
  have HG := Lib.hid hg
  clear hg
  go_enter Tryd.func8, Tryd.ntmps8
  go_wp2_with fail
  refine (plain_is _).mono ?_
  rintro e w1 ⟨g, rfl, hbl, _, hb⟩
  go_wp2_with fail
  obtain ⟨W2, hW2⟩ : ∃ W2, w1.alloc (.cells #[.string ⟨([116] : List UInt8).toArray⟩, .int .i64 1, .slice (some ⟨g, 0, none⟩) 2 2, .slice none 0 0] 27) = W2 := ⟨_, rfl⟩
  rw [hW2]
  have hA : AW w w1.heap.size [] W2 := ⟨hW2 ▸ hb.alloc hb.size _, hb.size, some ⟨g, 0, none⟩, 2, none, 0, [], hW2 ▸ Blk.new w1 _ _, ⟨slP (hW2 ▸ hbl.alloc _), by decide, aCs⟩, LS.nil _, rfl⟩
  have K0 := Lib.hid hA
  clear hbl hb hA hW2
  go_cut [2, 3] (fun sa sb wx => sa = .bool true ∧ sb = .int .i64 0 ∧ AW w w1.heap.size a1 wx)
  case first =>
    obtain ⟨vo, vc, lo', lc', zs', hB0, hT0, hL0, hl0⟩ := K0.out.2.2
    have X0 := Lib.hid (smal_of hl0 q0.1 q0.2)
    have HL := Lib.hid hl0
    have B0 := Lib.hid (And.intro hB0 (And.intro hT0 hL0))
    clear hB0 hT0 hL0 hl0
    refine wp_region_held_drew (S := fun _ => True) (by kernel_rfl) trivial (fun hH => ?_)
    clear hH
    refine wpAnyH_ready (rs := [0, 1]) (by kernel_rfl) (by simp) ?_
    refine AllReadyH.cons (o := _) rfl (fun K' hK => ?_) (AllReadyH.cons (o := _) rfl (fun K' hK => ?_) AllReadyH.nil)
    · obtain ⟨⟨c0, c1, c2, c3⟩, _⟩ := B0.out.1.s4
      go_simp
      refine hK.out _ _ trivial (fun _ => ?_)
      clear hK K' c0 c1 c2 c3
      try simp only [Act.put, List.getElem_toArray, List.getElem_cons_succ, List.getElem_cons_zero, List.setIfInBounds_toArray, List.set_cons_zero, List.set_cons_succ]
      refine wpAnyH_ready (rs := [1]) (by kernel_rfl) (by simp) ?_
      refine AllReadyH.cons (o := _) rfl (fun K' hK => ?_) AllReadyH.nil
      go_simp
      refine (lrow_is 3 _).mono ?_
      rintro e w5 ⟨g, rfl, hSl, hb⟩
      have hb5 : Below W2.heap.size W2 w5 := step0 (below_drew1 (Below.refl _ W2)) hb
      have B5 := Lib.hid (And.intro (step0 K0.out.1 hb5) (And.intro (B0.out.1.below hb5) (And.intro (B0.out.2.1.keep hb5) (And.intro (B0.out.2.2.below hb5) hSl))))
      clear hb hb5 hSl
      go_wp2_with fail
      refine hK.out _ _ trivial (fun _ => ?_)
      clear hK K'
      try simp only [Act.put, List.getElem_toArray, List.getElem_cons_succ, List.getElem_cons_zero, List.setIfInBounds_toArray, List.set_cons_zero, List.set_cons_succ]
      refine wpAnyH_ready (rs := [2]) (by kernel_rfl) (by simp) ?_
      refine AllReadyH.cons (o := _) rfl (fun K' hK => ?_) AllReadyH.nil
      go_simp
      refine (put_false [116] 1 aT.cs zs' vo lo' vc lc' (aR 3) (some ⟨g, 0, none⟩) 2 (aK 3) _ (HG.out.keep B5.out.1) B5.out.2.2.1 B5.out.2.2.2.1 X0.out B5.out.2.2.2.2 (by decide) (aOk 3 (by decide)) (by decide) (fun e => by cases e) (by rw [HL.out]; exact r0) (aFit 3 (by decide)) rfl (by rw [HL.out]; exact b1)).mono ?_
      rintro e w6 ⟨v, rfl, hSV, hb⟩
      rw [HL.out] at hSV
      obtain ⟨vo2, vc2, lo2, lc2, zs2, rfl, hTB, hLS, hLB, hls⟩ := hSV.aw
      have B6 := Lib.hid (And.intro (step0 B5.out.1 hb) (And.intro (B5.out.2.1.below hb) (And.intro hTB (And.intro hLS (And.intro hLB (And.intro hls B5.out.2.1.lt))))))
      clear hTB hLS hLB hls hb hSV
      go_wp2_with fail
      refine hK.out _ _ trivial (fun _ => ?_)
      clear hK K'
      try simp only [Act.put, List.getElem_toArray, List.getElem_cons_succ, List.getElem_cons_zero, List.setIfInBounds_toArray, List.set_cons_zero, List.set_cons_succ]
      refine wpAnyH_take (i := 3) (oi := _) (v := .tuple #[.agg #[.string ⟨([116] : List UInt8).toArray⟩, .int .i64 1, .slice vo2 aT.cs.length vc2, .slice lo2 zs2.length lc2], .bool true, .int .i64 0]) rfl (by kernel_rfl) (by kernel_rfl) (by kernel_rfl) (fun _ _ _ h => h) (Or.inl ⟨by rfl, by intro v hv; go_simp⟩) trivial ?_
      try simp only [Act.put, List.getElem_toArray, List.getElem_cons_succ, List.getElem_cons_zero, List.setIfInBounds_toArray, List.set_cons_zero, List.set_cons_succ]
      refine wpAnyH_take (i := 4) (oi := _) (v := .agg #[.string ⟨([116] : List UInt8).toArray⟩, .int .i64 1, .slice vo2 aT.cs.length vc2, .slice lo2 zs2.length lc2]) rfl (by kernel_rfl) (by kernel_rfl) (by kernel_rfl) (fun _ _ _ h => h) (Or.inl ⟨by rfl, by intro v hv; go_simp⟩) trivial ?_
      try simp only [Act.put, List.getElem_toArray, List.getElem_cons_succ, List.getElem_cons_zero, List.setIfInBounds_toArray, List.set_cons_zero, List.set_cons_succ]
      refine wpAnyH_take (i := 5) (oi := _) (v := .bool true) rfl (by kernel_rfl) (by kernel_rfl) (by kernel_rfl) (fun _ _ _ h => h) (Or.inl ⟨by rfl, by intro v hv; go_simp⟩) trivial ?_
      try simp only [Act.put, List.getElem_toArray, List.getElem_cons_succ, List.getElem_cons_zero, List.setIfInBounds_toArray, List.set_cons_zero, List.set_cons_succ]
      refine wpAnyH_take (i := 6) (oi := _) (v := .int .i64 0) rfl (by kernel_rfl) (by kernel_rfl) (by kernel_rfl) (fun _ _ _ h => h) (Or.inl ⟨by rfl, by intro v hv; go_simp⟩) trivial ?_
      try simp only [Act.put, List.getElem_toArray, List.getElem_cons_succ, List.getElem_cons_zero, List.setIfInBounds_toArray, List.set_cons_zero, List.set_cons_succ]
      obtain ⟨⟨d0, d1, d2, d3⟩, f0, f1, f2, f3⟩ := B6.out.2.1.s4
      refine wpAnyH_ready (rs := [7]) (by kernel_rfl) (by simp) ?_
      refine AllReadyH.cons (o := _) rfl (fun K' hK => ?_) AllReadyH.nil
      go_simp
      refine hK.out _ _ trivial (fun _ => ?_)
      clear hK K' d0 d1 d2 d3 f0 f1 f2 f3
      try simp only [Act.put, List.getElem_toArray, List.getElem_cons_succ, List.getElem_cons_zero, List.setIfInBounds_toArray, List.set_cons_zero, List.set_cons_succ]
      refine wpAnyH_take (i := 8) (oi := _) (v := .bool true) rfl (by kernel_rfl) (by kernel_rfl) (by kernel_rfl) (fun _ _ _ h => h) (Or.inl ⟨by rfl, by intro v hv; go_simp⟩) trivial ?_
      try simp only [Act.put, List.getElem_toArray, List.getElem_cons_succ, List.getElem_cons_zero, List.setIfInBounds_toArray, List.set_cons_zero, List.set_cons_succ]
      refine wpAnyH_take (i := 9) (oi := _) (v := .int .i64 0) rfl (by kernel_rfl) (by kernel_rfl) (by kernel_rfl) (fun _ _ _ h => h) (Or.inl ⟨by rfl, by intro v hv; go_simp⟩) trivial ?_
      try simp only [Act.put, List.getElem_toArray, List.getElem_cons_succ, List.getElem_cons_zero, List.setIfInBounds_toArray, List.set_cons_zero, List.set_cons_succ]
      refine wpAnyH_done (by kernel_rfl) ?_ _
      go_wp2_with fail
      go_meet
      refine ⟨rfl, rfl, below_st4 B6.out.1 K0.out.2.1 _ _ _ _, K0.out.2.1, vo2, vc2, lo2, lc2, zs2, B6.out.2.1.put4 _ _ _ _, TB.at3 (b := w5.heap.size) (OwC.off4 B6.out.2.2.1 B6.out.2.2.2.2.2.2 _ _ _ _) aCs, LS.off4 B6.out.2.2.2.1 B6.out.2.2.2.2.1 B6.out.2.2.2.2.2.2 _ _ _ _, B6.out.2.2.2.2.2.1⟩
    · go_simp
      refine (lrow_is 3 _).mono ?_
      rintro e w5 ⟨g, rfl, hSl, hb⟩
      have hb5 : Below W2.heap.size W2 w5 := step0 (below_drew1 (Below.refl _ W2)) hb
      have B5 := Lib.hid (And.intro (step0 K0.out.1 hb5) (And.intro (B0.out.1.below hb5) (And.intro (B0.out.2.1.keep hb5) (And.intro (B0.out.2.2.below hb5) hSl))))
      clear hb hb5 hSl
      go_wp2_with fail
      refine hK.out _ _ trivial (fun _ => ?_)
      clear hK K'
      try simp only [Act.put, List.getElem_toArray, List.getElem_cons_succ, List.getElem_cons_zero, List.setIfInBounds_toArray, List.set_cons_zero, List.set_cons_succ]
      refine wpAnyH_ready (rs := [0]) (by kernel_rfl) (by simp) ?_
      refine AllReadyH.cons (o := _) rfl (fun K' hK => ?_) AllReadyH.nil
      obtain ⟨⟨c0, c1, c2, c3⟩, _⟩ := B5.out.2.1.s4
      go_simp
      refine hK.out _ _ trivial (fun _ => ?_)
      clear hK K' c0 c1 c2 c3
      try simp only [Act.put, List.getElem_toArray, List.getElem_cons_succ, List.getElem_cons_zero, List.setIfInBounds_toArray, List.set_cons_zero, List.set_cons_succ]
      refine wpAnyH_ready (rs := [2]) (by kernel_rfl) (by simp) ?_
      refine AllReadyH.cons (o := _) rfl (fun K' hK => ?_) AllReadyH.nil
      go_simp
      refine (put_false [116] 1 aT.cs zs' vo lo' vc lc' (aR 3) (some ⟨g, 0, none⟩) 2 (aK 3) _ (HG.out.keep B5.out.1) B5.out.2.2.1 B5.out.2.2.2.1 X0.out B5.out.2.2.2.2 (by decide) (aOk 3 (by decide)) (by decide) (fun e => by cases e) (by rw [HL.out]; exact r0) (aFit 3 (by decide)) rfl (by rw [HL.out]; exact b1)).mono ?_
      rintro e w6 ⟨v, rfl, hSV, hb⟩
      rw [HL.out] at hSV
      obtain ⟨vo2, vc2, lo2, lc2, zs2, rfl, hTB, hLS, hLB, hls⟩ := hSV.aw
      have B6 := Lib.hid (And.intro (step0 B5.out.1 hb) (And.intro (B5.out.2.1.below hb) (And.intro hTB (And.intro hLS (And.intro hLB (And.intro hls B5.out.2.1.lt))))))
      clear hTB hLS hLB hls hb hSV
      go_wp2_with fail
      refine hK.out _ _ trivial (fun _ => ?_)
      clear hK K'
      try simp only [Act.put, List.getElem_toArray, List.getElem_cons_succ, List.getElem_cons_zero, List.setIfInBounds_toArray, List.set_cons_zero, List.set_cons_succ]
      refine wpAnyH_take (i := 3) (oi := _) (v := .tuple #[.agg #[.string ⟨([116] : List UInt8).toArray⟩, .int .i64 1, .slice vo2 aT.cs.length vc2, .slice lo2 zs2.length lc2], .bool true, .int .i64 0]) rfl (by kernel_rfl) (by kernel_rfl) (by kernel_rfl) (fun _ _ _ h => h) (Or.inl ⟨by rfl, by intro v hv; go_simp⟩) trivial ?_
      try simp only [Act.put, List.getElem_toArray, List.getElem_cons_succ, List.getElem_cons_zero, List.setIfInBounds_toArray, List.set_cons_zero, List.set_cons_succ]
      refine wpAnyH_take (i := 4) (oi := _) (v := .agg #[.string ⟨([116] : List UInt8).toArray⟩, .int .i64 1, .slice vo2 aT.cs.length vc2, .slice lo2 zs2.length lc2]) rfl (by kernel_rfl) (by kernel_rfl) (by kernel_rfl) (fun _ _ _ h => h) (Or.inl ⟨by rfl, by intro v hv; go_simp⟩) trivial ?_
      try simp only [Act.put, List.getElem_toArray, List.getElem_cons_succ, List.getElem_cons_zero, List.setIfInBounds_toArray, List.set_cons_zero, List.set_cons_succ]
      refine wpAnyH_take (i := 5) (oi := _) (v := .bool true) rfl (by kernel_rfl) (by kernel_rfl) (by kernel_rfl) (fun _ _ _ h => h) (Or.inl ⟨by rfl, by intro v hv; go_simp⟩) trivial ?_
      try simp only [Act.put, List.getElem_toArray, List.getElem_cons_succ, List.getElem_cons_zero, List.setIfInBounds_toArray, List.set_cons_zero, List.set_cons_succ]
      refine wpAnyH_take (i := 6) (oi := _) (v := .int .i64 0) rfl (by kernel_rfl) (by kernel_rfl) (by kernel_rfl) (fun _ _ _ h => h) (Or.inl ⟨by rfl, by intro v hv; go_simp⟩) trivial ?_
      try simp only [Act.put, List.getElem_toArray, List.getElem_cons_succ, List.getElem_cons_zero, List.setIfInBounds_toArray, List.set_cons_zero, List.set_cons_succ]
      obtain ⟨⟨d0, d1, d2, d3⟩, f0, f1, f2, f3⟩ := B6.out.2.1.s4
      refine wpAnyH_ready (rs := [7]) (by kernel_rfl) (by simp) ?_
      refine AllReadyH.cons (o := _) rfl (fun K' hK => ?_) AllReadyH.nil
      go_simp
      refine hK.out _ _ trivial (fun _ => ?_)
      clear hK K' d0 d1 d2 d3 f0 f1 f2 f3
      try simp only [Act.put, List.getElem_toArray, List.getElem_cons_succ, List.getElem_cons_zero, List.setIfInBounds_toArray, List.set_cons_zero, List.set_cons_succ]
      refine wpAnyH_take (i := 8) (oi := _) (v := .bool true) rfl (by kernel_rfl) (by kernel_rfl) (by kernel_rfl) (fun _ _ _ h => h) (Or.inl ⟨by rfl, by intro v hv; go_simp⟩) trivial ?_
      try simp only [Act.put, List.getElem_toArray, List.getElem_cons_succ, List.getElem_cons_zero, List.setIfInBounds_toArray, List.set_cons_zero, List.set_cons_succ]
      refine wpAnyH_take (i := 9) (oi := _) (v := .int .i64 0) rfl (by kernel_rfl) (by kernel_rfl) (by kernel_rfl) (fun _ _ _ h => h) (Or.inl ⟨by rfl, by intro v hv; go_simp⟩) trivial ?_
      try simp only [Act.put, List.getElem_toArray, List.getElem_cons_succ, List.getElem_cons_zero, List.setIfInBounds_toArray, List.set_cons_zero, List.set_cons_succ]
      refine wpAnyH_done (by kernel_rfl) ?_ _
      go_wp2_with fail
      go_meet
      refine ⟨rfl, rfl, below_st4 B6.out.1 K0.out.2.1 _ _ _ _, K0.out.2.1, vo2, vc2, lo2, lc2, zs2, B6.out.2.1.put4 _ _ _ _, TB.at3 (b := w5.heap.size) (OwC.off4 B6.out.2.2.1 B6.out.2.2.2.2.2.2 _ _ _ _) aCs, LS.off4 B6.out.2.2.2.1 B6.out.2.2.2.2.1 B6.out.2.2.2.2.2.2 _ _ _ _, B6.out.2.2.2.2.2.1⟩
  case rest =>
    obtain ⟨rfl, rfl, hA1⟩ := hcut
    rename World => W3
    have K1 := Lib.hid hA1
    clear hA1
    go_wp2_with fail
    go_cut [4, 5] (fun sa sb wx => sa = .bool true ∧ sb = .int .i64 0 ∧ AW w w1.heap.size a2 wx)
    case first =>
      obtain ⟨vo, vc, lo', lc', zs', hB0, hT0, hL0, hl0⟩ := K1.out.2.2
      have X0 := Lib.hid (smal_of hl0 q1.1 q1.2)
      have HL := Lib.hid hl0
      have B0 := Lib.hid (And.intro hB0 (And.intro hT0 hL0))
      clear hB0 hT0 hL0 hl0
      refine wp_region_held_drew (S := fun _ => True) (by kernel_rfl) trivial (fun hH => ?_)
      clear hH
      refine wpAnyH_ready (rs := [0, 1]) (by kernel_rfl) (by simp) ?_
      refine AllReadyH.cons (o := _) rfl (fun K' hK => ?_) (AllReadyH.cons (o := _) rfl (fun K' hK => ?_) AllReadyH.nil)
      · obtain ⟨⟨c0, c1, c2, c3⟩, _⟩ := B0.out.1.s4
        go_simp
        refine hK.out _ _ trivial (fun _ => ?_)
        clear hK K' c0 c1 c2 c3
        try simp only [Act.put, List.getElem_toArray, List.getElem_cons_succ, List.getElem_cons_zero, List.setIfInBounds_toArray, List.set_cons_zero, List.set_cons_succ]
        refine wpAnyH_ready (rs := [1]) (by kernel_rfl) (by simp) ?_
        refine AllReadyH.cons (o := _) rfl (fun K' hK => ?_) AllReadyH.nil
        go_simp
        refine (lrow_is 1 _).mono ?_
        rintro e w5 ⟨g, rfl, hSl, hb⟩
        have hb5 : Below W3.heap.size W3 w5 := step0 (below_drew1 (Below.refl _ W3)) hb
        have B5 := Lib.hid (And.intro (step0 K1.out.1 hb5) (And.intro (B0.out.1.below hb5) (And.intro (B0.out.2.1.keep hb5) (And.intro (B0.out.2.2.below hb5) hSl))))
        clear hb hb5 hSl
        go_wp2_with fail
        refine hK.out _ _ trivial (fun _ => ?_)
        clear hK K'
        try simp only [Act.put, List.getElem_toArray, List.getElem_cons_succ, List.getElem_cons_zero, List.setIfInBounds_toArray, List.set_cons_zero, List.set_cons_succ]
        refine wpAnyH_ready (rs := [2]) (by kernel_rfl) (by simp) ?_
        refine AllReadyH.cons (o := _) rfl (fun K' hK => ?_) AllReadyH.nil
        go_simp
        refine (put_false [116] 1 aT.cs zs' vo lo' vc lc' (aR 1) (some ⟨g, 0, none⟩) 2 (aK 1) _ (HG.out.keep B5.out.1) B5.out.2.2.1 B5.out.2.2.2.1 X0.out B5.out.2.2.2.2 (by decide) (aOk 1 (by decide)) (by decide) (fun e => by cases e) (by rw [HL.out]; exact r1) (aFit 1 (by decide)) rfl (by rw [HL.out]; exact b2)).mono ?_
        rintro e w6 ⟨v, rfl, hSV, hb⟩
        rw [HL.out] at hSV
        obtain ⟨vo2, vc2, lo2, lc2, zs2, rfl, hTB, hLS, hLB, hls⟩ := hSV.aw
        have B6 := Lib.hid (And.intro (step0 B5.out.1 hb) (And.intro (B5.out.2.1.below hb) (And.intro hTB (And.intro hLS (And.intro hLB (And.intro hls B5.out.2.1.lt))))))
        clear hTB hLS hLB hls hb hSV
        go_wp2_with fail
        refine hK.out _ _ trivial (fun _ => ?_)
        clear hK K'
        try simp only [Act.put, List.getElem_toArray, List.getElem_cons_succ, List.getElem_cons_zero, List.setIfInBounds_toArray, List.set_cons_zero, List.set_cons_succ]
        refine wpAnyH_take (i := 3) (oi := _) (v := .tuple #[.agg #[.string ⟨([116] : List UInt8).toArray⟩, .int .i64 1, .slice vo2 aT.cs.length vc2, .slice lo2 zs2.length lc2], .bool true, .int .i64 0]) rfl (by kernel_rfl) (by kernel_rfl) (by kernel_rfl) (fun _ _ _ h => h) (Or.inl ⟨by rfl, by intro v hv; go_simp⟩) trivial ?_
        try simp only [Act.put, List.getElem_toArray, List.getElem_cons_succ, List.getElem_cons_zero, List.setIfInBounds_toArray, List.set_cons_zero, List.set_cons_succ]
        refine wpAnyH_take (i := 4) (oi := _) (v := .agg #[.string ⟨([116] : List UInt8).toArray⟩, .int .i64 1, .slice vo2 aT.cs.length vc2, .slice lo2 zs2.length lc2]) rfl (by kernel_rfl) (by kernel_rfl) (by kernel_rfl) (fun _ _ _ h => h) (Or.inl ⟨by rfl, by intro v hv; go_simp⟩) trivial ?_
        try simp only [Act.put, List.getElem_toArray, List.getElem_cons_succ, List.getElem_cons_zero, List.setIfInBounds_toArray, List.set_cons_zero, List.set_cons_succ]
        refine wpAnyH_take (i := 5) (oi := _) (v := .bool true) rfl (by kernel_rfl) (by kernel_rfl) (by kernel_rfl) (fun _ _ _ h => h) (Or.inl ⟨by rfl, by intro v hv; go_simp⟩) trivial ?_
        try simp only [Act.put, List.getElem_toArray, List.getElem_cons_succ, List.getElem_cons_zero, List.setIfInBounds_toArray, List.set_cons_zero, List.set_cons_succ]
        refine wpAnyH_take (i := 6) (oi := _) (v := .int .i64 0) rfl (by kernel_rfl) (by kernel_rfl) (by kernel_rfl) (fun _ _ _ h => h) (Or.inl ⟨by rfl, by intro v hv; go_simp⟩) trivial ?_
        try simp only [Act.put, List.getElem_toArray, List.getElem_cons_succ, List.getElem_cons_zero, List.setIfInBounds_toArray, List.set_cons_zero, List.set_cons_succ]
        obtain ⟨⟨d0, d1, d2, d3⟩, f0, f1, f2, f3⟩ := B6.out.2.1.s4
        refine wpAnyH_ready (rs := [7]) (by kernel_rfl) (by simp) ?_
        refine AllReadyH.cons (o := _) rfl (fun K' hK => ?_) AllReadyH.nil
        go_simp
        refine hK.out _ _ trivial (fun _ => ?_)
        clear hK K' d0 d1 d2 d3 f0 f1 f2 f3
        try simp only [Act.put, List.getElem_toArray, List.getElem_cons_succ, List.getElem_cons_zero, List.setIfInBounds_toArray, List.set_cons_zero, List.set_cons_succ]
        refine wpAnyH_take (i := 8) (oi := _) (v := .bool true) rfl (by kernel_rfl) (by kernel_rfl) (by kernel_rfl) (fun _ _ _ h => h) (Or.inl ⟨by rfl, by intro v hv; go_simp⟩) trivial ?_
        try simp only [Act.put, List.getElem_toArray, List.getElem_cons_succ, List.getElem_cons_zero, List.setIfInBounds_toArray, List.set_cons_zero, List.set_cons_succ]
        refine wpAnyH_take (i := 9) (oi := _) (v := .int .i64 0) rfl (by kernel_rfl) (by kernel_rfl) (by kernel_rfl) (fun _ _ _ h => h) (Or.inl ⟨by rfl, by intro v hv; go_simp⟩) trivial ?_
        try simp only [Act.put, List.getElem_toArray, List.getElem_cons_succ, List.getElem_cons_zero, List.setIfInBounds_toArray, List.set_cons_zero, List.set_cons_succ]
        refine wpAnyH_done (by kernel_rfl) ?_ _
        go_wp2_with fail
        go_meet
        refine ⟨rfl, rfl, below_st4 B6.out.1 K1.out.2.1 _ _ _ _, K1.out.2.1, vo2, vc2, lo2, lc2, zs2, B6.out.2.1.put4 _ _ _ _, TB.at3 (b := w5.heap.size) (OwC.off4 B6.out.2.2.1 B6.out.2.2.2.2.2.2 _ _ _ _) aCs, LS.off4 B6.out.2.2.2.1 B6.out.2.2.2.2.1 B6.out.2.2.2.2.2.2 _ _ _ _, B6.out.2.2.2.2.2.1⟩
      · go_simp
        refine (lrow_is 1 _).mono ?_
        rintro e w5 ⟨g, rfl, hSl, hb⟩
        have hb5 : Below W3.heap.size W3 w5 := step0 (below_drew1 (Below.refl _ W3)) hb
        have B5 := Lib.hid (And.intro (step0 K1.out.1 hb5) (And.intro (B0.out.1.below hb5) (And.intro (B0.out.2.1.keep hb5) (And.intro (B0.out.2.2.below hb5) hSl))))
        clear hb hb5 hSl
        go_wp2_with fail
        refine hK.out _ _ trivial (fun _ => ?_)
        clear hK K'
        try simp only [Act.put, List.getElem_toArray, List.getElem_cons_succ, List.getElem_cons_zero, List.setIfInBounds_toArray, List.set_cons_zero, List.set_cons_succ]
        refine wpAnyH_ready (rs := [0]) (by kernel_rfl) (by simp) ?_
        refine AllReadyH.cons (o := _) rfl (fun K' hK => ?_) AllReadyH.nil
        obtain ⟨⟨c0, c1, c2, c3⟩, _⟩ := B5.out.2.1.s4
        go_simp
        refine hK.out _ _ trivial (fun _ => ?_)
        clear hK K' c0 c1 c2 c3
        try simp only [Act.put, List.getElem_toArray, List.getElem_cons_succ, List.getElem_cons_zero, List.setIfInBounds_toArray, List.set_cons_zero, List.set_cons_succ]
        refine wpAnyH_ready (rs := [2]) (by kernel_rfl) (by simp) ?_
        refine AllReadyH.cons (o := _) rfl (fun K' hK => ?_) AllReadyH.nil
        go_simp
        refine (put_false [116] 1 aT.cs zs' vo lo' vc lc' (aR 1) (some ⟨g, 0, none⟩) 2 (aK 1) _ (HG.out.keep B5.out.1) B5.out.2.2.1 B5.out.2.2.2.1 X0.out B5.out.2.2.2.2 (by decide) (aOk 1 (by decide)) (by decide) (fun e => by cases e) (by rw [HL.out]; exact r1) (aFit 1 (by decide)) rfl (by rw [HL.out]; exact b2)).mono ?_
        rintro e w6 ⟨v, rfl, hSV, hb⟩
        rw [HL.out] at hSV
        obtain ⟨vo2, vc2, lo2, lc2, zs2, rfl, hTB, hLS, hLB, hls⟩ := hSV.aw
        have B6 := Lib.hid (And.intro (step0 B5.out.1 hb) (And.intro (B5.out.2.1.below hb) (And.intro hTB (And.intro hLS (And.intro hLB (And.intro hls B5.out.2.1.lt))))))
        clear hTB hLS hLB hls hb hSV
        go_wp2_with fail
        refine hK.out _ _ trivial (fun _ => ?_)
        clear hK K'
        try simp only [Act.put, List.getElem_toArray, List.getElem_cons_succ, List.getElem_cons_zero, List.setIfInBounds_toArray, List.set_cons_zero, List.set_cons_succ]
        refine wpAnyH_take (i := 3) (oi := _) (v := .tuple #[.agg #[.string ⟨([116] : List UInt8).toArray⟩, .int .i64 1, .slice vo2 aT.cs.length vc2, .slice lo2 zs2.length lc2], .bool true, .int .i64 0]) rfl (by kernel_rfl) (by kernel_rfl) (by kernel_rfl) (fun _ _ _ h => h) (Or.inl ⟨by rfl, by intro v hv; go_simp⟩) trivial ?_
        try simp only [Act.put, List.getElem_toArray, List.getElem_cons_succ, List.getElem_cons_zero, List.setIfInBounds_toArray, List.set_cons_zero, List.set_cons_succ]
        refine wpAnyH_take (i := 4) (oi := _) (v := .agg #[.string ⟨([116] : List UInt8).toArray⟩, .int .i64 1, .slice vo2 aT.cs.length vc2, .slice lo2 zs2.length lc2]) rfl (by kernel_rfl) (by kernel_rfl) (by kernel_rfl) (fun _ _ _ h => h) (Or.inl ⟨by rfl, by intro v hv; go_simp⟩) trivial ?_
        try simp only [Act.put, List.getElem_toArray, List.getElem_cons_succ, List.getElem_cons_zero, List.setIfInBounds_toArray, List.set_cons_zero, List.set_cons_succ]
        refine wpAnyH_take (i := 5) (oi := _) (v := .bool true) rfl (by kernel_rfl) (by kernel_rfl) (by kernel_rfl) (fun _ _ _ h => h) (Or.inl ⟨by rfl, by intro v hv; go_simp⟩) trivial ?_
        try simp only [Act.put, List.getElem_toArray, List.getElem_cons_succ, List.getElem_cons_zero, List.setIfInBounds_toArray, List.set_cons_zero, List.set_cons_succ]
        refine wpAnyH_take (i := 6) (oi := _) (v := .int .i64 0) rfl (by kernel_rfl) (by kernel_rfl) (by kernel_rfl) (fun _ _ _ h => h) (Or.inl ⟨by rfl, by intro v hv; go_simp⟩) trivial ?_
        try simp only [Act.put, List.getElem_toArray, List.getElem_cons_succ, List.getElem_cons_zero, List.setIfInBounds_toArray, List.set_cons_zero, List.set_cons_succ]
        obtain ⟨⟨d0, d1, d2, d3⟩, f0, f1, f2, f3⟩ := B6.out.2.1.s4
        refine wpAnyH_ready (rs := [7]) (by kernel_rfl) (by simp) ?_
        refine AllReadyH.cons (o := _) rfl (fun K' hK => ?_) AllReadyH.nil
        go_simp
        refine hK.out _ _ trivial (fun _ => ?_)
        clear hK K' d0 d1 d2 d3 f0 f1 f2 f3
        try simp only [Act.put, List.getElem_toArray, List.getElem_cons_succ, List.getElem_cons_zero, List.setIfInBounds_toArray, List.set_cons_zero, List.set_cons_succ]
        refine wpAnyH_take (i := 8) (oi := _) (v := .bool true) rfl (by kernel_rfl) (by kernel_rfl) (by kernel_rfl) (fun _ _ _ h => h) (Or.inl ⟨by rfl, by intro v hv; go_simp⟩) trivial ?_
        try simp only [Act.put, List.getElem_toArray, List.getElem_cons_succ, List.getElem_cons_zero, List.setIfInBounds_toArray, List.set_cons_zero, List.set_cons_succ]
        refine wpAnyH_take (i := 9) (oi := _) (v := .int .i64 0) rfl (by kernel_rfl) (by kernel_rfl) (by kernel_rfl) (fun _ _ _ h => h) (Or.inl ⟨by rfl, by intro v hv; go_simp⟩) trivial ?_
        try simp only [Act.put, List.getElem_toArray, List.getElem_cons_succ, List.getElem_cons_zero, List.setIfInBounds_toArray, List.set_cons_zero, List.set_cons_succ]
        refine wpAnyH_done (by kernel_rfl) ?_ _
        go_wp2_with fail
        go_meet
        refine ⟨rfl, rfl, below_st4 B6.out.1 K1.out.2.1 _ _ _ _, K1.out.2.1, vo2, vc2, lo2, lc2, zs2, B6.out.2.1.put4 _ _ _ _, TB.at3 (b := w5.heap.size) (OwC.off4 B6.out.2.2.1 B6.out.2.2.2.2.2.2 _ _ _ _) aCs, LS.off4 B6.out.2.2.2.1 B6.out.2.2.2.2.1 B6.out.2.2.2.2.2.2 _ _ _ _, B6.out.2.2.2.2.2.1⟩
    case rest =>
      obtain ⟨rfl, rfl, hA1⟩ := hcut
      rename World => W4
      have K2 := Lib.hid hA1
      clear hA1
      go_wp2_with fail
      go_cut [6, 7] (fun sa sb wx => sa = .bool true ∧ sb = .int .i64 0 ∧ AW w w1.heap.size a3 wx)
      case first =>
        obtain ⟨vo, vc, lo', lc', zs', hB0, hT0, hL0, hl0⟩ := K2.out.2.2
        have X0 := Lib.hid (smal_of hl0 q2.1 q2.2)
        have HL := Lib.hid hl0
        have B0 := Lib.hid (And.intro hB0 (And.intro hT0 hL0))
        clear hB0 hT0 hL0 hl0
        refine wp_region_held_drew (S := fun _ => True) (by kernel_rfl) trivial (fun hH => ?_)
        clear hH
        refine wpAnyH_ready (rs := [0, 1]) (by kernel_rfl) (by simp) ?_
        refine AllReadyH.cons (o := _) rfl (fun K' hK => ?_) (AllReadyH.cons (o := _) rfl (fun K' hK => ?_) AllReadyH.nil)
        · obtain ⟨⟨c0, c1, c2, c3⟩, _⟩ := B0.out.1.s4
          go_simp
          refine hK.out _ _ trivial (fun _ => ?_)
          clear hK K' c0 c1 c2 c3
          try simp only [Act.put, List.getElem_toArray, List.getElem_cons_succ, List.getElem_cons_zero, List.setIfInBounds_toArray, List.set_cons_zero, List.set_cons_succ]
          refine wpAnyH_ready (rs := [1]) (by kernel_rfl) (by simp) ?_
          refine AllReadyH.cons (o := _) rfl (fun K' hK => ?_) AllReadyH.nil
          go_simp
          refine (lrow_is 2 _).mono ?_
          rintro e w5 ⟨g, rfl, hSl, hb⟩
          have hb5 : Below W4.heap.size W4 w5 := step0 (below_drew1 (Below.refl _ W4)) hb
          have B5 := Lib.hid (And.intro (step0 K2.out.1 hb5) (And.intro (B0.out.1.below hb5) (And.intro (B0.out.2.1.keep hb5) (And.intro (B0.out.2.2.below hb5) hSl))))
          clear hb hb5 hSl
          go_wp2_with fail
          refine hK.out _ _ trivial (fun _ => ?_)
          clear hK K'
          try simp only [Act.put, List.getElem_toArray, List.getElem_cons_succ, List.getElem_cons_zero, List.setIfInBounds_toArray, List.set_cons_zero, List.set_cons_succ]
          refine wpAnyH_ready (rs := [2]) (by kernel_rfl) (by simp) ?_
          refine AllReadyH.cons (o := _) rfl (fun K' hK => ?_) AllReadyH.nil
          go_simp
          refine (put_false [116] 1 aT.cs zs' vo lo' vc lc' (aR 2) (some ⟨g, 0, none⟩) 2 (aK 2) _ (HG.out.keep B5.out.1) B5.out.2.2.1 B5.out.2.2.2.1 X0.out B5.out.2.2.2.2 (by decide) (aOk 2 (by decide)) (by decide) (fun e => by cases e) (by rw [HL.out]; exact r2) (aFit 2 (by decide)) rfl (by rw [HL.out]; exact b3)).mono ?_
          rintro e w6 ⟨v, rfl, hSV, hb⟩
          rw [HL.out] at hSV
          obtain ⟨vo2, vc2, lo2, lc2, zs2, rfl, hTB, hLS, hLB, hls⟩ := hSV.aw
          have B6 := Lib.hid (And.intro (step0 B5.out.1 hb) (And.intro (B5.out.2.1.below hb) (And.intro hTB (And.intro hLS (And.intro hLB (And.intro hls B5.out.2.1.lt))))))
          clear hTB hLS hLB hls hb hSV
          go_wp2_with fail
          refine hK.out _ _ trivial (fun _ => ?_)
          clear hK K'
          try simp only [Act.put, List.getElem_toArray, List.getElem_cons_succ, List.getElem_cons_zero, List.setIfInBounds_toArray, List.set_cons_zero, List.set_cons_succ]
          refine wpAnyH_take (i := 3) (oi := _) (v := .tuple #[.agg #[.string ⟨([116] : List UInt8).toArray⟩, .int .i64 1, .slice vo2 aT.cs.length vc2, .slice lo2 zs2.length lc2], .bool true, .int .i64 0]) rfl (by kernel_rfl) (by kernel_rfl) (by kernel_rfl) (fun _ _ _ h => h) (Or.inl ⟨by rfl, by intro v hv; go_simp⟩) trivial ?_
          try simp only [Act.put, List.getElem_toArray, List.getElem_cons_succ, List.getElem_cons_zero, List.setIfInBounds_toArray, List.set_cons_zero, List.set_cons_succ]
          refine wpAnyH_take (i := 4) (oi := _) (v := .agg #[.string ⟨([116] : List UInt8).toArray⟩, .int .i64 1, .slice vo2 aT.cs.length vc2, .slice lo2 zs2.length lc2]) rfl (by kernel_rfl) (by kernel_rfl) (by kernel_rfl) (fun _ _ _ h => h) (Or.inl ⟨by rfl, by intro v hv; go_simp⟩) trivial ?_
          try simp only [Act.put, List.getElem_toArray, List.getElem_cons_succ, List.getElem_cons_zero, List.setIfInBounds_toArray, List.set_cons_zero, List.set_cons_succ]
          refine wpAnyH_take (i := 5) (oi := _) (v := .bool true) rfl (by kernel_rfl) (by kernel_rfl) (by kernel_rfl) (fun _ _ _ h => h) (Or.inl ⟨by rfl, by intro v hv; go_simp⟩) trivial ?_
          try simp only [Act.put, List.getElem_toArray, List.getElem_cons_succ, List.getElem_cons_zero, List.setIfInBounds_toArray, List.set_cons_zero, List.set_cons_succ]
          refine wpAnyH_take (i := 6) (oi := _) (v := .int .i64 0) rfl (by kernel_rfl) (by kernel_rfl) (by kernel_rfl) (fun _ _ _ h => h) (Or.inl ⟨by rfl, by intro v hv; go_simp⟩) trivial ?_
          try simp only [Act.put, List.getElem_toArray, List.getElem_cons_succ, List.getElem_cons_zero, List.setIfInBounds_toArray, List.set_cons_zero, List.set_cons_succ]
          obtain ⟨⟨d0, d1, d2, d3⟩, f0, f1, f2, f3⟩ := B6.out.2.1.s4
          refine wpAnyH_ready (rs := [7]) (by kernel_rfl) (by simp) ?_
          refine AllReadyH.cons (o := _) rfl (fun K' hK => ?_) AllReadyH.nil
          go_simp
          refine hK.out _ _ trivial (fun _ => ?_)
          clear hK K' d0 d1 d2 d3 f0 f1 f2 f3
          try simp only [Act.put, List.getElem_toArray, List.getElem_cons_succ, List.getElem_cons_zero, List.setIfInBounds_toArray, List.set_cons_zero, List.set_cons_succ]
          refine wpAnyH_take (i := 8) (oi := _) (v := .bool true) rfl (by kernel_rfl) (by kernel_rfl) (by kernel_rfl) (fun _ _ _ h => h) (Or.inl ⟨by rfl, by intro v hv; go_simp⟩) trivial ?_
          try simp only [Act.put, List.getElem_toArray, List.getElem_cons_succ, List.getElem_cons_zero, List.setIfInBounds_toArray, List.set_cons_zero, List.set_cons_succ]
          refine wpAnyH_take (i := 9) (oi := _) (v := .int .i64 0) rfl (by kernel_rfl) (by kernel_rfl) (by kernel_rfl) (fun _ _ _ h => h) (Or.inl ⟨by rfl, by intro v hv; go_simp⟩) trivial ?_
          try simp only [Act.put, List.getElem_toArray, List.getElem_cons_succ, List.getElem_cons_zero, List.setIfInBounds_toArray, List.set_cons_zero, List.set_cons_succ]
          refine wpAnyH_done (by kernel_rfl) ?_ _
          go_wp2_with fail
          go_meet
          refine ⟨rfl, rfl, below_st4 B6.out.1 K2.out.2.1 _ _ _ _, K2.out.2.1, vo2, vc2, lo2, lc2, zs2, B6.out.2.1.put4 _ _ _ _, TB.at3 (b := w5.heap.size) (OwC.off4 B6.out.2.2.1 B6.out.2.2.2.2.2.2 _ _ _ _) aCs, LS.off4 B6.out.2.2.2.1 B6.out.2.2.2.2.1 B6.out.2.2.2.2.2.2 _ _ _ _, B6.out.2.2.2.2.2.1⟩
        · go_simp
          refine (lrow_is 2 _).mono ?_
          rintro e w5 ⟨g, rfl, hSl, hb⟩
          have hb5 : Below W4.heap.size W4 w5 := step0 (below_drew1 (Below.refl _ W4)) hb
          have B5 := Lib.hid (And.intro (step0 K2.out.1 hb5) (And.intro (B0.out.1.below hb5) (And.intro (B0.out.2.1.keep hb5) (And.intro (B0.out.2.2.below hb5) hSl))))
          clear hb hb5 hSl
          go_wp2_with fail
          refine hK.out _ _ trivial (fun _ => ?_)
          clear hK K'
          try simp only [Act.put, List.getElem_toArray, List.getElem_cons_succ, List.getElem_cons_zero, List.setIfInBounds_toArray, List.set_cons_zero, List.set_cons_succ]
          refine wpAnyH_ready (rs := [0]) (by kernel_rfl) (by simp) ?_
          refine AllReadyH.cons (o := _) rfl (fun K' hK => ?_) AllReadyH.nil
          obtain ⟨⟨c0, c1, c2, c3⟩, _⟩ := B5.out.2.1.s4
          go_simp
          refine hK.out _ _ trivial (fun _ => ?_)
          clear hK K' c0 c1 c2 c3
          try simp only [Act.put, List.getElem_toArray, List.getElem_cons_succ, List.getElem_cons_zero, List.setIfInBounds_toArray, List.set_cons_zero, List.set_cons_succ]
          refine wpAnyH_ready (rs := [2]) (by kernel_rfl) (by simp) ?_
          refine AllReadyH.cons (o := _) rfl (fun K' hK => ?_) AllReadyH.nil
          go_simp
          refine (put_false [116] 1 aT.cs zs' vo lo' vc lc' (aR 2) (some ⟨g, 0, none⟩) 2 (aK 2) _ (HG.out.keep B5.out.1) B5.out.2.2.1 B5.out.2.2.2.1 X0.out B5.out.2.2.2.2 (by decide) (aOk 2 (by decide)) (by decide) (fun e => by cases e) (by rw [HL.out]; exact r2) (aFit 2 (by decide)) rfl (by rw [HL.out]; exact b3)).mono ?_
          rintro e w6 ⟨v, rfl, hSV, hb⟩
          rw [HL.out] at hSV
          obtain ⟨vo2, vc2, lo2, lc2, zs2, rfl, hTB, hLS, hLB, hls⟩ := hSV.aw
          have B6 := Lib.hid (And.intro (step0 B5.out.1 hb) (And.intro (B5.out.2.1.below hb) (And.intro hTB (And.intro hLS (And.intro hLB (And.intro hls B5.out.2.1.lt))))))
          clear hTB hLS hLB hls hb hSV
          go_wp2_with fail
          refine hK.out _ _ trivial (fun _ => ?_)
          clear hK K'
          try simp only [Act.put, List.getElem_toArray, List.getElem_cons_succ, List.getElem_cons_zero, List.setIfInBounds_toArray, List.set_cons_zero, List.set_cons_succ]
          refine wpAnyH_take (i := 3) (oi := _) (v := .tuple #[.agg #[.string ⟨([116] : List UInt8).toArray⟩, .int .i64 1, .slice vo2 aT.cs.length vc2, .slice lo2 zs2.length lc2], .bool true, .int .i64 0]) rfl (by kernel_rfl) (by kernel_rfl) (by kernel_rfl) (fun _ _ _ h => h) (Or.inl ⟨by rfl, by intro v hv; go_simp⟩) trivial ?_
          try simp only [Act.put, List.getElem_toArray, List.getElem_cons_succ, List.getElem_cons_zero, List.setIfInBounds_toArray, List.set_cons_zero, List.set_cons_succ]
          refine wpAnyH_take (i := 4) (oi := _) (v := .agg #[.string ⟨([116] : List UInt8).toArray⟩, .int .i64 1, .slice vo2 aT.cs.length vc2, .slice lo2 zs2.length lc2]) rfl (by kernel_rfl) (by kernel_rfl) (by kernel_rfl) (fun _ _ _ h => h) (Or.inl ⟨by rfl, by intro v hv; go_simp⟩) trivial ?_
          try simp only [Act.put, List.getElem_toArray, List.getElem_cons_succ, List.getElem_cons_zero, List.setIfInBounds_toArray, List.set_cons_zero, List.set_cons_succ]
          refine wpAnyH_take (i := 5) (oi := _) (v := .bool true) rfl (by kernel_rfl) (by kernel_rfl) (by kernel_rfl) (fun _ _ _ h => h) (Or.inl ⟨by rfl, by intro v hv; go_simp⟩) trivial ?_
          try simp only [Act.put, List.getElem_toArray, List.getElem_cons_succ, List.getElem_cons_zero, List.setIfInBounds_toArray, List.set_cons_zero, List.set_cons_succ]
          refine wpAnyH_take (i := 6) (oi := _) (v := .int .i64 0) rfl (by kernel_rfl) (by kernel_rfl) (by kernel_rfl) (fun _ _ _ h => h) (Or.inl ⟨by rfl, by intro v hv; go_simp⟩) trivial ?_
          try simp only [Act.put, List.getElem_toArray, List.getElem_cons_succ, List.getElem_cons_zero, List.setIfInBounds_toArray, List.set_cons_zero, List.set_cons_succ]
          obtain ⟨⟨d0, d1, d2, d3⟩, f0, f1, f2, f3⟩ := B6.out.2.1.s4
          refine wpAnyH_ready (rs := [7]) (by kernel_rfl) (by simp) ?_
          refine AllReadyH.cons (o := _) rfl (fun K' hK => ?_) AllReadyH.nil
          go_simp
          refine hK.out _ _ trivial (fun _ => ?_)
          clear hK K' d0 d1 d2 d3 f0 f1 f2 f3
          try simp only [Act.put, List.getElem_toArray, List.getElem_cons_succ, List.getElem_cons_zero, List.setIfInBounds_toArray, List.set_cons_zero, List.set_cons_succ]
          refine wpAnyH_take (i := 8) (oi := _) (v := .bool true) rfl (by kernel_rfl) (by kernel_rfl) (by kernel_rfl) (fun _ _ _ h => h) (Or.inl ⟨by rfl, by intro v hv; go_simp⟩) trivial ?_
          try simp only [Act.put, List.getElem_toArray, List.getElem_cons_succ, List.getElem_cons_zero, List.setIfInBounds_toArray, List.set_cons_zero, List.set_cons_succ]
          refine wpAnyH_take (i := 9) (oi := _) (v := .int .i64 0) rfl (by kernel_rfl) (by kernel_rfl) (by kernel_rfl) (fun _ _ _ h => h) (Or.inl ⟨by rfl, by intro v hv; go_simp⟩) trivial ?_
          try simp only [Act.put, List.getElem_toArray, List.getElem_cons_succ, List.getElem_cons_zero, List.setIfInBounds_toArray, List.set_cons_zero, List.set_cons_succ]
          refine wpAnyH_done (by kernel_rfl) ?_ _
          go_wp2_with fail
          go_meet
          refine ⟨rfl, rfl, below_st4 B6.out.1 K2.out.2.1 _ _ _ _, K2.out.2.1, vo2, vc2, lo2, lc2, zs2, B6.out.2.1.put4 _ _ _ _, TB.at3 (b := w5.heap.size) (OwC.off4 B6.out.2.2.1 B6.out.2.2.2.2.2.2 _ _ _ _) aCs, LS.off4 B6.out.2.2.2.1 B6.out.2.2.2.2.1 B6.out.2.2.2.2.2.2 _ _ _ _, B6.out.2.2.2.2.2.1⟩
      case rest =>
        obtain ⟨rfl, rfl, hA1⟩ := hcut
        rename World => W5
        have K3 := Lib.hid hA1
        clear hA1
        go_wp2_with fail
        go_cut [8, 9, 10] (fun su sa sb wx => ∃ gu, su = .pointer (some ⟨gu, 0, none⟩) ∧ sa = .bool false ∧ sb = .int .i64 0 ∧ AW w w1.heap.size a3 wx ∧ ∃ u0 u1 u2 u3 n u4, Blk wx gu #[u0, u1, u2, .slice u3 n u4] 27 ∧ n = 3)
        case first =>
          obtain ⟨vo, vc, lo', lc', zs', hB0, hT0, hL0, hl0⟩ := K3.out.2.2
          have X0 := Lib.hid (smal_of hl0 q3.1 q3.2)
          have HL := Lib.hid hl0
          have B0 := Lib.hid (And.intro hB0 (And.intro hT0 hL0))
          clear hB0 hT0 hL0 hl0
          refine wp_region_held_drew (S := fun v => v.cell? ⟨w1.heap.size, 0, none⟩ = some (.string ⟨([116] : List UInt8).toArray⟩) ∧ v.cell? ⟨w1.heap.size, 1, none⟩ = some (.int .i64 1) ∧ v.cell? ⟨w1.heap.size, 2, none⟩ = some (.slice vo aT.cs.length vc) ∧ v.cell? ⟨w1.heap.size, 3, none⟩ = some (.slice lo' zs'.length lc')) (by kernel_rfl) B0.out.1.s4.1 (fun hH => ?_)
          refine wpAnyH_take (i := 0) (oi := _) (v := .agg #[.string ⟨([116] : List UInt8).toArray⟩, .int .i64 1, .slice vo aT.cs.length vc, .slice lo' zs'.length lc']) rfl (by kernel_rfl) (by kernel_rfl) (by kernel_rfl) (fun _ _ _ h => h) (Or.inl ⟨by rfl, by intro v hv; obtain ⟨c0, c1, c2, c3⟩ := hv; go_simp⟩) hH ?_
          try simp only [Act.put, List.getElem_toArray, List.getElem_cons_succ, List.getElem_cons_zero, List.setIfInBounds_toArray, List.set_cons_zero, List.set_cons_succ]
          refine wpAnyH_ready (rs := [1, 7]) (by kernel_rfl) (by simp) ?_
          refine AllReadyH.cons (o := _) rfl (fun K' hK => ?_) (AllReadyH.cons (o := _) rfl (fun K' hK => ?_) AllReadyH.nil)
          · clear hH
            go_simp
            refine (lrow_is 2 _).mono ?_
            rintro e w5 ⟨g, rfl, hSl, hb⟩
            have hW5 := Lib.hid (show Below W5.heap.size W5 w5 from step0 (below_drew1 (Below.refl _ W5)) hb)
            have hB5 := Lib.hid (B0.out.1.below hW5.out)
            have hSL := Lib.hid hSl
            clear hb hSl
            go_wp2_with fail
            refine hK.out _ _ hB5.out.s4.1 (fun hH => ?_)
            clear hK K'
            try simp only [Act.put, List.getElem_toArray, List.getElem_cons_succ, List.getElem_cons_zero, List.setIfInBounds_toArray, List.set_cons_zero, List.set_cons_succ]
            refine wpAnyH_ready (rs := [2, 7]) (by kernel_rfl) (by simp) ?_
            refine AllReadyH.cons (o := _) rfl (fun K' hK => ?_) (AllReadyH.cons (o := _) rfl (fun K' hK => ?_) AllReadyH.nil)
            · clear hH
              go_simp
              refine (put_true [116] 1 aT.cs zs' vo lo' vc lc' (aR 2) (some ⟨g, 0, none⟩) 2 (aK 2) _ (HG.out.keep (K3.out.1.trans ((hW5.out.trans ((Below.refl _ w5).mono hW5.out.size)).mono K3.out.1.size))) ((B0.out.2.1.keep hW5.out).keep (Below.refl _ w5)) ((B0.out.2.2.below hW5.out).below (Below.refl _ w5)) X0.out (hSL.out.below (Below.refl _ w5)) (by decide) (aOk 2 (by decide)) (by decide) (fun e => by cases e) (by rw [HL.out]; exact r3) (aFit 2 (by decide)) rfl (by rw [HL.out]; exact b4)).mono ?_
              rintro e w6 ⟨v, rfl, hSV, hb⟩
              rw [HL.out] at hSV
              obtain ⟨vo2, vc2, lo2, lc2, zs2, rfl, _, _, _, hls⟩ := hSV.aw
              have HZ2 := Lib.hid (show zs2.length = 3 by rw [← lls_len, hls]; exact n4)
              have hW6 := Lib.hid (show Below W5.heap.size W5 w6 from step0 hW5.out hb)
              have hB6 := Lib.hid (B0.out.1.below hW6.out)
              clear hb hSV hls
              go_wp2_with fail
              refine hK.out _ _ hB6.out.s4.1 (fun hH => ?_)
              clear hK K'
              try simp only [Act.put, List.getElem_toArray, List.getElem_cons_succ, List.getElem_cons_zero, List.setIfInBounds_toArray, List.set_cons_zero, List.set_cons_succ]
              refine wpAnyH_take (i := 3) (oi := _) (v := .tuple #[.agg #[.string ⟨([116] : List UInt8).toArray⟩, .int .i64 1, .slice vo2 aT.cs.length vc2, .slice lo2 zs2.length lc2], .bool false, .int .i64 0]) rfl (by kernel_rfl) (by kernel_rfl) (by kernel_rfl) (fun _ _ _ h => h) (Or.inl ⟨by rfl, by intro v hv; go_simp⟩) hH ?_
              try simp only [Act.put, List.getElem_toArray, List.getElem_cons_succ, List.getElem_cons_zero, List.setIfInBounds_toArray, List.set_cons_zero, List.set_cons_succ]
              refine wpAnyH_take (i := 4) (oi := _) (v := .agg #[.string ⟨([116] : List UInt8).toArray⟩, .int .i64 1, .slice vo2 aT.cs.length vc2, .slice lo2 zs2.length lc2]) rfl (by kernel_rfl) (by kernel_rfl) (by kernel_rfl) (fun _ _ _ h => h) (Or.inl ⟨by rfl, by intro v hv; go_simp⟩) hH ?_
              try simp only [Act.put, List.getElem_toArray, List.getElem_cons_succ, List.getElem_cons_zero, List.setIfInBounds_toArray, List.set_cons_zero, List.set_cons_succ]
              refine wpAnyH_take (i := 5) (oi := _) (v := .bool false) rfl (by kernel_rfl) (by kernel_rfl) (by kernel_rfl) (fun _ _ _ h => h) (Or.inl ⟨by rfl, by intro v hv; go_simp⟩) hH ?_
              try simp only [Act.put, List.getElem_toArray, List.getElem_cons_succ, List.getElem_cons_zero, List.setIfInBounds_toArray, List.set_cons_zero, List.set_cons_succ]
              refine wpAnyH_take (i := 6) (oi := _) (v := .int .i64 0) rfl (by kernel_rfl) (by kernel_rfl) (by kernel_rfl) (fun _ _ _ h => h) (Or.inl ⟨by rfl, by intro v hv; go_simp⟩) hH ?_
              try simp only [Act.put, List.getElem_toArray, List.getElem_cons_succ, List.getElem_cons_zero, List.setIfInBounds_toArray, List.set_cons_zero, List.set_cons_succ]
              refine wpAnyH_ready (rs := [7]) (by kernel_rfl) (by simp) ?_
              refine AllReadyH.cons (o := _) rfl (fun K' hK => ?_) AllReadyH.nil
              clear hH
              go_simp
              refine hK.out _ _ (hB6.out.alloc _).s4.1 (fun hH => ?_)
              clear hK K'
              try simp only [Act.put, List.getElem_toArray, List.getElem_cons_succ, List.getElem_cons_zero, List.setIfInBounds_toArray, List.set_cons_zero, List.set_cons_succ]
              have zz := Blk.new w6 #[.string ⟨#[]⟩, .int .i64 0, .slice none 0 0, .slice none 0 0] 27
              obtain ⟨⟨d0, d1, d2, d3⟩, f0, f1, f2, f3⟩ := zz.s4
              refine wpAnyH_ready (rs := [8]) (by kernel_rfl) (by simp) ?_
              refine AllReadyH.cons (o := _) rfl (fun K' hK => ?_) AllReadyH.nil
              go_simp
              refine hK.out _ _ (hB6.out.alloc _).s4.1 (fun hH => ?_)
              clear hK K'
              try simp only [Act.put, List.getElem_toArray, List.getElem_cons_succ, List.getElem_cons_zero, List.setIfInBounds_toArray, List.set_cons_zero, List.set_cons_succ]
              clear d0 d1 d2 d3 f0 f1 f2 f3
              refine wpAnyH_take (i := 9) (oi := _) (v := .bool false) rfl (by kernel_rfl) (by kernel_rfl) (by kernel_rfl) (fun _ _ _ h => h) (Or.inl ⟨by rfl, by intro v hv; go_simp⟩) hH ?_
              try simp only [Act.put, List.getElem_toArray, List.getElem_cons_succ, List.getElem_cons_zero, List.setIfInBounds_toArray, List.set_cons_zero, List.set_cons_succ]
              refine wpAnyH_take (i := 10) (oi := _) (v := .int .i64 0) rfl (by kernel_rfl) (by kernel_rfl) (by kernel_rfl) (fun _ _ _ h => h) (Or.inl ⟨by rfl, by intro v hv; go_simp⟩) hH ?_
              try simp only [Act.put, List.getElem_toArray, List.getElem_cons_succ, List.getElem_cons_zero, List.setIfInBounds_toArray, List.set_cons_zero, List.set_cons_succ]
              refine wpAnyH_done (by kernel_rfl) ?_ _
              clear hH
              go_wp2_with fail
              go_meet
              exact ⟨_, rfl, rfl, rfl, AW.keep K3.out (hW6.out.alloc hW6.out.size _), _, _, _, _, _, _, Blk.new w6 #[.string ⟨([116] : List UInt8).toArray⟩, .int .i64 1, .slice vo2 aT.cs.length vc2, .slice lo2 zs2.length lc2] 27, HZ2.out⟩
            · clear hH
              go_simp
              refine hK.out _ _ (hB5.out.alloc _).s4.1 (fun hH => ?_)
              clear hK K'
              try simp only [Act.put, List.getElem_toArray, List.getElem_cons_succ, List.getElem_cons_zero, List.setIfInBounds_toArray, List.set_cons_zero, List.set_cons_succ]
              refine wpAnyH_ready (rs := [2]) (by kernel_rfl) (by simp) ?_
              refine AllReadyH.cons (o := _) rfl (fun K' hK => ?_) AllReadyH.nil
              clear hH
              go_simp
              refine (put_true [116] 1 aT.cs zs' vo lo' vc lc' (aR 2) (some ⟨g, 0, none⟩) 2 (aK 2) _ (HG.out.keep (K3.out.1.trans ((hW5.out.trans ((below1 w5 _).mono hW5.out.size)).mono K3.out.1.size))) ((B0.out.2.1.keep hW5.out).keep (below1 w5 _)) ((B0.out.2.2.below hW5.out).below (below1 w5 _)) X0.out (hSL.out.below (below1 w5 _)) (by decide) (aOk 2 (by decide)) (by decide) (fun e => by cases e) (by rw [HL.out]; exact r3) (aFit 2 (by decide)) rfl (by rw [HL.out]; exact b4)).mono ?_
              rintro e w6 ⟨v, rfl, hSV, hb⟩
              rw [HL.out] at hSV
              obtain ⟨vo2, vc2, lo2, lc2, zs2, rfl, _, _, _, hls⟩ := hSV.aw
              have HZ2 := Lib.hid (show zs2.length = 3 by rw [← lls_len, hls]; exact n4)
              have hW6 := Lib.hid (show Below W5.heap.size W5 w6 from step0 hW5.out (step0 (below1 w5 _) hb))
              have z6 := Lib.hid ((Blk.new w5 #[.string ⟨#[]⟩, .int .i64 0, .slice none 0 0, .slice none 0 0] 27).below hb)
              have hB6 := Lib.hid (B0.out.1.below hW6.out)
              clear hb hSV hls
              go_wp2_with fail
              refine hK.out _ _ hB6.out.s4.1 (fun hH => ?_)
              clear hK K'
              try simp only [Act.put, List.getElem_toArray, List.getElem_cons_succ, List.getElem_cons_zero, List.setIfInBounds_toArray, List.set_cons_zero, List.set_cons_succ]
              refine wpAnyH_take (i := 3) (oi := _) (v := .tuple #[.agg #[.string ⟨([116] : List UInt8).toArray⟩, .int .i64 1, .slice vo2 aT.cs.length vc2, .slice lo2 zs2.length lc2], .bool false, .int .i64 0]) rfl (by kernel_rfl) (by kernel_rfl) (by kernel_rfl) (fun _ _ _ h => h) (Or.inl ⟨by rfl, by intro v hv; go_simp⟩) hH ?_
              try simp only [Act.put, List.getElem_toArray, List.getElem_cons_succ, List.getElem_cons_zero, List.setIfInBounds_toArray, List.set_cons_zero, List.set_cons_succ]
              refine wpAnyH_take (i := 4) (oi := _) (v := .agg #[.string ⟨([116] : List UInt8).toArray⟩, .int .i64 1, .slice vo2 aT.cs.length vc2, .slice lo2 zs2.length lc2]) rfl (by kernel_rfl) (by kernel_rfl) (by kernel_rfl) (fun _ _ _ h => h) (Or.inl ⟨by rfl, by intro v hv; go_simp⟩) hH ?_
              try simp only [Act.put, List.getElem_toArray, List.getElem_cons_succ, List.getElem_cons_zero, List.setIfInBounds_toArray, List.set_cons_zero, List.set_cons_succ]
              refine wpAnyH_take (i := 5) (oi := _) (v := .bool false) rfl (by kernel_rfl) (by kernel_rfl) (by kernel_rfl) (fun _ _ _ h => h) (Or.inl ⟨by rfl, by intro v hv; go_simp⟩) hH ?_
              try simp only [Act.put, List.getElem_toArray, List.getElem_cons_succ, List.getElem_cons_zero, List.setIfInBounds_toArray, List.set_cons_zero, List.set_cons_succ]
              refine wpAnyH_take (i := 6) (oi := _) (v := .int .i64 0) rfl (by kernel_rfl) (by kernel_rfl) (by kernel_rfl) (fun _ _ _ h => h) (Or.inl ⟨by rfl, by intro v hv; go_simp⟩) hH ?_
              try simp only [Act.put, List.getElem_toArray, List.getElem_cons_succ, List.getElem_cons_zero, List.setIfInBounds_toArray, List.set_cons_zero, List.set_cons_succ]
              have zz := z6.out
              have hbf := Lib.hid (below_st4 hW6.out (show W5.heap.size ≤ w5.heap.size from hW5.out.size) (.string ⟨([116] : List UInt8).toArray⟩) (.int .i64 1) (.slice vo2 aT.cs.length vc2) (.slice lo2 zs2.length lc2))
              obtain ⟨⟨d0, d1, d2, d3⟩, f0, f1, f2, f3⟩ := zz.s4
              refine wpAnyH_ready (rs := [8]) (by kernel_rfl) (by simp) ?_
              refine AllReadyH.cons (o := _) rfl (fun K' hK => ?_) AllReadyH.nil
              go_simp
              refine hK.out _ _ (B0.out.1.below hbf.out).s4.1 (fun hH => ?_)
              clear hK K'
              try simp only [Act.put, List.getElem_toArray, List.getElem_cons_succ, List.getElem_cons_zero, List.setIfInBounds_toArray, List.set_cons_zero, List.set_cons_succ]
              clear d0 d1 d2 d3 f0 f1 f2 f3
              refine wpAnyH_take (i := 9) (oi := _) (v := .bool false) rfl (by kernel_rfl) (by kernel_rfl) (by kernel_rfl) (fun _ _ _ h => h) (Or.inl ⟨by rfl, by intro v hv; go_simp⟩) hH ?_
              try simp only [Act.put, List.getElem_toArray, List.getElem_cons_succ, List.getElem_cons_zero, List.setIfInBounds_toArray, List.set_cons_zero, List.set_cons_succ]
              refine wpAnyH_take (i := 10) (oi := _) (v := .int .i64 0) rfl (by kernel_rfl) (by kernel_rfl) (by kernel_rfl) (fun _ _ _ h => h) (Or.inl ⟨by rfl, by intro v hv; go_simp⟩) hH ?_
              try simp only [Act.put, List.getElem_toArray, List.getElem_cons_succ, List.getElem_cons_zero, List.setIfInBounds_toArray, List.set_cons_zero, List.set_cons_succ]
              refine wpAnyH_done (by kernel_rfl) ?_ _
              clear hH
              go_wp2_with fail
              go_meet
              exact ⟨_, rfl, rfl, rfl, AW.keep K3.out hbf.out, _, _, _, _, _, _, zz.put4 (.string ⟨([116] : List UInt8).toArray⟩) (.int .i64 1) (.slice vo2 aT.cs.length vc2) (.slice lo2 zs2.length lc2), HZ2.out⟩
          · clear hH
            go_simp
            refine hK.out _ _ (B0.out.1.alloc _).s4.1 (fun hH => ?_)
            clear hK K'
            try simp only [Act.put, List.getElem_toArray, List.getElem_cons_succ, List.getElem_cons_zero, List.setIfInBounds_toArray, List.set_cons_zero, List.set_cons_succ]
            refine wpAnyH_ready (rs := [1]) (by kernel_rfl) (by simp) ?_
            refine AllReadyH.cons (o := _) rfl (fun K' hK => ?_) AllReadyH.nil
            clear hH
            go_simp
            refine (lrow_is 2 _).mono ?_
            rintro e w5 ⟨g, rfl, hSl, hb⟩
            have hW5 := Lib.hid (show Below W5.heap.size W5 w5 from step0 (below_drew1 (below1 W5 _)) hb)
            have z5 := Lib.hid ((Blk.new W5 #[.string ⟨#[]⟩, .int .i64 0, .slice none 0 0, .slice none 0 0] 27).drw.below hb)
            have hB5 := Lib.hid (B0.out.1.below hW5.out)
            have hSL := Lib.hid hSl
            clear hb hSl
            go_wp2_with fail
            refine hK.out _ _ hB5.out.s4.1 (fun hH => ?_)
            clear hK K'
            try simp only [Act.put, List.getElem_toArray, List.getElem_cons_succ, List.getElem_cons_zero, List.setIfInBounds_toArray, List.set_cons_zero, List.set_cons_succ]
            refine wpAnyH_ready (rs := [2]) (by kernel_rfl) (by simp) ?_
            refine AllReadyH.cons (o := _) rfl (fun K' hK => ?_) AllReadyH.nil
            clear hH
            go_simp
            refine (put_true [116] 1 aT.cs zs' vo lo' vc lc' (aR 2) (some ⟨g, 0, none⟩) 2 (aK 2) _ (HG.out.keep (K3.out.1.trans ((hW5.out.trans ((Below.refl _ w5).mono hW5.out.size)).mono K3.out.1.size))) ((B0.out.2.1.keep hW5.out).keep (Below.refl _ w5)) ((B0.out.2.2.below hW5.out).below (Below.refl _ w5)) X0.out (hSL.out.below (Below.refl _ w5)) (by decide) (aOk 2 (by decide)) (by decide) (fun e => by cases e) (by rw [HL.out]; exact r3) (aFit 2 (by decide)) rfl (by rw [HL.out]; exact b4)).mono ?_
            rintro e w6 ⟨v, rfl, hSV, hb⟩
            rw [HL.out] at hSV
            obtain ⟨vo2, vc2, lo2, lc2, zs2, rfl, _, _, _, hls⟩ := hSV.aw
            have HZ2 := Lib.hid (show zs2.length = 3 by rw [← lls_len, hls]; exact n4)
            have hW6 := Lib.hid (show Below W5.heap.size W5 w6 from step0 hW5.out hb)
            have z6 := Lib.hid (z5.out.below hb)
            have hB6 := Lib.hid (B0.out.1.below hW6.out)
            clear hb hSV hls
            go_wp2_with fail
            refine hK.out _ _ hB6.out.s4.1 (fun hH => ?_)
            clear hK K'
            try simp only [Act.put, List.getElem_toArray, List.getElem_cons_succ, List.getElem_cons_zero, List.setIfInBounds_toArray, List.set_cons_zero, List.set_cons_succ]
            refine wpAnyH_take (i := 3) (oi := _) (v := .tuple #[.agg #[.string ⟨([116] : List UInt8).toArray⟩, .int .i64 1, .slice vo2 aT.cs.length vc2, .slice lo2 zs2.length lc2], .bool false, .int .i64 0]) rfl (by kernel_rfl) (by kernel_rfl) (by kernel_rfl) (fun _ _ _ h => h) (Or.inl ⟨by rfl, by intro v hv; go_simp⟩) hH ?_
            try simp only [Act.put, List.getElem_toArray, List.getElem_cons_succ, List.getElem_cons_zero, List.setIfInBounds_toArray, List.set_cons_zero, List.set_cons_succ]
            refine wpAnyH_take (i := 4) (oi := _) (v := .agg #[.string ⟨([116] : List UInt8).toArray⟩, .int .i64 1, .slice vo2 aT.cs.length vc2, .slice lo2 zs2.length lc2]) rfl (by kernel_rfl) (by kernel_rfl) (by kernel_rfl) (fun _ _ _ h => h) (Or.inl ⟨by rfl, by intro v hv; go_simp⟩) hH ?_
            try simp only [Act.put, List.getElem_toArray, List.getElem_cons_succ, List.getElem_cons_zero, List.setIfInBounds_toArray, List.set_cons_zero, List.set_cons_succ]
            refine wpAnyH_take (i := 5) (oi := _) (v := .bool false) rfl (by kernel_rfl) (by kernel_rfl) (by kernel_rfl) (fun _ _ _ h => h) (Or.inl ⟨by rfl, by intro v hv; go_simp⟩) hH ?_
            try simp only [Act.put, List.getElem_toArray, List.getElem_cons_succ, List.getElem_cons_zero, List.setIfInBounds_toArray, List.set_cons_zero, List.set_cons_succ]
            refine wpAnyH_take (i := 6) (oi := _) (v := .int .i64 0) rfl (by kernel_rfl) (by kernel_rfl) (by kernel_rfl) (fun _ _ _ h => h) (Or.inl ⟨by rfl, by intro v hv; go_simp⟩) hH ?_
            try simp only [Act.put, List.getElem_toArray, List.getElem_cons_succ, List.getElem_cons_zero, List.setIfInBounds_toArray, List.set_cons_zero, List.set_cons_succ]
            have zz := z6.out
            have hbf := Lib.hid (below_st4 hW6.out (show W5.heap.size ≤ W5.heap.size from Nat.le_refl _) (.string ⟨([116] : List UInt8).toArray⟩) (.int .i64 1) (.slice vo2 aT.cs.length vc2) (.slice lo2 zs2.length lc2))
            obtain ⟨⟨d0, d1, d2, d3⟩, f0, f1, f2, f3⟩ := zz.s4
            refine wpAnyH_ready (rs := [8]) (by kernel_rfl) (by simp) ?_
            refine AllReadyH.cons (o := _) rfl (fun K' hK => ?_) AllReadyH.nil
            go_simp
            refine hK.out _ _ (B0.out.1.below hbf.out).s4.1 (fun hH => ?_)
            clear hK K'
            try simp only [Act.put, List.getElem_toArray, List.getElem_cons_succ, List.getElem_cons_zero, List.setIfInBounds_toArray, List.set_cons_zero, List.set_cons_succ]
            clear d0 d1 d2 d3 f0 f1 f2 f3
            refine wpAnyH_take (i := 9) (oi := _) (v := .bool false) rfl (by kernel_rfl) (by kernel_rfl) (by kernel_rfl) (fun _ _ _ h => h) (Or.inl ⟨by rfl, by intro v hv; go_simp⟩) hH ?_
            try simp only [Act.put, List.getElem_toArray, List.getElem_cons_succ, List.getElem_cons_zero, List.setIfInBounds_toArray, List.set_cons_zero, List.set_cons_succ]
            refine wpAnyH_take (i := 10) (oi := _) (v := .int .i64 0) rfl (by kernel_rfl) (by kernel_rfl) (by kernel_rfl) (fun _ _ _ h => h) (Or.inl ⟨by rfl, by intro v hv; go_simp⟩) hH ?_
            try simp only [Act.put, List.getElem_toArray, List.getElem_cons_succ, List.getElem_cons_zero, List.setIfInBounds_toArray, List.set_cons_zero, List.set_cons_succ]
            refine wpAnyH_done (by kernel_rfl) ?_ _
            clear hH
            go_wp2_with fail
            go_meet
            exact ⟨_, rfl, rfl, rfl, AW.keep K3.out hbf.out, _, _, _, _, _, _, zz.put4 (.string ⟨([116] : List UInt8).toArray⟩) (.int .i64 1) (.slice vo2 aT.cs.length vc2) (.slice lo2 zs2.length lc2), HZ2.out⟩
        case rest =>
          obtain ⟨gu, rfl, rfl, rfl, hA1, u0, u1, u2, u3, _, u4, hU, rfl⟩ := hcut
          rename World => W6
          obtain ⟨hbw, hGw, vo, vc, lo', lc', zs', hB0, hT0, hL0, hl0⟩ := hA1
          have hzn : zs'.length = 3 := by rw [← lls_len, hl0]; exact n3
          obtain ⟨la, hla, y0, y1⟩ := hL0.1 1 zs'[1] (List.getElem?_eq_getElem (by omega))
          subst hla
          have hk1 : zs'[1].k = aK 2 := by
            have h := k3
            rw [← hl0, lls_get (show 1 < zs'.length by omega)] at h
            simpa [LV.l] using h
          rw [hk1, show la.add (1 * 2) = ⟨la.block, la.off + 2, none⟩ from by simp [Addr.add]] at y0
          have X0 := Lib.hid (And.intro (smal_of hl0 q3.1 q3.2) (And.intro hl0 hzn))
          have B0 := Lib.hid (And.intro hbw (And.intro hB0 (And.intro hT0 hL0)))
          obtain ⟨⟨c0, c1, c2, c3⟩, _⟩ := hB0.s4
          have hu := hU.cell 3
          simp at hu
          have t1 : ((zs'.length : Int) != 3) = false := by rw [hzn]; rfl
          have t2 : (1 : Int) < (zs'.length : Int) := by omega
          clear hB0 hT0 hL0 hl0 hk1 y1 hbw hGw hzn hU
          go_wp2_with fail
          refine (find_s [116] 1 aT.cs zs' (aK 2) vo (some la) vc _ lc' _ rfl B0.out.2.2.2.1 (by have := X0.out.2.2; omega) (by rw [X0.out.2.1]; exact r3) 1 true (by rw [X0.out.2.1]; exact f3) (by rw [X0.out.2.1]; exact b4)).mono ?_
          rintro e w7 ⟨rfl, hb⟩
          have K7 := Lib.hid hb
          clear hb c0 c1 c2 c3 hu y0 t1 t2
          obtain ⟨⟨c0, c1, c2, c3⟩, _⟩ := (B0.out.2.1.below K7.out).s4
          go_wp2_with fail
          refine (del_true [116] 1 aT.cs zs' vo (some la) vc lc' (aK 2) _ (B0.out.2.2.1.1.below K7.out) (B0.out.2.2.2.below K7.out) X0.out.1 (by rw [X0.out.2.1]; exact r3) (by rw [X0.out.2.1]; exact b4)).mono ?_
          rintro e w8 ⟨v, rfl, hSV, hb⟩
          obtain ⟨vo2, vc2, lo2, lc2, zs2, rfl, _, hLS, _, hls⟩ := hSV.aw
          rw [X0.out.2.1] at hls
          have hz2 : zs2.length = 2 := by rw [← lls_len, hls]; exact d3
          have hdm : ∀ z ∈ zs2, z.xs.length ≤ 30 := fun z hz => by
            have h : z.l ∈ dell a3 (aK 2) := by rw [← hls]; exact List.mem_map_of_mem hz
            exact q3.2 z.l (dell_mem h)
          have K8 := Lib.hid (And.intro (step0 K7.out hb) (And.intro hLS (And.intro hls (And.intro hz2 hdm))))
          have t3 : ((zs2.length : Int) == 2) = true := by rw [hz2]; rfl
          clear hb hLS hls hz2 hdm hSV c0 c1 c2 c3
          obtain ⟨⟨c0, c1, c2, c3⟩, _⟩ := (B0.out.2.1.below K8.out.1).s4
          have z0 := fun o => ((B0.out.2.1.below K8.out.1).alloc o).s4.1.1
          have z1 := fun o => ((B0.out.2.1.below K8.out.1).alloc o).s4.1.2.1
          have z2 := fun o => ((B0.out.2.1.below K8.out.1).alloc o).s4.1.2.2.1
          have z3 := fun o => ((B0.out.2.1.below K8.out.1).alloc o).s4.1.2.2.2
          go_wp2_with fail
          refine (merge_is [116] [116] 1 1 aT.cs aT.cs zs' zs2 vo vo2 (some la) lo2 vc vc2 lc' lc2 _ (B0.out.2.2.2.below (step0 K8.out.1 (below1 w8 _))) (K8.out.2.1.below (below1 w8 _)) (by have := X0.out.2.2; omega) (by have := K8.out.2.2.2.1; omega) X0.out.1.2.2 K8.out.2.2.2.2 ([], 15) (by rw [X0.out.2.1, K8.out.2.2.1]; exact m3)).mono ?_
          rintro e w9 ⟨ro, rc, zs3, rfl, _, _, hb⟩
          have hb9 := step0 (below1 w8 _) hb
          have K9 := Lib.hid (step0 K8.out.1 hb9)
          obtain ⟨⟨v0, v1, v2, v3⟩, _⟩ := ((Blk.new w8 #[.string ⟨([116] : List UInt8).toArray⟩, .int .i64 1, .slice vo2 aT.cs.length vc2, .slice lo2 zs2.length lc2] 27).below hb).s4
          clear hb hb9 c0 c1 c2 c3 z0 z1 z2 z3
          obtain ⟨⟨c0, c1, c2, c3⟩, _⟩ := (B0.out.2.1.below K9.out).s4
          go_wp2_with fail
          refine (range_e [116] 1 aT.cs zs' vo (some la) vc lc' (aK 2) 5 _ (B0.out.2.2.2.below K9.out) (by have := X0.out.2.2; omega) X0.out.1.2.2 (by rw [X0.out.2.1]; exact r3)).mono ?_
          rintro e w10 ⟨⟨ro2, rc2, ys, rfl, _, _, hys⟩, hb⟩
          have hyl : ys.length = 2 := by
            have h := congrArg List.length hys
            rw [X0.out.2.1, g3] at h
            simpa [rxs] using h
          have t4 : ((ys.length : Int) == 2) = true := by rw [hyl]; rfl
          have K10 := Lib.hid (step0 K9.out hb)
          clear hb hys hyl c0 c1 c2 c3 v0 v1 v2 v3 t3
          obtain ⟨⟨c0, c1, c2, c3⟩, _⟩ := (B0.out.2.1.below K10.out).s4
          go_wp2_with fail
          refine (scheck_is [116] 1 aT.cs zs' vo (some la) vc lc' _ (HG.out.keep (step0 B0.out.1 K10.out)) (B0.out.2.2.1.keep K10.out) (B0.out.2.2.2.below K10.out) (by have := X0.out.2.2; omega) X0.out.1.2.2 0 (by rw [X0.out.2.1]; exact s3)).mono ?_
          rintro e w11 ⟨rfl, hb⟩
          have K11 := Lib.hid (step0 (step0 B0.out.1 K10.out) hb)
          clear hb
          go_wp2
          go_ret
          exact ⟨rfl, K11.out⟩

end Go.Proofs.YtfgakoldedpfoaaDoor
