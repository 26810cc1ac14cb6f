/-
  The document's New; which ref a deed names. Conditions: the bounds named in each theorem.
-/
import Derived.Test.YtlommgljkjkmkaaDcGo
namespace Go.Proofs.Ytlommgljkjkmkaa.Gn
open Go.RowKit
set_option linter.unusedVariables false
set_option linter.unusedSimpArgs false

structure New4 (w' : World) (b n gi gb : Nat) : Prop where
  i : Rw elI w' b (.slice (some ⟨gi, 0, none⟩) n n) (List.replicate n 0)
  b : Rw elB w' b (.slice (some ⟨gb, 0, none⟩) n n) (List.replicate n false)
theorem heap4 {w' : World} {q b n gi gb b1 b2 : Nat} {a' b' c' d' : Value} (W : World) (hw : W.heap.size ≤ w'.heap.size) (h1 : Rw elI w' b1 (.slice (some ⟨gi, 0, none⟩) n n) (List.replicate n 0)) (h2 : Rw elB w' b2 (.slice (some ⟨gb, 0, none⟩) n n) (List.replicate n false)) (e1 : b ≤ gi ∧ gi ≠ q) (e2 : b ≤ gb ∧ gb ≠ q) :
    New4 ((((w'.setCell ⟨q, 0, none⟩ a').setCell ⟨q, 1, none⟩ b').setCell ⟨q, 2, none⟩ c').setCell ⟨q, 3, none⟩ d') b n gi gb :=
  ⟨(h1.move fun k hk => heap_set4 _ (by obtain rfl := Option.some.inj hk; exact e1.2)).rebase (fun k hk => by obtain rfl := Option.some.inj hk; exact e1.1), (h2.move fun k hk => heap_set4 _ (by obtain rfl := Option.some.inj hk; exact e2.2)).rebase (fun k hk => by obtain rfl := Option.some.inj hk; exact e2.1)⟩
theorem Rw.seg {α : Type} {E : El α} {w : World} {b n c : Nat} {ao : Option Addr} {l : List α} (h : Rw E w b (.slice ao n c) l) : Sg E w ao l := by
  obtain ⟨ao', cap, hv, _, hs, _⟩ := h.sl
  injection hv with e1 e2 e3
  subst e1
  exact hs
theorem fin (n gi gb : Nat) (w' w : World) (h : New4 w' w.heap.size n gi gb) (hb : Below w.heap.size w w') :
    ∃ v F, Ending.returned (.agg #[.slice (some ⟨gi, 0, none⟩) n n, .slice (some ⟨gb, 0, none⟩) n n, .slice none 0 0, .int .i64 0]) = .returned v ∧ Dv w' v (Dc0 n) F ∧ (∀ k, F k → w.heap.size ≤ k) ∧ Below w.heap.size w w' := by
  have l1 := h.i.lt gi rfl
  have l2 := h.b.lt gb rfl
  refine ⟨_, fun k => k = gi ∨ k = gb, rfl, ⟨some ⟨gi, 0, none⟩, n, some ⟨gb, 0, none⟩, n, none, 0, by simp [Dc0], h.i.seg, h.b.seg, Sg.nil _ _, (fun e => by cases e), (fun e => by cases e), (fun _ => rfl), Nat.le_refl _, (fun a ha => by obtain rfl := Option.some.inj ha; exact .inl rfl), (fun a ha => by obtain rfl := Option.some.inj ha; exact .inr rfl), (fun a ha => by cases ha), fun k hk => by rcases hk with rfl | rfl <;> omega⟩, fun k hk => by rcases hk with rfl | rfl <;> omega, hb⟩

set_option maxHeartbeats 4000000 in
theorem dnew_is (most : Int) (w : World) (n : Nat) (hn : n = if 0 ≤ most ∧ most ≤ 4096 then most.toNat else 0) :
    Calls Try.prog 8 #[.int .i64 most] w fun e w' => ∃ v F, e = .returned v ∧ Dv w' v (Dc0 n) F ∧ (∀ k, F k → w.heap.size ≤ k) ∧ Below w.heap.size w w' := by
  have hmx : Try.prog.follows .mixedOrders = true := by kernel_rfl
  by_cases h0 : most < 0
  · have HN := Lib.hid (show (0 : Int) = (n : Int) ∧ n ≤ 4096 from by rw [if_neg (by omega)] at hn; omega)
    clear hn
    go_enter Try.func8, Try.ntmps8
    go_wp2_with fail
    have R := Lib.hid (And.intro (show Blk (w.alloc (.cells #[.slice none 0 0, .slice none 0 0, .slice none 0 0, .int .i64 0] 29)).drew w.heap.size #[.slice none 0 0, .slice none 0 0, .slice none 0 0, .int .i64 0] 29 from Blk.new w _ _) (show Below w.heap.size w (w.alloc (.cells #[.slice none 0 0, .slice none 0 0, .slice none 0 0, .int .i64 0] 29)).drew from below_drew1 (below1 w _)))
    refine wp_region_held_drew (S := (fun v => True)) (by kernel_rfl) trivial (fun hH0 => ?_)
    obtain ⟨Wd, hWd⟩ : ∃ Wd, (w.alloc (.cells #[.slice none 0 0, .slice none 0 0, .slice none 0 0, .int .i64 0] 29)).drew = Wd := ⟨_, rfl⟩
    rw [hWd] at R ⊢
    clear hWd
    refine wpAnyH_take (i := 0) (oi := _) (v := .int .i64 0) rfl (by kernel_rfl) (by kernel_rfl) (by kernel_rfl) (fun _ _ _ h => h) (Or.inl ⟨by rfl, by intro v hv; go_simp⟩) hH0 ?_
    try simp only [Act.put, List.getElem_toArray, List.getElem_cons_succ, List.getElem_cons_zero, List.setIfInBounds_toArray, List.set_cons_zero, List.set_cons_succ]
    refine wpAnyH_take (i := 2) (oi := _) (v := .int .i64 0) rfl (by kernel_rfl) (by kernel_rfl) (by kernel_rfl) (fun _ _ _ h => h) (Or.inl ⟨by rfl, by intro v hv; go_simp⟩) hH0 ?_
    try simp only [Act.put, List.getElem_toArray, List.getElem_cons_succ, List.getElem_cons_zero, List.setIfInBounds_toArray, List.set_cons_zero, List.set_cons_succ]
    refine wpAnyH_ready (rs := [1, 3]) (by kernel_rfl) (by simp) ?_
    refine AllReadyH.cons (o := _) rfl (fun K' hK => ?_) (AllReadyH.cons (o := _) rfl (fun K' hK => ?_) AllReadyH.nil)
    · refine step_makeE elI rfl (.tmp 9) (.tmp 9) rfl .i64 .i64 0 0 n 0 rfl (by simp [Act.eval, Act.put]) (by simp [Act.eval, Act.put]) HN.out.1 HN.out.1 (by have := HN.out.2; omega) ?_
      intro w2 ho2 hb2
      refine hK.out _ _ trivial (fun hH1 => ?_)
      clear hK K' hH0
      try simp only [Act.put, List.getElem_toArray, List.getElem_cons_succ, List.getElem_cons_zero, List.setIfInBounds_toArray, List.set_cons_zero, List.set_cons_succ]
      refine wpAnyH_ready (rs := [3]) (by kernel_rfl) (by simp) ?_
      refine AllReadyH.cons (o := _) rfl (fun K' hK => ?_) AllReadyH.nil
      refine step_makeE elB rfl (.tmp 11) (.tmp 11) rfl .i64 .i64 0 0 n false rfl (by simp [Act.eval, Act.put]) (by simp [Act.eval, Act.put]) HN.out.1 HN.out.1 (by have := HN.out.2; omega) ?_
      intro w3 ho3 hb3
      refine hK.out _ _ trivial (fun hH2 => ?_)
      clear hK K' hH1
      try simp only [Act.put, List.getElem_toArray, List.getElem_cons_succ, List.getElem_cons_zero, List.setIfInBounds_toArray, List.set_cons_zero, List.set_cons_succ]
      have R3 := (R.out.1.below hb2).below (hb3)
      obtain ⟨⟨y0, y1, y2, y3⟩, z0, z1, z2, z3⟩ := R3.four
      obtain ⟨g1, hg1⟩ : ∃ g, Wd.heap.size = g := ⟨_, rfl⟩
      obtain ⟨g2, hg2⟩ : ∃ g, w2.heap.size = g := ⟨_, rfl⟩
      rw [hg1] at ho2 ⊢
      rw [hg2] at ho3 ⊢
      have K := Lib.hid (And.intro R3 (And.intro (ho2.keep hb3) (And.intro ho3 (And.intro (R.out.2.trans (((hb2.trans (hb3.mono hb2.size))).mono R.out.2.size)) (And.intro hg1 (And.intro hg2 (And.intro hb2.size R.out.2.size)))))))
      clear R3 ho2 ho3 hb2 hb3 hg1 hg2
      refine wpAnyH_take (i := 4) (oi := _) (v := .agg #[.slice (some ⟨g1, 0, none⟩) n n, .slice (some ⟨g2, 0, none⟩) n n, .slice none 0 0, .int .i64 0]) rfl (by kernel_rfl) (by kernel_rfl) (by kernel_rfl) (fun _ _ _ h => h) (Or.inl ⟨by rfl, by intro v hv; go_simp⟩) hH2 ?_
      try simp only [Act.put, List.getElem_toArray, List.getElem_cons_succ, List.getElem_cons_zero, List.setIfInBounds_toArray, List.set_cons_zero, List.set_cons_succ]
      refine wpAnyH_ready (rs := [5]) (by kernel_rfl) (by simp) ?_
      refine AllReadyH.cons (o := _) rfl (fun K' hK => ?_) AllReadyH.nil
      go_simp
      refine hK.out _ _ trivial (fun hH3 => ?_)
      clear hK K' hH2
      try simp only [Act.put, List.getElem_toArray, List.getElem_cons_succ, List.getElem_cons_zero, List.setIfInBounds_toArray, List.set_cons_zero, List.set_cons_succ]
      refine wpAnyH_done (by kernel_rfl) ?_ _
      go_wp2
      have q := K.out.1.set4 (a' := .slice (some ⟨g1, 0, none⟩) n n) (b' := .slice (some ⟨g2, 0, none⟩) n n) (c' := .slice none 0 0) (d' := .int .i64 0)
      obtain ⟨⟨y0', y1', y2', y3'⟩, _⟩ := q.four
      refine bodyPost_ret (v := .agg #[.slice (some ⟨g1, 0, none⟩) n n, .slice (some ⟨g2, 0, none⟩) n n, .slice none 0 0, .int .i64 0]) (by simp [results, Try.results8, go_sem, y0', y1', y2', y3']) rfl ?_
      exact fin n g1 g2 _ w (heap4 _ (K.out.2.2.2.1.size) K.out.2.1 K.out.2.2.1 (by have h1 := K.out.2.2.2.2.1; have h2 := K.out.2.2.2.2.2.1; have h3 := K.out.2.2.2.2.2.2.1; have h4 := K.out.2.2.2.2.2.2.2; have h5 := R.out.1.lt; omega) (by have h1 := K.out.2.2.2.2.1; have h2 := K.out.2.2.2.2.2.1; have h3 := K.out.2.2.2.2.2.2.1; have h4 := K.out.2.2.2.2.2.2.2; have h5 := R.out.1.lt; omega)) (below_set4 K.out.2.2.2.1 (Nat.le_refl _))
    · refine step_makeE elB rfl (.tmp 11) (.tmp 11) rfl .i64 .i64 0 0 n false rfl (by simp [Act.eval, Act.put]) (by simp [Act.eval, Act.put]) HN.out.1 HN.out.1 (by have := HN.out.2; omega) ?_
      intro w2 ho2 hb2
      refine hK.out _ _ trivial (fun hH1 => ?_)
      clear hK K' hH0
      try simp only [Act.put, List.getElem_toArray, List.getElem_cons_succ, List.getElem_cons_zero, List.setIfInBounds_toArray, List.set_cons_zero, List.set_cons_succ]
      refine wpAnyH_ready (rs := [1]) (by kernel_rfl) (by simp) ?_
      refine AllReadyH.cons (o := _) rfl (fun K' hK => ?_) AllReadyH.nil
      refine step_makeE elI rfl (.tmp 9) (.tmp 9) rfl .i64 .i64 0 0 n 0 rfl (by simp [Act.eval, Act.put]) (by simp [Act.eval, Act.put]) HN.out.1 HN.out.1 (by have := HN.out.2; omega) ?_
      intro w3 ho3 hb3
      refine hK.out _ _ trivial (fun hH2 => ?_)
      clear hK K' hH1
      try simp only [Act.put, List.getElem_toArray, List.getElem_cons_succ, List.getElem_cons_zero, List.setIfInBounds_toArray, List.set_cons_zero, List.set_cons_succ]
      have R3 := (R.out.1.below hb2).below (hb3)
      obtain ⟨⟨y0, y1, y2, y3⟩, z0, z1, z2, z3⟩ := R3.four
      obtain ⟨g1, hg1⟩ : ∃ g, Wd.heap.size = g := ⟨_, rfl⟩
      obtain ⟨g2, hg2⟩ : ∃ g, w2.heap.size = g := ⟨_, rfl⟩
      rw [hg1] at ho2 ⊢
      rw [hg2] at ho3 ⊢
      have K := Lib.hid (And.intro R3 (And.intro (ho2.keep hb3) (And.intro ho3 (And.intro (R.out.2.trans (((hb2.trans (hb3.mono hb2.size))).mono R.out.2.size)) (And.intro hg1 (And.intro hg2 (And.intro hb2.size R.out.2.size)))))))
      clear R3 ho2 ho3 hb2 hb3 hg1 hg2
      refine wpAnyH_take (i := 4) (oi := _) (v := .agg #[.slice (some ⟨g2, 0, none⟩) n n, .slice (some ⟨g1, 0, none⟩) n n, .slice none 0 0, .int .i64 0]) rfl (by kernel_rfl) (by kernel_rfl) (by kernel_rfl) (fun _ _ _ h => h) (Or.inl ⟨by rfl, by intro v hv; go_simp⟩) hH2 ?_
      try simp only [Act.put, List.getElem_toArray, List.getElem_cons_succ, List.getElem_cons_zero, List.setIfInBounds_toArray, List.set_cons_zero, List.set_cons_succ]
      refine wpAnyH_ready (rs := [5]) (by kernel_rfl) (by simp) ?_
      refine AllReadyH.cons (o := _) rfl (fun K' hK => ?_) AllReadyH.nil
      go_simp
      refine hK.out _ _ trivial (fun hH3 => ?_)
      clear hK K' hH2
      try simp only [Act.put, List.getElem_toArray, List.getElem_cons_succ, List.getElem_cons_zero, List.setIfInBounds_toArray, List.set_cons_zero, List.set_cons_succ]
      refine wpAnyH_done (by kernel_rfl) ?_ _
      go_wp2
      have q := K.out.1.set4 (a' := .slice (some ⟨g2, 0, none⟩) n n) (b' := .slice (some ⟨g1, 0, none⟩) n n) (c' := .slice none 0 0) (d' := .int .i64 0)
      obtain ⟨⟨y0', y1', y2', y3'⟩, _⟩ := q.four
      refine bodyPost_ret (v := .agg #[.slice (some ⟨g2, 0, none⟩) n n, .slice (some ⟨g1, 0, none⟩) n n, .slice none 0 0, .int .i64 0]) (by simp [results, Try.results8, go_sem, y0', y1', y2', y3']) rfl ?_
      exact fin n g2 g1 _ w (heap4 _ (K.out.2.2.2.1.size) K.out.2.2.1 K.out.2.1 (by have h1 := K.out.2.2.2.2.1; have h2 := K.out.2.2.2.2.2.1; have h3 := K.out.2.2.2.2.2.2.1; have h4 := K.out.2.2.2.2.2.2.2; have h5 := R.out.1.lt; omega) (by have h1 := K.out.2.2.2.2.1; have h2 := K.out.2.2.2.2.2.1; have h3 := K.out.2.2.2.2.2.2.1; have h4 := K.out.2.2.2.2.2.2.2; have h5 := R.out.1.lt; omega)) (below_set4 K.out.2.2.2.1 (Nat.le_refl _))
  · have n0 : decide (most < 0) = false := by rw [decide_eq_false_iff_not]; exact h0
    by_cases h1 : 4096 < most
    · have HN := Lib.hid (show (0 : Int) = (n : Int) ∧ n ≤ 4096 from by rw [if_neg (by omega)] at hn; omega)
      clear hn h0
      go_enter Try.func8, Try.ntmps8
      go_wp2_with fail
      have R := Lib.hid (And.intro (show Blk (w.alloc (.cells #[.slice none 0 0, .slice none 0 0, .slice none 0 0, .int .i64 0] 29)).drew w.heap.size #[.slice none 0 0, .slice none 0 0, .slice none 0 0, .int .i64 0] 29 from Blk.new w _ _) (show Below w.heap.size w (w.alloc (.cells #[.slice none 0 0, .slice none 0 0, .slice none 0 0, .int .i64 0] 29)).drew from below_drew1 (below1 w _)))
      refine wp_region_held_drew (S := (fun v => True)) (by kernel_rfl) trivial (fun hH0 => ?_)
      obtain ⟨Wd, hWd⟩ : ∃ Wd, (w.alloc (.cells #[.slice none 0 0, .slice none 0 0, .slice none 0 0, .int .i64 0] 29)).drew = Wd := ⟨_, rfl⟩
      rw [hWd] at R ⊢
      clear hWd
      refine wpAnyH_take (i := 0) (oi := _) (v := .int .i64 0) rfl (by kernel_rfl) (by kernel_rfl) (by kernel_rfl) (fun _ _ _ h => h) (Or.inl ⟨by rfl, by intro v hv; go_simp⟩) hH0 ?_
      try simp only [Act.put, List.getElem_toArray, List.getElem_cons_succ, List.getElem_cons_zero, List.setIfInBounds_toArray, List.set_cons_zero, List.set_cons_succ]
      refine wpAnyH_take (i := 2) (oi := _) (v := .int .i64 0) rfl (by kernel_rfl) (by kernel_rfl) (by kernel_rfl) (fun _ _ _ h => h) (Or.inl ⟨by rfl, by intro v hv; go_simp⟩) hH0 ?_
      try simp only [Act.put, List.getElem_toArray, List.getElem_cons_succ, List.getElem_cons_zero, List.setIfInBounds_toArray, List.set_cons_zero, List.set_cons_succ]
      refine wpAnyH_ready (rs := [1, 3]) (by kernel_rfl) (by simp) ?_
      refine AllReadyH.cons (o := _) rfl (fun K' hK => ?_) (AllReadyH.cons (o := _) rfl (fun K' hK => ?_) AllReadyH.nil)
      · refine step_makeE elI rfl (.tmp 9) (.tmp 9) rfl .i64 .i64 0 0 n 0 rfl (by simp [Act.eval, Act.put]) (by simp [Act.eval, Act.put]) HN.out.1 HN.out.1 (by have := HN.out.2; omega) ?_
        intro w2 ho2 hb2
        refine hK.out _ _ trivial (fun hH1 => ?_)
        clear hK K' hH0
        try simp only [Act.put, List.getElem_toArray, List.getElem_cons_succ, List.getElem_cons_zero, List.setIfInBounds_toArray, List.set_cons_zero, List.set_cons_succ]
        refine wpAnyH_ready (rs := [3]) (by kernel_rfl) (by simp) ?_
        refine AllReadyH.cons (o := _) rfl (fun K' hK => ?_) AllReadyH.nil
        refine step_makeE elB rfl (.tmp 11) (.tmp 11) rfl .i64 .i64 0 0 n false rfl (by simp [Act.eval, Act.put]) (by simp [Act.eval, Act.put]) HN.out.1 HN.out.1 (by have := HN.out.2; omega) ?_
        intro w3 ho3 hb3
        refine hK.out _ _ trivial (fun hH2 => ?_)
        clear hK K' hH1
        try simp only [Act.put, List.getElem_toArray, List.getElem_cons_succ, List.getElem_cons_zero, List.setIfInBounds_toArray, List.set_cons_zero, List.set_cons_succ]
        have R3 := (R.out.1.below hb2).below (hb3)
        obtain ⟨⟨y0, y1, y2, y3⟩, z0, z1, z2, z3⟩ := R3.four
        obtain ⟨g1, hg1⟩ : ∃ g, Wd.heap.size = g := ⟨_, rfl⟩
        obtain ⟨g2, hg2⟩ : ∃ g, w2.heap.size = g := ⟨_, rfl⟩
        rw [hg1] at ho2 ⊢
        rw [hg2] at ho3 ⊢
        have K := Lib.hid (And.intro R3 (And.intro (ho2.keep hb3) (And.intro ho3 (And.intro (R.out.2.trans (((hb2.trans (hb3.mono hb2.size))).mono R.out.2.size)) (And.intro hg1 (And.intro hg2 (And.intro hb2.size R.out.2.size)))))))
        clear R3 ho2 ho3 hb2 hb3 hg1 hg2
        refine wpAnyH_take (i := 4) (oi := _) (v := .agg #[.slice (some ⟨g1, 0, none⟩) n n, .slice (some ⟨g2, 0, none⟩) n n, .slice none 0 0, .int .i64 0]) rfl (by kernel_rfl) (by kernel_rfl) (by kernel_rfl) (fun _ _ _ h => h) (Or.inl ⟨by rfl, by intro v hv; go_simp⟩) hH2 ?_
        try simp only [Act.put, List.getElem_toArray, List.getElem_cons_succ, List.getElem_cons_zero, List.setIfInBounds_toArray, List.set_cons_zero, List.set_cons_succ]
        refine wpAnyH_ready (rs := [5]) (by kernel_rfl) (by simp) ?_
        refine AllReadyH.cons (o := _) rfl (fun K' hK => ?_) AllReadyH.nil
        go_simp
        refine hK.out _ _ trivial (fun hH3 => ?_)
        clear hK K' hH2
        try simp only [Act.put, List.getElem_toArray, List.getElem_cons_succ, List.getElem_cons_zero, List.setIfInBounds_toArray, List.set_cons_zero, List.set_cons_succ]
        refine wpAnyH_done (by kernel_rfl) ?_ _
        go_wp2
        have q := K.out.1.set4 (a' := .slice (some ⟨g1, 0, none⟩) n n) (b' := .slice (some ⟨g2, 0, none⟩) n n) (c' := .slice none 0 0) (d' := .int .i64 0)
        obtain ⟨⟨y0', y1', y2', y3'⟩, _⟩ := q.four
        refine bodyPost_ret (v := .agg #[.slice (some ⟨g1, 0, none⟩) n n, .slice (some ⟨g2, 0, none⟩) n n, .slice none 0 0, .int .i64 0]) (by simp [results, Try.results8, go_sem, y0', y1', y2', y3']) rfl ?_
        exact fin n g1 g2 _ w (heap4 _ (K.out.2.2.2.1.size) K.out.2.1 K.out.2.2.1 (by have h1 := K.out.2.2.2.2.1; have h2 := K.out.2.2.2.2.2.1; have h3 := K.out.2.2.2.2.2.2.1; have h4 := K.out.2.2.2.2.2.2.2; have h5 := R.out.1.lt; omega) (by have h1 := K.out.2.2.2.2.1; have h2 := K.out.2.2.2.2.2.1; have h3 := K.out.2.2.2.2.2.2.1; have h4 := K.out.2.2.2.2.2.2.2; have h5 := R.out.1.lt; omega)) (below_set4 K.out.2.2.2.1 (Nat.le_refl _))
      · refine step_makeE elB rfl (.tmp 11) (.tmp 11) rfl .i64 .i64 0 0 n false rfl (by simp [Act.eval, Act.put]) (by simp [Act.eval, Act.put]) HN.out.1 HN.out.1 (by have := HN.out.2; omega) ?_
        intro w2 ho2 hb2
        refine hK.out _ _ trivial (fun hH1 => ?_)
        clear hK K' hH0
        try simp only [Act.put, List.getElem_toArray, List.getElem_cons_succ, List.getElem_cons_zero, List.setIfInBounds_toArray, List.set_cons_zero, List.set_cons_succ]
        refine wpAnyH_ready (rs := [1]) (by kernel_rfl) (by simp) ?_
        refine AllReadyH.cons (o := _) rfl (fun K' hK => ?_) AllReadyH.nil
        refine step_makeE elI rfl (.tmp 9) (.tmp 9) rfl .i64 .i64 0 0 n 0 rfl (by simp [Act.eval, Act.put]) (by simp [Act.eval, Act.put]) HN.out.1 HN.out.1 (by have := HN.out.2; omega) ?_
        intro w3 ho3 hb3
        refine hK.out _ _ trivial (fun hH2 => ?_)
        clear hK K' hH1
        try simp only [Act.put, List.getElem_toArray, List.getElem_cons_succ, List.getElem_cons_zero, List.setIfInBounds_toArray, List.set_cons_zero, List.set_cons_succ]
        have R3 := (R.out.1.below hb2).below (hb3)
        obtain ⟨⟨y0, y1, y2, y3⟩, z0, z1, z2, z3⟩ := R3.four
        obtain ⟨g1, hg1⟩ : ∃ g, Wd.heap.size = g := ⟨_, rfl⟩
        obtain ⟨g2, hg2⟩ : ∃ g, w2.heap.size = g := ⟨_, rfl⟩
        rw [hg1] at ho2 ⊢
        rw [hg2] at ho3 ⊢
        have K := Lib.hid (And.intro R3 (And.intro (ho2.keep hb3) (And.intro ho3 (And.intro (R.out.2.trans (((hb2.trans (hb3.mono hb2.size))).mono R.out.2.size)) (And.intro hg1 (And.intro hg2 (And.intro hb2.size R.out.2.size)))))))
        clear R3 ho2 ho3 hb2 hb3 hg1 hg2
        refine wpAnyH_take (i := 4) (oi := _) (v := .agg #[.slice (some ⟨g2, 0, none⟩) n n, .slice (some ⟨g1, 0, none⟩) n n, .slice none 0 0, .int .i64 0]) rfl (by kernel_rfl) (by kernel_rfl) (by kernel_rfl) (fun _ _ _ h => h) (Or.inl ⟨by rfl, by intro v hv; go_simp⟩) hH2 ?_
        try simp only [Act.put, List.getElem_toArray, List.getElem_cons_succ, List.getElem_cons_zero, List.setIfInBounds_toArray, List.set_cons_zero, List.set_cons_succ]
        refine wpAnyH_ready (rs := [5]) (by kernel_rfl) (by simp) ?_
        refine AllReadyH.cons (o := _) rfl (fun K' hK => ?_) AllReadyH.nil
        go_simp
        refine hK.out _ _ trivial (fun hH3 => ?_)
        clear hK K' hH2
        try simp only [Act.put, List.getElem_toArray, List.getElem_cons_succ, List.getElem_cons_zero, List.setIfInBounds_toArray, List.set_cons_zero, List.set_cons_succ]
        refine wpAnyH_done (by kernel_rfl) ?_ _
        go_wp2
        have q := K.out.1.set4 (a' := .slice (some ⟨g2, 0, none⟩) n n) (b' := .slice (some ⟨g1, 0, none⟩) n n) (c' := .slice none 0 0) (d' := .int .i64 0)
        obtain ⟨⟨y0', y1', y2', y3'⟩, _⟩ := q.four
        refine bodyPost_ret (v := .agg #[.slice (some ⟨g2, 0, none⟩) n n, .slice (some ⟨g1, 0, none⟩) n n, .slice none 0 0, .int .i64 0]) (by simp [results, Try.results8, go_sem, y0', y1', y2', y3']) rfl ?_
        exact fin n g2 g1 _ w (heap4 _ (K.out.2.2.2.1.size) K.out.2.2.1 K.out.2.1 (by have h1 := K.out.2.2.2.2.1; have h2 := K.out.2.2.2.2.2.1; have h3 := K.out.2.2.2.2.2.2.1; have h4 := K.out.2.2.2.2.2.2.2; have h5 := R.out.1.lt; omega) (by have h1 := K.out.2.2.2.2.1; have h2 := K.out.2.2.2.2.2.1; have h3 := K.out.2.2.2.2.2.2.1; have h4 := K.out.2.2.2.2.2.2.2; have h5 := R.out.1.lt; omega)) (below_set4 K.out.2.2.2.1 (Nat.le_refl _))
    · have n1 : decide (4096 < most) = false := by rw [decide_eq_false_iff_not]; exact h1
      have HN := Lib.hid (show most = (n : Int) ∧ n ≤ 4096 from by rw [if_pos (by omega)] at hn; omega)
      clear hn h0 h1
      go_enter Try.func8, Try.ntmps8
      go_wp2_with fail
      have R := Lib.hid (And.intro (show Blk (w.alloc (.cells #[.slice none 0 0, .slice none 0 0, .slice none 0 0, .int .i64 0] 29)).drew w.heap.size #[.slice none 0 0, .slice none 0 0, .slice none 0 0, .int .i64 0] 29 from Blk.new w _ _) (show Below w.heap.size w (w.alloc (.cells #[.slice none 0 0, .slice none 0 0, .slice none 0 0, .int .i64 0] 29)).drew from below_drew1 (below1 w _)))
      refine wp_region_held_drew (S := (fun v => True)) (by kernel_rfl) trivial (fun hH0 => ?_)
      obtain ⟨Wd, hWd⟩ : ∃ Wd, (w.alloc (.cells #[.slice none 0 0, .slice none 0 0, .slice none 0 0, .int .i64 0] 29)).drew = Wd := ⟨_, rfl⟩
      rw [hWd] at R ⊢
      clear hWd
      refine wpAnyH_take (i := 0) (oi := _) (v := .int .i64 most) rfl (by kernel_rfl) (by kernel_rfl) (by kernel_rfl) (fun _ _ _ h => h) (Or.inl ⟨by rfl, by intro v hv; go_simp⟩) hH0 ?_
      try simp only [Act.put, List.getElem_toArray, List.getElem_cons_succ, List.getElem_cons_zero, List.setIfInBounds_toArray, List.set_cons_zero, List.set_cons_succ]
      refine wpAnyH_take (i := 2) (oi := _) (v := .int .i64 most) rfl (by kernel_rfl) (by kernel_rfl) (by kernel_rfl) (fun _ _ _ h => h) (Or.inl ⟨by rfl, by intro v hv; go_simp⟩) hH0 ?_
      try simp only [Act.put, List.getElem_toArray, List.getElem_cons_succ, List.getElem_cons_zero, List.setIfInBounds_toArray, List.set_cons_zero, List.set_cons_succ]
      refine wpAnyH_ready (rs := [1, 3]) (by kernel_rfl) (by simp) ?_
      refine AllReadyH.cons (o := _) rfl (fun K' hK => ?_) (AllReadyH.cons (o := _) rfl (fun K' hK => ?_) AllReadyH.nil)
      · refine step_makeE elI rfl (.tmp 9) (.tmp 9) rfl .i64 .i64 most most n 0 rfl (by simp [Act.eval, Act.put]) (by simp [Act.eval, Act.put]) HN.out.1 HN.out.1 (by have := HN.out.2; omega) ?_
        intro w2 ho2 hb2
        refine hK.out _ _ trivial (fun hH1 => ?_)
        clear hK K' hH0
        try simp only [Act.put, List.getElem_toArray, List.getElem_cons_succ, List.getElem_cons_zero, List.setIfInBounds_toArray, List.set_cons_zero, List.set_cons_succ]
        refine wpAnyH_ready (rs := [3]) (by kernel_rfl) (by simp) ?_
        refine AllReadyH.cons (o := _) rfl (fun K' hK => ?_) AllReadyH.nil
        refine step_makeE elB rfl (.tmp 11) (.tmp 11) rfl .i64 .i64 most most n false rfl (by simp [Act.eval, Act.put]) (by simp [Act.eval, Act.put]) HN.out.1 HN.out.1 (by have := HN.out.2; omega) ?_
        intro w3 ho3 hb3
        refine hK.out _ _ trivial (fun hH2 => ?_)
        clear hK K' hH1
        try simp only [Act.put, List.getElem_toArray, List.getElem_cons_succ, List.getElem_cons_zero, List.setIfInBounds_toArray, List.set_cons_zero, List.set_cons_succ]
        have R3 := (R.out.1.below hb2).below (hb3)
        obtain ⟨⟨y0, y1, y2, y3⟩, z0, z1, z2, z3⟩ := R3.four
        obtain ⟨g1, hg1⟩ : ∃ g, Wd.heap.size = g := ⟨_, rfl⟩
        obtain ⟨g2, hg2⟩ : ∃ g, w2.heap.size = g := ⟨_, rfl⟩
        rw [hg1] at ho2 ⊢
        rw [hg2] at ho3 ⊢
        have K := Lib.hid (And.intro R3 (And.intro (ho2.keep hb3) (And.intro ho3 (And.intro (R.out.2.trans (((hb2.trans (hb3.mono hb2.size))).mono R.out.2.size)) (And.intro hg1 (And.intro hg2 (And.intro hb2.size R.out.2.size)))))))
        clear R3 ho2 ho3 hb2 hb3 hg1 hg2
        refine wpAnyH_take (i := 4) (oi := _) (v := .agg #[.slice (some ⟨g1, 0, none⟩) n n, .slice (some ⟨g2, 0, none⟩) n n, .slice none 0 0, .int .i64 0]) rfl (by kernel_rfl) (by kernel_rfl) (by kernel_rfl) (fun _ _ _ h => h) (Or.inl ⟨by rfl, by intro v hv; go_simp⟩) hH2 ?_
        try simp only [Act.put, List.getElem_toArray, List.getElem_cons_succ, List.getElem_cons_zero, List.setIfInBounds_toArray, List.set_cons_zero, List.set_cons_succ]
        refine wpAnyH_ready (rs := [5]) (by kernel_rfl) (by simp) ?_
        refine AllReadyH.cons (o := _) rfl (fun K' hK => ?_) AllReadyH.nil
        go_simp
        refine hK.out _ _ trivial (fun hH3 => ?_)
        clear hK K' hH2
        try simp only [Act.put, List.getElem_toArray, List.getElem_cons_succ, List.getElem_cons_zero, List.setIfInBounds_toArray, List.set_cons_zero, List.set_cons_succ]
        refine wpAnyH_done (by kernel_rfl) ?_ _
        go_wp2
        have q := K.out.1.set4 (a' := .slice (some ⟨g1, 0, none⟩) n n) (b' := .slice (some ⟨g2, 0, none⟩) n n) (c' := .slice none 0 0) (d' := .int .i64 0)
        obtain ⟨⟨y0', y1', y2', y3'⟩, _⟩ := q.four
        refine bodyPost_ret (v := .agg #[.slice (some ⟨g1, 0, none⟩) n n, .slice (some ⟨g2, 0, none⟩) n n, .slice none 0 0, .int .i64 0]) (by simp [results, Try.results8, go_sem, y0', y1', y2', y3']) rfl ?_
        exact fin n g1 g2 _ w (heap4 _ (K.out.2.2.2.1.size) K.out.2.1 K.out.2.2.1 (by have h1 := K.out.2.2.2.2.1; have h2 := K.out.2.2.2.2.2.1; have h3 := K.out.2.2.2.2.2.2.1; have h4 := K.out.2.2.2.2.2.2.2; have h5 := R.out.1.lt; omega) (by have h1 := K.out.2.2.2.2.1; have h2 := K.out.2.2.2.2.2.1; have h3 := K.out.2.2.2.2.2.2.1; have h4 := K.out.2.2.2.2.2.2.2; have h5 := R.out.1.lt; omega)) (below_set4 K.out.2.2.2.1 (Nat.le_refl _))
      · refine step_makeE elB rfl (.tmp 11) (.tmp 11) rfl .i64 .i64 most most n false rfl (by simp [Act.eval, Act.put]) (by simp [Act.eval, Act.put]) HN.out.1 HN.out.1 (by have := HN.out.2; omega) ?_
        intro w2 ho2 hb2
        refine hK.out _ _ trivial (fun hH1 => ?_)
        clear hK K' hH0
        try simp only [Act.put, List.getElem_toArray, List.getElem_cons_succ, List.getElem_cons_zero, List.setIfInBounds_toArray, List.set_cons_zero, List.set_cons_succ]
        refine wpAnyH_ready (rs := [1]) (by kernel_rfl) (by simp) ?_
        refine AllReadyH.cons (o := _) rfl (fun K' hK => ?_) AllReadyH.nil
        refine step_makeE elI rfl (.tmp 9) (.tmp 9) rfl .i64 .i64 most most n 0 rfl (by simp [Act.eval, Act.put]) (by simp [Act.eval, Act.put]) HN.out.1 HN.out.1 (by have := HN.out.2; omega) ?_
        intro w3 ho3 hb3
        refine hK.out _ _ trivial (fun hH2 => ?_)
        clear hK K' hH1
        try simp only [Act.put, List.getElem_toArray, List.getElem_cons_succ, List.getElem_cons_zero, List.setIfInBounds_toArray, List.set_cons_zero, List.set_cons_succ]
        have R3 := (R.out.1.below hb2).below (hb3)
        obtain ⟨⟨y0, y1, y2, y3⟩, z0, z1, z2, z3⟩ := R3.four
        obtain ⟨g1, hg1⟩ : ∃ g, Wd.heap.size = g := ⟨_, rfl⟩
        obtain ⟨g2, hg2⟩ : ∃ g, w2.heap.size = g := ⟨_, rfl⟩
        rw [hg1] at ho2 ⊢
        rw [hg2] at ho3 ⊢
        have K := Lib.hid (And.intro R3 (And.intro (ho2.keep hb3) (And.intro ho3 (And.intro (R.out.2.trans (((hb2.trans (hb3.mono hb2.size))).mono R.out.2.size)) (And.intro hg1 (And.intro hg2 (And.intro hb2.size R.out.2.size)))))))
        clear R3 ho2 ho3 hb2 hb3 hg1 hg2
        refine wpAnyH_take (i := 4) (oi := _) (v := .agg #[.slice (some ⟨g2, 0, none⟩) n n, .slice (some ⟨g1, 0, none⟩) n n, .slice none 0 0, .int .i64 0]) rfl (by kernel_rfl) (by kernel_rfl) (by kernel_rfl) (fun _ _ _ h => h) (Or.inl ⟨by rfl, by intro v hv; go_simp⟩) hH2 ?_
        try simp only [Act.put, List.getElem_toArray, List.getElem_cons_succ, List.getElem_cons_zero, List.setIfInBounds_toArray, List.set_cons_zero, List.set_cons_succ]
        refine wpAnyH_ready (rs := [5]) (by kernel_rfl) (by simp) ?_
        refine AllReadyH.cons (o := _) rfl (fun K' hK => ?_) AllReadyH.nil
        go_simp
        refine hK.out _ _ trivial (fun hH3 => ?_)
        clear hK K' hH2
        try simp only [Act.put, List.getElem_toArray, List.getElem_cons_succ, List.getElem_cons_zero, List.setIfInBounds_toArray, List.set_cons_zero, List.set_cons_succ]
        refine wpAnyH_done (by kernel_rfl) ?_ _
        go_wp2
        have q := K.out.1.set4 (a' := .slice (some ⟨g2, 0, none⟩) n n) (b' := .slice (some ⟨g1, 0, none⟩) n n) (c' := .slice none 0 0) (d' := .int .i64 0)
        obtain ⟨⟨y0', y1', y2', y3'⟩, _⟩ := q.four
        refine bodyPost_ret (v := .agg #[.slice (some ⟨g2, 0, none⟩) n n, .slice (some ⟨g1, 0, none⟩) n n, .slice none 0 0, .int .i64 0]) (by simp [results, Try.results8, go_sem, y0', y1', y2', y3']) rfl ?_
        exact fin n g2 g1 _ w (heap4 _ (K.out.2.2.2.1.size) K.out.2.2.1 K.out.2.1 (by have h1 := K.out.2.2.2.2.1; have h2 := K.out.2.2.2.2.2.1; have h3 := K.out.2.2.2.2.2.2.1; have h4 := K.out.2.2.2.2.2.2.2; have h5 := R.out.1.lt; omega) (by have h1 := K.out.2.2.2.2.1; have h2 := K.out.2.2.2.2.2.1; have h3 := K.out.2.2.2.2.2.2.1; have h4 := K.out.2.2.2.2.2.2.2; have h5 := R.out.1.lt; omega)) (below_set4 K.out.2.2.2.1 (Nat.le_refl _))

set_option maxHeartbeats 2000000 in
theorem ref_is (rs : List (Int × Int)) (ro : Option Addr) (rc : Nat) (k n z s g : Int) (w : World) (h : Sg elR w ro rs) (hl : rs.length ≤ 5000) :
    Calls Try.prog 9 #[.slice ro rs.length rc, .agg #[.int .i64 k, .int .i64 n, .int .i64 z, .int .i64 s, .int .i64 g]] w fun e w' => ∃ s' g', e = .returned (.agg #[.int .i64 s', .int .i64 g']) ∧ Below w.heap.size w w' := by
  have hb := below2 w (.cells #[.int .i64 k, .int .i64 n, .int .i64 z, .int .i64 s, .int .i64 g] 35) (.cells #[.int .i64 0, .int .i64 0] 33)
  by_cases h0 : z < 0
  · have n0 : decide (0 ≤ z) = false := by rw [decide_eq_false_iff_not]; omega
    have hbb := below2 w (.cells #[.int .i64 k, .int .i64 n, .int .i64 z, .int .i64 s, .int .i64 g] 35) (.cells #[.int .i64 s, .int .i64 g] 33)
    clear h h0 hb
    go_enter Try.func9, Try.ntmps9
    go_wp2
    refine bodyPost_ret (v := .agg #[.int .i64 s, .int .i64 g]) (by simp [results, Try.results9, go_sem]) rfl ⟨_, _, rfl, hbb⟩
  · cases rs with
    | nil =>
      have hbb := below2 w (.cells #[.int .i64 k, .int .i64 n, .int .i64 z, .int .i64 s, .int .i64 g] 35) (.cells #[.int .i64 s, .int .i64 g] 33)
      have n1 : (0 : Int) ≤ z := by omega
      clear h h0 hb hl
      simp only [List.length_nil]
      go_enter Try.func9, Try.ntmps9
      go_wp2
      refine bodyPost_ret (v := .agg #[.int .i64 s, .int .i64 g]) (by simp [results, Try.results9, go_sem]) rfl ⟨_, _, rfl, hbb⟩
    | cons r rs =>
      obtain ⟨L, hL⟩ : ∃ L, (r :: rs).length = L := ⟨_, rfl⟩
      have L0 : 0 < L := by rw [← hL]; simp
      have t0 : 0 ≤ z.tmod (L : Int) := Int.tmod_nonneg _ (by omega)
      have t1 : z.tmod (L : Int) < (L : Int) := Int.tmod_lt_of_pos _ (by omega)
      obtain ⟨m, hm⟩ : ∃ m : Nat, z.tmod (L : Int) = (m : Int) := ⟨(z.tmod (L : Int)).toNat, by omega⟩
      have hml : m < (r :: rs).length := by omega
      obtain ⟨⟨S1, S2⟩, hr⟩ : ∃ u, (r :: rs)[m] = u := ⟨_, rfl⟩
      obtain ⟨q, rfl, hat⟩ := h.below hb m (r :: rs)[m] (List.getElem?_eq_getElem hml)
      rw [hr] at hat
      have x0 := hat.1 _ rfl
      have x1 := hat.2 1 _ rfl (by decide)
      rw [show m * elR.n = m * 2 from rfl] at x0 x1
      rw [hL] at hl hml ⊢
      have hbb := below2 w (.cells #[.int .i64 k, .int .i64 n, .int .i64 z, .int .i64 s, .int .i64 g] 35) (.cells #[.int .i64 S1, .int .i64 S2] 33)
      have n1 : (0 : Int) ≤ z := by omega
      have n2 : (0 : Int) < (L : Int) := by omega
      have n3 : (m : Int) < (L : Int) := by omega
      have n4 : (0 : Int) ≤ (m : Int) := by omega
      have n5 : ¬ (L : Int) = 0 := by omega
      have hw : wrap64 (m : Int) = (m : Int) := wrap_in _ (by omega) (by omega)
      clear h hL h0 hb t0 t1 hat hr hml
      go_enter Try.func9, Try.ntmps9
      go_wp2
      refine bodyPost_ret (v := .agg #[.int .i64 S1, .int .i64 S2]) (by simp [results, Try.results9, go_sem]) rfl ?_
      exact ⟨⟨_, _, rfl⟩, hbb⟩

end Go.Proofs.Ytlommgljkjkmkaa.Gn
