/-
  The document's Free. Conditions: the bounds named in each theorem.
-/
import Derived.Test.YtlommgljkjkmkaaDcTake
namespace Go.Proofs.Ytlommgljkjkmkaa.Gn
open Go.RowKit
set_option linter.unusedVariables false
set_option linter.unusedSimpArgs false

/-- All elements of a slice more, in a region that draws its order. -/
theorem step_appAll {α : Type} (E : El α) {ops : Array Oper} {o : Oper} {a : Act} {Q : Exit → Act → World → Prop} {W : World} {K : Act → World → Prop} {D : Prop} (hgd : o.guard = none) (s x : Operand) (ho : o.op = .call { callee := .builtin .append, args := #[s, x], argTypes := #[E.L, E.L] })
    (base : Nat) (v : Value) (l ys : List α) (ao : Option Addr) (c m : Nat) (hm : m = ys.length) (hc : ao = none → c = 0) (hs : a.eval s = v) (hx : a.eval x = .slice ao m c) (hown : Rw E W base v l) (hsl : Sg E W ao ys) (hlen : l.length + ys.length ≤ 1000000000) (hb : base ≤ W.heap.size)
    (h : ∀ v' w', Rw E w' base v' (l ++ ys) → Below base W w' → K (a.put o.dst v') w') :
    if Region.wanted o (yielded ops a.tmps) = true then Oper.wp Try.prog o a W K Q else D := by
  have hw : Region.wanted o (yielded ops a.tmps) = true := by simp [Region.wanted, hgd]
  rw [if_pos hw]
  subst hm
  obtain ⟨i0, hi, hz0, hz1, hz2⟩ := info_parts E.info
  have few := E.few
  cases ao with
  | none =>
    have e := hsl.none
    subst e
    have hc0 := hc rfl
    subst hc0
    have hr := run_append_owned_none (P := Try.prog) W base E.L o.type E.T i0 E.n E.und hi v _ _ hown
    unfold Oper.wp execOp
    simp only [ho, resolve, invoke, builtin, Sem.run_bind, Sem.run_pure, Result.andThen_ok, List.map_toArray, List.map_cons, List.map_nil, hs, hx, List.length_nil, hr]
    exact h v W (by rw [List.append_nil]; exact hown) (Below.refl _ _)
  | some p =>
    obtain ⟨v', w', hrun, r1, r2, _, r4⟩ := run_append_own_at (P := Try.prog) W base E.L o.type E.T i0 _ E.n E.bytes E.und hi hz0 hz1 hz2 E.zs E.pos v _ _ hown p ys.length c (E.cat ys) (El.cat_len E ys) (fun j u hj => hsl.cells j u hj) (El.cat_mem E ys) (by unfold maxLen; omega) (Nat.le_trans (Nat.mul_le_mul_left _ few) (by omega)) hb
    unfold Oper.wp execOp
    simp only [ho, resolve, invoke, builtin, Sem.run_bind, Sem.run_pure, Result.andThen_ok, List.map_toArray, List.map_cons, List.map_nil, hs, hx, hrun]
    refine h v' w' ?_ ((Below.refl base W).grown r2 hb (fun k hk => (World.ownsRow.lt hown k hk).1))
    unfold Rw
    rw [List.length_append, El.cat_append]
    exact r1
theorem DS.keep {w W W' : World} {q g t n cg ct : Nat} {gens : List Int} {taken : List Bool} {vb ve : Value} (h : DS w W q g t n cg ct gens taken vb ve) (hb : Below W.heap.size W W') : DS w W' q g t n cg ct gens taken vb ve :=
  h.ot (fun k hk => hb.block k (by
    have a1 := h.box.lt
    have a2 := (h.rg.lt g rfl).2
    have a3 := (h.rt.lt t rfl).2
    rcases hk with rfl | rfl | rfl <;> assumption)) (h.be.trans (hb.mono (Nat.le_of_lt h.box.lt)))

set_option maxHeartbeats 4000000 in
theorem dfree_no (d : Dc) (v : Value) (F : Nat → Prop) (s g0 : Int) (w : World) (h : Dv w v d F) (hl : d.taken.length = d.gens.length) (hr : d.right s g0 = false) :
    Calls Try.prog 15 #[v, .agg #[.int .i64 s, .int .i64 g0]] w fun e w' => e = .returned (.tuple #[v, .bool false]) ∧ Below w.heap.size w w' := by
  obtain ⟨ga, gc, ta, tc, ba, bc, rfl, h1, h2, h3, h4, h5, h6, h7, h8, h9, h10, h11⟩ := id h
  have H := Lib.hid (And.intro hr (And.intro hl trivial))
  clear hr hl
  have D0 := Lib.hid (And.intro h (And.intro h1 (And.intro h2 (And.intro h3 (And.intro h4 (And.intro h5 (And.intro h6 (And.intro h7 (And.intro h10 h11)))))))))
  clear h h1 h2 h3 h4 h5 h6 h7 h8 h9 h10 h11
  go_enter Try.func15, Try.ntmps15
  go_wp2_with fail
  refine (dright_is d _ F s g0 _ (D0.out.1.keep (below3 w (.cells #[.slice ga d.gens.length gc, .slice ta d.taken.length tc, .slice ba d.back.length bc, .int .i64 (d.ever : Int)] 29) (.cells #[.int .i64 s, .int .i64 g0] 33) (.cells #[.slice none 0 0, .slice none 0 0, .slice none 0 0, .int .i64 0] 29))) H.out.2.1).mono ?_
  rintro _ w1 ⟨rfl, hb⟩
  have BQ : Blk w1 w.heap.size #[.slice ga d.gens.length gc, .slice ta d.taken.length tc, .slice ba d.back.length bc, .int .i64 (d.ever : Int)] 29 := (((Blk.new w _ _).alloc _).alloc _).below hb
  have BR : Blk w1 (w.heap.size + 1) #[.int .i64 s, .int .i64 g0] 33 := ((Blk.new' (w.alloc _) _ _ _ (by simp)).alloc _).below hb
  have BA : Blk w1 (w.heap.size + 2) #[.slice none 0 0, .slice none 0 0, .slice none 0 0, .int .i64 0] 29 := (Blk.new' ((w.alloc _).alloc _) _ _ _ (by simp)).below hb
  have hbe : Below w.heap.size w w1 := step0 (below3 w _ _ _) hb
  clear hb
  rw [H.out.1]
  obtain ⟨⟨b0, b1, b2, b3⟩, _⟩ := BQ.four
  obtain ⟨⟨y0, y1, y2, y3⟩, z0, z1, z2, z3⟩ := BA.four
  have K := Lib.hid (And.intro BA hbe)
  clear BQ BA BR hbe
  go_wp2
  obtain ⟨⟨y0', y1', y2', y3'⟩, _⟩ := (K.out.1.set4 (a' := .slice ga d.gens.length gc) (b' := .slice ta d.taken.length tc) (c' := .slice ba d.back.length bc) (d' := .int .i64 (d.ever : Int))).four
  refine bodyPost_ret (v := .tuple #[.agg #[.slice ga d.gens.length gc, .slice ta d.taken.length tc, .slice ba d.back.length bc, .int .i64 (d.ever : Int)], .bool false]) (by simp [results, Try.results15, go_sem, y0', y1', y2', y3']) rfl ⟨rfl, below_set4 K.out.2 (by omega)⟩

set_option maxHeartbeats 8000000 in
theorem dfree_ok (d : Dc) (v : Value) (F : Nat → Prop) (w : World) (n i : Nat) (g0 : Int) (h : Dv w v d F) (hg : d.gens.length = n) (ht : d.taken.length = n) (hsz : n ≤ 5000) (hbk : d.back.length ≤ 5000) (hx : d.gens[i]? = some g0) (hy : d.taken[i]? = some true) :
    Calls Try.prog 15 #[v, .agg #[.int .i64 (i : Int), .int .i64 g0]] w fun e w' => ∃ v' F', e = .returned (.tuple #[v', .bool true]) ∧ Dv w' v' (d.free i) F' ∧ (∀ k, F' k → F k ∨ w.heap.size ≤ k) ∧ Below w.heap.size w w' := by
  obtain ⟨ga, gc, ta, tc, ba, bc, rfl, h1, h2, h3, h4, h5, h6, h7, h8, h9, h10, h11⟩ := id h
  have hl := (List.getElem?_eq_some_iff.1 hx).1
  have hmx : Try.prog.follows .mixedOrders = true := by kernel_rfl
  have il : (i : Int) < (n : Int) := by omega
  have i0 : (0 : Int) ≤ (i : Int) := Int.natCast_nonneg _
  have hr : d.right (i : Int) g0 = true := by unfold Dc.right; rw [Int.toNat_natCast, hy, hx]; simp
  have H := Lib.hid (And.intro hr (And.intro (show d.taken.length = d.gens.length by omega) (And.intro hx (And.intro hy (And.intro hg (And.intro ht (And.intro hsz hbk)))))))
  clear hr hsz hl hx hy hbk hg ht
  have D0 := Lib.hid (And.intro h (And.intro h1 (And.intro h2 (And.intro h3 (And.intro h4 (And.intro h5 (And.intro h6 (And.intro h7 (And.intro h10 h11)))))))))
  clear h h1 h2 h3 h4 h5 h6 h7 h8 h9 h10 h11
  go_enter Try.func15, Try.ntmps15
  go_wp2_with fail
  refine (dright_is d _ F (i : Int) g0 _ (D0.out.1.keep (below3 w (.cells #[.slice ga d.gens.length gc, .slice ta d.taken.length tc, .slice ba d.back.length bc, .int .i64 (d.ever : Int)] 29) (.cells #[.int .i64 (i : Int), .int .i64 g0] 33) (.cells #[.slice none 0 0, .slice none 0 0, .slice none 0 0, .int .i64 0] 29))) H.out.2.1).mono ?_
  rintro _ w1 ⟨rfl, hb⟩
  have BQ : Blk w1 w.heap.size #[.slice ga d.gens.length gc, .slice ta d.taken.length tc, .slice ba d.back.length bc, .int .i64 (d.ever : Int)] 29 := (((Blk.new w _ _).alloc _).alloc _).below hb
  have BR : Blk w1 (w.heap.size + 1) #[.int .i64 (i : Int), .int .i64 g0] 33 := ((Blk.new' (w.alloc _) _ _ _ (by simp)).alloc _).below hb
  have BA : Blk w1 (w.heap.size + 2) #[.slice none 0 0, .slice none 0 0, .slice none 0 0, .int .i64 0] 29 := (Blk.new' ((w.alloc _).alloc _) _ _ _ (by simp)).below hb
  have hbe : Below w.heap.size w w1 := step0 (below3 w _ _ _) hb
  clear hb
  rw [H.out.1]
  obtain ⟨⟨b0', b1', b2', b3'⟩, hjunk⟩ := BQ.four
  clear hjunk
  have hbe0 := Lib.hid hbe
  have K1 := Lib.hid (And.intro BQ (And.intro BA BR))
  clear BQ BA BR hbe
  go_wp2_with fail
  refine (with_is ga ta ba gc tc d.back.length bc (d.ever : Int) d.gens d.taken _ (D0.out.2.1.below hbe0.out) (D0.out.2.2.1.below hbe0.out) D0.out.2.2.2.2.1 D0.out.2.2.2.2.2.1 (by have := H.out.2.2.2.2.1; have := H.out.2.2.2.2.2.2.1; omega) (by have := H.out.2.2.2.2.2.1; have := H.out.2.2.2.2.2.2.1; omega)).mono ?_
  rintro _ w2 ⟨vg, vt, rfl, hvg, hvt, hb⟩
  have hpos : 0 < n := by have := List.getElem?_eq_some_iff.1 H.out.2.2.1; have := this.1; have := H.out.2.2.2.2.1; omega
  obtain ⟨g, cg, rfl, hj⟩ := hvg.open (by rw [H.out.2.2.2.2.1]; exact hpos)
  clear hj
  obtain ⟨t, ct, rfl, hj⟩ := hvt.open (by rw [H.out.2.2.2.2.2.1]; exact hpos)
  clear hj hpos
  rw [H.out.2.2.2.2.1] at hvg
  rw [H.out.2.2.2.2.2.1] at hvt
  rw [H.out.2.2.2.2.1, H.out.2.2.2.2.2.1]
  have BQ2 := K1.out.1.below hb
  have BA2 := K1.out.2.1.below hb
  have BR2 := K1.out.2.2.below hb
  have hs1 : w.heap.size ≤ w1.heap.size := hbe0.out.size
  have hbe2 : Below w.heap.size w w2 := step0 hbe0.out hb
  obtain ⟨⟨c0, c1, c2, c3⟩, f0, f1, f2, f3⟩ := BQ2.four
  have S3 := DS.start (vb := .slice ba d.back.length bc) (ve := .int .i64 (d.ever : Int)) BQ2 hbe2 hvg hvt hs1 H.out.2.2.2.2.1 H.out.2.2.2.2.2.1
  have BR3 := BR2.move (heap_set4 (B := w.heap.size) (a' := .slice (some ⟨g, 0, none⟩) n cg) (b' := .slice (some ⟨t, 0, none⟩) n ct) (c' := .slice ba d.back.length bc) (d' := .int .i64 (d.ever : Int)) w2 (k := w.heap.size + 1) (by omega))
  have BA3 := BA2.move (heap_set4 (B := w.heap.size) (a' := .slice (some ⟨g, 0, none⟩) n cg) (b' := .slice (some ⟨t, 0, none⟩) n ct) (c' := .slice ba d.back.length bc) (d' := .int .i64 (d.ever : Int)) w2 (k := w.heap.size + 2) (by omega))
  obtain ⟨W3, hW3⟩ : ∃ W3, ((((w2.setCell ⟨w.heap.size, 0, none⟩ (.slice (some ⟨g, 0, none⟩) n cg)).setCell ⟨w.heap.size, 1, none⟩ (.slice (some ⟨t, 0, none⟩) n ct)).setCell ⟨w.heap.size, 2, none⟩ (.slice ba d.back.length bc)).setCell ⟨w.heap.size, 3, none⟩ (.int .i64 (d.ever : Int))) = W3 := ⟨_, rfl⟩
  rw [hW3] at S3 BA3 BR3
  have d1 := S3.box.four.1.2.1
  have e1 := BR3.two.1.1
  have l5 := S3.ceT (H.out.2.2.2.1)
  have m5 := S3.frT i
  have S4 := S3.setT H.out.2.2.2.1 false
  have BA4 := BA3.otherAt (S3.neT BA3 (by decide)) i (.bool false)
  have BR4 := BR3.otherAt (S3.neT BR3 (by decide)) i (.bool false)
  obtain ⟨W4, hW4⟩ : ∃ W4, W3.setCell ⟨t, i, none⟩ (.bool false) = W4 := ⟨_, rfl⟩
  rw [hW4] at S4 BA4 BR4
  have p0 := S4.box.four.1.2.2.1
  have p1 := BR4.two.1.1
  obtain ⟨Wd, hWd⟩ : ∃ Wd, W4.drew = Wd := ⟨_, rfl⟩
  have SD := Lib.hid (show DS w Wd w.heap.size g t n cg ct d.gens (d.taken.set i false) (.slice ba d.back.length bc) (.int .i64 (d.ever : Int)) ∧ Blk Wd (w.heap.size + 1) #[.int .i64 (i : Int), .int .i64 g0] 33 from hWd ▸ ⟨S4.ot (W' := W4.drew) (fun k hk => rfl) (below_drew1 S4.be), BR4.drw⟩)
  have BAD := Lib.hid (show Blk Wd (w.heap.size + 2) #[.slice none 0 0, .slice none 0 0, .slice none 0 0, .int .i64 0] 29 from hWd ▸ BA4.drw)
  clear S3 S4 BA2 BA3 BA4 BR2 BR3 BR4 BQ2 hvg hvt hb hs1 hbe2 K1
  go_wp2_with fail
  refine wp_region_held_drew (S := (fun v => v.cell? ⟨w.heap.size + 1, 0, none⟩ = some (.int .i64 (i : Int)))) (by kernel_rfl) p1 (fun hH0 => ?_)
  rw [hWd] at hH0 ⊢
  refine wpAnyH_take (i := 0) (oi := _) (v := .pointer (some ⟨w.heap.size, 2, none⟩)) rfl (by kernel_rfl) (by kernel_rfl) (by kernel_rfl) (fun _ _ _ h => h) (Or.inl ⟨by rfl, by intro v hv; go_simp⟩) hH0 ?_
  try simp only [Act.put, List.getElem_toArray, List.getElem_cons_succ, List.getElem_cons_zero, List.setIfInBounds_toArray, List.set_cons_zero, List.set_cons_succ]
  refine wpAnyH_take (i := 3) (oi := _) (v := .pointer (some ⟨w.heap.size + 1, 0, none⟩)) rfl (by kernel_rfl) (by kernel_rfl) (by kernel_rfl) (fun _ _ _ h => h) (Or.inl ⟨by rfl, by intro v hv; go_simp⟩) hH0 ?_
  try simp only [Act.put, List.getElem_toArray, List.getElem_cons_succ, List.getElem_cons_zero, List.setIfInBounds_toArray, List.set_cons_zero, List.set_cons_succ]
  refine wpAnyH_take (i := 4) (oi := _) (v := .int .i64 (i : Int)) rfl (by kernel_rfl) (by kernel_rfl) (by kernel_rfl) (fun _ _ _ h => h) (Or.inl ⟨by rfl, by intro v hv; go_simp⟩) hH0 ?_
  try simp only [Act.put, List.getElem_toArray, List.getElem_cons_succ, List.getElem_cons_zero, List.setIfInBounds_toArray, List.set_cons_zero, List.set_cons_succ]
  have pd0 := SD.out.1.box.four.1.2.2.1
  have pd1 := SD.out.2.two.1.1
  refine wpAnyH_ready (rs := [1, 5]) (by kernel_rfl) (by simp) ?_
  refine AllReadyH.cons (o := _) rfl (fun K' hK => ?_) (AllReadyH.cons (o := _) rfl (fun K' hK => ?_) AllReadyH.nil)
  · go_simp
    refine hK.out _ _ pd1 (fun hH1 => ?_)
    clear hK K' hH0
    try simp only [Act.put, List.getElem_toArray, List.getElem_cons_succ, List.getElem_cons_zero, List.setIfInBounds_toArray, List.set_cons_zero, List.set_cons_succ]
    refine wpAnyH_ready (rs := [2, 5]) (by kernel_rfl) (by simp) ?_
    refine AllReadyH.cons (o := _) rfl (fun K' hK => ?_) (AllReadyH.cons (o := _) rfl (fun K' hK => ?_) AllReadyH.nil)
    · refine step_appAll elN rfl (.const (.slice none 0 0)) (.tmp 19) rfl Wd.heap.size (.slice none 0 0) [] d.back ba bc d.back.length rfl D0.out.2.2.2.2.2.2.1 (by simp [Act.eval, Act.put]) (by simp [Act.eval, Act.put]) (Rw.nil _ _) (D0.out.2.2.2.1.below (SD.out.1.be)) (by have := H.out.2.2.2.2.2.2.2; simp; omega) (Nat.le_refl _) ?_
      intro v5 w5 hown hbel
      rw [List.nil_append] at hown
      obtain ⟨o5, c5, rfl, hjunk⟩ := hown.sl
      clear hjunk
      have S5 := SD.out.1.keep hbel
      have R5 := SD.out.2.below hbel
      have z0 := S5.box.four.1.2.2.1
      have z1 := R5.two.1.1
      refine hK.out _ _ z1 (fun hH2 => ?_)
      clear hK K' hH1
      try simp only [Act.put, List.getElem_toArray, List.getElem_cons_succ, List.getElem_cons_zero, List.setIfInBounds_toArray, List.set_cons_zero, List.set_cons_succ]
      have z2 : (w5.alloc (.cells #[.int .i64 (i : Int)] 3)).cell? ⟨w.heap.size, 2, none⟩ = some (.slice ba d.back.length bc) := (S5.box.alloc _).four.1.2.2.1
      have z3 : (w5.alloc (.cells #[.int .i64 (i : Int)] 3)).cell? ⟨w.heap.size + 1, 0, none⟩ = some (.int .i64 (i : Int)) := (R5.alloc _).two.1.1
      have Z5 := Lib.hid (And.intro hown (And.intro hbel (And.intro S5 (And.intro R5 (And.intro z2 z3)))))
      clear hown hbel S5 R5 z0 z1 z2 z3
      refine wpAnyH_ready (rs := [5]) (by kernel_rfl) (by simp) ?_
      refine AllReadyH.cons (o := _) rfl (fun K' hK => ?_) AllReadyH.nil
      go_simp
      refine hK.out _ _ Z5.out.2.2.2.2.2 (fun hH3 => ?_)
      clear hK K' hH2
      try simp only [Act.put, List.getElem_toArray, List.getElem_cons_succ, List.getElem_cons_zero, List.setIfInBounds_toArray, List.set_cons_zero, List.set_cons_succ]
      refine wpAnyH_ready (rs := [6]) (by kernel_rfl) (by simp) ?_
      refine AllReadyH.cons (o := _) rfl (fun K' hK => ?_) AllReadyH.nil
      refine step_appE elN rfl (.tmp 20) (.tmp 23) rfl Wd.heap.size (.slice o5 d.back.length c5) d.back i w5.heap.size (by simp [Act.eval, Act.put]) (by simp [Act.eval, Act.put]) (Z5.out.1.keep (below1 _ _)) (Blk.new w5 _ _) (by have := H.out.2.2.2.2.2.2.2; omega) (Z5.out.2.1.alloc Z5.out.2.1.size _).size ?_
      intro v6 w6 hown hgr hbk hbel
      have hbw : Below Wd.heap.size Wd w6 := Below.trans (Z5.out.2.1.alloc Z5.out.2.1.size _) hbel
      clear hbel hgr hbk
      have S6 := SD.out.1.keep hbw
      have R6 := SD.out.2.below hbw
      obtain ⟨bg, bgc, hv6, l1, l2, l3, l4, hjunk⟩ := hown.open (by simp)
      clear hjunk
      subst hv6
      have u0 := S6.box.four.1.2.2.1
      have u1 := R6.two.1.1
      refine hK.out _ _ u1 (fun hH4 => ?_)
      clear hK K' hH3
      try simp only [Act.put, List.getElem_toArray, List.getElem_cons_succ, List.getElem_cons_zero, List.setIfInBounds_toArray, List.set_cons_zero, List.set_cons_succ]
      have n2 := S6.box.four.2.2.2.1
      have S7 := S6.setB (.slice (some ⟨bg, 0, none⟩) (d.back ++ [i]).length bgc)
      have R7 := R6.otherAt (B' := w.heap.size) (by omega) 2 (.slice (some ⟨bg, 0, none⟩) (d.back ++ [i]).length bgc)
      have A7 := (BAD.out.below hbw).otherAt (B' := w.heap.size) (by omega) 2 (.slice (some ⟨bg, 0, none⟩) (d.back ++ [i]).length bgc)
      have B7 : Rw elN (w6.setCell ⟨w.heap.size, 2, none⟩ (.slice (some ⟨bg, 0, none⟩) (d.back ++ [i]).length bgc)) Wd.heap.size (.slice (some ⟨bg, 0, none⟩) (d.back ++ [i]).length bgc) (d.back ++ [i]) := hown.move fun k hk => Below.heap_setCell _ ⟨w.heap.size, 2, none⟩ _ k (by obtain rfl := Option.some.inj hk; have := SD.out.1.box.lt; show bg ≠ w.heap.size; omega)
      obtain ⟨L, hL⟩ : ∃ L, (d.back ++ [i]).length = L := ⟨_, rfl⟩
      rw [hL] at S7 R7 A7 B7 l1 ⊢
      obtain ⟨W7, hW7⟩ : ∃ W7, w6.setCell ⟨w.heap.size, 2, none⟩ (.slice (some ⟨bg, 0, none⟩) L bgc) = W7 := ⟨_, rfl⟩
      rw [hW7] at S7 R7 A7 B7
      obtain ⟨⟨c0, c1, c2, c3⟩, _⟩ := S7.box.four
      obtain ⟨⟨y0, y1, y2, y3⟩, x0, x1, x2, x3⟩ := A7.four
      have v1 := R7.two.1.1
      have Z := Lib.hid (And.intro S7 (And.intro A7 (And.intro B7 (And.intro hL (And.intro l1 (And.intro l2 l3))))))
      clear S6 R6 S7 R7 A7 B7 hown hbw hL l1 l2 l3 l4
      refine wpAnyH_take (i := 7) (oi := _) (v := .pointer (some ⟨w.heap.size, 2, none⟩)) rfl (by kernel_rfl) (by kernel_rfl) (by kernel_rfl) (fun _ _ _ h => h) (Or.inl ⟨by rfl, by intro v hv; go_simp⟩) hH4 ?_
      try simp only [Act.put, List.getElem_toArray, List.getElem_cons_succ, List.getElem_cons_zero, List.setIfInBounds_toArray, List.set_cons_zero, List.set_cons_succ]
      refine wpAnyH_ready (rs := [8]) (by kernel_rfl) (by simp) ?_
      refine AllReadyH.cons (o := _) rfl (fun K' hK => ?_) AllReadyH.nil
      go_simp
      refine hK.out _ _ v1 (fun hH5 => ?_)
      clear hK K' hH4
      try simp only [Act.put, List.getElem_toArray, List.getElem_cons_succ, List.getElem_cons_zero, List.setIfInBounds_toArray, List.set_cons_zero, List.set_cons_succ]
      refine wpAnyH_done (by kernel_rfl) ?_ _
      go_wp2
      have S8 := Z.out.1.ot (W' := (((W7.setCell ⟨w.heap.size + 2, 0, none⟩ (.slice (some ⟨g, 0, none⟩) n cg)).setCell ⟨w.heap.size + 2, 1, none⟩ (.slice (some ⟨t, 0, none⟩) n ct)).setCell ⟨w.heap.size + 2, 2, none⟩ (.slice (some ⟨bg, 0, none⟩) L bgc)).setCell ⟨w.heap.size + 2, 3, none⟩ (.int .i64 (d.ever : Int))) (fun k hk => heap_set4 _ (by
        have a1 := Z.out.1.neG Z.out.2.1 (by decide)
        have a2 := Z.out.1.neT Z.out.2.1 (by decide)
        rcases hk with rfl | rfl | rfl <;> omega)) (below_set4 Z.out.1.be (by omega))
      obtain ⟨⟨y0', y1', y2', y3'⟩, _⟩ := (Z.out.2.1.set4 (a' := .slice (some ⟨g, 0, none⟩) n cg) (b' := .slice (some ⟨t, 0, none⟩) n ct) (c' := .slice (some ⟨bg, 0, none⟩) L bgc) (d' := .int .i64 (d.ever : Int))).four
      have hd2 : w.heap.size + 2 < Wd.heap.size := BAD.out.lt
      have hs8 : Sg elN _ (some ⟨bg, 0, none⟩) (d.back ++ [i]) := (Z.out.2.2.1.move fun k hk => heap_set4 (B := w.heap.size + 2) (a' := .slice (some ⟨g, 0, none⟩) n cg) (b' := .slice (some ⟨t, 0, none⟩) n ct) (c' := .slice (some ⟨bg, 0, none⟩) L bgc) (d' := .int .i64 (d.ever : Int)) W7 (k := k) (by obtain rfl := Option.some.inj hk; have := Z.out.2.2.2.2.2.2; show bg ≠ w.heap.size + 2; omega)).seg
      have hlt8 : bg < W7.heap.size := (Z.out.2.2.1.lt bg rfl).2
      refine bodyPost_ret (v := .tuple #[.agg #[.slice (some ⟨g, 0, none⟩) n cg, .slice (some ⟨t, 0, none⟩) n ct, .slice (some ⟨bg, 0, none⟩) L bgc, .int .i64 (d.ever : Int)], .bool true]) (by simp [results, Try.results15, go_sem, y0', y1', y2', y3']) rfl ⟨_, fun k => (F k ∨ k = bg) ∨ k = g ∨ k = t, rfl, ?_⟩
      refine ⟨S8.dv (F := fun k => F k ∨ k = bg) hs8 Z.out.2.2.2.1.symm (fun e => by cases e) (by rw [Z.out.2.2.2.1]; exact Z.out.2.2.2.2.1) (fun a ha => by obtain rfl := Option.some.inj ha; exact .inr rfl) (fun k hk => ?_), fun k hk => ?_, S8.be⟩
      · rcases hk with e | rfl
        · exact Nat.lt_of_lt_of_le (D0.out.2.2.2.2.2.2.2.2.2 k e) S8.be.size
        · simpa using hlt8
      · rcases hk with (e | rfl) | rfl | rfl
        · exact .inl e
        · exact .inr (by have := Z.out.2.2.2.2.2.2; omega)
        · exact .inr (S8.rg.lt _ rfl).1
        · exact .inr (S8.rt.lt _ rfl).1
    · clear pd0 pd1
      have z2 : (Wd.alloc (.cells #[.int .i64 (i : Int)] 3)).cell? ⟨w.heap.size, 2, none⟩ = some (.slice ba d.back.length bc) := (SD.out.1.box.alloc _).four.1.2.2.1
      have z3 : (Wd.alloc (.cells #[.int .i64 (i : Int)] 3)).cell? ⟨w.heap.size + 1, 0, none⟩ = some (.int .i64 (i : Int)) := (SD.out.2.alloc _).two.1.1
      have SB := Lib.hid (And.intro (below1 Wd (.cells #[.int .i64 (i : Int)] 3)) (And.intro z2 z3))
      clear z2 z3
      go_simp
      refine hK.out _ _ SB.out.2.2 (fun hH2 => ?_)
      clear hK K' hH1
      try simp only [Act.put, List.getElem_toArray, List.getElem_cons_succ, List.getElem_cons_zero, List.setIfInBounds_toArray, List.set_cons_zero, List.set_cons_succ]
      refine wpAnyH_ready (rs := [2]) (by kernel_rfl) (by simp) ?_
      refine AllReadyH.cons (o := _) rfl (fun K' hK => ?_) AllReadyH.nil
      refine step_appAll elN rfl (.const (.slice none 0 0)) (.tmp 19) rfl (Wd.alloc (.cells #[.int .i64 (i : Int)] 3)).heap.size (.slice none 0 0) [] d.back ba bc d.back.length rfl D0.out.2.2.2.2.2.2.1 (by simp [Act.eval, Act.put]) (by simp [Act.eval, Act.put]) (Rw.nil _ _) (D0.out.2.2.2.1.below (SD.out.1.be.trans (SB.out.1.mono SD.out.1.be.size))) (by have := H.out.2.2.2.2.2.2.2; simp; omega) (Nat.le_refl _) ?_
      intro v5 w5 hown hbel
      rw [List.nil_append] at hown
      obtain ⟨o5, c5, rfl, hjunk⟩ := hown.sl
      clear hjunk
      have hbw : Below Wd.heap.size Wd w5 := SB.out.1.trans (hbel.mono SB.out.1.size)
      have hown := hown.base SB.out.1.size
      have S5 := SD.out.1.keep hbw
      have R5 := SD.out.2.below hbw
      have BB := (Blk.new Wd #[.int .i64 (i : Int)] 3).move (hbel.block Wd.heap.size (by simp))
      have z0 := S5.box.four.1.2.2.1
      have z1 := R5.two.1.1
      refine hK.out _ _ z1 (fun hH3 => ?_)
      clear hK K' hH2
      try simp only [Act.put, List.getElem_toArray, List.getElem_cons_succ, List.getElem_cons_zero, List.setIfInBounds_toArray, List.set_cons_zero, List.set_cons_succ]
      have Z5 := Lib.hid (And.intro hown (And.intro hbw (And.intro S5 (And.intro R5 BB))))
      clear hown hbel hbw S5 R5 z0 z1 BB
      refine wpAnyH_ready (rs := [6]) (by kernel_rfl) (by simp) ?_
      refine AllReadyH.cons (o := _) rfl (fun K' hK => ?_) AllReadyH.nil
      refine step_appE elN rfl (.tmp 20) (.tmp 23) rfl Wd.heap.size (.slice o5 d.back.length c5) d.back i Wd.heap.size (by simp [Act.eval, Act.put]) (by simp [Act.eval, Act.put]) Z5.out.1 Z5.out.2.2.2.2 (by have := H.out.2.2.2.2.2.2.2; omega) Z5.out.2.1.size ?_
      intro v6 w6 hown hgr hbk hbel
      have hbw : Below Wd.heap.size Wd w6 := Below.trans Z5.out.2.1 hbel
      clear hbel hgr hbk
      have S6 := SD.out.1.keep hbw
      have R6 := SD.out.2.below hbw
      obtain ⟨bg, bgc, hv6, l1, l2, l3, l4, hjunk⟩ := hown.open (by simp)
      clear hjunk
      subst hv6
      have u0 := S6.box.four.1.2.2.1
      have u1 := R6.two.1.1
      refine hK.out _ _ u1 (fun hH4 => ?_)
      clear hK K' hH3
      try simp only [Act.put, List.getElem_toArray, List.getElem_cons_succ, List.getElem_cons_zero, List.setIfInBounds_toArray, List.set_cons_zero, List.set_cons_succ]
      have n2 := S6.box.four.2.2.2.1
      have S7 := S6.setB (.slice (some ⟨bg, 0, none⟩) (d.back ++ [i]).length bgc)
      have R7 := R6.otherAt (B' := w.heap.size) (by omega) 2 (.slice (some ⟨bg, 0, none⟩) (d.back ++ [i]).length bgc)
      have A7 := (BAD.out.below hbw).otherAt (B' := w.heap.size) (by omega) 2 (.slice (some ⟨bg, 0, none⟩) (d.back ++ [i]).length bgc)
      have B7 : Rw elN (w6.setCell ⟨w.heap.size, 2, none⟩ (.slice (some ⟨bg, 0, none⟩) (d.back ++ [i]).length bgc)) Wd.heap.size (.slice (some ⟨bg, 0, none⟩) (d.back ++ [i]).length bgc) (d.back ++ [i]) := hown.move fun k hk => Below.heap_setCell _ ⟨w.heap.size, 2, none⟩ _ k (by obtain rfl := Option.some.inj hk; have := SD.out.1.box.lt; show bg ≠ w.heap.size; omega)
      obtain ⟨L, hL⟩ : ∃ L, (d.back ++ [i]).length = L := ⟨_, rfl⟩
      rw [hL] at S7 R7 A7 B7 l1 ⊢
      obtain ⟨W7, hW7⟩ : ∃ W7, w6.setCell ⟨w.heap.size, 2, none⟩ (.slice (some ⟨bg, 0, none⟩) L bgc) = W7 := ⟨_, rfl⟩
      rw [hW7] at S7 R7 A7 B7
      obtain ⟨⟨c0, c1, c2, c3⟩, _⟩ := S7.box.four
      obtain ⟨⟨y0, y1, y2, y3⟩, x0, x1, x2, x3⟩ := A7.four
      have v1 := R7.two.1.1
      have Z := Lib.hid (And.intro S7 (And.intro A7 (And.intro B7 (And.intro hL (And.intro l1 (And.intro l2 l3))))))
      clear S6 R6 S7 R7 A7 B7 hown hbw hL l1 l2 l3 l4
      refine wpAnyH_take (i := 7) (oi := _) (v := .pointer (some ⟨w.heap.size, 2, none⟩)) rfl (by kernel_rfl) (by kernel_rfl) (by kernel_rfl) (fun _ _ _ h => h) (Or.inl ⟨by rfl, by intro v hv; go_simp⟩) hH4 ?_
      try simp only [Act.put, List.getElem_toArray, List.getElem_cons_succ, List.getElem_cons_zero, List.setIfInBounds_toArray, List.set_cons_zero, List.set_cons_succ]
      refine wpAnyH_ready (rs := [8]) (by kernel_rfl) (by simp) ?_
      refine AllReadyH.cons (o := _) rfl (fun K' hK => ?_) AllReadyH.nil
      go_simp
      refine hK.out _ _ v1 (fun hH5 => ?_)
      clear hK K' hH4
      try simp only [Act.put, List.getElem_toArray, List.getElem_cons_succ, List.getElem_cons_zero, List.setIfInBounds_toArray, List.set_cons_zero, List.set_cons_succ]
      refine wpAnyH_done (by kernel_rfl) ?_ _
      go_wp2
      have S8 := Z.out.1.ot (W' := (((W7.setCell ⟨w.heap.size + 2, 0, none⟩ (.slice (some ⟨g, 0, none⟩) n cg)).setCell ⟨w.heap.size + 2, 1, none⟩ (.slice (some ⟨t, 0, none⟩) n ct)).setCell ⟨w.heap.size + 2, 2, none⟩ (.slice (some ⟨bg, 0, none⟩) L bgc)).setCell ⟨w.heap.size + 2, 3, none⟩ (.int .i64 (d.ever : Int))) (fun k hk => heap_set4 _ (by
        have a1 := Z.out.1.neG Z.out.2.1 (by decide)
        have a2 := Z.out.1.neT Z.out.2.1 (by decide)
        rcases hk with rfl | rfl | rfl <;> omega)) (below_set4 Z.out.1.be (by omega))
      obtain ⟨⟨y0', y1', y2', y3'⟩, _⟩ := (Z.out.2.1.set4 (a' := .slice (some ⟨g, 0, none⟩) n cg) (b' := .slice (some ⟨t, 0, none⟩) n ct) (c' := .slice (some ⟨bg, 0, none⟩) L bgc) (d' := .int .i64 (d.ever : Int))).four
      have hd2 : w.heap.size + 2 < Wd.heap.size := BAD.out.lt
      have hs8 : Sg elN _ (some ⟨bg, 0, none⟩) (d.back ++ [i]) := (Z.out.2.2.1.move fun k hk => heap_set4 (B := w.heap.size + 2) (a' := .slice (some ⟨g, 0, none⟩) n cg) (b' := .slice (some ⟨t, 0, none⟩) n ct) (c' := .slice (some ⟨bg, 0, none⟩) L bgc) (d' := .int .i64 (d.ever : Int)) W7 (k := k) (by obtain rfl := Option.some.inj hk; have := Z.out.2.2.2.2.2.2; show bg ≠ w.heap.size + 2; omega)).seg
      have hlt8 : bg < W7.heap.size := (Z.out.2.2.1.lt bg rfl).2
      refine bodyPost_ret (v := .tuple #[.agg #[.slice (some ⟨g, 0, none⟩) n cg, .slice (some ⟨t, 0, none⟩) n ct, .slice (some ⟨bg, 0, none⟩) L bgc, .int .i64 (d.ever : Int)], .bool true]) (by simp [results, Try.results15, go_sem, y0', y1', y2', y3']) rfl ⟨_, fun k => (F k ∨ k = bg) ∨ k = g ∨ k = t, rfl, ?_⟩
      refine ⟨S8.dv (F := fun k => F k ∨ k = bg) hs8 Z.out.2.2.2.1.symm (fun e => by cases e) (by rw [Z.out.2.2.2.1]; exact Z.out.2.2.2.2.1) (fun a ha => by obtain rfl := Option.some.inj ha; exact .inr rfl) (fun k hk => ?_), fun k hk => ?_, S8.be⟩
      · rcases hk with e | rfl
        · exact Nat.lt_of_lt_of_le (D0.out.2.2.2.2.2.2.2.2.2 k e) S8.be.size
        · simpa using hlt8
      · rcases hk with (e | rfl) | rfl | rfl
        · exact .inl e
        · exact .inr (by have := Z.out.2.2.2.2.2.2; omega)
        · exact .inr (S8.rg.lt _ rfl).1
        · exact .inr (S8.rt.lt _ rfl).1
  · clear pd0 pd1
    have z2 : (Wd.alloc (.cells #[.int .i64 (i : Int)] 3)).cell? ⟨w.heap.size, 2, none⟩ = some (.slice ba d.back.length bc) := (SD.out.1.box.alloc _).four.1.2.2.1
    have z3 : (Wd.alloc (.cells #[.int .i64 (i : Int)] 3)).cell? ⟨w.heap.size + 1, 0, none⟩ = some (.int .i64 (i : Int)) := (SD.out.2.alloc _).two.1.1
    have SB := Lib.hid (And.intro (below1 Wd (.cells #[.int .i64 (i : Int)] 3)) (And.intro z2 z3))
    clear z2 z3
    go_simp
    refine hK.out _ _ SB.out.2.2 (fun hH1 => ?_)
    clear hK K' hH0
    try simp only [Act.put, List.getElem_toArray, List.getElem_cons_succ, List.getElem_cons_zero, List.setIfInBounds_toArray, List.set_cons_zero, List.set_cons_succ]
    have z2 := SB.out.2.1
    refine wpAnyH_ready (rs := [1]) (by kernel_rfl) (by simp) ?_
    refine AllReadyH.cons (o := _) rfl (fun K' hK => ?_) AllReadyH.nil
    go_simp
    refine hK.out _ _ SB.out.2.2 (fun hH2 => ?_)
    clear hK K' hH1 z2
    try simp only [Act.put, List.getElem_toArray, List.getElem_cons_succ, List.getElem_cons_zero, List.setIfInBounds_toArray, List.set_cons_zero, List.set_cons_succ]
    refine wpAnyH_ready (rs := [2]) (by kernel_rfl) (by simp) ?_
    refine AllReadyH.cons (o := _) rfl (fun K' hK => ?_) AllReadyH.nil
    refine step_appAll elN rfl (.const (.slice none 0 0)) (.tmp 19) rfl (Wd.alloc (.cells #[.int .i64 (i : Int)] 3)).heap.size (.slice none 0 0) [] d.back ba bc d.back.length rfl D0.out.2.2.2.2.2.2.1 (by simp [Act.eval, Act.put]) (by simp [Act.eval, Act.put]) (Rw.nil _ _) (D0.out.2.2.2.1.below (SD.out.1.be.trans (SB.out.1.mono SD.out.1.be.size))) (by have := H.out.2.2.2.2.2.2.2; simp; omega) (Nat.le_refl _) ?_
    intro v5 w5 hown hbel
    rw [List.nil_append] at hown
    obtain ⟨o5, c5, rfl, hjunk⟩ := hown.sl
    clear hjunk
    have hbw : Below Wd.heap.size Wd w5 := SB.out.1.trans (hbel.mono SB.out.1.size)
    have hown := hown.base SB.out.1.size
    have S5 := SD.out.1.keep hbw
    have R5 := SD.out.2.below hbw
    have BB := (Blk.new Wd #[.int .i64 (i : Int)] 3).move (hbel.block Wd.heap.size (by simp))
    have z0 := S5.box.four.1.2.2.1
    have z1 := R5.two.1.1
    refine hK.out _ _ z1 (fun hH3 => ?_)
    clear hK K' hH2
    try simp only [Act.put, List.getElem_toArray, List.getElem_cons_succ, List.getElem_cons_zero, List.setIfInBounds_toArray, List.set_cons_zero, List.set_cons_succ]
    have Z5 := Lib.hid (And.intro hown (And.intro hbw (And.intro S5 (And.intro R5 BB))))
    clear hown hbel hbw S5 R5 z0 z1 BB
    refine wpAnyH_ready (rs := [6]) (by kernel_rfl) (by simp) ?_
    refine AllReadyH.cons (o := _) rfl (fun K' hK => ?_) AllReadyH.nil
    refine step_appE elN rfl (.tmp 20) (.tmp 23) rfl Wd.heap.size (.slice o5 d.back.length c5) d.back i Wd.heap.size (by simp [Act.eval, Act.put]) (by simp [Act.eval, Act.put]) Z5.out.1 Z5.out.2.2.2.2 (by have := H.out.2.2.2.2.2.2.2; omega) Z5.out.2.1.size ?_
    intro v6 w6 hown hgr hbk hbel
    have hbw : Below Wd.heap.size Wd w6 := Below.trans Z5.out.2.1 hbel
    clear hbel hgr hbk
    have S6 := SD.out.1.keep hbw
    have R6 := SD.out.2.below hbw
    obtain ⟨bg, bgc, hv6, l1, l2, l3, l4, hjunk⟩ := hown.open (by simp)
    clear hjunk
    subst hv6
    have u0 := S6.box.four.1.2.2.1
    have u1 := R6.two.1.1
    refine hK.out _ _ u1 (fun hH4 => ?_)
    clear hK K' hH3
    try simp only [Act.put, List.getElem_toArray, List.getElem_cons_succ, List.getElem_cons_zero, List.setIfInBounds_toArray, List.set_cons_zero, List.set_cons_succ]
    have n2 := S6.box.four.2.2.2.1
    have S7 := S6.setB (.slice (some ⟨bg, 0, none⟩) (d.back ++ [i]).length bgc)
    have R7 := R6.otherAt (B' := w.heap.size) (by omega) 2 (.slice (some ⟨bg, 0, none⟩) (d.back ++ [i]).length bgc)
    have A7 := (BAD.out.below hbw).otherAt (B' := w.heap.size) (by omega) 2 (.slice (some ⟨bg, 0, none⟩) (d.back ++ [i]).length bgc)
    have B7 : Rw elN (w6.setCell ⟨w.heap.size, 2, none⟩ (.slice (some ⟨bg, 0, none⟩) (d.back ++ [i]).length bgc)) Wd.heap.size (.slice (some ⟨bg, 0, none⟩) (d.back ++ [i]).length bgc) (d.back ++ [i]) := hown.move fun k hk => Below.heap_setCell _ ⟨w.heap.size, 2, none⟩ _ k (by obtain rfl := Option.some.inj hk; have := SD.out.1.box.lt; show bg ≠ w.heap.size; omega)
    obtain ⟨L, hL⟩ : ∃ L, (d.back ++ [i]).length = L := ⟨_, rfl⟩
    rw [hL] at S7 R7 A7 B7 l1 ⊢
    obtain ⟨W7, hW7⟩ : ∃ W7, w6.setCell ⟨w.heap.size, 2, none⟩ (.slice (some ⟨bg, 0, none⟩) L bgc) = W7 := ⟨_, rfl⟩
    rw [hW7] at S7 R7 A7 B7
    obtain ⟨⟨c0, c1, c2, c3⟩, _⟩ := S7.box.four
    obtain ⟨⟨y0, y1, y2, y3⟩, x0, x1, x2, x3⟩ := A7.four
    have v1 := R7.two.1.1
    have Z := Lib.hid (And.intro S7 (And.intro A7 (And.intro B7 (And.intro hL (And.intro l1 (And.intro l2 l3))))))
    clear S6 R6 S7 R7 A7 B7 hown hbw hL l1 l2 l3 l4
    refine wpAnyH_take (i := 7) (oi := _) (v := .pointer (some ⟨w.heap.size, 2, none⟩)) rfl (by kernel_rfl) (by kernel_rfl) (by kernel_rfl) (fun _ _ _ h => h) (Or.inl ⟨by rfl, by intro v hv; go_simp⟩) hH4 ?_
    try simp only [Act.put, List.getElem_toArray, List.getElem_cons_succ, List.getElem_cons_zero, List.setIfInBounds_toArray, List.set_cons_zero, List.set_cons_succ]
    refine wpAnyH_ready (rs := [8]) (by kernel_rfl) (by simp) ?_
    refine AllReadyH.cons (o := _) rfl (fun K' hK => ?_) AllReadyH.nil
    go_simp
    refine hK.out _ _ v1 (fun hH5 => ?_)
    clear hK K' hH4
    try simp only [Act.put, List.getElem_toArray, List.getElem_cons_succ, List.getElem_cons_zero, List.setIfInBounds_toArray, List.set_cons_zero, List.set_cons_succ]
    refine wpAnyH_done (by kernel_rfl) ?_ _
    go_wp2
    have S8 := Z.out.1.ot (W' := (((W7.setCell ⟨w.heap.size + 2, 0, none⟩ (.slice (some ⟨g, 0, none⟩) n cg)).setCell ⟨w.heap.size + 2, 1, none⟩ (.slice (some ⟨t, 0, none⟩) n ct)).setCell ⟨w.heap.size + 2, 2, none⟩ (.slice (some ⟨bg, 0, none⟩) L bgc)).setCell ⟨w.heap.size + 2, 3, none⟩ (.int .i64 (d.ever : Int))) (fun k hk => heap_set4 _ (by
      have a1 := Z.out.1.neG Z.out.2.1 (by decide)
      have a2 := Z.out.1.neT Z.out.2.1 (by decide)
      rcases hk with rfl | rfl | rfl <;> omega)) (below_set4 Z.out.1.be (by omega))
    obtain ⟨⟨y0', y1', y2', y3'⟩, _⟩ := (Z.out.2.1.set4 (a' := .slice (some ⟨g, 0, none⟩) n cg) (b' := .slice (some ⟨t, 0, none⟩) n ct) (c' := .slice (some ⟨bg, 0, none⟩) L bgc) (d' := .int .i64 (d.ever : Int))).four
    have hd2 : w.heap.size + 2 < Wd.heap.size := BAD.out.lt
    have hs8 : Sg elN _ (some ⟨bg, 0, none⟩) (d.back ++ [i]) := (Z.out.2.2.1.move fun k hk => heap_set4 (B := w.heap.size + 2) (a' := .slice (some ⟨g, 0, none⟩) n cg) (b' := .slice (some ⟨t, 0, none⟩) n ct) (c' := .slice (some ⟨bg, 0, none⟩) L bgc) (d' := .int .i64 (d.ever : Int)) W7 (k := k) (by obtain rfl := Option.some.inj hk; have := Z.out.2.2.2.2.2.2; show bg ≠ w.heap.size + 2; omega)).seg
    have hlt8 : bg < W7.heap.size := (Z.out.2.2.1.lt bg rfl).2
    refine bodyPost_ret (v := .tuple #[.agg #[.slice (some ⟨g, 0, none⟩) n cg, .slice (some ⟨t, 0, none⟩) n ct, .slice (some ⟨bg, 0, none⟩) L bgc, .int .i64 (d.ever : Int)], .bool true]) (by simp [results, Try.results15, go_sem, y0', y1', y2', y3']) rfl ⟨_, fun k => (F k ∨ k = bg) ∨ k = g ∨ k = t, rfl, ?_⟩
    refine ⟨S8.dv (F := fun k => F k ∨ k = bg) hs8 Z.out.2.2.2.1.symm (fun e => by cases e) (by rw [Z.out.2.2.2.1]; exact Z.out.2.2.2.2.1) (fun a ha => by obtain rfl := Option.some.inj ha; exact .inr rfl) (fun k hk => ?_), fun k hk => ?_, S8.be⟩
    · rcases hk with e | rfl
      · exact Nat.lt_of_lt_of_le (D0.out.2.2.2.2.2.2.2.2.2 k e) S8.be.size
      · simpa using hlt8
    · rcases hk with (e | rfl) | rfl | rfl
      · exact .inl e
      · exact .inr (by have := Z.out.2.2.2.2.2.2; omega)
      · exact .inr (S8.rg.lt _ rfl).1
      · exact .inr (S8.rt.lt _ rfl).1

end Go.Proofs.Ytlommgljkjkmkaa.Gn
