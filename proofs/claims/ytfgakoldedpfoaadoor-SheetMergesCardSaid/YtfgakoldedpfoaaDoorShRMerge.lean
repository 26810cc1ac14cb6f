/-
  The document's lines of two sheets, or that a key is in both: Merge. Conditions: two sheets in memory, of at most 100 lines.
-/
import Derived.Test.YtfgakoldedpfoaaDoorShMerge
namespace Go.Proofs.YtfgakoldedpfoaaDoor
open Go.RowKit
set_option linter.unusedVariables false
set_option linter.unusedSimpArgs false

section
variable {ops : Array Oper} {rest : List Oper} {o : Oper} {a : Act} {Q : Exit → Act → World → Prop}
/-- One line more. -/
theorem app1L (hgd : o.guard = none) (s x : Operand) (ho : o.op = .call { callee := .builtin .append, args := #[s, x], argTypes := #[25, 25] })
    (base : Nat) (v : Value) (l : List LV) (b : LV) (G : Nat) (w : World) (hs : a.eval s = v) (hx : a.eval x = .slice (some ⟨G, 0, none⟩) 1 1) (hown : OwL w base v l)
    (hG : Blk w G #[.string ⟨b.k.toArray⟩, .slice b.ao b.xs.length b.cap] 54) (hlen : l.length ≤ 1000000) (hb : base ≤ w.heap.size)
    (h : ∀ v' w', OwL w' base v' (l ++ [b]) → Below base w w' → wpList Tryd.prog ops Q rest (a.put o.dst v') w') : wpList Tryd.prog ops Q (o :: rest) a w := by
  obtain ⟨i0, hi, hz0, hz1, hz2⟩ := info_parts Tryd.infoL
  refine wpList_append_own_at _ hgd s x 25 ho base 54 i0 _ 2 40 Tryd.underlying25 hi hz0 hz1 hz2 rfl (by decide) v _ _ hs hown ⟨G, 0, none⟩ 1 1 b.cells hx rfl (by
    intro j u hj
    match j, hj with
    | 0, hj => simp [LV.cells] at hj; subst hj; exact hG.cell 0
    | 1, hj => simp [LV.cells] at hj; subst hj; exact hG.cell 1
    | (j + 2), hj => simp [LV.cells] at hj) (by intro u hu; simp [LV.cells] at hu; rcases hu with rfl | rfl <;> rfl) (by unfold maxLen; omega) (by omega) hb ?_
  intro v' w' hown' hgrow _ hbk
  refine h v' w' ?_ ((Below.refl base w).grown hgrow hb (fun k hk => (World.ownsRow.lt hown k hk).1))
  unfold OwL
  rw [List.length_append, lcs_append]
  have : lcs [b] = b.cells := by simp [lcs]
  rw [this]; exact hown'
/-- One line more, its box made right ahead. -/
theorem app1Ld (hgd : o.guard = none) (s x : Operand) (ho : o.op = .call { callee := .builtin .append, args := #[s, x], argTypes := #[25, 25] })
    (base : Nat) (v : Value) (l : List LV) (b : LV) (n : Nat) (wr : World) (hs : a.eval s = v) (hx : a.eval x = .slice (some ⟨wr.heap.size, 0, none⟩) 1 1) (hown : OwL wr base v l)
    (hlen : l.length ≤ 1000000) (hb : base ≤ wr.heap.size)
    (h : ∀ v' w', OwL w' base v' (l ++ [b]) → Below base wr w' → wpList Tryd.prog ops Q rest (a.put o.dst v') w') : wpList Tryd.prog ops Q (o :: rest) a ((wr.drewN n).alloc (.cells #[.string ⟨b.k.toArray⟩, .slice b.ao b.xs.length b.cap] 54)) := by
  have hd : Below wr.heap.size wr (wr.drewN n) := below_drewV n (Below.refl _ wr)
  have hd2 : Below wr.heap.size wr ((wr.drewN n).alloc (.cells #[.string ⟨b.k.toArray⟩, .slice b.ao b.xs.length b.cap] 54)) := step0 hd (below1 _ _)
  refine app1L hgd s x ho base v l b wr.heap.size _ hs hx (hown.keep hd2) (Blk.new (wr.drewN n) _ _) hlen (Nat.le_trans hb hd2.size) ?_
  intro v' w' h1 h2
  exact h v' w' h1 ((hd2.mono hb).trans h2)
end
theorem pst_y {p b : List L} {j : Nat} (hj : j < b.length) : pst p (mrg [] (b.drop j)) = pst (p ++ [b[j]]) (mrg [] (b.drop (j + 1))) := by
  rw [List.drop_eq_getElem_cons hj, mrg_nil, mrg_nil]
  simp [pst]

set_option maxRecDepth 1000000 in
set_option maxHeartbeats 4000000 in
theorem rmerge_s (nm nm2 : Nm.S) (ks ks2 : Int) (cs cs2 : List C) (za zb : List LV) (ao bo la lb : Option Addr) (cap cap2 ca cb : Nat) (w : World) (hA : LS w za la ca) (hB : LS w zb lb cb) (ha : za.length ≤ 100) (hb : zb.length ≤ 100) (R : List L × Int) (hR : mrg (lls za) (lls zb) = R) :
    Calls Tryd.prog 13 #[.agg #[.string ⟨nm.toArray⟩, .int .i64 ks, .slice ao cs.length cap, .slice la za.length ca], .agg #[.string ⟨nm2.toArray⟩, .int .i64 ks2, .slice bo cs2.length cap2, .slice lb zb.length cb]] w fun e w' => ∃ ro c zs, e = .returned (.tuple #[.slice ro zs.length c, .int .i64 R.2]) ∧ LS w' zs ro c ∧ lls zs = R.1 ∧ Below w.heap.size w w' := by
  have hsa : za.length < 4611686018427387904 := by omega
  have hsb : zb.length < 4611686018427387904 := by omega
  have H := Lib.hid (And.intro hA (And.intro hB (And.intro ha (And.intro hb trivial))))
  have hR0 : pst (lls []) (mrg ((lls za).drop 0) ((lls zb).drop 0)) = R := by rw [List.drop_zero, List.drop_zero]; exact (pst_nil _ _).trans hR
  have P0 := Lib.hid hR0
  clear hA hB ha hb hR hR0
  obtain ⟨W1, hW1⟩ : ∃ W1, (w.alloc (.cells #[.string ⟨nm.toArray⟩, .int .i64 ks, .slice ao cs.length cap, .slice la za.length ca] 27)).alloc (.cells #[.string ⟨nm2.toArray⟩, .int .i64 ks2, .slice bo cs2.length cap2, .slice lb zb.length cb] 27) = W1 := ⟨_, rfl⟩
  have p0 : Blk W1 w.heap.size #[.string ⟨nm.toArray⟩, .int .i64 ks, .slice ao cs.length cap, .slice la za.length ca] 27 := hW1 ▸ (Blk.new w _ _).alloc _
  have p1 : Blk W1 (w.heap.size + 1) #[.string ⟨nm2.toArray⟩, .int .i64 ks2, .slice bo cs2.length cap2, .slice lb zb.length cb] 27 := by have := Blk.new (w.alloc (.cells #[.string ⟨nm.toArray⟩, .int .i64 ks, .slice ao cs.length cap, .slice la za.length ca] 27)) #[.string ⟨nm2.toArray⟩, .int .i64 ks2, .slice bo cs2.length cap2, .slice lb zb.length cb] 27; rw [hW1] at this; simpa using this
  have K1 := Lib.hid (And.intro (hW1 ▸ below2s w _ _ : Below w.heap.size w W1) (And.intro p0 p1))
  obtain ⟨⟨c0, c1, c2, c3⟩, _⟩ := p0.s4
  obtain ⟨⟨e0, e1, e2, e3⟩, _⟩ := p1.s4
  clear p0 p1
  go_enter Tryd.func13, Tryd.ntmps13
  go_wp2
  go_loopw [6, 7, 8] (fun q l m wr => ∃ (i j : Nat) (ys : List LV), l = .int .i64 i ∧ m = .int .i64 j ∧ i ≤ za.length ∧ j ≤ zb.length ∧ Below w.heap.size w wr ∧ Blk wr w.heap.size #[.string ⟨nm.toArray⟩, .int .i64 ks, .slice ao cs.length cap, .slice la za.length ca] 27 ∧ Blk wr (w.heap.size + 1) #[.string ⟨nm2.toArray⟩, .int .i64 ks2, .slice bo cs2.length cap2, .slice lb zb.length cb] 27 ∧ OwL wr (w.heap.size + 2) q ys ∧ (∀ y ∈ ys, y ∈ za ∨ y ∈ zb) ∧ ys.length = i + j ∧ pst (lls ys) (mrg ((lls za).drop i) ((lls zb).drop j)) = R) (fun _ _ m _ => zb.length - (intOf m).toNat)
  case atStart => exact ⟨0, 0, [], rfl, rfl, Nat.zero_le _, Nat.zero_le _, K1.out.1, K1.out.2.1, K1.out.2.2, owl_nil _ _, fun y hy => by simp at hy, rfl, P0.out⟩
  case round =>
    obtain ⟨i, j, ys, rfl, rfl, hi, hj, hJ⟩ := hrel
    obtain ⟨qo, qc, hv, hqc, hqs⟩ := hJ.2.2.2.1.sl
    subst hv
    have P := Lib.hid hJ
    clear hJ hqc hqs c0 c1 c2 c3 e0 e1 e2 e3
    obtain ⟨⟨c0, c1, c2, c3⟩, _⟩ := P.out.2.1.s4
    obtain ⟨⟨e0, e1, e2, e3⟩, _⟩ := P.out.2.2.1.s4
    by_cases hjb : j < zb.length
    · have j0 : (0 : Int) ≤ (j : Int) := by omega
      have j1 : (j : Int) < (zb.length : Int) := by omega
      go_wp2
      go_loopw [6, 7] (fun q l wi => ∃ (i : Nat) (ys : List LV), l = .int .i64 i ∧ i ≤ za.length ∧ Below w.heap.size w wi ∧ Blk wi w.heap.size #[.string ⟨nm.toArray⟩, .int .i64 ks, .slice ao cs.length cap, .slice la za.length ca] 27 ∧ Blk wi (w.heap.size + 1) #[.string ⟨nm2.toArray⟩, .int .i64 ks2, .slice bo cs2.length cap2, .slice lb zb.length cb] 27 ∧ OwL wi (w.heap.size + 2) q ys ∧ (∀ y ∈ ys, y ∈ za ∨ y ∈ zb) ∧ ys.length = i + j ∧ pst (lls ys) (mrg ((lls za).drop i) ((lls zb).drop j)) = R) (fun _ l _ => za.length - (intOf l).toNat)
      case atStart => exact ⟨i, ys, rfl, hi, P.out⟩
      case round =>
        clear P hi c0 c1 c2 c3 e0 e1 e2 e3
        obtain ⟨i, ys, rfl, hi, hJ⟩ := hrel
        obtain ⟨qo, qc, hv, hqc, hqs⟩ := hJ.2.2.2.1.sl
        subst hv
        have P := Lib.hid hJ
        clear hJ hqc hqs
        obtain ⟨⟨c0, c1, c2, c3⟩, _⟩ := P.out.2.1.s4
        obtain ⟨⟨e0, e1, e2, e3⟩, _⟩ := P.out.2.2.1.s4
        obtain ⟨b, hb, x0, x1⟩ := (H.out.2.1.1.below P.out.1) j zb[j] (List.getElem?_eq_getElem hjb)
        subst hb
        by_cases hia : i < za.length
        · obtain ⟨a, ha, y0, y1⟩ := (H.out.1.1.below P.out.1) i za[i] (List.getElem?_eq_getElem hia)
          subst ha
          have L := Lib.hid (And.intro (fun h => pst_lt (p := lls ys) (a := lls za) (b := lls zb) (i := i) (j := j) (by rw [lls_len]; exact hia) (by rw [lls_len]; exact hjb) h) (And.intro (fun h => pst_gt (p := lls ys) (a := lls za) (b := lls zb) (i := i) (j := j) (by rw [lls_len]; exact hia) (by rw [lls_len]; exact hjb) h) (fun h => pst_eq (p := lls ys) (a := lls za) (b := lls zb) (i := i) (j := j) (by rw [lls_len]; exact hia) (by rw [lls_len]; exact hjb) h)))
          simp only [llk_at hia, llk_at hjb, LV.l] at L
          have M := Lib.hid (And.intro (List.getElem_mem hia) (List.getElem_mem hjb))
          obtain ⟨x, hx⟩ : ∃ x, za[i] = x := ⟨_, rfl⟩
          obtain ⟨y, hy⟩ : ∃ y, zb[j] = y := ⟨_, rfl⟩
          rw [hx] at y0 y1 L M
          rw [hy] at x0 x1 L M
          clear hx hy
          have i0 : (0 : Int) ≤ (i : Int) := by omega
          have i1 : (i : Int) < (za.length : Int) := by omega
          rcases Nm.tri x.k y.k with hk | hk | hk
          · have z9 : Op.bytesLess x.k y.k = true := by rw [Vl.less_eq]; simp [hk]
            have X := Lib.hid (L.out.1 hk)
            clear hk L
            go_wp2_with fail
            go_quiet (fail)
            go_wp2_with (refine app1Ld rfl _ _ rfl (w.heap.size + 2) _ ys x _ wr (by simp [Act.eval, Act.put]) (by simp [Act.eval, Act.put]) P.out.2.2.2.1 (by have := P.out.2.2.2.2.2.1; have := H.out.2.2.1; have := H.out.2.2.2.1; omega) (by have := P.out.2.2.1.lt; omega) ?_)
            intro v' w4 hO hb
            have G := Lib.hid (And.intro hO hb)
            clear hO hb c0 c1 c2 c3 e0 e1 e2 e3
            go_wp2
            go_roundw
            case rel => exact ⟨i + 1, ys ++ [x], rfl, hia, P.out.1.trans (G.out.2.mono (by omega)), P.out.2.1.below' G.out.2 (by omega), P.out.2.2.1.below' G.out.2 (by omega), G.out.1, fun u hu => by
              rcases List.mem_append.1 hu with hu | hu
              · exact P.out.2.2.2.2.1 u hu
              · rw [List.mem_singleton] at hu
                subst hu
                exact .inl M.out.1, by rw [List.length_append, P.out.2.2.2.2.2.1]; show i + j + 1 = _; omega, by rw [lls_append]; exact X.out.symm.trans P.out.2.2.2.2.2.2⟩
            case measure => simp [intOf]; omega
          · have z8 : Op.bytesLess y.k y.k = false := by rw [Vl.less_eq]; simp [key_irr]
            have X := Lib.hid (L.out.2.2 hk)
            rw [hk] at y0
            clear L hk
            go_wp2_with fail
            go_quiet (fail)
            go_wp2_with fail
            go_quiet (fail)
            go_wp2
            go_ret2
            refine ⟨none, 0, [], ?_, LS.nil _, ?_, below_drewV _ (below_drewV _ P.out.1)⟩
            · rw [← P.out.2.2.2.2.2.2, X.out]; rfl
            · rw [← P.out.2.2.2.2.2.2, X.out]; rfl
          · have z8 : Op.bytesLess x.k y.k = false := by rw [Vl.less_eq]; simp [key_asymm hk]
            have z7 : ¬ x.k = y.k := fun e => key_irr y.k (by rw [e] at hk; exact hk)
            have z9 : (x.k == y.k) = false := by rw [beq_eq_false_iff_ne]; exact z7
            have X := Lib.hid (L.out.2.1 hk)
            clear hk L
            go_wp2_with fail
            go_quiet (fail)
            go_wp2_with fail
            go_quiet (fail)
            go_wp2_with (refine app1Ld rfl _ _ rfl (w.heap.size + 2) _ ys y _ wr (by simp [Act.eval, Act.put]) (by simp [Act.eval, Act.put]) P.out.2.2.2.1 (by have := P.out.2.2.2.2.2.1; have := H.out.2.2.1; have := H.out.2.2.2.1; omega) (by have := P.out.2.2.1.lt; omega) ?_)
            intro v' w4 hO hb
            have G := Lib.hid (And.intro hO hb)
            clear hO hb c0 c1 c2 c3 e0 e1 e2 e3
            go_wp2
            go_roundw
            case rel => exact ⟨i, j + 1, ys ++ [y], rfl, rfl, hi, hjb, P.out.1.trans (G.out.2.mono (by omega)), P.out.2.1.below' G.out.2 (by omega), P.out.2.2.1.below' G.out.2 (by omega), G.out.1, fun u hu => by
              rcases List.mem_append.1 hu with hu | hu
              · exact P.out.2.2.2.2.1 u hu
              · rw [List.mem_singleton] at hu
                subst hu
                exact .inr M.out.2, by rw [List.length_append, P.out.2.2.2.2.2.1]; show i + j + 1 = _; omega, by rw [lls_append]; exact X.out.symm.trans P.out.2.2.2.2.2.2⟩
            case measure => simp [intOf]; omega
        · obtain rfl : i = za.length := by omega
          have X := Lib.hid (show pst (lls ys) (mrg ((lls za).drop za.length) ((lls zb).drop j)) = pst (lls ys ++ [zb[j].l]) (mrg ((lls za).drop za.length) ((lls zb).drop (j + 1))) by
            rw [List.drop_of_length_le (l := lls za) (by rw [lls_len]; exact Nat.le_refl _), pst_y (by rw [lls_len]; exact hjb), llk_at hjb])
          have M := Lib.hid (And.intro trivial (List.getElem_mem hjb))
          obtain ⟨y, hy⟩ : ∃ y, zb[j] = y := ⟨_, rfl⟩
          rw [hy] at x0 x1 X M
          clear hy
          go_wp2_with fail
          go_quiet (fail)
          go_wp2_with fail
          go_quiet (fail)
          go_wp2_with (refine app1Ld rfl _ _ rfl (w.heap.size + 2) _ ys y _ wr (by simp [Act.eval, Act.put]) (by simp [Act.eval, Act.put]) P.out.2.2.2.1 (by have := P.out.2.2.2.2.2.1; have := H.out.2.2.1; have := H.out.2.2.2.1; omega) (by have := P.out.2.2.1.lt; omega) ?_)
          intro v' w4 hO hb
          have G := Lib.hid (And.intro hO hb)
          clear hO hb c0 c1 c2 c3 e0 e1 e2 e3
          go_wp2
          go_roundw
          case rel => exact ⟨za.length, j + 1, ys ++ [y], rfl, rfl, Nat.le_refl _, hjb, P.out.1.trans (G.out.2.mono (by omega)), P.out.2.1.below' G.out.2 (by omega), P.out.2.2.1.below' G.out.2 (by omega), G.out.1, fun u hu => by
            rcases List.mem_append.1 hu with hu | hu
            · exact P.out.2.2.2.2.1 u hu
            · rw [List.mem_singleton] at hu
              subst hu
              exact .inr M.out.2, by rw [List.length_append, P.out.2.2.2.2.2.1]; show za.length + j + 1 = _; omega, by rw [lls_append]; exact X.out.symm.trans P.out.2.2.2.2.2.2⟩
          case measure => simp [intOf]; omega
    · obtain rfl : j = zb.length := by omega
      have hRR : R = (lls ys ++ (lls za).drop i, 0) := by
        have e := P.out.2.2.2.2.2.2
        rw [List.drop_of_length_le (l := lls zb) (by rw [lls_len]; exact Nat.le_refl _), pst_end'] at e
        exact e.symm
      have X := Lib.hid hRR
      clear hRR
      obtain ⟨A, hA⟩ : ∃ A, (if ca = i then la else Option.map (fun x => x.add (i * 2)) la) = A := ⟨_, rfl⟩
      have LD := Lib.hid (hA ▸ ((H.out.1.below P.out.1).drop i hi) : LS wr (za.drop i) A (ca - i))
      have LL := Lib.hid (show (za.drop i).length = za.length - i from List.length_drop)
      have i0 : (0 : Int) ≤ (i : Int) := by omega
      have i1 : (i : Int) ≤ (za.length : Int) := by omega
      go_wp2_with (refine appLs rfl _ _ rfl (w.heap.size + 2) _ ys (za.drop i) _ (by simp [Act.eval, Act.put]) P.out.2.2.2.1 A (za.length - i) (ca - i) (by simp [Act.eval, Act.put]) LL.out.symm LD.out.1 LD.out.2.2.2 (by rw [LL.out]; have := P.out.2.2.2.2.2.1; have := H.out.2.2.1; have := H.out.2.2.2.1; omega) (by have := P.out.2.2.1.lt; omega) ?_)
      intro v' w4 hO hb _ _
      obtain ⟨ro, rc, hv, hLS⟩ := hO.ls (fun u hu => by
        have hbw := P.out.1.trans (hb.mono (Nat.le_add_right _ 2))
        rcases List.mem_append.1 hu with h | h
        · rcases P.out.2.2.2.2.1 u h with h | h
          · exact (H.out.1.2.1.below hbw) u h
          · exact (H.out.2.1.2.1.below hbw) u h
        · exact (H.out.1.2.1.below hbw) u (List.mem_of_mem_drop h))
      subst hv
      have G := Lib.hid (And.intro hLS (P.out.1.trans (hb.mono (Nat.le_add_right _ 2))))
      clear hO hb hLS c0 c1 c2 c3 e0 e1 e2 e3 hA
      go_wp2
      go_ret2
      refine ⟨ro, rc, ys ++ za.drop i, ?_, G.out.1, ?_, G.out.2⟩
      · rw [X.out]; rfl
      · rw [X.out, lls_append, llk_drop]

end Go.Proofs.YtfgakoldedpfoaaDoor
