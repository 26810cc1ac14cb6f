/-
  The lines of two sheets by rising keys, or that a key is in both: Merge. Conditions: two sheets in memory, of at most 100 lines of at most 30 values.
-/
import Derived.Test.YtfgakoldedpfoaaDoorShPut
import Derived.BigQuiet
namespace Go.Proofs.YtfgakoldedpfoaaDoor
open Go.RowKit
set_option linter.unusedVariables false
set_option linter.unusedSimpArgs false

def lnv : Value → Nat
  | .slice _ n _ => n
  | _ => 0
section
variable {ops : Array Oper} {rest : List Oper} {o : Oper} {a : Act} {Q : Exit → Act → World → Prop}
/-- Room for so many lines. -/
theorem makeLs (w : World) (hgd : o.guard = none) (l c : Operand) (ho : o.op = Op.makeSlice 25 l c) (kl kc : IntKind) (C : Int) (n : Nat) (hl : a.eval l = .int kl 0) (hc : a.eval c = .int kc C) (hC : C = (n : Int)) (hn : n ≤ 1000)
    (h : ∀ w', OwL w' w.heap.size (.slice (some ⟨w.heap.size, 0, none⟩) 0 n) [] → Below w.heap.size w w' → wpList Tryd.prog ops Q rest (a.put o.dst (.slice (some ⟨w.heap.size, 0, none⟩) 0 n)) w') : wpList Tryd.prog ops Q (o :: rest) a w := by
  obtain ⟨i0, hi, hz0, hz1, hz2⟩ := info_parts Tryd.infoL
  refine wpList_make_own w hgd l c 25 ho w.heap.size 54 i0 _ 2 Tryd.underlying25 hi hz0 hz1 kl kc C n hl hc hC (by rw [hz2]; omega) (by unfold maxLen; omega) (Nat.le_refl _) ?_
  intro w' hown hgr
  exact h w' hown ((Below.refl _ w).grown hgr (Nat.le_refl _) (fun k hk => by cases hk))
end
/-- One line more, in a region that draws its order. -/
theorem step_appL {ops : Array Oper} {o : Oper} {a : Act} {W : World} {K : Act → World → Prop} {Q : Exit → Act → World → Prop} {E : Prop} (hgd : o.guard = none) (s x : Operand) (ho : o.op = .call { callee := .builtin .append, args := #[s, x], argTypes := #[25, 25] })
    (base : Nat) (v : Value) (l : List LV) (b : LV) (G : Nat) (hs : a.eval s = v) (hx : a.eval x = .slice (some ⟨G, 0, none⟩) 1 1) (hown : OwL W base v l)
    (hG : Blk W G #[.string ⟨b.k.toArray⟩, .slice b.ao b.xs.length b.cap] 54) (hlen : l.length ≤ 1000000000) (hb : base ≤ W.heap.size)
    (h : ∀ v' w', OwL w' base v' (l ++ [b]) → W.grownBy w' v.ownBlock → (v'.ownBlock = v.ownBlock ∨ v'.ownBlock = some W.heap.size) → K (a.put o.dst v') w') :
    if Region.wanted o (yielded ops a.tmps) = true then Oper.wp Tryd.prog o a W K Q else E := by
  have hw : Region.wanted o (yielded ops a.tmps) = true := by simp [Region.wanted, hgd]
  rw [if_pos hw]
  obtain ⟨i0, hi, hz0, hz1, hz2⟩ := info_parts Tryd.infoL
  obtain ⟨v', w', hrun, r1, r2, _, r4⟩ := run_append_own_at (P := Tryd.prog) W base 25 o.type 54 i0 _ 2 40 Tryd.underlying25 hi hz0 hz1 hz2 rfl (by decide) v _ _ hown ⟨G, 0, none⟩ 1 1 b.cells rfl (by
    intro j u hj
    match j, hj with
    | 0, hj => simp [LV.cells] at hj; subst hj; exact hG.cell 0
    | 1, hj => simp [LV.cells] at hj; subst hj; exact hG.cell 1
    | (j + 2), hj => simp [LV.cells] at hj) (by intro u hu; simp [LV.cells] at hu; rcases hu with rfl | rfl <;> rfl) (by unfold maxLen; omega) (by omega) hb
  unfold Oper.wp execOp
  simp only [ho, resolve, invoke, builtin, Sem.run_bind, Sem.run_pure, Result.andThen_ok, List.map_toArray, List.map_cons, List.map_nil, hs, hx, hrun]
  refine h v' w' ?_ r2 r4
  unfold OwL
  rw [List.length_append, lcs_append]
  have : lcs [b] = b.cells := by simp [lcs]
  rw [this]; exact r1
theorem llk_at {zs : List LV} {i : Nat} (h : i < zs.length) : (lls zs)[i]'(by rw [lls_len]; exact h) = zs[i].l := lls_at h

set_option maxRecDepth 1000000 in
set_option maxHeartbeats 2000000 in
theorem merge_is (nm nm2 : Nm.S) (ks ks2 : Int) (cs cs2 : List C) (za zb : List LV) (ao bo la lb : Option Addr) (cap cap2 ca cb : Nat) (w : World) (hA : LS w za la ca) (hB : LS w zb lb cb) (ha : za.length ≤ 100) (hb : zb.length ≤ 100) (ha30 : ∀ z ∈ za, z.xs.length ≤ 30) (hb30 : ∀ z ∈ zb, z.xs.length ≤ 30) (R : List L × Int) (hR : mrg (lls za) (lls zb) = R) :
    Calls Tryd.prog 12 #[.agg #[.string ⟨nm.toArray⟩, .int .i64 ks, .slice ao cs.length cap, .slice la za.length ca], .agg #[.string ⟨nm2.toArray⟩, .int .i64 ks2, .slice bo cs2.length cap2, .slice lb zb.length cb]] w fun e w' => ∃ ro c zs, e = .returned (.tuple #[.slice ro zs.length c, .int .i64 R.2]) ∧ LS w' zs ro c ∧ lls zs = R.1 ∧ Below w.heap.size w w' := by
  have hsa : za.length < 4611686018427387904 := by omega
  have hsb : zb.length < 4611686018427387904 := by omega
  have H := Lib.hid (And.intro hA (And.intro hB (And.intro ha (And.intro hb (And.intro ha30 (And.intro hb30 hR))))))
  have hR0 : pst [] (mrg ((lls za).drop 0) ((lls zb).drop 0)) = R := by rw [List.drop_zero, List.drop_zero, pst_nil]; exact hR
  have P0 := Lib.hid hR0
  clear hA hB ha hb ha30 hb30 hR hR0
  obtain ⟨W1, hW1⟩ : ∃ W1, (w.alloc (.cells #[.string ⟨nm.toArray⟩, .int .i64 ks, .slice ao cs.length cap, .slice la za.length ca] 27)).alloc (.cells #[.string ⟨nm2.toArray⟩, .int .i64 ks2, .slice bo cs2.length cap2, .slice lb zb.length cb] 27) = W1 := ⟨_, rfl⟩
  have p0 : Blk W1 w.heap.size #[.string ⟨nm.toArray⟩, .int .i64 ks, .slice ao cs.length cap, .slice la za.length ca] 27 := hW1 ▸ (Blk.new w _ _).alloc _
  have p1 : Blk W1 (w.heap.size + 1) #[.string ⟨nm2.toArray⟩, .int .i64 ks2, .slice bo cs2.length cap2, .slice lb zb.length cb] 27 := by have := Blk.new (w.alloc (.cells #[.string ⟨nm.toArray⟩, .int .i64 ks, .slice ao cs.length cap, .slice la za.length ca] 27)) #[.string ⟨nm2.toArray⟩, .int .i64 ks2, .slice bo cs2.length cap2, .slice lb zb.length cb] 27; rw [hW1] at this; simpa using this
  have K1 := Lib.hid (And.intro (hW1 ▸ below2s w _ _ : Below w.heap.size w W1) (And.intro p0 p1))
  obtain ⟨⟨c0, c1, c2, c3⟩, _⟩ := p0.s4
  obtain ⟨⟨e0, e1, e2, e3⟩, _⟩ := p1.s4
  clear p0 p1
  go_enter Tryd.func12, Tryd.ntmps12
  go_wp2_with (refine makeLs _ rfl _ _ rfl _ _ _ (za.length + zb.length) rfl rfl (by simp) (by have := H.out.2.2.1; have := H.out.2.2.2.1; omega) ?_)
  intro w2 hO hb
  clear hW1
  have K2 := Lib.hid (And.intro (step0 K1.out.1 hb) (And.intro (K1.out.2.1.below hb) (And.intro (K1.out.2.2.below hb) (hO.base K1.out.1.size))))
  obtain ⟨v, hv⟩ : ∃ v, Value.slice (some ⟨W1.heap.size, 0, none⟩) 0 (za.length + zb.length) = v := ⟨_, rfl⟩
  rw [hv] at K2
  rw [hv]
  clear hb hO c0 c1 c2 c3 e0 e1 e2 e3 hv
  obtain ⟨⟨c0, c1, c2, c3⟩, _⟩ := K2.out.2.1.s4
  obtain ⟨⟨e0, e1, e2, e3⟩, _⟩ := K2.out.2.2.1.s4
  go_wp2_with fail
  go_quiet (fail)
  go_wp2
  go_loopw [6, 7, 8] (fun q l m wr => ∃ (i j : Nat) (ys : List LV) (pa pb : Option Addr) (qa qb : Nat), l = .slice pa (za.length - i) qa ∧ m = .slice pb (zb.length - j) qb ∧ i ≤ za.length ∧ j ≤ zb.length ∧ Below w.heap.size w wr ∧ OwL wr w.heap.size q ys ∧ LS w (za.drop i) pa qa ∧ LS w (zb.drop j) pb qb ∧ (∀ y ∈ ys, y ∈ za ∨ y ∈ zb) ∧ ys.length = i + j ∧ pst (lls ys) (mrg ((lls za).drop i) ((lls zb).drop j)) = R) (fun _ l m _ => lnv l + lnv m)
  case atStart => exact ⟨0, 0, [], la, lb, ca, cb, rfl, rfl, Nat.zero_le _, Nat.zero_le _, below_drewV _ K2.out.1, K2.out.2.2.2, H.out.1, H.out.2.1, fun y hy => by simp at hy, rfl, P0.out⟩
  case round =>
    obtain ⟨i, j, ys, pa, pb, qa, qb, rfl, rfl, hi, hj, hb, hO, hA, hB, hin, hlen, hP⟩ := hrel
    have J := Lib.hid (And.intro hb (And.intro hO (And.intro hA (And.intro hB (And.intro hin (And.intro hlen hP))))))
    clear hb hO hA hB hin hlen hP c0 c1 c2 c3 e0 e1 e2 e3
    have hna := H.out.2.2.1
    have hnb := H.out.2.2.2.1
    by_cases hia : i < za.length
    · by_cases hjb : j < zb.length
      · obtain ⟨a, ha, y0, y1⟩ := (J.out.2.2.1.1.below J.out.1) 0 za[i] (by rw [List.getElem?_drop, Nat.add_zero, List.getElem?_eq_getElem hia])
        obtain ⟨b, hb, x0, x1⟩ := (J.out.2.2.2.1.1.below J.out.1) 0 zb[j] (by rw [List.getElem?_drop, Nat.add_zero, List.getElem?_eq_getElem hjb])
        subst ha hb
        have e0 : ∀ p : Addr, p.add (0 * 2) = p := fun p => by simp [Addr.add]
        rw [e0] at y0 y1 x0 x1
        clear e0
        obtain ⟨p, hp⟩ : ∃ p, za.length - i = p := ⟨_, rfl⟩
        obtain ⟨q, hq⟩ : ∃ q, zb.length - j = q := ⟨_, rfl⟩
        have p0 : (0 : Int) < (p : Int) := by omega
        have q0 : (0 : Int) < (q : Int) := by omega
        have p1 : (1 : Int) ≤ (p : Int) := by omega
        have q1 : (1 : Int) ≤ (q : Int) := by omega
        have p2 : 0 < p := by omega
        have q2 : 0 < q := by omega
        have L := Lib.hid (And.intro (fun h => pst_lt (p := lls ys) (a := lls za) (b := lls zb) (i := i) (j := j) (by rw [lls_len]; exact hia) (by rw [lls_len]; exact hjb) h) (And.intro (fun h => pst_gt (p := lls ys) (a := lls za) (b := lls zb) (i := i) (j := j) (by rw [lls_len]; exact hia) (by rw [lls_len]; exact hjb) h) (fun h => pst_eq (p := lls ys) (a := lls za) (b := lls zb) (i := i) (j := j) (by rw [lls_len]; exact hia) (by rw [lls_len]; exact hjb) h)))
        simp only [llk_at hia, llk_at hjb, LV.l] at L
        have hza := H.out.1.2.1.at hia
        have hzb := H.out.2.1.2.1.at hjb
        have M := Lib.hid (And.intro (List.getElem_mem hia) (List.getElem_mem hjb))
        obtain ⟨x, hx⟩ : ∃ x, za[i] = x := ⟨_, rfl⟩
        obtain ⟨y, hy⟩ : ∃ y, zb[j] = y := ⟨_, rfl⟩
        rw [hx] at y0 y1 hza L M
        rw [hy] at x0 x1 hzb L M
        rw [hp, hq]
        have FF := Lib.hid (And.intro hza (And.intro hzb (And.intro hp (And.intro hq (And.intro hia hjb)))))
        clear hza hzb hx hy hp hq hna hnb hia hjb hi hj
        have S0 := Lib.hid (show wr.cell? a = some (.string ⟨x.k.toArray⟩) ∧ wr.cell? ⟨a.block, a.off + 1, none⟩ = some (.slice x.ao x.xs.length x.cap) ∧ wr.cell? b = some (.string ⟨y.k.toArray⟩) ∧ wr.cell? ⟨b.block, b.off + 1, none⟩ = some (.slice y.ao y.xs.length y.cap) from ⟨y0, y1, x0, x1⟩)
        clear y0 y1 x0 x1
        have BD := Lib.hid (show Below wr.heap.size wr wr.drew from below_drew1 (Below.refl _ wr))
        rcases Nm.tri x.k y.k with hk | hk | hk
        · have X := Lib.hid (And.intro (cb_m hk) (L.out.1 hk))
          clear hk L
          go_wp2_with fail
          refine wp_region_held_drew (S := fun v => v.cell? a = some (.string ⟨x.k.toArray⟩) ∧ v.cell? ⟨a.block, a.off + 1, none⟩ = some (.slice x.ao x.xs.length x.cap) ∧ v.cell? b = some (.string ⟨y.k.toArray⟩) ∧ v.cell? ⟨b.block, b.off + 1, none⟩ = some (.slice y.ao y.xs.length y.cap)) (by kernel_rfl) S0.out (fun hH0 => ?_)
          refine wpAnyH_take (i := 0) (oi := _) (v := .slice (some a) p qa) rfl (by kernel_rfl) (by kernel_rfl) (by kernel_rfl) (fun _ _ _ h => h) (Or.inl ⟨by rfl, by intro v hv; go_simp⟩) hH0 ?_
          try simp only [Act.put, List.getElem_toArray, List.getElem_cons_succ, List.getElem_cons_zero, List.setIfInBounds_toArray, List.set_cons_zero, List.set_cons_succ]
          refine wpAnyH_take (i := 1) (oi := _) (v := .pointer (some a)) rfl (by kernel_rfl) (by kernel_rfl) (by kernel_rfl) (fun _ _ _ h => h) (Or.inl ⟨by rfl, by intro v hv; go_simp⟩) hH0 ?_
          try simp only [Act.put, List.getElem_toArray, List.getElem_cons_succ, List.getElem_cons_zero, List.setIfInBounds_toArray, List.set_cons_zero, List.set_cons_succ]
          refine wpAnyH_take (i := 2) (oi := _) (v := .pointer (some a)) rfl (by kernel_rfl) (by kernel_rfl) (by kernel_rfl) (fun _ _ _ h => h) (Or.inl ⟨by rfl, by intro v hv; go_simp⟩) hH0 ?_
          try simp only [Act.put, List.getElem_toArray, List.getElem_cons_succ, List.getElem_cons_zero, List.setIfInBounds_toArray, List.set_cons_zero, List.set_cons_succ]
          refine wpAnyH_take (i := 3) (oi := _) (v := .string ⟨x.k.toArray⟩) rfl (by kernel_rfl) (by kernel_rfl) (by kernel_rfl) (fun _ _ _ h => h) (Or.inl ⟨by rfl, by intro v hv; obtain ⟨c0, c1, c2, c3⟩ := hv; go_simp⟩) hH0 ?_
          try simp only [Act.put, List.getElem_toArray, List.getElem_cons_succ, List.getElem_cons_zero, List.setIfInBounds_toArray, List.set_cons_zero, List.set_cons_succ]
          refine wpAnyH_take (i := 4) (oi := _) (v := .slice (some b) q qb) rfl (by kernel_rfl) (by kernel_rfl) (by kernel_rfl) (fun _ _ _ h => h) (Or.inl ⟨by rfl, by intro v hv; go_simp⟩) hH0 ?_
          try simp only [Act.put, List.getElem_toArray, List.getElem_cons_succ, List.getElem_cons_zero, List.setIfInBounds_toArray, List.set_cons_zero, List.set_cons_succ]
          refine wpAnyH_take (i := 5) (oi := _) (v := .pointer (some b)) rfl (by kernel_rfl) (by kernel_rfl) (by kernel_rfl) (fun _ _ _ h => h) (Or.inl ⟨by rfl, by intro v hv; go_simp⟩) hH0 ?_
          try simp only [Act.put, List.getElem_toArray, List.getElem_cons_succ, List.getElem_cons_zero, List.setIfInBounds_toArray, List.set_cons_zero, List.set_cons_succ]
          refine wpAnyH_take (i := 6) (oi := _) (v := .pointer (some b)) rfl (by kernel_rfl) (by kernel_rfl) (by kernel_rfl) (fun _ _ _ h => h) (Or.inl ⟨by rfl, by intro v hv; go_simp⟩) hH0 ?_
          try simp only [Act.put, List.getElem_toArray, List.getElem_cons_succ, List.getElem_cons_zero, List.setIfInBounds_toArray, List.set_cons_zero, List.set_cons_succ]
          refine wpAnyH_take (i := 7) (oi := _) (v := .string ⟨y.k.toArray⟩) rfl (by kernel_rfl) (by kernel_rfl) (by kernel_rfl) (fun _ _ _ h => h) (Or.inl ⟨by rfl, by intro v hv; obtain ⟨c0, c1, c2, c3⟩ := hv; go_simp⟩) hH0 ?_
          try simp only [Act.put, List.getElem_toArray, List.getElem_cons_succ, List.getElem_cons_zero, List.setIfInBounds_toArray, List.set_cons_zero, List.set_cons_succ]
          refine wpAnyH_ready (rs := [8]) (by kernel_rfl) (by simp) ?_
          refine AllReadyH.cons (o := _) rfl (fun K' hK => ?_) AllReadyH.nil
          go_simp
          refine (strcmp_is x.k y.k (-1) _ X.out.1).mono ?_
          rintro e w' ⟨rfl, rfl⟩
          go_wp2_with fail
          refine hK.out _ _ S0.out (fun hH1 => ?_)
          clear hK K' hH0
          try simp only [Act.put, List.getElem_toArray, List.getElem_cons_succ, List.getElem_cons_zero, List.setIfInBounds_toArray, List.set_cons_zero, List.set_cons_succ]
          refine wpAnyH_done (by kernel_rfl) ?_ _
          clear hH1
          go_wp2_with fail
          obtain ⟨Wd, hWd⟩ : ∃ Wd, wr.drew.drew = Wd := ⟨_, rfl⟩
          have bd : Below wr.heap.size wr Wd := hWd ▸ below_drew1 (below_drew1 (Below.refl _ wr))
          have S1 := Lib.hid (show Wd.cell? a = some (.string ⟨x.k.toArray⟩) ∧ Wd.cell? ⟨a.block, a.off + 1, none⟩ = some (.slice x.ao x.xs.length x.cap) ∧ Wd.cell? b = some (.string ⟨y.k.toArray⟩) ∧ Wd.cell? ⟨b.block, b.off + 1, none⟩ = some (.slice y.ao y.xs.length y.cap) from hWd ▸ S0.out)
          have D := Lib.hid (And.intro bd (hWd ▸ rfl : Wd.heap.size = wr.heap.size))
          clear bd
          refine wp_region_held_drew (S := fun _ => True) (by kernel_rfl) trivial (fun hH0 => ?_)
          rw [hWd]
          obtain ⟨c0, c1, c2, c3⟩ := S1.out
          refine wpAnyH_take (i := 0) (oi := _) (v := u6) rfl (by kernel_rfl) (by kernel_rfl) (by kernel_rfl) (fun _ _ _ h => h) (Or.inl ⟨by rfl, by intro v hv; go_simp⟩) hH0 ?_
          try simp only [Act.put, List.getElem_toArray, List.getElem_cons_succ, List.getElem_cons_zero, List.setIfInBounds_toArray, List.set_cons_zero, List.set_cons_succ]
          refine wpAnyH_take (i := 1) (oi := _) (v := .slice (some a) p qa) rfl (by kernel_rfl) (by kernel_rfl) (by kernel_rfl) (fun _ _ _ h => h) (Or.inl ⟨by rfl, by intro v hv; go_simp⟩) hH0 ?_
          try simp only [Act.put, List.getElem_toArray, List.getElem_cons_succ, List.getElem_cons_zero, List.setIfInBounds_toArray, List.set_cons_zero, List.set_cons_succ]
          refine wpAnyH_take (i := 2) (oi := _) (v := .pointer (some a)) rfl (by kernel_rfl) (by kernel_rfl) (by kernel_rfl) (fun _ _ _ h => h) (Or.inl ⟨by rfl, by intro v hv; go_simp⟩) hH0 ?_
          try simp only [Act.put, List.getElem_toArray, List.getElem_cons_succ, List.getElem_cons_zero, List.setIfInBounds_toArray, List.set_cons_zero, List.set_cons_succ]
          refine wpAnyH_take (i := 6) (oi := _) (v := .slice (some a) p qa) rfl (by kernel_rfl) (by kernel_rfl) (by kernel_rfl) (fun _ _ _ h => h) (Or.inl ⟨by rfl, by intro v hv; go_simp⟩) hH0 ?_
          try simp only [Act.put, List.getElem_toArray, List.getElem_cons_succ, List.getElem_cons_zero, List.setIfInBounds_toArray, List.set_cons_zero, List.set_cons_succ]
          refine wpAnyH_take (i := 7) (oi := _) (v := .slice (cuta (some a) qa 1 2) (p - 1) (qa - 1)) rfl (by kernel_rfl) (by kernel_rfl) (by kernel_rfl) (fun _ _ _ h => h) (Or.inl ⟨by rfl, by intro v hv; unfold cuta; go_simp⟩) hH0 ?_
          try simp only [Act.put, List.getElem_toArray, List.getElem_cons_succ, List.getElem_cons_zero, List.setIfInBounds_toArray, List.set_cons_zero, List.set_cons_succ]
          refine wpAnyH_ready (rs := [3]) (by kernel_rfl) (by simp) ?_
          refine AllReadyH.cons (o := _) rfl (fun K' hK => ?_) AllReadyH.nil
          go_simp
          refine hK.out _ _ trivial (fun hH1 => ?_)
          clear hK K' hH0
          try simp only [Act.put, List.getElem_toArray, List.getElem_cons_succ, List.getElem_cons_zero, List.setIfInBounds_toArray, List.set_cons_zero, List.set_cons_succ]
          refine wpAnyH_ready (rs := [4]) (by kernel_rfl) (by simp) ?_
          refine AllReadyH.cons (o := _) rfl (fun K' hK => ?_) AllReadyH.nil
          go_simp
          refine hK.out _ _ trivial (fun hH2 => ?_)
          clear hK K' hH1
          try simp only [Act.put, List.getElem_toArray, List.getElem_cons_succ, List.getElem_cons_zero, List.setIfInBounds_toArray, List.set_cons_zero, List.set_cons_succ]
          refine wpAnyH_ready (rs := [5]) (by kernel_rfl) (by simp) ?_
          refine AllReadyH.cons (o := _) rfl (fun K' hK => ?_) AllReadyH.nil
          refine step_appL rfl (.tmp 40) (.tmp 44) rfl w.heap.size u6 ys x Wd.heap.size (by simp [Act.eval, Act.put]) (by simp [Act.eval, Act.put]) ((J.out.2.1.keep D.out.1).keep (below1 _ _)) (Blk.new Wd _ _) (by have := J.out.2.2.2.2.2.1; have := FF.out.2.2.2.2.1; have := FF.out.2.2.2.2.2; have := H.out.2.2.1; have := H.out.2.2.2.1; omega) (by have := J.out.1.size; have := D.out.2; simp; omega) ?_
          intro v' w4 hOR hgr hbk
          have G := Lib.hid (And.intro hOR ((J.out.1.trans (D.out.1.mono J.out.1.size)).alloc (Nat.le_trans J.out.1.size (by rw [D.out.2]; exact Nat.le_refl _)) _ |>.grown hgr (by have := J.out.1.size; have := D.out.2; simp; omega) (fun k hk => (World.ownsRow.lt J.out.2.1 k hk).1)))
          clear hOR hgr hbk
          refine hK.out _ _ trivial (fun hH3 => ?_)
          clear hK K' hH2
          try simp only [Act.put, List.getElem_toArray, List.getElem_cons_succ, List.getElem_cons_zero, List.setIfInBounds_toArray, List.set_cons_zero, List.set_cons_succ]
          refine wpAnyH_take (i := 8) (oi := _) (v := v') rfl (by kernel_rfl) (by kernel_rfl) (by kernel_rfl) (fun _ _ _ h => h) (Or.inl ⟨by rfl, by intro v hv; go_simp⟩) hH3 ?_
          try simp only [Act.put, List.getElem_toArray, List.getElem_cons_succ, List.getElem_cons_zero, List.setIfInBounds_toArray, List.set_cons_zero, List.set_cons_succ]
          refine wpAnyH_take (i := 9) (oi := _) (v := .slice (cuta (some a) qa 1 2) (p - 1) (qa - 1)) rfl (by kernel_rfl) (by kernel_rfl) (by kernel_rfl) (fun _ _ _ h => h) (Or.inl ⟨by rfl, by intro v hv; go_simp⟩) hH3 ?_
          try simp only [Act.put, List.getElem_toArray, List.getElem_cons_succ, List.getElem_cons_zero, List.setIfInBounds_toArray, List.set_cons_zero, List.set_cons_succ]
          refine wpAnyH_done (by kernel_rfl) ?_ _
          clear hH3
          clear c0 c1 c2 c3 hWd
          go_wp2
          go_roundw
          case rel =>
            have qd := J.out.2.2.1.drop 1 (by rw [List.length_drop]; have := FF.out.2.2.2.2.1; omega)
            rw [List.drop_drop] at qd
            refine ⟨i + 1, j, ys ++ [x], _, _, _, _, ?_, by rw [FF.out.2.2.2.1], FF.out.2.2.2.2.1, Nat.le_of_lt FF.out.2.2.2.2.2, G.out.2, G.out.1, qd, J.out.2.2.2.1, ?_, ?_, ?_⟩
            · rw [← FF.out.2.2.1, Nat.sub_sub]
            · intro u hu
              rcases List.mem_append.1 hu with hu | hu
              · exact J.out.2.2.2.2.1 u hu
              · rw [List.mem_singleton] at hu
                subst hu
                exact .inl M.out.1
            · rw [List.length_append, J.out.2.2.2.2.2.1]; show i + j + 1 = _; omega
            · rw [lls_append]; exact X.out.2.symm.trans J.out.2.2.2.2.2.2
          case measure => simp [lnv]; omega
        · have X := Lib.hid (And.intro (show Lib.compareBytes x.k y.k = 0 by rw [hk]; exact cb_self _) (L.out.2.2 hk))
          clear hk L
          go_wp2_with fail
          refine wp_region_held_drew (S := fun v => v.cell? a = some (.string ⟨x.k.toArray⟩) ∧ v.cell? ⟨a.block, a.off + 1, none⟩ = some (.slice x.ao x.xs.length x.cap) ∧ v.cell? b = some (.string ⟨y.k.toArray⟩) ∧ v.cell? ⟨b.block, b.off + 1, none⟩ = some (.slice y.ao y.xs.length y.cap)) (by kernel_rfl) S0.out (fun hH0 => ?_)
          refine wpAnyH_take (i := 0) (oi := _) (v := .slice (some a) p qa) rfl (by kernel_rfl) (by kernel_rfl) (by kernel_rfl) (fun _ _ _ h => h) (Or.inl ⟨by rfl, by intro v hv; go_simp⟩) hH0 ?_
          try simp only [Act.put, List.getElem_toArray, List.getElem_cons_succ, List.getElem_cons_zero, List.setIfInBounds_toArray, List.set_cons_zero, List.set_cons_succ]
          refine wpAnyH_take (i := 1) (oi := _) (v := .pointer (some a)) rfl (by kernel_rfl) (by kernel_rfl) (by kernel_rfl) (fun _ _ _ h => h) (Or.inl ⟨by rfl, by intro v hv; go_simp⟩) hH0 ?_
          try simp only [Act.put, List.getElem_toArray, List.getElem_cons_succ, List.getElem_cons_zero, List.setIfInBounds_toArray, List.set_cons_zero, List.set_cons_succ]
          refine wpAnyH_take (i := 2) (oi := _) (v := .pointer (some a)) rfl (by kernel_rfl) (by kernel_rfl) (by kernel_rfl) (fun _ _ _ h => h) (Or.inl ⟨by rfl, by intro v hv; go_simp⟩) hH0 ?_
          try simp only [Act.put, List.getElem_toArray, List.getElem_cons_succ, List.getElem_cons_zero, List.setIfInBounds_toArray, List.set_cons_zero, List.set_cons_succ]
          refine wpAnyH_take (i := 3) (oi := _) (v := .string ⟨x.k.toArray⟩) rfl (by kernel_rfl) (by kernel_rfl) (by kernel_rfl) (fun _ _ _ h => h) (Or.inl ⟨by rfl, by intro v hv; obtain ⟨c0, c1, c2, c3⟩ := hv; go_simp⟩) hH0 ?_
          try simp only [Act.put, List.getElem_toArray, List.getElem_cons_succ, List.getElem_cons_zero, List.setIfInBounds_toArray, List.set_cons_zero, List.set_cons_succ]
          refine wpAnyH_take (i := 4) (oi := _) (v := .slice (some b) q qb) rfl (by kernel_rfl) (by kernel_rfl) (by kernel_rfl) (fun _ _ _ h => h) (Or.inl ⟨by rfl, by intro v hv; go_simp⟩) hH0 ?_
          try simp only [Act.put, List.getElem_toArray, List.getElem_cons_succ, List.getElem_cons_zero, List.setIfInBounds_toArray, List.set_cons_zero, List.set_cons_succ]
          refine wpAnyH_take (i := 5) (oi := _) (v := .pointer (some b)) rfl (by kernel_rfl) (by kernel_rfl) (by kernel_rfl) (fun _ _ _ h => h) (Or.inl ⟨by rfl, by intro v hv; go_simp⟩) hH0 ?_
          try simp only [Act.put, List.getElem_toArray, List.getElem_cons_succ, List.getElem_cons_zero, List.setIfInBounds_toArray, List.set_cons_zero, List.set_cons_succ]
          refine wpAnyH_take (i := 6) (oi := _) (v := .pointer (some b)) rfl (by kernel_rfl) (by kernel_rfl) (by kernel_rfl) (fun _ _ _ h => h) (Or.inl ⟨by rfl, by intro v hv; go_simp⟩) hH0 ?_
          try simp only [Act.put, List.getElem_toArray, List.getElem_cons_succ, List.getElem_cons_zero, List.setIfInBounds_toArray, List.set_cons_zero, List.set_cons_succ]
          refine wpAnyH_take (i := 7) (oi := _) (v := .string ⟨y.k.toArray⟩) rfl (by kernel_rfl) (by kernel_rfl) (by kernel_rfl) (fun _ _ _ h => h) (Or.inl ⟨by rfl, by intro v hv; obtain ⟨c0, c1, c2, c3⟩ := hv; go_simp⟩) hH0 ?_
          try simp only [Act.put, List.getElem_toArray, List.getElem_cons_succ, List.getElem_cons_zero, List.setIfInBounds_toArray, List.set_cons_zero, List.set_cons_succ]
          refine wpAnyH_ready (rs := [8]) (by kernel_rfl) (by simp) ?_
          refine AllReadyH.cons (o := _) rfl (fun K' hK => ?_) AllReadyH.nil
          go_simp
          refine (strcmp_is x.k y.k 0 _ X.out.1).mono ?_
          rintro e w' ⟨rfl, rfl⟩
          go_wp2_with fail
          refine hK.out _ _ S0.out (fun hH1 => ?_)
          clear hK K' hH0
          try simp only [Act.put, List.getElem_toArray, List.getElem_cons_succ, List.getElem_cons_zero, List.setIfInBounds_toArray, List.set_cons_zero, List.set_cons_succ]
          refine wpAnyH_done (by kernel_rfl) ?_ _
          clear hH1
          go_wp2
          go_ret2
          refine ⟨none, 0, [], ?_, LS.nil _, ?_, below_drew1 J.out.1⟩
          · rw [← J.out.2.2.2.2.2.2, X.out.2]; rfl
          · rw [← J.out.2.2.2.2.2.2, X.out.2]; rfl
        · have X := Lib.hid (And.intro (cb_p hk) (L.out.2.1 hk))
          clear hk L
          go_wp2_with fail
          refine wp_region_held_drew (S := fun v => v.cell? a = some (.string ⟨x.k.toArray⟩) ∧ v.cell? ⟨a.block, a.off + 1, none⟩ = some (.slice x.ao x.xs.length x.cap) ∧ v.cell? b = some (.string ⟨y.k.toArray⟩) ∧ v.cell? ⟨b.block, b.off + 1, none⟩ = some (.slice y.ao y.xs.length y.cap)) (by kernel_rfl) S0.out (fun hH0 => ?_)
          refine wpAnyH_take (i := 0) (oi := _) (v := .slice (some a) p qa) rfl (by kernel_rfl) (by kernel_rfl) (by kernel_rfl) (fun _ _ _ h => h) (Or.inl ⟨by rfl, by intro v hv; go_simp⟩) hH0 ?_
          try simp only [Act.put, List.getElem_toArray, List.getElem_cons_succ, List.getElem_cons_zero, List.setIfInBounds_toArray, List.set_cons_zero, List.set_cons_succ]
          refine wpAnyH_take (i := 1) (oi := _) (v := .pointer (some a)) rfl (by kernel_rfl) (by kernel_rfl) (by kernel_rfl) (fun _ _ _ h => h) (Or.inl ⟨by rfl, by intro v hv; go_simp⟩) hH0 ?_
          try simp only [Act.put, List.getElem_toArray, List.getElem_cons_succ, List.getElem_cons_zero, List.setIfInBounds_toArray, List.set_cons_zero, List.set_cons_succ]
          refine wpAnyH_take (i := 2) (oi := _) (v := .pointer (some a)) rfl (by kernel_rfl) (by kernel_rfl) (by kernel_rfl) (fun _ _ _ h => h) (Or.inl ⟨by rfl, by intro v hv; go_simp⟩) hH0 ?_
          try simp only [Act.put, List.getElem_toArray, List.getElem_cons_succ, List.getElem_cons_zero, List.setIfInBounds_toArray, List.set_cons_zero, List.set_cons_succ]
          refine wpAnyH_take (i := 3) (oi := _) (v := .string ⟨x.k.toArray⟩) rfl (by kernel_rfl) (by kernel_rfl) (by kernel_rfl) (fun _ _ _ h => h) (Or.inl ⟨by rfl, by intro v hv; obtain ⟨c0, c1, c2, c3⟩ := hv; go_simp⟩) hH0 ?_
          try simp only [Act.put, List.getElem_toArray, List.getElem_cons_succ, List.getElem_cons_zero, List.setIfInBounds_toArray, List.set_cons_zero, List.set_cons_succ]
          refine wpAnyH_take (i := 4) (oi := _) (v := .slice (some b) q qb) rfl (by kernel_rfl) (by kernel_rfl) (by kernel_rfl) (fun _ _ _ h => h) (Or.inl ⟨by rfl, by intro v hv; go_simp⟩) hH0 ?_
          try simp only [Act.put, List.getElem_toArray, List.getElem_cons_succ, List.getElem_cons_zero, List.setIfInBounds_toArray, List.set_cons_zero, List.set_cons_succ]
          refine wpAnyH_take (i := 5) (oi := _) (v := .pointer (some b)) rfl (by kernel_rfl) (by kernel_rfl) (by kernel_rfl) (fun _ _ _ h => h) (Or.inl ⟨by rfl, by intro v hv; go_simp⟩) hH0 ?_
          try simp only [Act.put, List.getElem_toArray, List.getElem_cons_succ, List.getElem_cons_zero, List.setIfInBounds_toArray, List.set_cons_zero, List.set_cons_succ]
          refine wpAnyH_take (i := 6) (oi := _) (v := .pointer (some b)) rfl (by kernel_rfl) (by kernel_rfl) (by kernel_rfl) (fun _ _ _ h => h) (Or.inl ⟨by rfl, by intro v hv; go_simp⟩) hH0 ?_
          try simp only [Act.put, List.getElem_toArray, List.getElem_cons_succ, List.getElem_cons_zero, List.setIfInBounds_toArray, List.set_cons_zero, List.set_cons_succ]
          refine wpAnyH_take (i := 7) (oi := _) (v := .string ⟨y.k.toArray⟩) rfl (by kernel_rfl) (by kernel_rfl) (by kernel_rfl) (fun _ _ _ h => h) (Or.inl ⟨by rfl, by intro v hv; obtain ⟨c0, c1, c2, c3⟩ := hv; go_simp⟩) hH0 ?_
          try simp only [Act.put, List.getElem_toArray, List.getElem_cons_succ, List.getElem_cons_zero, List.setIfInBounds_toArray, List.set_cons_zero, List.set_cons_succ]
          refine wpAnyH_ready (rs := [8]) (by kernel_rfl) (by simp) ?_
          refine AllReadyH.cons (o := _) rfl (fun K' hK => ?_) AllReadyH.nil
          go_simp
          refine (strcmp_is x.k y.k 1 _ X.out.1).mono ?_
          rintro e w' ⟨rfl, rfl⟩
          go_wp2_with fail
          refine hK.out _ _ S0.out (fun hH1 => ?_)
          clear hK K' hH0
          try simp only [Act.put, List.getElem_toArray, List.getElem_cons_succ, List.getElem_cons_zero, List.setIfInBounds_toArray, List.set_cons_zero, List.set_cons_succ]
          refine wpAnyH_done (by kernel_rfl) ?_ _
          clear hH1
          go_wp2_with fail
          obtain ⟨Wd, hWd⟩ : ∃ Wd, wr.drew.drew = Wd := ⟨_, rfl⟩
          have bd : Below wr.heap.size wr Wd := hWd ▸ below_drew1 (below_drew1 (Below.refl _ wr))
          have S1 := Lib.hid (show Wd.cell? a = some (.string ⟨x.k.toArray⟩) ∧ Wd.cell? ⟨a.block, a.off + 1, none⟩ = some (.slice x.ao x.xs.length x.cap) ∧ Wd.cell? b = some (.string ⟨y.k.toArray⟩) ∧ Wd.cell? ⟨b.block, b.off + 1, none⟩ = some (.slice y.ao y.xs.length y.cap) from hWd ▸ S0.out)
          have D := Lib.hid (And.intro bd (hWd ▸ rfl : Wd.heap.size = wr.heap.size))
          clear bd
          refine wp_region_held_drew (S := fun _ => True) (by kernel_rfl) trivial (fun hH0 => ?_)
          rw [hWd]
          obtain ⟨c0, c1, c2, c3⟩ := S1.out
          refine wpAnyH_take (i := 0) (oi := _) (v := u6) rfl (by kernel_rfl) (by kernel_rfl) (by kernel_rfl) (fun _ _ _ h => h) (Or.inl ⟨by rfl, by intro v hv; go_simp⟩) hH0 ?_
          try simp only [Act.put, List.getElem_toArray, List.getElem_cons_succ, List.getElem_cons_zero, List.setIfInBounds_toArray, List.set_cons_zero, List.set_cons_succ]
          refine wpAnyH_take (i := 1) (oi := _) (v := .slice (some b) q qb) rfl (by kernel_rfl) (by kernel_rfl) (by kernel_rfl) (fun _ _ _ h => h) (Or.inl ⟨by rfl, by intro v hv; go_simp⟩) hH0 ?_
          try simp only [Act.put, List.getElem_toArray, List.getElem_cons_succ, List.getElem_cons_zero, List.setIfInBounds_toArray, List.set_cons_zero, List.set_cons_succ]
          refine wpAnyH_take (i := 2) (oi := _) (v := .pointer (some b)) rfl (by kernel_rfl) (by kernel_rfl) (by kernel_rfl) (fun _ _ _ h => h) (Or.inl ⟨by rfl, by intro v hv; go_simp⟩) hH0 ?_
          try simp only [Act.put, List.getElem_toArray, List.getElem_cons_succ, List.getElem_cons_zero, List.setIfInBounds_toArray, List.set_cons_zero, List.set_cons_succ]
          refine wpAnyH_take (i := 6) (oi := _) (v := .slice (some b) q qb) rfl (by kernel_rfl) (by kernel_rfl) (by kernel_rfl) (fun _ _ _ h => h) (Or.inl ⟨by rfl, by intro v hv; go_simp⟩) hH0 ?_
          try simp only [Act.put, List.getElem_toArray, List.getElem_cons_succ, List.getElem_cons_zero, List.setIfInBounds_toArray, List.set_cons_zero, List.set_cons_succ]
          refine wpAnyH_take (i := 7) (oi := _) (v := .slice (cuta (some b) qb 1 2) (q - 1) (qb - 1)) rfl (by kernel_rfl) (by kernel_rfl) (by kernel_rfl) (fun _ _ _ h => h) (Or.inl ⟨by rfl, by intro v hv; unfold cuta; go_simp⟩) hH0 ?_
          try simp only [Act.put, List.getElem_toArray, List.getElem_cons_succ, List.getElem_cons_zero, List.setIfInBounds_toArray, List.set_cons_zero, List.set_cons_succ]
          refine wpAnyH_ready (rs := [3]) (by kernel_rfl) (by simp) ?_
          refine AllReadyH.cons (o := _) rfl (fun K' hK => ?_) AllReadyH.nil
          go_simp
          refine hK.out _ _ trivial (fun hH1 => ?_)
          clear hK K' hH0
          try simp only [Act.put, List.getElem_toArray, List.getElem_cons_succ, List.getElem_cons_zero, List.setIfInBounds_toArray, List.set_cons_zero, List.set_cons_succ]
          refine wpAnyH_ready (rs := [4]) (by kernel_rfl) (by simp) ?_
          refine AllReadyH.cons (o := _) rfl (fun K' hK => ?_) AllReadyH.nil
          go_simp
          refine hK.out _ _ trivial (fun hH2 => ?_)
          clear hK K' hH1
          try simp only [Act.put, List.getElem_toArray, List.getElem_cons_succ, List.getElem_cons_zero, List.setIfInBounds_toArray, List.set_cons_zero, List.set_cons_succ]
          refine wpAnyH_ready (rs := [5]) (by kernel_rfl) (by simp) ?_
          refine AllReadyH.cons (o := _) rfl (fun K' hK => ?_) AllReadyH.nil
          refine step_appL rfl (.tmp 50) (.tmp 54) rfl w.heap.size u6 ys y Wd.heap.size (by simp [Act.eval, Act.put]) (by simp [Act.eval, Act.put]) ((J.out.2.1.keep D.out.1).keep (below1 _ _)) (Blk.new Wd _ _) (by have := J.out.2.2.2.2.2.1; have := FF.out.2.2.2.2.1; have := FF.out.2.2.2.2.2; have := H.out.2.2.1; have := H.out.2.2.2.1; omega) (by have := J.out.1.size; have := D.out.2; simp; omega) ?_
          intro v' w4 hOR hgr hbk
          have G := Lib.hid (And.intro hOR ((J.out.1.trans (D.out.1.mono J.out.1.size)).alloc (Nat.le_trans J.out.1.size (by rw [D.out.2]; exact Nat.le_refl _)) _ |>.grown hgr (by have := J.out.1.size; have := D.out.2; simp; omega) (fun k hk => (World.ownsRow.lt J.out.2.1 k hk).1)))
          clear hOR hgr hbk
          refine hK.out _ _ trivial (fun hH3 => ?_)
          clear hK K' hH2
          try simp only [Act.put, List.getElem_toArray, List.getElem_cons_succ, List.getElem_cons_zero, List.setIfInBounds_toArray, List.set_cons_zero, List.set_cons_succ]
          refine wpAnyH_take (i := 8) (oi := _) (v := v') rfl (by kernel_rfl) (by kernel_rfl) (by kernel_rfl) (fun _ _ _ h => h) (Or.inl ⟨by rfl, by intro v hv; go_simp⟩) hH3 ?_
          try simp only [Act.put, List.getElem_toArray, List.getElem_cons_succ, List.getElem_cons_zero, List.setIfInBounds_toArray, List.set_cons_zero, List.set_cons_succ]
          refine wpAnyH_take (i := 9) (oi := _) (v := .slice (cuta (some b) qb 1 2) (q - 1) (qb - 1)) rfl (by kernel_rfl) (by kernel_rfl) (by kernel_rfl) (fun _ _ _ h => h) (Or.inl ⟨by rfl, by intro v hv; go_simp⟩) hH3 ?_
          try simp only [Act.put, List.getElem_toArray, List.getElem_cons_succ, List.getElem_cons_zero, List.setIfInBounds_toArray, List.set_cons_zero, List.set_cons_succ]
          refine wpAnyH_done (by kernel_rfl) ?_ _
          clear hH3
          clear c0 c1 c2 c3 hWd
          go_wp2
          go_roundw
          case rel =>
            have qd := J.out.2.2.2.1.drop 1 (by rw [List.length_drop]; have := FF.out.2.2.2.2.2; omega)
            rw [List.drop_drop] at qd
            refine ⟨i, j + 1, ys ++ [y], _, _, _, _, by rw [FF.out.2.2.1], ?_, Nat.le_of_lt FF.out.2.2.2.2.1, FF.out.2.2.2.2.2, G.out.2, G.out.1, J.out.2.2.1, qd, ?_, ?_, ?_⟩
            · rw [← FF.out.2.2.2.1, Nat.sub_sub]
            · intro u hu
              rcases List.mem_append.1 hu with hu | hu
              · exact J.out.2.2.2.2.1 u hu
              · rw [List.mem_singleton] at hu
                subst hu
                exact .inr M.out.2
            · rw [List.length_append, J.out.2.2.2.2.2.1]; show i + j + 1 = _; omega
            · rw [lls_append]; exact X.out.2.symm.trans J.out.2.2.2.2.2.2
          case measure => simp [lnv]; omega
      · have hq0 : zb.length - j = 0 := by omega
        obtain ⟨p, hp⟩ : ∃ p, za.length - i = p := ⟨_, rfl⟩
        have p0 : (0 : Int) < (p : Int) := by omega
        have p2 : 0 < p := by omega
        rw [hp, hq0]
        have HLA : (za.drop i).length = p := by rw [List.length_drop]; exact hp
        have HLB : (zb.drop j).length = 0 := by rw [List.length_drop]; exact hq0
        have HRR : R = (lls ys ++ ((lls za).drop i ++ (lls zb).drop j), 0) := by
          have e := J.out.2.2.2.2.2.2
          rw [List.drop_of_length_le (l := lls zb) (by rw [lls_len]; omega), pst_end'] at e
          rw [List.drop_of_length_le (l := lls zb) (by rw [lls_len]; omega), List.append_nil]
          exact e.symm
        clear hq0
        obtain ⟨vo, vc, hv, hLS⟩ := J.out.2.1.ls (fun u hu => by
          rcases J.out.2.2.2.2.1 u hu with h | h
          · exact (H.out.1.2.1.below J.out.1) u h
          · exact (H.out.2.1.2.1.below J.out.1) u h)
        subst hv
        obtain ⟨W3, hW3⟩ : ∃ W3, wr.alloc (.cells #[.slice vo ys.length vc, .slice pa p qa, .slice pb 0 qb] 25) = W3 := ⟨_, rfl⟩
        have hB3 : Blk W3 wr.heap.size #[.slice vo ys.length vc, .slice pa p qa, .slice pb 0 qb] 25 := hW3 ▸ Blk.new wr _ _
        have hc3 : Below wr.heap.size wr W3 := hW3 ▸ below1 _ _
        have hb3 : Below w.heap.size w W3 := step0 J.out.1 hc3
        have hP3 : SlP W3 (some ⟨wr.heap.size, 0, none⟩) [⟨ys, vo, vc⟩, ⟨za.drop i, pa, qa⟩, ⟨zb.drop j, pb, qb⟩] := slP_three (by
          show Blk W3 wr.heap.size #[.slice vo ys.length vc, .slice pa (za.drop i).length qa, .slice pb (zb.drop j).length qb] 25
          rw [HLA, HLB]; exact hB3)
        have hF3 : FitP W3 [⟨ys, vo, vc⟩, ⟨za.drop i, pa, qa⟩, ⟨zb.drop j, pb, qb⟩] := by
          intro u hu
          simp only [List.mem_cons, List.not_mem_nil, or_false] at hu
          rcases hu with rfl | rfl | rfl
          · exact hLS.below hc3
          · exact J.out.2.2.1.below hb3
          · exact J.out.2.2.2.1.below hb3
        obtain ⟨NL, hNL⟩ : ∃ NL, ys ++ (za.drop i ++ zb.drop j) = NL := ⟨_, rfl⟩
        have hpc : pcat [⟨ys, vo, vc⟩, ⟨za.drop i, pa, qa⟩, ⟨zb.drop j, pb, qb⟩] = NL := by rw [← hNL]; simp [pcat]
        have hnl : NL.length ≤ 200 := by rw [← hNL, List.length_append, List.length_append, List.length_drop, List.length_drop, J.out.2.2.2.2.2.1]; have := H.out.2.2.1; have := H.out.2.2.2.1; omega
        have hmem : ∀ u ∈ NL, u ∈ za ∨ u ∈ zb := by
          intro u hu
          rw [← hNL] at hu
          rcases List.mem_append.1 hu with hu | hu
          · exact J.out.2.2.2.2.1 u hu
          · rcases List.mem_append.1 hu with hu | hu
            · exact .inl (List.mem_of_mem_drop hu)
            · exact .inr (List.mem_of_mem_drop hu)
        have hR : R = (lls NL, 0) := by rw [← hNL, lls_append, lls_append, llk_drop, llk_drop]; exact HRR
        have PP := Lib.hid (And.intro hP3 (And.intro hF3 (And.intro hpc (And.intro hnl (And.intro hmem (And.intro hR hb3))))))
        clear hP3 hF3 hpc hnl hmem hR hb3 hc3 hB3 hLS hNL HLA HLB HRR hna hnb
        go_wp2_with fail
        refine (concat_is [⟨ys, vo, vc⟩, ⟨za.drop i, pa, qa⟩, ⟨zb.drop j, pb, qb⟩] 3 _ 3 _ rfl PP.out.1 PP.out.2.1 (by simp) (by rw [PP.out.2.2.1]; have := PP.out.2.2.2.1; omega)).mono ?_
        rintro e w5 ⟨v5, rfl, hO5, hb⟩
        rw [PP.out.2.2.1] at hO5
        obtain ⟨ao1, cap1, hv, hLS1⟩ := hO5.ls (fun u hu => by
          rcases PP.out.2.2.2.2.1 u hu with h | h
          · exact ((H.out.1.2.1.below PP.out.2.2.2.2.2.2).below hb) u h
          · exact ((H.out.2.1.2.1.below PP.out.2.2.2.2.2.2).below hb) u h)
        subst hv
        have K5 := Lib.hid (And.intro hLS1 (PP.out.2.2.2.2.2.2.trans (hb.mono PP.out.2.2.2.2.2.2.size)))
        clear hO5 hLS1 hb
        go_wp2_with fail
        refine (lcopied_is NL _ ao1 cap1 _ rfl K5.out.1 (by have := PP.out.2.2.2.1; omega) (smal_cat (by have := PP.out.2.2.2.1; omega) (fun u hu => by
          rcases PP.out.2.2.2.2.1 u hu with h | h
          · exact H.out.2.2.2.2.1 u h
          · exact H.out.2.2.2.2.2.1 u h))).mono ?_
        rintro e w6 ⟨ao', cap', zs', rfl, hLS, hLB, hls, hb⟩
        have B6 := Lib.hid (And.intro hLS (And.intro hls (K5.out.2.trans (hb.mono K5.out.2.size))))
        clear hLS hLB hls hb
        go_wp2
        go_ret2
        refine ⟨ao', cap', zs', ?_, B6.out.1, ?_, B6.out.2.2⟩
        · rw [lls_length B6.out.2.1, PP.out.2.2.2.2.2.1]; rfl
        · rw [B6.out.2.1, PP.out.2.2.2.2.2.1]
    · have hp0 : za.length - i = 0 := by omega
      obtain ⟨q, hq⟩ : ∃ q, zb.length - j = q := ⟨_, rfl⟩
      rw [hp0, hq]
      have HLA : (za.drop i).length = 0 := by rw [List.length_drop]; exact hp0
      have HLB : (zb.drop j).length = q := by rw [List.length_drop]; exact hq
      have HRR : R = (lls ys ++ ((lls za).drop i ++ (lls zb).drop j), 0) := by
        have e := J.out.2.2.2.2.2.2
        rw [List.drop_of_length_le (l := lls za) (by rw [lls_len]; omega), pst_end] at e
        rw [List.drop_of_length_le (l := lls za) (by rw [lls_len]; omega), List.nil_append]
        exact e.symm
      clear hp0
      obtain ⟨vo, vc, hv, hLS⟩ := J.out.2.1.ls (fun u hu => by
        rcases J.out.2.2.2.2.1 u hu with h | h
        · exact (H.out.1.2.1.below J.out.1) u h
        · exact (H.out.2.1.2.1.below J.out.1) u h)
      subst hv
      obtain ⟨W3, hW3⟩ : ∃ W3, wr.alloc (.cells #[.slice vo ys.length vc, .slice pa 0 qa, .slice pb q qb] 25) = W3 := ⟨_, rfl⟩
      have hB3 : Blk W3 wr.heap.size #[.slice vo ys.length vc, .slice pa 0 qa, .slice pb q qb] 25 := hW3 ▸ Blk.new wr _ _
      have hc3 : Below wr.heap.size wr W3 := hW3 ▸ below1 _ _
      have hb3 : Below w.heap.size w W3 := step0 J.out.1 hc3
      have hP3 : SlP W3 (some ⟨wr.heap.size, 0, none⟩) [⟨ys, vo, vc⟩, ⟨za.drop i, pa, qa⟩, ⟨zb.drop j, pb, qb⟩] := slP_three (by
        show Blk W3 wr.heap.size #[.slice vo ys.length vc, .slice pa (za.drop i).length qa, .slice pb (zb.drop j).length qb] 25
        rw [HLA, HLB]; exact hB3)
      have hF3 : FitP W3 [⟨ys, vo, vc⟩, ⟨za.drop i, pa, qa⟩, ⟨zb.drop j, pb, qb⟩] := by
        intro u hu
        simp only [List.mem_cons, List.not_mem_nil, or_false] at hu
        rcases hu with rfl | rfl | rfl
        · exact hLS.below hc3
        · exact J.out.2.2.1.below hb3
        · exact J.out.2.2.2.1.below hb3
      obtain ⟨NL, hNL⟩ : ∃ NL, ys ++ (za.drop i ++ zb.drop j) = NL := ⟨_, rfl⟩
      have hpc : pcat [⟨ys, vo, vc⟩, ⟨za.drop i, pa, qa⟩, ⟨zb.drop j, pb, qb⟩] = NL := by rw [← hNL]; simp [pcat]
      have hnl : NL.length ≤ 200 := by rw [← hNL, List.length_append, List.length_append, List.length_drop, List.length_drop, J.out.2.2.2.2.2.1]; have := H.out.2.2.1; have := H.out.2.2.2.1; omega
      have hmem : ∀ u ∈ NL, u ∈ za ∨ u ∈ zb := by
        intro u hu
        rw [← hNL] at hu
        rcases List.mem_append.1 hu with hu | hu
        · exact J.out.2.2.2.2.1 u hu
        · rcases List.mem_append.1 hu with hu | hu
          · exact .inl (List.mem_of_mem_drop hu)
          · exact .inr (List.mem_of_mem_drop hu)
      have hR : R = (lls NL, 0) := by rw [← hNL, lls_append, lls_append, llk_drop, llk_drop]; exact HRR
      have PP := Lib.hid (And.intro hP3 (And.intro hF3 (And.intro hpc (And.intro hnl (And.intro hmem (And.intro hR hb3))))))
      clear hP3 hF3 hpc hnl hmem hR hb3 hc3 hB3 hLS hNL HLA HLB HRR hna hnb
      go_wp2_with fail
      refine (concat_is [⟨ys, vo, vc⟩, ⟨za.drop i, pa, qa⟩, ⟨zb.drop j, pb, qb⟩] 3 _ 3 _ rfl PP.out.1 PP.out.2.1 (by simp) (by rw [PP.out.2.2.1]; have := PP.out.2.2.2.1; omega)).mono ?_
      rintro e w5 ⟨v5, rfl, hO5, hb⟩
      rw [PP.out.2.2.1] at hO5
      obtain ⟨ao1, cap1, hv, hLS1⟩ := hO5.ls (fun u hu => by
        rcases PP.out.2.2.2.2.1 u hu with h | h
        · exact ((H.out.1.2.1.below PP.out.2.2.2.2.2.2).below hb) u h
        · exact ((H.out.2.1.2.1.below PP.out.2.2.2.2.2.2).below hb) u h)
      subst hv
      have K5 := Lib.hid (And.intro hLS1 (PP.out.2.2.2.2.2.2.trans (hb.mono PP.out.2.2.2.2.2.2.size)))
      clear hO5 hLS1 hb
      go_wp2_with fail
      refine (lcopied_is NL _ ao1 cap1 _ rfl K5.out.1 (by have := PP.out.2.2.2.1; omega) (smal_cat (by have := PP.out.2.2.2.1; omega) (fun u hu => by
        rcases PP.out.2.2.2.2.1 u hu with h | h
        · exact H.out.2.2.2.2.1 u h
        · exact H.out.2.2.2.2.2.1 u h))).mono ?_
      rintro e w6 ⟨ao', cap', zs', rfl, hLS, hLB, hls, hb⟩
      have B6 := Lib.hid (And.intro hLS (And.intro hls (K5.out.2.trans (hb.mono K5.out.2.size))))
      clear hLS hLB hls hb
      go_wp2
      go_ret2
      refine ⟨ao', cap', zs', ?_, B6.out.1, ?_, B6.out.2.2⟩
      · rw [lls_length B6.out.2.1, PP.out.2.2.2.2.2.1]; rfl
      · rw [B6.out.2.1, PP.out.2.2.2.2.2.1]

end Go.Proofs.YtfgakoldedpfoaaDoor
