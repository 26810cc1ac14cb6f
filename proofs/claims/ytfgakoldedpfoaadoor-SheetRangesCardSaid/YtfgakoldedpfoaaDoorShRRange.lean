/-
  The document's rows of a sheet from a key on, ahead of another, so many at most: Range. Conditions: a sheet in memory, of at most 100 lines.
-/
import Derived.Test.YtfgakoldedpfoaaDoorShRange
import Derived.BigQuiet
namespace Go.Proofs.YtfgakoldedpfoaaDoor
open Go.RowKit
set_option linter.unusedVariables false
set_option linter.unusedSimpArgs false

section
variable {ops : Array Oper} {rest : List Oper} {o : Oper} {a : Act} {Q : Exit → Act → World → Prop}
/-- One row more. -/
theorem app1R (hgd : o.guard = none) (s x : Operand) (ho : o.op = .call { callee := .builtin .append, args := #[s, x], argTypes := #[33, 33] })
    (base : Nat) (v : Value) (l : List RV) (b : RV) (G : Nat) (w : World) (hs : a.eval s = v) (hx : a.eval x = .slice (some ⟨G, 0, none⟩) 1 1) (hown : OwR w base v l)
    (hG : Blk w G #[.slice b.ao b.xs.length b.cap] 43) (hlen : l.length ≤ 1000000) (hb : base ≤ w.heap.size)
    (h : ∀ v' w', OwR w' base v' (l ++ [b]) → Below base w w' → wpList Tryd.prog ops Q rest (a.put o.dst v') w') : wpList Tryd.prog ops Q (o :: rest) a w := by
  obtain ⟨i0, hi, hz0, hz1, hz2⟩ := info_parts Tryd.infoR
  refine wpList_append_own_at _ hgd s x 33 ho base 43 i0 _ 1 24 Tryd.underlying33 hi hz0 hz1 hz2 rfl (by decide) v _ _ hs hown ⟨G, 0, none⟩ 1 1 [b.val] hx rfl (by
    intro j u hj
    match j, hj with
    | 0, hj => simp [RV.val] at hj; subst hj; exact hG.cell 0
    | (j + 1), hj => simp at hj) (by intro u hu; simp [RV.val] at hu; subst hu; rfl) (by unfold maxLen; omega) (by omega) hb ?_
  intro v' w' hown' hgrow _ hbk
  refine h v' w' ?_ ((Below.refl base w).grown hgrow hb (fun k hk => (World.ownsRow.lt hown k hk).1))
  unfold OwR
  rw [List.length_append, List.map_append]
  exact hown'
end
theorem rgf_in {zs : List LV} {lo hi : Nm.S} {j : Nat} (hj : j < zs.length) (h : inr lo hi zs[j].l = true) : rgf (lls zs) lo hi (j + 1) = rgf (lls zs) lo hi j ++ [zs[j].xs] := by
  unfold rgf
  rw [List.take_succ_eq_append_getElem (by rw [lls_len]; exact hj), lls_at hj, List.filter_append, List.map_append]
  have e : [zs[j].l].filter (inr lo hi) = [zs[j].l] := by simp [List.filter, h]
  rw [e]
  rfl
theorem rgf_out {zs : List LV} {lo hi : Nm.S} {j : Nat} (hj : j < zs.length) (h : inr lo hi zs[j].l = false) : rgf (lls zs) lo hi (j + 1) = rgf (lls zs) lo hi j := by
  unfold rgf
  rw [List.take_succ_eq_append_getElem (by rw [lls_len]; exact hj), lls_at hj, List.filter_append, List.map_append]
  simp [h]

set_option maxRecDepth 1000000 in
set_option maxHeartbeats 2000000 in
theorem rrange_e (nm : Nm.S) (ks : Int) (cs : List C) (zs : List LV) (ao lo : Option Addr) (cap lc : Nat) (kl : Nm.S) (most : Int) (w : World) (hL : LS w zs lo lc) (hl : zs.length ≤ 100) :
    Calls Tryd.prog 11 #[.agg #[.string ⟨nm.toArray⟩, .int .i64 ks, .slice ao cs.length cap, .slice lo zs.length lc], .string ⟨kl.toArray⟩, .string ⟨#[]⟩, .int .i64 most] w fun e w' => RQ w' e (rgl (lls zs) kl [] most) ∧ Below w.heap.size w w' := by
  have hsz : zs.length < 4611686018427387904 := by omega
  have H := Lib.hid (And.intro hL hl)
  clear hL hl
  go_enter Tryd.func11, Tryd.ntmps11
  go_wp2
  go_loopw [9, 10] (fun q i wr => ∃ (j : Nat) (ys : List RV), i = .int .i64 j ∧ j ≤ zs.length ∧ Below w.heap.size w wr ∧ Blk wr w.heap.size #[.string ⟨nm.toArray⟩, .int .i64 ks, .slice ao cs.length cap, .slice lo zs.length lc] 27 ∧ OwR wr (w.heap.size + 1) q ys ∧ rxs ys = rgf (lls zs) kl [] j ∧ ys.length ≤ j ∧ ys.length ≤ most.toNat ∧ ∀ y ∈ ys, ∃ z ∈ zs, y = rv z) (fun q i _ => zs.length - (intOf i).toNat)
  case atStart => exact ⟨0, [], rfl, Nat.zero_le _, below1 _ _, Blk.new _ _ _, owr_nil _ _, by simp [rxs, rgf], Nat.zero_le _, Nat.zero_le _, fun y hy => by simp at hy⟩
  case round =>
    obtain ⟨j, ys, rfl, hj, hb, hB, hO, hr, hyj, hym, hin⟩ := hrel
    obtain ⟨qo, qc, hv, hqc, hqs⟩ := hO.sl
    subst hv
    have J := Lib.hid (And.intro hb (And.intro hB (And.intro hO (And.intro hr (And.intro hyj (And.intro hym (And.intro hin hqs)))))))
    clear hb hB hO hr hyj hym hin hqs hqc
    obtain ⟨⟨c0, c1, c2, c3⟩, _⟩ := J.out.2.1.s4
    by_cases hlt : j < zs.length
    · by_cases hmo : (ys.length : Int) < most
      · obtain ⟨a, ha, y0, y1⟩ := (H.out.1.1.below J.out.1) j zs[j] (List.getElem?_eq_getElem hlt)
        subst ha
        have hI := fun h => rgf_in (lo := kl) (hi := []) hlt h
        have hN := fun h => rgf_out (lo := kl) (hi := []) hlt h
        have hmem := List.getElem_mem hlt
        obtain ⟨x, hx⟩ : ∃ x, zs[j] = x := ⟨_, rfl⟩
        rw [hx] at y0 y1 hI hN hmem
        clear hx
        have j0 : (0 : Int) ≤ (j : Int) := by omega
        have j1 : (j : Int) < (zs.length : Int) := by omega
        have X := Lib.hid (And.intro hI (And.intro hN hmem))
        clear hI hN hmem
        by_cases h1 : x.k < kl
        · have z1 : Op.bytesLess x.k kl = true := by rw [Vl.less_eq]; simp [h1]
          have Y := Lib.hid (X.out.2.1 (by simp [inr, LV.l, h1]))
          clear h1
          go_wp2
          go_roundw
          case rel => exact ⟨j + 1, ys, rfl, hlt, J.out.1, J.out.2.1, J.out.2.2.1, by rw [Y.out]; exact J.out.2.2.2.1, Nat.le_succ_of_le J.out.2.2.2.2.1, J.out.2.2.2.2.2.1, J.out.2.2.2.2.2.2.1⟩
          case measure => simp [intOf]; omega
        · have z1 : Op.bytesLess x.k kl = false := by rw [Vl.less_eq]; simp [h1]
          have Y := Lib.hid (X.out.1 (by simp [inr, LV.l, h1]))
          clear h1
          go_wp2_with (refine app1R rfl _ _ rfl (w.heap.size + 1) _ ys (rv x) wr.heap.size _ (by simp [Act.eval, Act.put]) (by simp [Act.eval, Act.put]) (J.out.2.2.1.keep (below1 _ _)) (Blk.new wr _ _) (by have := J.out.2.2.2.2.1; have := H.out.2; omega) (by have := J.out.1.size; have := J.out.2.1.lt; simp; omega) ?_)
          intro v' w' hO' hb'
          have Z := Lib.hid (And.intro hO' (And.intro (below1 wr (.cells #[.slice x.ao x.xs.length x.cap] 43)) hb'))
          clear hO' hb' c0 c1 c2 c3 y0 y1
          go_wp2
          go_roundw
          case rel => exact ⟨j + 1, ys ++ [rv x], rfl, hlt, (step0 J.out.1 Z.out.2.1).trans (Z.out.2.2.mono (Nat.le_succ _)), (J.out.2.1.alloc _).below' Z.out.2.2 (Nat.lt_succ_self _), Z.out.1, by rw [Y.out, ← J.out.2.2.2.1]; simp [rxs, rv], by rw [List.length_append]; have := J.out.2.2.2.2.1; simp; omega, by rw [List.length_append]; simp; omega, fun y hy => by
            rcases List.mem_append.1 hy with hy | hy
            · exact J.out.2.2.2.2.2.2.1 y hy
            · rw [List.mem_singleton] at hy
              exact ⟨x, X.out.2.2, hy⟩⟩
          case measure => simp [intOf]; omega
      · have e := rgl_stop (ls := lls zs) (lo := kl) (hi := []) (most := most) (i := j) (by rw [← J.out.2.2.2.1]; simpa [rxs] using J.out.2.2.2.2.2.1) (by rw [← J.out.2.2.2.1, lls_len]; simp only [rxs, List.length_map]; omega)
        have X := Lib.hid e
        clear e
        go_wp2
        go_ret
        exact ⟨⟨qo, qc, ys, rfl, J.out.2.2.2.2.2.2.2, fun y hy => by
          obtain ⟨z, hz, rfl⟩ := J.out.2.2.2.2.2.2.1 y hy
          exact ((H.out.1.2.1 z hz).1).below J.out.1, by rw [X.out]; exact J.out.2.2.2.1⟩, J.out.1⟩
    · obtain rfl : j = zs.length := by omega
      have e := rgl_stop (ls := lls zs) (lo := kl) (hi := []) (most := most) (i := zs.length) (by rw [← J.out.2.2.2.1]; simpa [rxs] using J.out.2.2.2.2.2.1) (by rw [← J.out.2.2.2.1, lls_len]; simp only [rxs, List.length_map]; omega)
      have X := Lib.hid e
      clear e
      go_wp2
      go_ret
      exact ⟨⟨qo, qc, ys, rfl, J.out.2.2.2.2.2.2.2, fun y hy => by
        obtain ⟨z, hz, rfl⟩ := J.out.2.2.2.2.2.2.1 y hy
        exact ((H.out.1.2.1 z hz).1).below J.out.1, by rw [X.out]; exact J.out.2.2.2.1⟩, J.out.1⟩

set_option maxRecDepth 1000000 in
set_option maxHeartbeats 2000000 in
theorem rrange_h (nm : Nm.S) (ks : Int) (cs : List C) (zs : List LV) (ao lo : Option Addr) (cap lc : Nat) (kl kh : Nm.S) (most : Int) (w : World) (hL : LS w zs lo lc) (hl : zs.length ≤ 100) (hk : kh ≠ []) :
    Calls Tryd.prog 11 #[.agg #[.string ⟨nm.toArray⟩, .int .i64 ks, .slice ao cs.length cap, .slice lo zs.length lc], .string ⟨kl.toArray⟩, .string ⟨kh.toArray⟩, .int .i64 most] w fun e w' => RQ w' e (rgl (lls zs) kl kh most) ∧ Below w.heap.size w w' := by
  have s1 : (kh == []) = false := by rw [beq_eq_false_iff_ne]; exact hk
  have s3 : ¬ kh = [] := hk
  clear hk
  have hsz : zs.length < 4611686018427387904 := by omega
  have H := Lib.hid (And.intro hL hl)
  clear hL hl
  go_enter Tryd.func11, Tryd.ntmps11
  go_wp2
  go_loopw [9, 10] (fun q i wr => ∃ (j : Nat) (ys : List RV), i = .int .i64 j ∧ j ≤ zs.length ∧ Below w.heap.size w wr ∧ Blk wr w.heap.size #[.string ⟨nm.toArray⟩, .int .i64 ks, .slice ao cs.length cap, .slice lo zs.length lc] 27 ∧ OwR wr (w.heap.size + 1) q ys ∧ rxs ys = rgf (lls zs) kl kh j ∧ ys.length ≤ j ∧ ys.length ≤ most.toNat ∧ ∀ y ∈ ys, ∃ z ∈ zs, y = rv z) (fun q i _ => zs.length - (intOf i).toNat)
  case atStart => exact ⟨0, [], rfl, Nat.zero_le _, below1 _ _, Blk.new _ _ _, owr_nil _ _, by simp [rxs, rgf], Nat.zero_le _, Nat.zero_le _, fun y hy => by simp at hy⟩
  case round =>
    obtain ⟨j, ys, rfl, hj, hb, hB, hO, hr, hyj, hym, hin⟩ := hrel
    obtain ⟨qo, qc, hv, hqc, hqs⟩ := hO.sl
    subst hv
    have J := Lib.hid (And.intro hb (And.intro hB (And.intro hO (And.intro hr (And.intro hyj (And.intro hym (And.intro hin hqs)))))))
    clear hb hB hO hr hyj hym hin hqs hqc
    obtain ⟨⟨c0, c1, c2, c3⟩, _⟩ := J.out.2.1.s4
    by_cases hlt : j < zs.length
    · by_cases hmo : (ys.length : Int) < most
      · obtain ⟨a, ha, y0, y1⟩ := (H.out.1.1.below J.out.1) j zs[j] (List.getElem?_eq_getElem hlt)
        subst ha
        have hI := fun h => rgf_in (lo := kl) (hi := kh) hlt h
        have hN := fun h => rgf_out (lo := kl) (hi := kh) hlt h
        have hmem := List.getElem_mem hlt
        obtain ⟨x, hx⟩ : ∃ x, zs[j] = x := ⟨_, rfl⟩
        rw [hx] at y0 y1 hI hN hmem
        clear hx
        have j0 : (0 : Int) ≤ (j : Int) := by omega
        have j1 : (j : Int) < (zs.length : Int) := by omega
        have X := Lib.hid (And.intro hI (And.intro hN hmem))
        clear hI hN hmem
        by_cases h1 : x.k < kl
        · have z1 : Op.bytesLess x.k kl = true := by rw [Vl.less_eq]; simp [h1]
          have Y := Lib.hid (X.out.2.1 (by simp [inr, LV.l, h1]))
          clear h1
          go_wp2
          go_roundw
          case rel => exact ⟨j + 1, ys, rfl, hlt, J.out.1, J.out.2.1, J.out.2.2.1, by rw [Y.out]; exact J.out.2.2.2.1, Nat.le_succ_of_le J.out.2.2.2.2.1, J.out.2.2.2.2.2.1, J.out.2.2.2.2.2.2.1⟩
          case measure => simp [intOf]; omega
        · have z1 : Op.bytesLess x.k kl = false := by rw [Vl.less_eq]; simp [h1]
          by_cases h2 : x.k < kh
          · have z2 : Op.bytesLess x.k kh = true := by rw [Vl.less_eq]; simp [h2]
            have Y := Lib.hid (X.out.1 (by simp [inr, LV.l, h1, h2]))
            clear h1 h2
            go_wp2_with (refine app1R rfl _ _ rfl (w.heap.size + 1) _ ys (rv x) wr.heap.size _ (by simp [Act.eval, Act.put]) (by simp [Act.eval, Act.put]) (J.out.2.2.1.keep (below1 _ _)) (Blk.new wr _ _) (by have := J.out.2.2.2.2.1; have := H.out.2; omega) (by have := J.out.1.size; have := J.out.2.1.lt; simp; omega) ?_)
            intro v' w' hO' hb'
            have Z := Lib.hid (And.intro hO' (And.intro (below1 wr (.cells #[.slice x.ao x.xs.length x.cap] 43)) hb'))
            clear hO' hb' c0 c1 c2 c3 y0 y1
            go_wp2
            go_roundw
            case rel => exact ⟨j + 1, ys ++ [rv x], rfl, hlt, (step0 J.out.1 Z.out.2.1).trans (Z.out.2.2.mono (Nat.le_succ _)), (J.out.2.1.alloc _).below' Z.out.2.2 (Nat.lt_succ_self _), Z.out.1, by rw [Y.out, ← J.out.2.2.2.1]; simp [rxs, rv], by rw [List.length_append]; have := J.out.2.2.2.2.1; simp; omega, by rw [List.length_append]; simp; omega, fun y hy => by
              rcases List.mem_append.1 hy with hy | hy
              · exact J.out.2.2.2.2.2.2.1 y hy
              · rw [List.mem_singleton] at hy
                exact ⟨x, X.out.2.2, hy⟩⟩
            case measure => simp [intOf]; omega
          · have z2 : Op.bytesLess x.k kh = false := by rw [Vl.less_eq]; simp [h2]
            have Y := Lib.hid (X.out.2.1 (by simp [inr, LV.l, h1, h2, s3]))
            clear h1 h2
            go_wp2
            go_roundw
            case rel => exact ⟨j + 1, ys, rfl, hlt, J.out.1, J.out.2.1, J.out.2.2.1, by rw [Y.out]; exact J.out.2.2.2.1, Nat.le_succ_of_le J.out.2.2.2.2.1, J.out.2.2.2.2.2.1, J.out.2.2.2.2.2.2.1⟩
            case measure => simp [intOf]; omega
      · have e := rgl_stop (ls := lls zs) (lo := kl) (hi := kh) (most := most) (i := j) (by rw [← J.out.2.2.2.1]; simpa [rxs] using J.out.2.2.2.2.2.1) (by rw [← J.out.2.2.2.1, lls_len]; simp only [rxs, List.length_map]; omega)
        have X := Lib.hid e
        clear e
        go_wp2
        go_ret
        exact ⟨⟨qo, qc, ys, rfl, J.out.2.2.2.2.2.2.2, fun y hy => by
          obtain ⟨z, hz, rfl⟩ := J.out.2.2.2.2.2.2.1 y hy
          exact ((H.out.1.2.1 z hz).1).below J.out.1, by rw [X.out]; exact J.out.2.2.2.1⟩, J.out.1⟩
    · obtain rfl : j = zs.length := by omega
      have e := rgl_stop (ls := lls zs) (lo := kl) (hi := kh) (most := most) (i := zs.length) (by rw [← J.out.2.2.2.1]; simpa [rxs] using J.out.2.2.2.2.2.1) (by rw [← J.out.2.2.2.1, lls_len]; simp only [rxs, List.length_map]; omega)
      have X := Lib.hid e
      clear e
      go_wp2
      go_ret
      exact ⟨⟨qo, qc, ys, rfl, J.out.2.2.2.2.2.2.2, fun y hy => by
        obtain ⟨z, hz, rfl⟩ := J.out.2.2.2.2.2.2.1 y hy
        exact ((H.out.1.2.1 z hz).1).below J.out.1, by rw [X.out]; exact J.out.2.2.2.1⟩, J.out.1⟩

end Go.Proofs.YtfgakoldedpfoaaDoor
