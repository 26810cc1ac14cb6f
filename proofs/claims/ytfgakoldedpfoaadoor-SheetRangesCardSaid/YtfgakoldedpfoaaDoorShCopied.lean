/-
  Lines copied, their rows in memory of their own (copied); a table and lines as a sheet of its own (sheetOf). Conditions: the bounds named in each theorem.
-/
import Derived.Test.YtfgakoldedpfoaaDoorShParts
import Derived.Deep.RegionHeld3
namespace Go.Proofs.YtfgakoldedpfoaaDoor
open Go.RowKit
set_option linter.unusedVariables false

/-- All values of lines, one behind the other. -/
def cat (zs : List LV) : List V := (zs.map LV.xs).flatten
theorem cat_nil : cat [] = [] := rfl
theorem cat_append (a b : List LV) : cat (a ++ b) = cat a ++ cat b := by simp [cat]
theorem cat_next {zs : List LV} {j : Nat} (hj : j < zs.length) : cat (zs.take (j + 1)) = cat (zs.take j) ++ zs[j].xs := by
  rw [List.take_succ_eq_append_getElem hj, cat_append]
  simp [cat]
theorem cat_split (zs : List LV) (j : Nat) : (cat zs).length = (cat (zs.take j)).length + (cat (zs.drop j)).length := by
  rw [← List.length_append, ← cat_append, List.take_append_drop]
theorem cat_room {zs : List LV} {j : Nat} (hj : j < zs.length) : (cat (zs.take j)).length + zs[j].xs.length ≤ (cat zs).length := by
  have h := cat_split zs (j + 1)
  rw [cat_next hj, List.length_append] at h
  omega
theorem cat_ok {W : World} {zs : List LV} (h : InL W zs) : ∀ x ∈ cat zs, x.ok := by
  intro x hx
  simp only [cat, List.mem_flatten, List.mem_map] at hx
  obtain ⟨l, ⟨z, hz, rfl⟩, hx⟩ := hx
  exact (h z hz).2.2.2 x hx
theorem cat_mem {zs : List LV} {j : Nat} : ∀ x ∈ cat (zs.take j), x ∈ cat zs := by
  intro x hx
  rw [← List.take_append_drop j zs, cat_append]
  exact List.mem_append_left _ hx
theorem sl_cells {W : World} {ao : Option Addr} {xs : List V} (h : Sl W ao xs) : ∀ ad, ao = some ad → ∀ j u, (vcs xs)[j]? = some u → W.cell? (ad.add j) = some u := by
  rintro ad rfl j u hj
  exact h.cell j u hj
theorem sl_zero {W : World} {ao : Option Addr} {xs : List V} {c : Nat} (h : Sl W ao xs) (hc : ao = none → c = 0) : ao = none → xs.length = 0 ∧ c = 0 := by
  intro e
  refine ⟨?_, hc e⟩
  subst e
  rw [h.none]; rfl
theorem lset_next {ys zs : List LV} {j : Nat} (h : ys.length = j) (hj : j < zs.length) (y : LV) : (ys ++ zs.drop j).set j y = (ys ++ [y]) ++ zs.drop (j + 1) := by
  rw [List.set_append_right _ _ (by omega), h, Nat.sub_self, List.drop_eq_getElem_cons hj, List.set_cons_zero, List.append_assoc]
  rfl
theorem lat_next {ys zs : List LV} {j : Nat} (h : ys.length = j) (hj : j < zs.length) : (ys ++ zs.drop j)[j]? = some zs[j] := by
  rw [List.getElem?_append_right (by omega), h, Nat.sub_self, List.getElem?_drop, Nat.add_zero, List.getElem?_eq_getElem hj]

theorem OwL.at1 {w : World} {b g n cap : Nat} {ys : List LV} (h : OwL w b (.slice (some ⟨g, 0, none⟩) n cap) ys) (hn : n = ys.length) (j : Nat) (z : LV) (hj : ys[j]? = some z) : w.cell? ⟨g, j * 2 + 1, none⟩ = some (.slice z.ao z.xs.length z.cap) ∧ ∀ i, w.frozen? ⟨g, i, none⟩ = false := by
  subst hn
  refine ⟨?_, fun i => World.ownsRow.frozenAt h i⟩
  have hl := (List.getElem?_eq_some_iff.1 hj).1
  have := World.ownsRow.cellAt h (j * 2 + 1) (by omega)
  rw [this, lcs_at _ j z 1 hj (by decide)]
  rfl
set_option maxRecDepth 1000000 in
set_option maxHeartbeats 4000000 in
theorem lcopied_is (zs : List LV) (n : Nat) (ao : Option Addr) (cap : Nat) (w : World) (hn : zs.length = n) (h : LS w zs ao cap) (hl : zs.length ≤ 1000) (hs : (cat zs).length ≤ 1000000) :
    Calls Tryd.prog 26 #[.slice ao n cap] w fun e w' => ∃ ao' cap' zs', e = .returned (.slice ao' n cap') ∧ LS w' zs' ao' cap' ∧ LB w.heap.size zs' ao' ∧ lls zs' = lls zs ∧ Below w.heap.size w w' := by
  subst hn
  obtain ⟨i0, hi, hz0, hz1, hz2⟩ := info_parts Tryd.infoV
  have H := Lib.hid (And.intro h (And.intro hl hs))
  clear h hl hs
  go_enter Tryd.func26, Tryd.ntmps26
  go_wp2
  go_loopw [3, 13] (fun c i wr => ∃ j : Nat, c = .int .i64 ((cat (zs.take j)).length : Int) ∧ i = .int .i64 j ∧ j ≤ zs.length ∧ Below w.heap.size w wr) (fun _ i _ => zs.length - (intOf i).toNat)
  case atStart => exact ⟨0, rfl, rfl, Nat.zero_le _, Below.refl _ _⟩
  case round =>
    obtain ⟨j, rfl, rfl, hj, hb⟩ := hrel
    have J := Lib.hid hb
    clear hb
    by_cases hlt : j < zs.length
    · obtain ⟨a, ha, y0, y1⟩ := H.out.1.1.below J.out j zs[j] (List.getElem?_eq_getElem hlt)
      subst ha
      have hw : wrap64 ((j : Int) + 1) = (j : Int) + 1 := by have := H.out.2.1; exact wrap_in _ (by omega) (by omega)
      have hr := cat_room hlt
      obtain ⟨M, hM⟩ : ∃ M, (cat (zs.take j)).length = M := ⟨_, rfl⟩
      have hs : wrap64 ((M : Int) + (zs[j].xs.length : Int)) = (M : Int) + (zs[j].xs.length : Int) := by have := H.out.2.2; exact wrap_in _ (by omega) (by omega)
      have E := Lib.hid (show ((cat (zs.take (j + 1))).length : Int) = (M : Int) + (zs[j].xs.length : Int) by rw [cat_next hlt, List.length_append, hM]; omega)
      rw [hM]
      clear hr hM
      go_wp2
      go_roundw
      case rel => exact ⟨j + 1, by rw [E.out, hs], by go_num, hlt, J.out.alloc J.out.size _⟩
      case measure => rw [hw]; simp [intOf]; omega
    · obtain rfl : j = zs.length := by omega
      rw [List.take_length]
      obtain ⟨N, hN⟩ : ∃ N, (cat zs).length = N := ⟨_, rfl⟩
      rw [hN]
      have HN := Lib.hid hN
      clear hN
      go_wp2_with (refine wpList_make_own _ rfl _ _ 43 rfl wr.heap.size 68 i0 _ 4 Tryd.underlying43 hi hz0 hz1 _ _ _ N rfl rfl rfl (by have := H.out.2.2; have := HN.out; rw [hz2]; omega) (by have := H.out.2.2; have := HN.out; unfold maxLen; omega) (Nat.le_refl _) ?_)
      intro w2 hO hg
      have B2 := Lib.hid (And.intro (show OwV w2 wr.heap.size (.slice (some ⟨wr.heap.size, 0, none⟩) 0 N) [] from hO) (J.out.trans (((Below.refl _ wr).grown hg (Nat.le_refl _) (fun k hk => by cases hk)).mono J.out.size)))
      clear hO hg
      obtain ⟨g, hg⟩ : ∃ g, wr.heap.size = g := ⟨_, rfl⟩
      have hgw : w.heap.size ≤ g := hg ▸ J.out.size
      rw [hg] at B2
      rw [hg]
      clear hg
      go_wp2_with fail
      refine (lclone_is zs ao cap _ (H.out.1.1.below B2.out.2) H.out.2.1).mono ?_
      rintro e w3 ⟨v, rfl, hO, hb⟩
      have B3 := Lib.hid (And.intro hO (And.intro (step0 B2.out.2 hb) (B2.out.1.keep hb)))
      have hgv : ∀ k, v.ownBlock = some k → g < k := fun k hk => Nat.lt_of_lt_of_le (World.ownsRow.lt B2.out.1 g rfl).2 (World.ownsRow.lt hO k hk).1
      have G := Lib.hid (And.intro hgw hgv)
      clear hO hb hgw hgv
      go_wp2
      go_loopw [6, 29] (fun c i wr => ∃ (j : Nat) (ys : List LV), c = .slice (some ⟨g, 0, none⟩) (cat (zs.take j)).length N ∧ i = .int .i64 j ∧ j ≤ zs.length ∧ Below w.heap.size w wr ∧ OwV wr w.heap.size (.slice (some ⟨g, 0, none⟩) (cat (zs.take j)).length N) (cat (zs.take j)) ∧ OwL wr w.heap.size v (ys ++ zs.drop j) ∧ ys.length = j ∧ lls ys = lls (zs.take j) ∧ ∀ y ∈ ys, InG g (cat (zs.take j)) y) (fun _ i _ => zs.length - (intOf i).toNat)
      case atStart => exact ⟨0, [], rfl, rfl, Nat.zero_le _, B3.out.2.1, B3.out.2.2.base G.out.1, (B3.out.1.base B2.out.2.size), rfl, rfl, fun y hy => by simp at hy⟩
      case round =>
        obtain ⟨j, ys, rfl, rfl, hj, hb, hV, hO, hyl, hls, hin⟩ := hrel
        have J2 := Lib.hid (And.intro hb (And.intro hV (And.intro hO (And.intro hyl (And.intro hls hin)))))
        clear hb hV hO hyl hls hin
        by_cases hlt : j < zs.length
        · obtain ⟨a, ha, y0, y1⟩ := H.out.1.1.below J2.out.1 j zs[j] (List.getElem?_eq_getElem hlt)
          subst ha
          obtain ⟨go, vc, hv⟩ : ∃ go vc, v = .slice (some ⟨go, 0, none⟩) zs.length vc := by
            have hlen : (ys ++ zs.drop j).length = zs.length := by have := J2.out.2.2.2.1; simp; omega
            rcases J2.out.2.2.1.2 with ⟨_, hn⟩ | ⟨k, cap', cur, hv, _⟩
            · omega
            · exact ⟨k, cap', by rw [hv, hlen]⟩
          subst hv
          have hgo : g < go := G.out.2 go rfl
          have hrow := (H.out.1.2.1.below J2.out.1).at hlt
          have hroom := cat_room hlt
          have hnx := cat_next hlt
          have hat := lat_next J2.out.2.2.2.1 hlt
          have hset := fun y => lset_next (ys := ys) J2.out.2.2.2.1 hlt y
          have hlk : lls (zs.take (j + 1)) = lls (zs.take j) ++ [zs[j].l] := by rw [List.take_succ_eq_append_getElem hlt, lls_append]; rfl
          obtain ⟨l, hl⟩ : ∃ l, cat (zs.take j) = l := ⟨_, rfl⟩
          obtain ⟨z, hz⟩ : ∃ z, zs[j] = z := ⟨_, rfl⟩
          have q := J2.out
          clear J2
          rw [hl] at hroom hnx q
          rw [hz] at y0 y1 hrow hroom hnx hat hlk
          rw [hl]
          have HW := Lib.hid (show wrap64 ((j : Int) + 1) = (j : Int) + 1 by have := H.out.2.1; exact wrap_in _ (by omega) (by omega))
          have hN2 : N ≤ 1000000 := by have := H.out.2.2; have := HN.out; omega
          have hN : (l.length : Int) + (z.xs.length : Int) ≤ (N : Int) := by have := HN.out; omega
          have hN' : l.length + z.xs.length ≤ N := by have := HN.out; omega
          have hN0 : (l.length : Int) ≤ (l.length : Int) + (z.xs.length : Int) := by omega
          have hN0' : l.length ≤ l.length + z.xs.length := by omega
          have hj0 : (0 : Int) ≤ (j : Int) := by omega
          have hj1 : (j : Int) < (zs.length : Int) := by omega
          have X := Lib.hid (And.intro q (And.intro hrow (And.intro hnx (And.intro hat (And.intro hset (And.intro hlk (And.intro hgo hN2)))))))
          clear q hrow hnx hat hset hlk hgo hroom hN2 hz hl
          go_wp2_with (at_builtin; refine wpList_append_fits_any _ rfl _ _ 43 rfl w.heap.size 68 i0 4 Tryd.underlying43 hi hz1 g l.length N (vcs l) rfl (OwV.keep X.out.1.2.1 (below1 _ _)) z.ao z.xs.length z.cap (vcs z.xs) rfl (vcs_len _) (sl_zero X.out.2.1.1 X.out.2.1.2.2.1) (sl_cells (X.out.2.1.1.below (below1 _ _))) (vcs_one _) hN' ?_)
          intro W2 hown hgr
          have hV : OwV W2 w.heap.size (.slice (some ⟨g, 0, none⟩) (l.length + z.xs.length) N) (l ++ z.xs) := by
            unfold OwV
            rw [List.length_append, vcs_append]
            exact hown
          have hL2 := (X.out.1.2.2.1.keep (below1 wr (.cells #[.string ⟨z.k.toArray⟩, .slice z.ao z.xs.length z.cap] 54))).apart hgr (fun k hk => by
            obtain rfl : go = k := by simpa [Value.ownBlock] using hk
            have := X.out.2.2.2.2.2.2.1
            intro e
            have := Option.some.inj e
            omega)
          have hB2 : Below w.heap.size w W2 := (X.out.1.1.alloc X.out.1.1.size (.cells #[.string ⟨z.k.toArray⟩, .slice z.ao z.xs.length z.cap] 54)).grown hgr (Nat.le_trans X.out.1.1.size (by simp)) (fun k hk => by
            obtain rfl := Option.some.inj hk
            exact G.out.1)
          have hlen : zs.length = (ys ++ zs.drop j).length := by have := X.out.1.2.2.2.1; simp; omega
          have d1 := (hL2.at1 hlen j z X.out.2.2.2.1).1
          have d2 := (hL2.at1 hlen j z X.out.2.2.2.1).2 (j * 2 + 1)
          have Y := Lib.hid (And.intro hV (And.intro hL2 (And.intro hB2 hlen)))
          clear hown hgr hV hL2 hB2 hlen
          go_wp2
          go_roundw
          case rel =>
            have hst := Y.out.2.1.row Y.out.2.2.2 j z X.out.2.2.2.1 z.xs (if z.xs = [] then some ⟨g, 0, none⟩ else some ⟨g, l.length * 4, none⟩) z.xs.length
            refine ⟨j + 1, ys ++ [⟨z.k, z.xs, if z.xs = [] then some ⟨g, 0, none⟩ else some ⟨g, l.length * 4, none⟩, z.xs.length⟩], ?_, by rw [HW.out]; rfl, hlt, ?_, ?_, ?_, ?_, ?_, ?_⟩
            · rw [X.out.2.2.1, List.length_append]
            · exact below_set Y.out.2.2.1 hst.2.1 _ _
            · rw [X.out.2.2.1, List.length_append]
              refine Y.out.1.apart hst.2.2.2.2 (fun k hk e => ?_)
              obtain rfl : g = k := by simpa [Value.ownBlock] using hk
              have := Option.some.inj e
              have := X.out.2.2.2.2.2.2.1
              omega
            · rw [← X.out.2.2.2.2.1]
              exact hst.1
            · rw [List.length_append, X.out.1.2.2.2.1]; rfl
            · rw [lls_append, X.out.1.2.2.2.2.1, X.out.2.2.2.2.2.1]; rfl
            · intro y hy
              rw [X.out.2.2.1]
              rcases List.mem_append.1 hy with hy | hy
              · exact (X.out.1.2.2.2.2.2 y hy).more _
              · rw [List.mem_singleton] at hy
                subst hy
                exact InG.new g l z.k z.xs
          case measure => rw [HW.out]; simp [intOf]; omega
        · obtain rfl : j = zs.length := by omega
          have q := J2.out
          rw [List.take_length, List.drop_length, List.append_nil] at q
          obtain ⟨ao', cap', hv, hLS⟩ := q.2.2.1.ls (fun y hy => (q.2.2.2.2.2 y hy).fit q.2.1 (cat_ok (H.out.1.2.1.below q.1)))
          have e1 : ys.length = zs.length := q.2.2.2.1
          rw [e1] at hv
          subst hv
          have hLB : LB w.heap.size ys ao' := ⟨fun a ha => (World.ownsRow.lt q.2.2.1 a.block (by subst ha; rfl)).1, fun y hy a ha => by
            obtain ⟨_, _, _, _, h3, _⟩ := q.2.2.2.2.2 y hy
            rw [h3] at ha
            obtain rfl := Option.some.inj ha
            exact G.out.1⟩
          have Q := Lib.hid (And.intro hLS (And.intro hLB (And.intro q.2.2.2.2.1 q.1)))
          clear q hLS hLB e1
          go_wp2
          go_ret
          exact ⟨_, _, ys, rfl, Q.out⟩

end Go.Proofs.YtfgakoldedpfoaaDoor
