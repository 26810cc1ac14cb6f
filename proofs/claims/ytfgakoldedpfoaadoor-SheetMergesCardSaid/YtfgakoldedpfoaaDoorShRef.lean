/-
  The document's Find of a key; lines held against lines, a sheet against a sheet: SameLines, Same, where they are the same. Conditions: the bounds named in each theorem.
-/
import Derived.Test.YtfgakoldedpfoaaDoorShPut
import Derived.Test.YtfgakoldedpfoaaDoorScSame
import Derived.BigQuiet
namespace Go.Proofs.YtfgakoldedpfoaaDoor
open Go.RowKit
set_option linter.unusedVariables false
set_option linter.unusedSimpArgs false

set_option maxRecDepth 1000000 in
set_option maxHeartbeats 4000000 in
theorem sameLines_s (xs ys : List LV) (n : Nat) (ao bo : Option Addr) (ca cb : Nat) (w : World) (hxn : xs.length = n) (hyn : ys.length = n) (hl : xs.length ≤ 1000) (ha : LS w xs ao ca) (hb : LS w ys bo cb) (h30 : ∀ x ∈ xs, x.xs.length ≤ 1000000) (he : lls xs = lls ys) :
    Calls Tryd.prog 14 #[.slice ao n ca, .slice bo n cb] w fun e w' => e = .returned (.bool true) ∧ Below w.heap.size w w' := by
  subst hxn
  have hmx : Tryd.prog.follows .mixedOrders = true := by kernel_rfl
  have hsz : xs.length < 4611686018427387904 := by omega
  have H := Lib.hid (And.intro ha (And.intro hb (And.intro hl (And.intro hyn (And.intro h30 he)))))
  clear ha hb hl hyn h30 he
  go_enter Tryd.func14, Tryd.ntmps14
  go_wp2
  go_loopw [5] (fun i wr => ∃ j : Nat, i = .int .i64 j ∧ j ≤ xs.length ∧ Below w.heap.size w wr) (fun i _ => xs.length - (intOf i).toNat)
  case atStart => exact ⟨0, rfl, Nat.zero_le _, Below.refl _ _⟩
  case round =>
    obtain ⟨j, rfl, hj, hbel⟩ := hrel
    have J := Lib.hid hbel
    clear hbel
    by_cases hlt : j < xs.length
    · have hlu : j < ys.length := by have := H.out.2.2.2.1; omega
      obtain ⟨a, ha, a0, a1⟩ := H.out.1.1.below J.out j xs[j] (List.getElem?_eq_getElem hlt)
      obtain ⟨b, hb, b0, b1⟩ := H.out.2.1.1.below J.out j ys[j] (List.getElem?_eq_getElem hlu)
      subst ha hb
      have hj1 : (j : Int) < (xs.length : Int) := by omega
      have hj0 : (0 : Int) ≤ (j : Int) := by omega
      have hs : xs[j].l = ys[j].l := by
        have h1 := congrArg (fun l => l[j]?) H.out.2.2.2.2.2
        simp only [lls_get hlt, lls_get hlu, Option.some.injEq] at h1
        exact h1
      have hA := H.out.1.2.1.at hlt
      have hB := H.out.2.1.2.1.at hlu
      have h30 := H.out.2.2.2.2.1 _ (List.getElem_mem hlt)
      obtain ⟨x, hx⟩ : ∃ x, xs[j] = x := ⟨_, rfl⟩
      obtain ⟨y, hy⟩ : ∃ y, ys[j] = y := ⟨_, rfl⟩
      rw [hx, hy] at hs
      rw [hx] at a0 a1 hA h30
      rw [hy] at b0 b1 hB
      have hk : x.k = y.k := congrArg L.k hs
      have hr : x.xs = y.xs := congrArg L.r hs
      rw [hk] at a0
      have HE := Lib.hid (And.intro (vls_true _ _ hr) (And.intro hA.1 (And.intro hB.1 h30)))
      clear hs hx hy hA hB h30 hk hr
      go_wp2_with fail
      go_region_held3 (fun v => Below wr.heap.size wr v ∧ v.cell? (a.add (j * 2)) = some (.string ⟨y.k.toArray⟩) ∧ v.cell? ⟨(a.add (j * 2)).block, (a.add (j * 2)).off + 1, none⟩ = some (.slice x.ao x.xs.length x.cap) ∧ v.cell? (b.add (j * 2)) = some (.string ⟨y.k.toArray⟩) ∧ v.cell? ⟨(b.add (j * 2)).block, (b.add (j * 2)).off + 1, none⟩ = some (.slice y.ao y.xs.length y.cap))
        (first | exact ⟨(Below.refl _ _).drew, a0, a1, b0, b1⟩ | exact ⟨step0 ‹Below wr.heap.size wr _ ∧ _›.1 hb1, keep0 a0 (step0 ‹Below wr.heap.size wr _ ∧ _›.1 hb1), keep0 a1 (step0 ‹Below wr.heap.size wr _ ∧ _›.1 hb1), keep0 b0 (step0 ‹Below wr.heap.size wr _ ∧ _›.1 hb1), keep0 b1 (step0 ‹Below wr.heap.size wr _ ∧ _›.1 hb1)⟩)
        (first | (go_at_call 21; refine (same06 x.xs y.xs true x.ao y.ao x.cap y.cap _ HE.out.2.2.2 (HE.out.2.1.below (step0 J.out ‹Below wr.heap.size wr _ ∧ _›.1)) (HE.out.2.2.1.below (step0 J.out ‹Below wr.heap.size wr _ ∧ _›.1)) HE.out.1).mono ?_; rintro e w1 ⟨rfl, hb1⟩))
      have Z := Lib.hid (show Below wr.heap.size wr w1 from ‹Below wr.heap.size wr w1 ∧ _›.1)
      go_wp2
      go_roundw
      case rel => exact ⟨j + 1, rfl, hlt, step0 J.out Z.out⟩
      case measure => simp [intOf]; omega
    · obtain rfl : j = xs.length := by omega
      go_wp2
      go_ret
      exact ⟨rfl, J.out⟩

/-- A sheet as a value, in memory. -/
def DV (W : World) (nm : Nm.S) (ks : Int) (cs : List C) (ls : List L) (v : Value) : Prop := ∃ vo vc lo' lc' zs', v = .agg #[.string ⟨nm.toArray⟩, .int .i64 ks, .slice vo cs.length vc, .slice lo' zs'.length lc'] ∧ At3 W ⟨nm, ks, cs⟩ vo vc ∧ LS W zs' lo' lc' ∧ lls zs' = ls
theorem SV.dv {b : Nat} {W : World} {nm : Nm.S} {ks : Int} {cs : List C} {ls : List L} {v : Value} (h : SV b W nm ks cs ls v) (ho : ∀ c ∈ cs, c.d.ok) : DV W nm ks cs ls v := by
  obtain ⟨vo, vc, lo', lc', zs', rfl, h1, h2, _, h4⟩ := h
  exact ⟨vo, vc, lo', lc', zs', rfl, h1.at3 ho, h2, h4⟩
theorem DV.keep {W W' : World} {nm : Nm.S} {ks : Int} {cs : List C} {ls : List L} {v : Value} (h : DV W nm ks cs ls v) (hb : Below W.heap.size W W') : DV W' nm ks cs ls v := by
  obtain ⟨vo, vc, lo', lc', zs', rfl, h1, h2, h4⟩ := h
  exact ⟨vo, vc, lo', lc', zs', rfl, h1.keep hb, h2.below hb, h4⟩

set_option maxRecDepth 1000000 in
set_option maxHeartbeats 2000000 in
theorem rsheet_s (nm : Nm.S) (ks : Int) (cs : List C) (ls : List L) (v u : Value) (w : World) (hv : DV w nm ks cs ls v) (hu : DV w nm ks cs ls u) (hcl : cs.length ≤ 1000) (hl : ls.length ≤ 1000) (h30 : ∀ l ∈ ls, l.r.length ≤ 1000000) :
    Calls Tryd.prog 18 #[v, u] w fun e w' => e = .returned (.bool true) ∧ Below w.heap.size w w' := by
  obtain ⟨ao, cap, la, ca, xs, rfl, hT1, hL1, hx⟩ := hv
  obtain ⟨bo, cap2, lb, cb, ys, rfl, hT2, hL2, hy⟩ := hu
  have hxn : xs.length = ls.length := by rw [← hx, lls_len]
  have hyn : ys.length = ls.length := by rw [← hy, lls_len]
  obtain ⟨n, hn⟩ : ∃ n, ls.length = n := ⟨_, rfl⟩
  rw [hn] at hxn hyn hl
  rw [hxn, hyn]
  have hx30 : ∀ x ∈ xs, x.xs.length ≤ 1000000 := fun x hm => h30 x.l (by rw [← hx]; exact List.mem_map_of_mem hm)
  have H := Lib.hid (And.intro hT1 (And.intro hL1 (And.intro hT2 (And.intro hL2 (And.intro hcl (And.intro hl (And.intro hxn (And.intro hyn (And.intro hx30 (hx.trans hy.symm))))))))))
  clear hT1 hL1 hT2 hL2 hcl hl hxn hyn hx30 hx hy hn h30
  obtain ⟨W1, hW1⟩ : ∃ W1, (w.alloc (.cells #[.string ⟨nm.toArray⟩, .int .i64 ks, .slice ao cs.length cap, .slice la n ca] 27)).alloc (.cells #[.string ⟨nm.toArray⟩, .int .i64 ks, .slice bo cs.length cap2, .slice lb n cb] 27) = W1 := ⟨_, rfl⟩
  have p0 : Blk W1 w.heap.size #[.string ⟨nm.toArray⟩, .int .i64 ks, .slice ao cs.length cap, .slice la n ca] 27 := hW1 ▸ (Blk.new w _ _).alloc _
  have p1 : Blk W1 (w.heap.size + 1) #[.string ⟨nm.toArray⟩, .int .i64 ks, .slice bo cs.length cap2, .slice lb n cb] 27 := by have := Blk.new (w.alloc (.cells #[.string ⟨nm.toArray⟩, .int .i64 ks, .slice ao cs.length cap, .slice la n ca] 27)) #[.string ⟨nm.toArray⟩, .int .i64 ks, .slice bo cs.length cap2, .slice lb n cb] 27; rw [hW1] at this; simpa using this
  have K1 := Lib.hid (And.intro (hW1 ▸ below2s w _ _ : Below w.heap.size w W1) (And.intro p0 p1))
  obtain ⟨⟨c0, c1, c2, c3⟩, _⟩ := p0.s4
  obtain ⟨⟨e0, e1, e2, e3⟩, _⟩ := p1.s4
  clear p0 p1
  go_enter Tryd.func18, Tryd.ntmps18
  go_wp2_with fail
  refine (rtsame_is ⟨nm, ks, cs⟩ ⟨nm, ks, cs⟩ ao bo cap cap2 _ (H.out.1.1.below K1.out.1) (H.out.2.2.1.1.below K1.out.1) H.out.2.2.2.2.1 true ((T.sm_iff _ _).2 rfl)).mono ?_
  rintro e w2 ⟨rfl, hb⟩
  have K2 := Lib.hid (And.intro (step0 K1.out.1 hb) (And.intro (K1.out.2.1.below hb) (K1.out.2.2.below hb)))
  clear hb c0 c1 c2 c3 e0 e1 e2 e3 hW1
  obtain ⟨⟨c0, c1, c2, c3⟩, _⟩ := K2.out.2.1.s4
  obtain ⟨⟨e0, e1, e2, e3⟩, _⟩ := K2.out.2.2.s4
  go_wp2_with fail
  refine (sameLines_s xs ys n la lb ca cb _ H.out.2.2.2.2.2.2.1 H.out.2.2.2.2.2.2.2.1 (by have := H.out.2.2.2.2.2.1; have := H.out.2.2.2.2.2.2.1; omega) (H.out.2.1.below K2.out.1) (H.out.2.2.2.1.below K2.out.1) H.out.2.2.2.2.2.2.2.2.1 H.out.2.2.2.2.2.2.2.2.2).mono ?_
  rintro e w3 ⟨rfl, hb⟩
  have K3 := Lib.hid (step0 K2.out.1 hb)
  clear hb
  go_wp2
  go_ret
  exact ⟨rfl, K3.out⟩

end Go.Proofs.YtfgakoldedpfoaaDoor
