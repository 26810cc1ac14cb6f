/-
  A row put into a sheet, a key's row taken out: Put, Delete. Conditions: a sheet in memory, of at most 1000 columns and 100 lines by rising keys of at most 30 values; a row of at most 30 values that keep a value's bounds; the library's variable errors.errorType holds the handle of the type error.
-/
import Derived.Test.YtfgakoldedpfoaaDoorShSheet
import Derived.Test.YtfgakoldedpfoaaDoorShConcat
import Derived.Test.YtfgakoldedpfoaaDoorShFind
namespace Go.Proofs.YtfgakoldedpfoaaDoor
open Go.RowKit
set_option linter.unusedVariables false
set_option linter.unusedSimpArgs false

theorem cat_few : ∀ (zs : List LV), (∀ z ∈ zs, z.xs.length ≤ 30) → (cat zs).length ≤ zs.length * 30
  | [], _ => by simp [cat]
  | z :: zs, h => by
    have h1 := h z (List.mem_cons_self ..)
    have h2 := cat_few zs (fun y hy => h y (List.mem_cons_of_mem _ hy))
    have e : cat (z :: zs) = z.xs ++ cat zs := by simp [cat]
    rw [e, List.length_append, List.length_cons]
    omega
/-- What a sheet is, as the program hands it out: all of it in memory from a block on. -/
def SV (b : Nat) (W : World) (nm : Nm.S) (ks : Int) (cs : List C) (ls : List L) (v : Value) : Prop := ∃ vo vc lo' lc' zs', v = .agg #[.string ⟨nm.toArray⟩, .int .i64 ks, .slice vo cs.length vc, .slice lo' zs'.length lc'] ∧ TB b W cs vo vc ∧ LS W zs' lo' lc' ∧ LB b zs' lo' ∧ lls zs' = ls
/-- A sheet that is not too great. -/
def Smal (cs : List C) (zs : List LV) : Prop := cs.length ≤ 1000 ∧ zs.length ≤ 100 ∧ ∀ z ∈ zs, z.xs.length ≤ 30
theorem Smal.cat {cs : List C} {zs : List LV} (h : Smal cs zs) : (cat zs).length ≤ 1000000 := by
  have := cat_few zs h.2.2
  have := h.2.1
  omega
theorem lls_length {zs zs' : List LV} (h : lls zs' = lls zs) : zs'.length = zs.length := by
  have := congrArg List.length h
  rwa [lls_len, lls_len] at this
/-- The boxes at a walk's head: the sheet, the result. -/
theorem two_boxes {w w1 : World} {S Z : Array Value} (hb : Below ((w.alloc (.cells S 27)).alloc (.cells Z 27)).heap.size ((w.alloc (.cells S 27)).alloc (.cells Z 27)) w1) : Below w.heap.size w w1 ∧ Blk w1 w.heap.size S 27 ∧ Blk w1 (w.heap.size + 1) Z 27 ∧ w.heap.size + 2 ≤ w1.heap.size := by
  refine ⟨step0 (below2s _ _ _) hb, ((Blk.new w S _).alloc _).below hb, ?_, by have := hb.size; simp at this; omega⟩
  have := (Blk.new (w.alloc (.cells S 27)) Z 27).below hb
  simpa using this

set_option maxRecDepth 1000000 in
set_option maxHeartbeats 4000000 in
theorem put_bad (nm : Nm.S) (ks : Int) (cs : List C) (zs : List LV) (ao lo : Option Addr) (cap lc : Nat) (xs : List V) (ro : Option Addr) (rc : Nat) (w : World) (hg : Env w) (hT : At3 w ⟨nm, ks, cs⟩ ao cap) (hL : LS w zs lo lc) (hm : Smal cs zs) (hx : Sl w ro xs) (hx30 : xs.length ≤ 30) (hok : ∀ x ∈ xs, x.ok) (hrc : xs.length ≤ rc) (E : Int) (hE : T.fit ⟨nm, ks, cs⟩ xs = E) (h0 : E ≠ 0) :
    Calls Tryd.prog 17 #[.agg #[.string ⟨nm.toArray⟩, .int .i64 ks, .slice ao cs.length cap, .slice lo zs.length lc], .slice ro xs.length rc] w fun e w' => ∃ v, e = .returned (.tuple #[v, .bool false, .int .i64 E]) ∧ SV w.heap.size w' nm ks cs (lls zs) v ∧ Below w.heap.size w w' := by
  have n1 : (E == 0) = false := by simpa using h0
  have n2 : (E != 0) = true := by simpa using h0
  have H := Lib.hid (And.intro hg (And.intro hT (And.intro hL (And.intro hm (And.intro hx (And.intro hx30 (And.intro hok (And.intro hrc hE))))))))
  clear hg hT hL hm hx hx30 hok hrc hE
  go_enter Tryd.func17, Tryd.ntmps17
  go_wp2_with fail
  refine (key_t ⟨nm, ks, cs⟩ xs ao ro cap rc _ (H.out.2.1.keep (below2s _ _ _)) (H.out.2.2.2.2.1.below (below2s _ _ _)) H.out.2.2.2.2.2.1 H.out.2.2.2.2.2.2.1 (H.out.1.keep (below2s _ _ _)) H.out.2.2.2.2.2.2.2.1 E H.out.2.2.2.2.2.2.2.2).mono ?_
  rintro e w1 ⟨rfl, hb⟩
  have K1 := Lib.hid (two_boxes hb)
  clear hb
  obtain ⟨⟨c0, c1, c2, c3⟩, _⟩ := K1.out.2.1.s4
  go_wp2_with fail
  refine (sheetOf_is nm ks cs zs _ ao lo cap lc _ rfl (H.out.2.1.1.below K1.out.1) (H.out.2.2.1.below K1.out.1) H.out.2.2.2.1.1 (by have := H.out.2.2.2.1.2.1; omega) H.out.2.2.2.1.cat).mono ?_
  rintro e w2 ⟨vo, vc, lo', lc', zs', rfl, hTB, hLS, hLB, hls, hb⟩
  clear c0 c1 c2 c3
  have B2 := Lib.hid (And.intro hTB (And.intro hLS (And.intro hLB (And.intro hls (And.intro (K1.out.2.2.1.below hb) (And.intro (K1.out.1.trans (hb.mono K1.out.1.size)) K1.out.2.2.2))))))
  clear hTB hLS hLB hls hb
  obtain ⟨⟨d0, d1, d2, d3⟩, f0, f1, f2, f3⟩ := B2.out.2.2.2.2.1.s4
  go_wp2
  have pB := B2.out.2.2.2.2.1.put4 (.string ⟨nm.toArray⟩) (.int .i64 ks) (.slice vo cs.length vc) (.slice lo' zs.length lc')
  obtain ⟨⟨e0, e1, e2, e3⟩, _⟩ := pB.s4
  unfold st4 at e0 e1 e2 e3
  refine bodyPost_ret (v := .tuple #[.agg #[.string ⟨nm.toArray⟩, .int .i64 ks, .slice vo cs.length vc, .slice lo' zs.length lc'], .bool false, .int .i64 E]) ?_ rfl ⟨_, rfl, ⟨vo, vc, lo', lc', zs', ?_, ?_, ?_, ?_, ?_⟩, ?_⟩
  · simp [results, Tryd.results17, go_sem, e0, e1, e2, e3]
  · rw [lls_length B2.out.2.2.2.1]
  · exact OwC.base (OwC.off4 (B2.out.1) (by have := B2.out.2.2.2.2.2.2; omega) _ _ _ _) (by have := B2.out.2.2.2.2.2.2; omega)
  · exact LS.off4 (B2.out.2.1) (B2.out.2.2.1) (by have := B2.out.2.2.2.2.2.2; omega) _ _ _ _
  · exact LB.mono (B2.out.2.2.1) (by have := B2.out.2.2.2.2.2.2; omega)
  · exact (B2.out.2.2.2.1)
  · exact below_st4 (B2.out.2.2.2.2.2.1) (by have := B2.out.2.2.2.2.2.2; omega) _ _ _ _

theorem key_k (nm : Nm.S) (ks : Int) (cs : List C) (xs : List V) (key : Nm.S) (ao bo : Option Addr) (cap cb : Nat) (w : World) (h : At3 w ⟨nm, ks, cs⟩ ao cap) (hx : Sl w bo xs) (hm : xs.length ≤ 30) (ho : ∀ x ∈ xs, x.ok) (hg : Env w) (hcb : xs.length ≤ cb) (E : Int) (hE : T.fit ⟨nm, ks, cs⟩ xs = E) (hk : T.key ⟨nm, ks, cs⟩ xs = key) :
    Calls Tryd.prog 19 #[.agg #[.string ⟨nm.toArray⟩, .int .i64 ks, .slice ao cs.length cap], .slice bo xs.length cb] w fun e w' => e = .returned (.tuple #[.string ⟨key.toArray⟩, .int .i64 E]) ∧ Below w.heap.size w w' := by
  subst hk
  exact key_t ⟨nm, ks, cs⟩ xs ao bo cap cb w h hx hm ho hg hcb E hE
theorem slP_three {W : World} {g : Nat} {a b c : PV} (h : Blk W g #[.slice a.ao a.zs.length a.cap, .slice b.ao b.zs.length b.cap, .slice c.ao c.zs.length c.cap] 25) : SlP W (some ⟨g, 0, none⟩) [a, b, c] := by
  intro i x hi
  refine ⟨⟨g, 0, none⟩, rfl, ?_⟩
  rw [add_none]
  match i, hi with
  | 0, hi => obtain rfl : a = x := by simpa using hi
             exact h.cell 0
  | 1, hi => obtain rfl : b = x := by simpa using hi
             exact h.cell 1
  | 2, hi => obtain rfl : c = x := by simpa using hi
             exact h.cell 2
  | (i + 3), hi => simp at hi
theorem slP_two {W : World} {g : Nat} {a b : PV} (h : Blk W g #[.slice a.ao a.zs.length a.cap, .slice b.ao b.zs.length b.cap] 25) : SlP W (some ⟨g, 0, none⟩) [a, b] := by
  intro i x hi
  refine ⟨⟨g, 0, none⟩, rfl, ?_⟩
  rw [add_none]
  match i, hi with
  | 0, hi => obtain rfl : a = x := by simpa using hi
             exact h.cell 0
  | 1, hi => obtain rfl : b = x := by simpa using hi
             exact h.cell 1
  | (i + 2), hi => simp at hi
theorem slL_one {W : World} {g : Nat} {z : LV} (h : Blk W g #[.string ⟨z.k.toArray⟩, .slice z.ao z.xs.length z.cap] 54) : SlL W (some ⟨g, 0, none⟩) [z] := by
  intro i x hi
  refine ⟨⟨g, 0, none⟩, rfl, ?_⟩
  match i, hi with
  | 0, hi =>
    obtain rfl : z = x := by simpa using hi
    rw [add_none]
    exact ⟨h.cell 0, h.cell 1⟩
  | (i + 1), hi => simp at hi
theorem Blk.drw {W : World} {B : Nat} {cs : Array Value} {t : TypeId} (h : Blk W B cs t) : Blk W.drew B cs t := h
theorem llk_take (zs : List LV) (n : Nat) : lls (zs.take n) = (lls zs).take n := by simp [lls]
theorem llk_drop (zs : List LV) (n : Nat) : lls (zs.drop n) = (lls zs).drop n := by simp [lls]
/-- The lines of a Put, of a Delete. -/
def plv (zs : List LV) (I b : Nat) (z : LV) : List LV := zs.take I ++ z :: zs.drop b
theorem plv_lls {zs : List LV} {I b : Nat} {z : LV} {B : Bool} (hI : fnd (lls zs) z.k = I) (hB : isk (lls zs) z.k = B) (hb : b = I + if B = true then 1 else 0) : lls (plv zs I b z) = putl (lls zs) z.l := by
  unfold plv putl
  rw [lls_append, llk_take]
  show _ ++ z.l :: lls (zs.drop b) = _
  rw [llk_drop, show z.l.k = z.k from rfl, hI, hB, hb]
theorem plv_len {zs : List LV} {I b : Nat} {z : LV} (hb : I ≤ b) : (plv zs I b z).length ≤ zs.length + 1 := by
  unfold plv
  rw [List.length_append, List.length_cons, List.length_take, List.length_drop]
  omega
theorem plv_mem {zs : List LV} {I b : Nat} {z x : LV} (h : x ∈ plv zs I b z) : x = z ∨ x ∈ zs := by
  unfold plv at h
  rcases List.mem_append.1 h with h | h
  · exact .inr (List.mem_of_mem_take h)
  · rcases List.mem_cons.1 h with rfl | h
    · exact .inl rfl
    · exact .inr (List.mem_of_mem_drop h)
theorem smal_cat {zs : List LV} (h : zs.length ≤ 1000) (g : ∀ z ∈ zs, z.xs.length ≤ 30) : (cat zs).length ≤ 1000000 := by
  have := cat_few zs g
  omega
/-- The row as a line. -/
theorem ls_one {W : World} {g : Nat} {key : Nm.S} {xs : List V} {ro : Option Addr} {rc : Nat} (h : Blk W g #[.string ⟨key.toArray⟩, .slice ro xs.length rc] 54) (hx : Sl W ro xs) (hok : ∀ x ∈ xs, x.ok) (hrc : xs.length ≤ rc) (hro : ro = none → rc = 0) : LS W [⟨key, xs, ro, rc⟩] (some ⟨g, 0, none⟩) 1 :=
  ⟨slL_one h, fun z hz => by
    rw [List.mem_singleton] at hz
    subst hz
    exact ⟨hx, hrc, hro, hok⟩, Nat.le_refl _, fun e => by cases e⟩

end Go.Proofs.YtfgakoldedpfoaaDoor
