/-
  An arena, the document's beside it, what is held, refs, boxes: apart in memory; what the document's Take and Free answer of an arena's. Conditions: the bounds named in each theorem.
-/
import Derived.Test.YtlommgljkjkmkaaDcFree
import Derived.Test.YtlommgljkjkmkaaArOnceP
import Derived.Test.YtlommgljkjkmkaaArOnce
namespace Go.Proofs.Ytlommgljkjkmkaa.Gn
open Go.RowKit
set_option linter.unusedVariables false
set_option linter.unusedSimpArgs false

structure Deed where
  k : Int
  n : Int
  z : Int
  s : Int
  g : Int
def elD : El Deed where
  T := 35
  L := 22
  n := 5
  bytes := 40
  z := .agg #[.int .i64 0, .int .i64 0, .int .i64 0, .int .i64 0, .int .i64 0]
  c := fun x => [.int .i64 x.k, .int .i64 x.n, .int .i64 x.z, .int .i64 x.s, .int .i64 x.g]
  len := fun _ => rfl
  one := fun x u hu => by simp at hu; rcases hu with rfl | rfl | rfl | rfl | rfl <;> rfl
  pos := by decide
  und := Try.underlying22
  info := by kernel_rfl
  zs := by simp [Value.cells]
  few := by decide

/-! ### The document's answers of an arena's -/
theorem dtake_arn (a : Arn Int) (N : Int) (v : Value) (F : Nat → Prop) (w : World) (x : Int) (A : Nat) (G : Int) (b : Arn Int) (h : Dv w v a.doc F) (hok : a.ok N) (hN : 0 ≤ N) (hN' : N ≤ 1000000) (hr : a.room ≠ 0) (hA : a.at = A) (hG : a.gen 0 + 1 = G) (hb : a.take 0 x = b) :
    Calls Try.prog 12 #[v] w fun e w' => ∃ v' F', e = .returned (.tuple #[v', .agg #[.int .i64 (A : Int), .int .i64 G], .int .i64 0]) ∧ Dv w' v' b.doc F' ∧ (∀ k, F' k → F k ∨ w.heap.size ≤ k) ∧ Below w.heap.size w w' := by
  subst hA hG hb
  obtain ⟨l1, l2⟩ := a.doc_len hok.1
  have lm := hok.2.1
  have ls := hok.1
  have lb := hok.bk_le
  have hdoc := hok.doc_take (z := (0 : Int)) hN hr x
  obtain ⟨y, hy, hk, hg, g0, g1, hat⟩ := hok.slot (z := (0 : Int)) hN
  have hlt : a.at < a.most := by
    have := (hok.picked (z := (0 : Int)) hN hr).1
    have := (List.getElem?_eq_some_iff.1 hy).1
    omega
  have hgd : a.doc.gens[a.at]? = some (a.gen 0) := by
    have e := hok.doc_gen (z := (0 : Int)) hN hr
    unfold Dc.gen at e
    rw [doc_at] at e
    rw [List.getElem?_eq_getElem (by omega)] at e ⊢
    exact congrArg some e
  obtain ⟨b0, hb0⟩ : ∃ b0, a.doc.taken[a.at]? = some b0 := ⟨_, List.getElem?_eq_getElem (by omega)⟩
  have hrd : a.doc.room ≠ 0 := by rw [hok.doc_room]; exact hr
  rw [hg] at g0 g1
  have hgen : a.doc.gen = a.gen 0 := hok.doc_gen (z := (0 : Int)) hN hr
  cases hbk : a.bk with
  | nil =>
    have hbd : a.doc.back = [] := hbk
    rw [hdoc]
    unfold Dc.take
    rw [if_pos hbd, hgen, doc_at, hbd]
    exact dtake_new a.doc v F w a.most (a.gen 0) b0 a.at hbd h l1 l2 (by omega) (by show a.sl.length ≤ 5000; omega) (by show a.bk.length ≤ 5000; omega) hrd rfl hgd hb0 g0 (by omega)
  | cons i l =>
    have hbd : a.doc.back ≠ [] := by show a.bk ≠ []; rw [hbk]; simp
    rw [hdoc]
    unfold Dc.take
    rw [if_neg hbd, hgen, doc_at]
    exact dtake_back a.doc v F w a.most (a.gen 0) b0 l.length a.at (by show a.bk.length = _; rw [hbk]; rfl) h l1 l2 (by omega) (by show a.sl.length ≤ 5000; omega) (by show a.bk.length ≤ 5000; omega) hrd rfl hgd hb0 g0 (by omega)
theorem dtake_none (a : Arn Int) (N : Int) (v : Value) (F : Nat → Prop) (w : World) (h : Dv w v a.doc F) (hok : a.ok N) (hr : a.room = 0) :
    Calls Try.prog 12 #[v] w fun e w' => e = .returned (.tuple #[v, .agg #[.int .i64 0, .int .i64 0], .int .i64 20]) ∧ Below w.heap.size w w' :=
  dtake_full a.doc v F w h (by have := (a.doc_len hok.1).2; have := hok.2.1; omega) (by rw [hok.doc_room]; exact hr)
theorem dfree_arn (a : Arn Int) (N : Int) (v : Value) (F : Nat → Prop) (w : World) (i : Nat) (x : ASl Int) (G : Int) (b : Arn Int) (h : Dv w v a.doc F) (hok : a.ok N) (hi : a.sl[i]? = some x) (hk : x.k = true) (hG : x.g = G) (hb : a.free 0 i x.g = b) :
    Calls Try.prog 15 #[v, .agg #[.int .i64 (i : Int), .int .i64 G]] w fun e w' => ∃ v' F', e = .returned (.tuple #[v', .bool true]) ∧ Dv w' v' b.doc F' ∧ (∀ k, F' k → F k ∨ w.heap.size ≤ k) ∧ Below w.heap.size w w' := by
  subst hG hb
  obtain ⟨l1, l2⟩ := a.doc_len hok.1
  have lm := hok.2.1
  have ls := hok.1
  have lb := hok.bk_le
  rw [doc_free hi]
  exact dfree_ok a.doc v F w a.most i x.g h l1 l2 (by omega) (by show a.bk.length ≤ 5000; omega) (a.doc_gens hi) (by rw [a.doc_taken hi, hk])
theorem dfree_none (a : Arn Int) (N : Int) (v : Value) (F : Nat → Prop) (w : World) (s g : Int) (h : Dv w v a.doc F) (hok : a.ok N) (hr : a.right s g = false) :
    Calls Try.prog 15 #[v, .agg #[.int .i64 s, .int .i64 g]] w fun e w' => e = .returned (.tuple #[v, .bool false]) ∧ Below w.heap.size w w' :=
  dfree_no a.doc v F s g w h (by obtain ⟨l1, l2⟩ := a.doc_len hok.1; omega) (by rw [doc_right]; exact hr)
theorem dright_arn (a : Arn Int) (N : Int) (v : Value) (F : Nat → Prop) (w : World) (s g : Int) (r : Bool) (h : Dv w v a.doc F) (hok : a.ok N) (hr : a.right s g = r) :
    Calls Try.prog 10 #[v, .agg #[.int .i64 s, .int .i64 g]] w fun e w' => e = .returned (.bool r) ∧ Below w.heap.size w w' := by
  have q := dright_is a.doc v F s g w h (by obtain ⟨l1, l2⟩ := a.doc_len hok.1; omega)
  rwa [doc_right, hr] at q
theorem droom_arn (a : Arn Int) (N : Int) (v : Value) (F : Nat → Prop) (w : World) (h : Dv w v a.doc F) (hok : a.ok N) :
    Calls Try.prog 18 #[v] w fun e w' => e = .returned (.int .i64 (a.room : Int)) ∧ Below w.heap.size w w' := by
  have q := droom_is a.doc v F w h (by have := (a.doc_len hok.1).2; have := hok.2.1; omega)
  rwa [hok.doc_room] at q
theorem dlive_arn (a : Arn Int) (N : Int) (v : Value) (F : Nat → Prop) (w : World) (h : Dv w v a.doc F) (hok : a.ok N) :
    Calls Try.prog 21 #[v] w fun e w' => ∃ v, e = .returned v ∧ Rw elR w' w.heap.size v (a.lv a.sl.length) ∧ Below w.heap.size w w' := by
  obtain ⟨l1, l2⟩ := a.doc_len hok.1
  have q := dlive_is a.doc v F w h (by omega) (by have := hok.2.1; omega)
  rwa [l2, hok.doc_live] at q

/-! ### What is held, plainly -/
/-- An arena behind n deeds, what is held, the refs that were told. -/
def Pn (a : Arn Int) (H : List Int) (R : List (Int × Int)) (m n : Nat) : Prop :=
  a.ok (n : Int) ∧ a.most = m ∧ H.length = m ∧ (∀ (i : Nat) (x : ASl Int), a.sl[i]? = some x → x.k = true → H[i]? = some x.h) ∧ R.length ≤ n
theorem Pn.new (m : Nat) (h : m ≤ 4096) : Pn (Arn0 Int m) (List.replicate m 0) [] m 0 := ⟨Arn.ok_new m h, rfl, by simp, (fun i x hx => by simp [Arn0] at hx), Nat.le_refl _⟩
theorem Pn.full {a : Arn Int} {H : List Int} {R : List (Int × Int)} {m n : Nat} (h : Pn a H R m n) : Pn a H R m (n + 1) := ⟨h.1.more (by omega), h.2.1, h.2.2.1, h.2.2.2.1, Nat.le_succ_of_le h.2.2.2.2⟩
theorem Pn.take {a : Arn Int} {H : List Int} {R : List (Int × Int)} {m n : Nat} (h : Pn a H R m n) (hr : a.room ≠ 0) (x : Int) (r : Int × Int) : Pn (a.take 0 x) (H.set a.at x) (R ++ [r]) m (n + 1) ∧ a.at < m := by
  obtain ⟨hok, h1, h2, h3, h4⟩ := h
  have h0 : (0 : Int) ≤ (n : Int) := by omega
  obtain ⟨y, hy, hk, hg, g0, g1, hat⟩ := hok.slot (z := (0 : Int)) h0
  have hlt : a.at < m := by
    have := (hok.picked (z := (0 : Int)) h0 hr).1
    have := (List.getElem?_eq_some_iff.1 hy).1
    omega
  refine ⟨⟨by have := hok.take (z := (0 : Int)) h0 hr x; exact this, h1, by rw [List.length_set]; exact h2, fun i u hu hk' => ?_, by rw [List.length_append]; exact Nat.succ_le_succ h4⟩, hlt⟩
  by_cases e : i = a.at
  · subst e
    rw [take_at hok h0 x] at hu
    obtain rfl := Option.some.inj hu
    exact List.getElem?_set_self (by omega)
  · rw [List.getElem?_set_ne (Ne.symm e)]
    have hu' : (a.picked 0).sl[i]? = some u := by
      have : (a.take 0 x).sl[i]? = (a.picked 0).sl[i]? := List.getElem?_set_ne (Ne.symm e)
      rw [← this]; exact hu
    unfold Arn.picked at hu'
    split at hu'
    · rename_i hb
      have hu2 : (a.sl ++ [(⟨0, 0, false⟩ : ASl Int)])[i]? = some u := hu'
      have hne : i ≠ a.sl.length := by rw [← Arn.at_none hb]; exact e
      have hli := (List.getElem?_eq_some_iff.1 hu2).1
      rw [List.length_append] at hli
      simp at hli
      rw [List.getElem?_append_left (by omega)] at hu2
      exact h3 i u hu2 hk'
    · exact h3 i u hu' hk'
theorem Pn.put {a : Arn Int} {H : List Int} {R : List (Int × Int)} {m n i : Nat} {y : ASl Int} (h : Pn a H R m n) (hi : a.sl[i]? = some y) (hk : y.k = true) (x : Int) : Pn (a.put i y.g x) (H.set i x) R m (n + 1) ∧ (a.put i y.g x).doc = a.doc := by
  obtain ⟨hok, h1, h2, h3, h4⟩ := h
  have hl := (List.getElem?_eq_some_iff.1 hi).1
  have := hok.1
  refine ⟨⟨(hok.put hi hk x).more (by omega), h1, by rw [List.length_set]; exact h2, fun k u hu hk' => ?_, Nat.le_succ_of_le h4⟩, doc_put hi hk x⟩
  have hu2 : (a.sl.set i ⟨x, y.g, true⟩)[k]? = some u := hu
  by_cases e : k = i
  · subst e
    rw [List.getElem?_set_self hl] at hu2
    obtain rfl := Option.some.inj hu2
    exact List.getElem?_set_self (by omega)
  · rw [List.getElem?_set_ne (Ne.symm e)] at hu2 ⊢
    exact h3 k u hu2 hk'
theorem Pn.free {a : Arn Int} {H : List Int} {R : List (Int × Int)} {m n i : Nat} {y : ASl Int} (h : Pn a H R m n) (hi : a.sl[i]? = some y) (hk : y.k = true) : Pn (a.free 0 i y.g) H R m (n + 1) := by
  obtain ⟨hok, h1, h2, h3, h4⟩ := h
  have hl := (List.getElem?_eq_some_iff.1 hi).1
  refine ⟨(hok.free (z := (0 : Int)) hi hk).more (by omega), h1, h2, fun k u hu hk' => ?_, Nat.le_succ_of_le h4⟩
  have hu2 : (a.sl.set i ⟨0, y.g, false⟩)[k]? = some u := hu
  by_cases e : k = i
  · subst e
    rw [List.getElem?_set_self hl] at hu2
    obtain rfl := Option.some.inj hu2
    cases hk'
  · rw [List.getElem?_set_ne (Ne.symm e)] at hu2
    exact h3 k u hu2 hk'

/-! ### In memory -/
theorem Dv.shape {W : World} {v : Value} {d : Dc} {F : Nat → Prop} (h : Dv W v d F) : ∃ (ga : Option Addr) (l0 gc : Nat) (ta : Option Addr) (l1 tc : Nat) (ba : Option Addr) (l2 bc : Nat) (e : Int), v = .agg #[.slice ga l0 gc, .slice ta l1 tc, .slice ba l2 bc, .int .i64 e] := by
  obtain ⟨ga, gc, ta, tc, ba, bc, rfl, _⟩ := h
  exact ⟨_, _, _, _, _, _, _, _, _, _, rfl⟩
theorem Dv.shape4 {W : World} {c0 c1 c2 c3 : Value} {d : Dc} {F : Nat → Prop} (h : Dv W (.agg #[c0, c1, c2, c3]) d F) : ∃ (ga : Option Addr) (l0 gc : Nat) (ta : Option Addr) (l1 tc : Nat) (ba : Option Addr) (l2 bc : Nat) (e : Int), c0 = .slice ga l0 gc ∧ c1 = .slice ta l1 tc ∧ c2 = .slice ba l2 bc ∧ c3 = .int .i64 e := by
  obtain ⟨ga, l0, gc, ta, l1, tc, ba, l2, bc, e, hv⟩ := h.shape
  injection hv with hv
  simp only [Array.mk.injEq, List.cons.injEq, and_true] at hv
  exact ⟨ga, l0, gc, ta, l1, tc, ba, l2, bc, e, hv.1, hv.2.1, hv.2.2.1, hv.2.2.2⟩
structure Pl (W0 w : World) (p : Nat) (M : Nat → Prop) (a : Arn Int) (q : Nat) (F : Nat → Prop) (c0 c1 c2 c3 : Value) (d : Dc) (h n : Nat) (H : List Int) (vr : Value) (R : List (Int × Int)) (bs : List (Nat × Array Value × TypeId)) : Prop where
  p0 : W0.heap.size ≤ p
  q0 : W0.heap.size ≤ q
  h0 : W0.heap.size ≤ h
  ar : Ar w p M a
  qb : Blk w q #[c0, c1, c2, c3] 29
  dv : Dv w (.agg #[c0, c1, c2, c3]) d F
  hb : Rw elI w W0.heap.size (.slice (some ⟨h, 0, none⟩) n n) H
  hn : H.length = n
  rb : Rw elR w W0.heap.size vr R
  qM : ¬ M q
  hM : ¬ M h
  FM : ∀ k, F k → ¬ M k ∧ k ≠ q ∧ k ≠ h ∧ vr.ownBlock ≠ some k
  bx : ∀ b ∈ bs, Blk w b.1 b.2.1 b.2.2 ∧ ¬ M b.1 ∧ b.1 ≠ q ∧ b.1 ≠ h ∧ vr.ownBlock ≠ some b.1
  be : Below W0.heap.size W0 w
section
variable {W0 w w' : World} {p q h n : Nat} {M F F' : Nat → Prop} {a a' : Arn Int} {c0 c1 c2 c3 : Value} {d d' : Dc} {H : List Int} {vr vr' : Value} {R R' : List (Int × Int)} {bs : List (Nat × Array Value × TypeId)}
theorem Pl.hq (P : Pl W0 w p M a q F c0 c1 c2 c3 d h n H vr R bs) : h ≠ q := P.hb.ne P.qb (by decide) h rfl
theorem Pl.rq (P : Pl W0 w p M a q F c0 c1 c2 c3 d h n H vr R bs) : ∀ k, vr.ownBlock = some k → k ≠ q ∧ k ≠ h ∧ ¬ M k := fun k hk => by
  refine ⟨P.rb.ne P.qb (by decide) k hk, fun e => own_ne P.rb P.hb (by decide) k hk (by rw [e]; rfl), ?_⟩
  obtain ⟨c, hc⟩ := P.rb.type k hk
  exact P.ar.notR hc
theorem Pl.hlt (P : Pl W0 w p M a q F c0 c1 c2 c3 d h n H vr R bs) : h < w.heap.size := (P.hb.lt h rfl).2
theorem Pl.keep (P : Pl W0 w p M a q F c0 c1 c2 c3 d h n H vr R bs) (hb : Below w.heap.size w w') : Pl W0 w' p M a q F c0 c1 c2 c3 d h n H vr R bs :=
  ⟨P.p0, P.q0, P.h0, P.ar.keep hb, P.qb.below hb, P.dv.keep hb, P.hb.keep hb, P.hn, P.rb.keep hb, P.qM, P.hM, P.FM, fun b hm => ⟨(P.bx b hm).1.below hb, (P.bx b hm).2⟩, step0 P.be hb⟩
theorem Pl.call (P : Pl W0 w p M a q F c0 c1 c2 c3 d h n H vr R bs) (hto : ArTo w p M a' w') : ∃ M', Pl W0 w' p M' a' q F c0 c1 c2 c3 d h n H vr R bs := by
  obtain ⟨M', k1, k2, k3⟩ := hto
  have nw : ∀ k, ¬ M k → k < w.heap.size → ¬ M' k := fun k hk hl e => by
    rcases k2 k e with e | e
    · exact hk e
    · omega
  refine ⟨M', P.p0, P.q0, P.h0, k1, P.qb.move (k3.block _ P.qb.lt P.qM), P.dv.chg k3 (fun k hk => (P.FM k hk).1), P.hb.chg k3 (fun k hk => by obtain rfl := Option.some.inj hk; exact P.hM), P.hn, P.rb.chg k3 (fun k hk => (P.rq k hk).2.2), nw _ P.qM P.qb.lt, nw _ P.hM P.hlt, fun k hk => ⟨nw _ (P.FM k hk).1 (P.dv.lt k hk), (P.FM k hk).2⟩, fun b hm => ?_, P.be.trans (k3.below (fun k hk => Nat.le_trans P.p0 (P.ar.from k hk).1) P.be.size)⟩
  obtain ⟨b1, b2, b3⟩ := P.bx b hm
  exact ⟨b1.move (k3.block _ b1.lt b2), nw _ b2 b1.lt, b3⟩
theorem Pl.box (P : Pl W0 w p M a q F c0 c1 c2 c3 d h n H vr R bs) (cs : Array Value) (t : TypeId) : Pl W0 (w.alloc (.cells cs t)) p M a q F c0 c1 c2 c3 d h n H vr R ((w.heap.size, cs, t) :: bs) := by
  have K := P.keep (below1 w (.cells cs t))
  refine ⟨K.p0, K.q0, K.h0, K.ar, K.qb, K.dv, K.hb, K.hn, K.rb, K.qM, K.hM, K.FM, fun b hm => ?_, K.be⟩
  rcases List.mem_cons.1 hm with rfl | hm
  · exact ⟨Blk.new w _ _, fun e => by have := (P.ar.from _ e).2; simp at this, fun e => by have := P.qb.lt; simp at e; omega, fun e => by have := P.hlt; simp at e; omega, fun e => by have := (P.rb.lt _ e).2; simp at this⟩
  · exact K.bx b hm
theorem Pl.box' (P : Pl W0 w p M a q F c0 c1 c2 c3 d h n H vr R bs) (cs : Array Value) (t : TypeId) (B : Nat) (hB : w.heap.size = B) : Pl W0 (w.alloc (.cells cs t)) p M a q F c0 c1 c2 c3 d h n H vr R ((B, cs, t) :: bs) := hB ▸ P.box cs t
theorem Pl.drop (P : Pl W0 w p M a q F c0 c1 c2 c3 d h n H vr R bs) : Pl W0 w p M a q F c0 c1 c2 c3 d h n H vr R [] :=
  ⟨P.p0, P.q0, P.h0, P.ar, P.qb, P.dv, P.hb, P.hn, P.rb, P.qM, P.hM, P.FM, (fun b hm => by cases hm), P.be⟩
theorem Pl.drewN (P : Pl W0 w p M a q F c0 c1 c2 c3 d h n H vr R bs) (i : Nat) : Pl W0 (w.drewN i) p M a q F c0 c1 c2 c3 d h n H vr R bs := P.keep (below_drewV i (Below.refl _ w))
theorem Pl.drew (P : Pl W0 w p M a q F c0 c1 c2 c3 d h n H vr R bs) : Pl W0 w.drew p M a q F c0 c1 c2 c3 d h n H vr R bs := P.keep (below_drew1 (Below.refl _ w))
theorem Pl.fresh (P : Pl W0 w p M a q F c0 c1 c2 c3 d h n H vr R bs) (hF : ∀ k, F' k → F k ∨ w.heap.size ≤ k) : ∀ k, F' k → ¬ M k ∧ k ≠ q ∧ k ≠ h ∧ vr.ownBlock ≠ some k := fun k hk => by
  rcases hF k hk with e | e
  · exact P.FM k e
  · exact ⟨fun m => by have := (P.ar.from _ m).2; omega, fun m => by have := P.qb.lt; omega, fun m => by have := P.hlt; omega, fun m => by have := (P.rb.lt _ m).2; omega⟩
/-- The document's arena is written. -/
theorem Pl.put {e0 e1 e2 e3 : Value} (P : Pl W0 w p M a q F c0 c1 c2 c3 d h n H vr R bs) (hD : Dv w (.agg #[e0, e1, e2, e3]) d' F') (hF : ∀ k, F' k → ¬ M k ∧ k ≠ q ∧ k ≠ h ∧ vr.ownBlock ≠ some k) :
    Pl W0 ((((w.setCell ⟨q, 0, none⟩ e0).setCell ⟨q, 1, none⟩ e1).setCell ⟨q, 2, none⟩ e2).setCell ⟨q, 3, none⟩ e3) p M a q F' e0 e1 e2 e3 d' h n H vr R bs :=
  ⟨P.p0, P.q0, P.h0, P.ar.move fun k hk => heap_set4 _ (fun e => P.qM (e ▸ hk)), P.qb.set4, hD.move (by simp) fun k hk => heap_set4 _ (hF k hk).2.1, P.hb.move fun k hk => heap_set4 _ (by obtain rfl := Option.some.inj hk; exact P.hq), P.hn, P.rb.move fun k hk => heap_set4 _ (P.rq k hk).1, P.qM, P.hM, hF, fun b hm => ⟨(P.bx b hm).1.move (heap_set4 _ (P.bx b hm).2.2.1), (P.bx b hm).2⟩, below_set4 P.be P.q0⟩
/-- Another is held. -/
theorem Pl.hold (P : Pl W0 w p M a q F c0 c1 c2 c3 d h n H vr R bs) {i : Nat} (hi : i < n) (x : Int) : Pl W0 (w.setCell ⟨h, i, none⟩ (.int .i64 x)) p M a q F c0 c1 c2 c3 d h n (H.set i x) vr R bs := by
  have hl : i < H.length := by rw [P.hn]; exact hi
  have pp := P.hb.put P.hn.symm (List.getElem?_eq_getElem hl) 0 (by decide) (.int .i64 x) x rfl
  rw [show i * elI.n + 0 = i from by rw [show elI.n = 1 from rfl]; omega] at pp
  exact ⟨P.p0, P.q0, P.h0, P.ar.off (q := ⟨h, i, none⟩) P.hM _, P.qb.otherAt (Ne.symm P.hq) _ _, P.dv.move (by simp) fun k hk => Below.heap_setCell _ ⟨h, i, none⟩ _ k (P.FM k hk).2.2.1, pp, by rw [List.length_set]; exact P.hn, P.rb.move fun k hk => Below.heap_setCell _ ⟨h, i, none⟩ _ k (P.rq k hk).2.1, P.qM, P.hM, P.FM, fun b hm => ⟨(P.bx b hm).1.otherAt (P.bx b hm).2.2.2.1 _ _, (P.bx b hm).2⟩, P.be.setCell (p := ⟨h, i, none⟩) P.h0 _⟩
/-- Another ref is kept. -/
theorem Pl.ref (P : Pl W0 w p M a q F c0 c1 c2 c3 d h n H vr R bs) (hr : Rw elR w' W0.heap.size vr' R') (hg : w.grownBy w' vr.ownBlock) (hk : vr'.ownBlock = vr.ownBlock ∨ ∃ k, vr'.ownBlock = some k ∧ w.heap.size ≤ k) : Pl W0 w' p M a q F c0 c1 c2 c3 d h n H vr' R' bs := by
  have ne : ∀ k, vr.ownBlock ≠ some k → k < w.heap.size → vr'.ownBlock ≠ some k := fun k h1 h2 e => by
    rcases hk with q | ⟨i, q, hi⟩
    · exact h1 (q ▸ e)
    · rw [q] at e
      obtain rfl := Option.some.inj e
      omega
  refine ⟨P.p0, P.q0, P.h0, P.ar.move fun k hk => hg.block k (P.ar.from k hk).2 (fun e => (P.rq k e.symm).2.2 hk), P.qb.move (hg.block _ P.qb.lt (fun e => (P.rq _ e.symm).1 rfl)), P.dv.move hg.size fun k hk => hg.block k (P.dv.lt k hk) (fun e => (P.FM k hk).2.2.2 e.symm), P.hb.move fun k hk => ?_, P.hn, hr, P.qM, P.hM, fun k hk => ⟨(P.FM k hk).1, (P.FM k hk).2.1, (P.FM k hk).2.2.1, ne k (P.FM k hk).2.2.2 (P.dv.lt k hk)⟩, fun b hm => ?_, P.be.grown hg P.be.size (fun k e => (P.rb.lt k e).1)⟩
  · obtain rfl := Option.some.inj hk
    exact hg.block _ P.hlt (fun e => (P.rq _ e.symm).2.1 rfl)
  · obtain ⟨b1, b2, b3, b4, b5⟩ := P.bx b hm
    exact ⟨b1.move (hg.block _ b1.lt (fun e => b5 e.symm)), b2, b3, b4, ne _ b5 b1.lt⟩
/-- What is held of a slot. -/
theorem Pl.at (P : Pl W0 w p M a q F c0 c1 c2 c3 d h n H vr R bs) {i : Nat} {x : Int} (hi : H[i]? = some x) : w.cell? ⟨h, i, none⟩ = some (.int .i64 x) := by
  have := P.hb.at hi 0 rfl
  rwa [show i * elI.n + 0 = i from by rw [show elI.n = 1 from rfl]; omega] at this
theorem Pl.fr (P : Pl W0 w p M a q F c0 c1 c2 c3 d h n H vr R bs) (i : Nat) : w.frozen? ⟨h, i, none⟩ = false := by
  obtain ⟨cur, hc⟩ := P.hb.type h rfl
  exact (show Blk w h cur elI.T from hc).frozen i
/-- The first of them. -/
theorem Pl.new {G : Nat → Prop} (h1 : Ar w p M a) (h2 : Blk w q #[c0, c1, c2, c3] 29) (h3 : Dv w (.agg #[c0, c1, c2, c3]) d F) (h4 : Rw elI w W0.heap.size (.slice (some ⟨h, 0, none⟩) n n) H) (hn : H.length = n) (p0 : W0.heap.size ≤ p) (q0 : W0.heap.size ≤ q) (h0 : W0.heap.size ≤ h) (qM : ¬ M q) (hM : ¬ M h) (hF : ∀ k, F k → ¬ M k ∧ k ≠ q ∧ k ≠ h) (be : Below W0.heap.size W0 w) :
    Pl W0 w p M a q F c0 c1 c2 c3 d h n H (.slice none 0 0) [] [] :=
  ⟨p0, q0, h0, h1, h2, h3, h4, hn, Rw.nil _ _, qM, hM, fun k hk => ⟨(hF k hk).1, (hF k hk).2.1, (hF k hk).2.2, fun e => by cases e⟩, (fun b hm => by cases hm), be⟩
end

end Go.Proofs.Ytlommgljkjkmkaa.Gn
