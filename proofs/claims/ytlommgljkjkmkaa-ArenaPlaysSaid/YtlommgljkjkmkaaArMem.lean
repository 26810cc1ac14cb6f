/-
  An arena of numbers in memory; elements of slots, numbers, truths, refs. Conditions: the bounds named in each theorem.
-/
import Derived.Test.YtlommgljkjkmkaaGnMem
import Derived.Test.YtlommgljkjkmkaaArPlain
namespace Go.Proofs.Ytlommgljkjkmkaa.Gn
open Go.RowKit
set_option linter.unusedVariables false

def elI : El Int where
  T := 3
  L := 26
  n := 1
  bytes := 8
  z := .int .i64 0
  c := fun x => [.int .i64 x]
  len := fun _ => rfl
  one := fun x u hu => by obtain rfl := List.mem_singleton.1 hu; rfl
  pos := by decide
  und := Try.underlying26
  info := by kernel_rfl
  zs := rfl
  few := by decide
def elN : El Nat where
  T := 3
  L := 26
  n := 1
  bytes := 8
  z := .int .i64 0
  c := fun x => [.int .i64 (x : Int)]
  len := fun _ => rfl
  one := fun x u hu => by obtain rfl := List.mem_singleton.1 hu; rfl
  pos := by decide
  und := Try.underlying26
  info := by kernel_rfl
  zs := rfl
  few := by decide
def elB : El Bool where
  T := 4
  L := 27
  n := 1
  bytes := 1
  z := .bool false
  c := fun x => [.bool x]
  len := fun _ => rfl
  one := fun x u hu => by obtain rfl := List.mem_singleton.1 hu; rfl
  pos := by decide
  und := Try.underlying27
  info := by kernel_rfl
  zs := rfl
  few := by decide
def elR : El (Int × Int) where
  T := 33
  L := 31
  n := 2
  bytes := 16
  z := .agg #[.int .i64 0, .int .i64 0]
  c := fun x => [.int .i64 x.1, .int .i64 x.2]
  len := fun _ => rfl
  one := fun x u hu => by simp at hu; rcases hu with rfl | rfl <;> rfl
  pos := by decide
  und := Try.underlying31
  info := by kernel_rfl
  zs := by simp [Value.cells]
  few := by decide
def elS : El (ASl Int) where
  T := 61
  L := 57
  n := 3
  bytes := 24
  z := .agg #[.int .i64 0, .int .i64 0, .bool false]
  c := fun x => [.int .i64 x.h, .int .i64 x.g, .bool x.k]
  len := fun _ => rfl
  one := fun x u hu => by simp at hu; rcases hu with rfl | rfl | rfl <;> rfl
  pos := by decide
  und := Try.underlying57
  info := by kernel_rfl
  zs := by simp [Value.cells]
  few := by decide

def Ar (W : World) (p : Nat) (M : Nat → Prop) (a : Arn Int) : Prop :=
  ∃ vs vb, Blk W p #[.int .i64 (a.most : Int), vs, vb] 59 ∧ Rw elS W (p + 1) vs a.sl ∧ Rw elN W (p + 1) vb a.bk ∧ ∀ k, M k ↔ (k = p ∨ vs.ownBlock = some k ∨ vb.ownBlock = some k)
section
variable {W w' : World} {p : Nat} {M : Nat → Prop} {a : Arn Int}
theorem Ar.keep (h : Ar W p M a) (hb : Below W.heap.size W w') : Ar w' p M a := by
  obtain ⟨vs, vb, h1, h2, h3, h4⟩ := h
  exact ⟨vs, vb, h1.below hb, h2.keep hb, h3.keep hb, h4⟩
theorem Ar.lt (h : Ar W p M a) : p < W.heap.size := by
  obtain ⟨vs, vb, h1, h2, h3, h4⟩ := h
  exact h1.lt
theorem Ar.mine (h : Ar W p M a) : M p := by
  obtain ⟨vs, vb, h1, h2, h3, h4⟩ := h
  exact (h4 p).2 (Or.inl rfl)
theorem Ar.from (h : Ar W p M a) : ∀ k, M k → p ≤ k ∧ k < W.heap.size := by
  intro k hk
  obtain ⟨vs, vb, h1, h2, h3, h4⟩ := h
  rcases (h4 k).1 hk with rfl | e | e
  · exact ⟨Nat.le_refl _, h1.lt⟩
  · have := h2.lt k e; omega
  · have := h3.lt k e; omega
end
theorem Ar.move {W w' : World} {p : Nat} {M : Nat → Prop} {a : Arn Int} (h : Ar W p M a) (he : ∀ k, M k → w'.heap[k]? = W.heap[k]?) : Ar w' p M a := by
  obtain ⟨vs, vb, h1, h2, h3, h4⟩ := h
  exact ⟨vs, vb, h1.move (he p ((h4 p).2 (.inl rfl))), h2.move fun k hk => he k ((h4 k).2 (.inr (.inl hk))), h3.move fun k hk => he k ((h4 k).2 (.inr (.inr hk))), h4⟩
/-- A store elsewhere. -/
theorem Ar.off {W : World} {p : Nat} {M : Nat → Prop} {a : Arn Int} (h : Ar W p M a) {q : Addr} (hq : ¬ M q.block) (u : Value) : Ar (W.setCell q u) p M a :=
  h.move fun k hk => Below.heap_setCell W q u k (fun e => hq (e ▸ hk))
/-- What a call that changes an arena leaves. -/
def ArTo (W : World) (p : Nat) (M : Nat → Prop) (a' : Arn Int) (w' : World) : Prop := ∃ M', Ar w' p M' a' ∧ (∀ k, M' k → M k ∨ W.heap.size ≤ k) ∧ Chg M W w'
theorem own_ne {α γ : Type} {E : El α} {F : El γ} {w : World} {b c : Nat} {v u : Value} {l : List α} {m : List γ} (h : Rw E w b v l) (k : Rw F w c u m) (ht : E.T ≠ F.T) : ∀ i, v.ownBlock = some i → u.ownBlock ≠ some i := by
  intro i hi hj
  obtain ⟨cur, h1⟩ := h.type i hi
  obtain ⟨cur', h2⟩ := k.type i hj
  rw [h1] at h2
  have := Option.some.inj h2
  injection this with _ e _
  exact ht e

/-- The parts of an arena, one by one. -/
def Parts (w : World) (p : Nat) (M : Nat → Prop) (most : Nat) (sl : List (ASl Int)) (bk : List Nat) (vs vb : Value) : Prop :=
  Blk w p #[.int .i64 (most : Int), vs, vb] 59 ∧ Rw elS w (p + 1) vs sl ∧ Rw elN w (p + 1) vb bk ∧ ∀ k, M k ↔ (k = p ∨ vs.ownBlock = some k ∨ vb.ownBlock = some k)
theorem Parts.ar {w : World} {p : Nat} {M : Nat → Prop} {most : Nat} {sl : List (ASl Int)} {bk : List Nat} {vs vb : Value} (h : Parts w p M most sl bk vs vb) : Ar w p M ⟨most, sl, bk⟩ := ⟨vs, vb, h⟩
theorem ArTo.trans {W w1 w2 : World} {p : Nat} {M : Nat → Prop} {a1 a2 : Arn Int} (h : ArTo W p M a1 w1) (k : ∀ M1, Ar w1 p M1 a1 → ArTo w1 p M1 a2 w2) : ArTo W p M a2 w2 := by
  obtain ⟨M1, h1, h2, h3⟩ := h
  obtain ⟨M2, k1, k2, k3⟩ := k M1 h1
  refine ⟨M2, k1, fun i hi => ?_, h3.trans k3 h2⟩
  rcases k2 i hi with e | e
  · exact h2 i e
  · exact .inr (Nat.le_trans h3.size e)
theorem ArTo.same {W w1 : World} {p : Nat} {M : Nat → Prop} {a : Arn Int} (h : Ar W p M a) (hb : Below W.heap.size W w1) : ArTo W p M a w1 := ⟨M, h.keep hb, fun k hk => Or.inl hk, Chg.of_below hb⟩
theorem ArTo.begin {W w1 w2 : World} {p : Nat} {M : Nat → Prop} {a a2 : Arn Int} (h : Ar W p M a) (hb : Below W.heap.size W w1) (k : Ar w1 p M a → ArTo w1 p M a2 w2) : ArTo W p M a2 w2 := by
  obtain ⟨M2, k1, k2, k3⟩ := k (h.keep hb)
  refine ⟨M2, k1, fun i hi => ?_, (Chg.of_below hb).trans k3 (fun k e => Or.inl e)⟩
  rcases k2 i hi with e | e
  · exact .inl e
  · exact .inr (Nat.le_trans hb.size e)
theorem ArTo.drew {W w' : World} {p : Nat} {M : Nat → Prop} {a : Arn Int} (h : ArTo W p M a w') : ArTo W p M a w'.drew := by
  obtain ⟨M', ⟨vs, vb, h1, h2, h3, h4⟩, h5, h6⟩ := h
  exact ⟨M', ⟨vs, vb, h1, h2, h3, h4⟩, h5, h6.drew⟩
theorem ArTo.undrew {W w' : World} {p : Nat} {M : Nat → Prop} {a : Arn Int} (h : ArTo W.drew p M a w') : ArTo W p M a w' := by
  obtain ⟨M', h4, h5, h6⟩ := h
  exact ⟨M', h4, h5, ⟨h6.os, h6.tape, h6.output, h6.size, h6.block⟩⟩
section
variable {w w1 : World} {p : Nat} {M : Nat → Prop} {most : Nat} {sl sl' : List (ASl Int)} {bk bk' : List Nat} {vs vb vs' vb' : Value}
/-- Other slots, by an append. -/
theorem Parts.slots (h : Parts w p M most sl bk vs vb) (hs : Rw elS w1 (p + 1) vs' sl') (hg : w.grownBy w1 vs.ownBlock) (hk : vs'.ownBlock = vs.ownBlock ∨ ∃ k, vs'.ownBlock = some k ∧ w.heap.size ≤ k) : ArTo w p M ⟨most, sl', bk⟩ (w1.setCell ⟨p, 1, none⟩ vs') := by
  obtain ⟨h1, h2, h3, h4⟩ := h
  have nv : ∀ k, vs.ownBlock = some k → p < k := fun k hk => (h2.lt k hk).1
  have nb : ∀ k, vb.ownBlock = some k → p < k := fun k hk => (h3.lt k hk).1
  have hb1 : Blk w1 p #[.int .i64 (most : Int), vs, vb] 59 := h1.move (hg.block p h1.lt (fun e => by have := nv p e.symm; omega))
  have hne := own_ne h3 h2 (by decide)
  refine ⟨fun k => k = p ∨ vs'.ownBlock = some k ∨ vb.ownBlock = some k, ⟨vs', vb, hb1.setAt 1 vs', ?_, ?_, fun k => Iff.rfl⟩, ?_, ?_⟩
  · exact hs.move fun k hk => Below.heap_setCell w1 ⟨p, 1, none⟩ vs' k (by have := (hs.lt k hk).1; simp; omega)
  · exact (h3.move fun k hk => hg.block k (h3.lt k hk).2 (fun e => hne k hk e.symm)).move fun k hk => Below.heap_setCell w1 ⟨p, 1, none⟩ vs' k (by have := nb k hk; simp; omega)
  · intro k hk'
    rcases hk' with rfl | e | e
    · exact .inl ((h4 k).2 (.inl rfl))
    · rcases hk with e' | ⟨i, e', hi⟩
      · exact .inl ((h4 k).2 (.inr (.inl (e' ▸ e))))
      · rw [e'] at e
        obtain rfl := Option.some.inj e
        exact .inr hi
    · exact .inl ((h4 k).2 (.inr (.inr e)))
  · exact ((Chg.refl M w).grown hg (fun k e => .inl ((h4 k).2 (.inr (.inl e))))).set (.inl ((h4 p).2 (.inl rfl))) vs'
/-- Others given back, by an append. -/
theorem Parts.backs (h : Parts w p M most sl bk vs vb) (hs : Rw elN w1 (p + 1) vb' bk') (hg : w.grownBy w1 vb.ownBlock) (hk : vb'.ownBlock = vb.ownBlock ∨ ∃ k, vb'.ownBlock = some k ∧ w.heap.size ≤ k) : ArTo w p M ⟨most, sl, bk'⟩ (w1.setCell ⟨p, 2, none⟩ vb') := by
  obtain ⟨h1, h2, h3, h4⟩ := h
  have nv : ∀ k, vs.ownBlock = some k → p < k := fun k hk => (h2.lt k hk).1
  have nb : ∀ k, vb.ownBlock = some k → p < k := fun k hk => (h3.lt k hk).1
  have hb1 : Blk w1 p #[.int .i64 (most : Int), vs, vb] 59 := h1.move (hg.block p h1.lt (fun e => by have := nb p e.symm; omega))
  have hne := own_ne h2 h3 (by decide)
  refine ⟨fun k => k = p ∨ vs.ownBlock = some k ∨ vb'.ownBlock = some k, ⟨vs, vb', hb1.setAt 2 vb', ?_, ?_, fun k => Iff.rfl⟩, ?_, ?_⟩
  · exact (h2.move fun k hk => hg.block k (h2.lt k hk).2 (fun e => hne k hk e.symm)).move fun k hk => Below.heap_setCell w1 ⟨p, 2, none⟩ vb' k (by have := nv k hk; simp; omega)
  · exact hs.move fun k hk => Below.heap_setCell w1 ⟨p, 2, none⟩ vb' k (by have := (hs.lt k hk).1; simp; omega)
  · intro k hk'
    rcases hk' with rfl | e | e
    · exact .inl ((h4 k).2 (.inl rfl))
    · exact .inl ((h4 k).2 (.inr (.inl e)))
    · rcases hk with e' | ⟨i, e', hi⟩
      · exact .inl ((h4 k).2 (.inr (.inr (e' ▸ e))))
      · rw [e'] at e
        obtain rfl := Option.some.inj e
        exact .inr hi
  · exact ((Chg.refl M w).grown hg (fun k e => .inl ((h4 k).2 (.inr (.inr e))))).set (.inl ((h4 p).2 (.inl rfl))) vb'
/-- A slot is stored as a whole. -/
theorem Parts.put3 {g c i : Nat} {x y : ASl Int} (h : Parts w p M most sl bk (.slice (some ⟨g, 0, none⟩) sl.length c) vb) (hi : sl[i]? = some x) :
    ArTo w p M ⟨most, sl.set i y, bk⟩ (((w.setCell ⟨g, i * 3, none⟩ (.int .i64 y.h)).setCell ⟨g, i * 3 + 1, none⟩ (.int .i64 y.g)).setCell ⟨g, i * 3 + 2, none⟩ (.bool y.k)) := by
  obtain ⟨h1, h2, h3, h4⟩ := h
  have hl := (List.getElem?_eq_some_iff.1 hi).1
  have hg := (h2.lt g rfl).1
  have hm : M g := (h4 g).2 (.inr (.inl rfl))
  have hne := own_ne h3 h2 (by decide)
  have q1 := h2.put rfl hi 0 (by decide) (.int .i64 y.h) ⟨y.h, x.g, x.k⟩ rfl
  have q2 := q1.put (by simp) (i := i) (x := ⟨y.h, x.g, x.k⟩) (by rw [List.getElem?_set_self hl]) 1 (by decide) (.int .i64 y.g) ⟨y.h, y.g, x.k⟩ rfl
  have q3 := q2.put (by simp) (i := i) (x := ⟨y.h, y.g, x.k⟩) (by rw [List.getElem?_set_self (by simpa using hl)]) 2 (by decide) (.bool y.k) y rfl
  rw [List.set_set, List.set_set] at q3
  refine ⟨M, ⟨.slice (some ⟨g, 0, none⟩) sl.length c, vb, ((h1.otherAt (by omega) _ _).otherAt (by omega) _ _).otherAt (by omega) _ _, ?_, ?_, h4⟩, fun k hk => .inl hk, (((Chg.refl M w).set (p := ⟨g, i * 3, none⟩) (.inl hm) _).set (p := ⟨g, i * 3 + 1, none⟩) (.inl hm) _).set (p := ⟨g, i * 3 + 2, none⟩) (.inl hm) _⟩
  · exact q3
  · exact h3.move fun k hk => by
      have e : k ≠ g := fun e => by subst e; exact hne k hk rfl
      rw [Below.heap_setCell _ ⟨g, _, none⟩ _ k e, Below.heap_setCell _ ⟨g, _, none⟩ _ k e, Below.heap_setCell _ ⟨g, _, none⟩ _ k e]
/-- What a slot holds is stored. -/
theorem Parts.put1 {g c i : Nat} {x : ASl Int} (h : Parts w p M most sl bk (.slice (some ⟨g, 0, none⟩) sl.length c) vb) (hi : sl[i]? = some x) (y : Int) :
    ArTo w p M ⟨most, sl.set i ⟨y, x.g, x.k⟩, bk⟩ (w.setCell ⟨g, i * 3, none⟩ (.int .i64 y)) := by
  obtain ⟨h1, h2, h3, h4⟩ := h
  have hg := (h2.lt g rfl).1
  have hm : M g := (h4 g).2 (.inr (.inl rfl))
  have hne := own_ne h3 h2 (by decide)
  have q1 := h2.put rfl hi 0 (by decide) (.int .i64 y) ⟨y, x.g, x.k⟩ rfl
  refine ⟨M, ⟨.slice (some ⟨g, 0, none⟩) sl.length c, vb, h1.otherAt (by omega) _ _, ?_, ?_, h4⟩, fun k hk => .inl hk, (Chg.refl M w).set (p := ⟨g, i * 3, none⟩) (.inl hm) _⟩
  · exact q1
  · exact h3.move fun k hk => Below.heap_setCell _ ⟨g, _, none⟩ _ k (fun e => by subst e; exact hne k hk rfl)
/-- The last one given back is taken off. -/
theorem Parts.pop {g c n : Nat} (h : Parts w p M most sl bk vs (.slice (some ⟨g, 0, none⟩) bk.length c)) (hn : n + 1 = bk.length) : ArTo w p M ⟨most, sl, bk.dropLast⟩ (w.setCell ⟨p, 2, none⟩ (.slice (some ⟨g, 0, none⟩) n c)) := by
  obtain ⟨h1, h2, h3, h4⟩ := h
  have q := h3.first n (by omega)
  have e : bk.take n = bk.dropLast := by rw [List.dropLast_eq_take, ← hn]; rfl
  rw [e] at q
  exact Parts.backs (w1 := w) ⟨h1, h2, h3, h4⟩ q ⟨rfl, rfl, rfl, Nat.le_refl _, fun _ _ _ => rfl⟩ (.inl rfl)
end

set_option maxHeartbeats 1000000 in
theorem new_is (most : Int) (w : World) (n : Nat) (hn : n = if 0 ≤ most ∧ most ≤ 4096 then most.toNat else 0) :
    Calls Try.prog 7 #[.int .i64 most] w fun e w' => e = .returned (.pointer (some ⟨w.heap.size, 0, none⟩)) ∧ Ar w' w.heap.size (fun k => k = w.heap.size) (Arn0 Int n) ∧ Below w.heap.size w w' := by
  have fin : ∀ m : Int, m = (n : Int) → Ar (w.alloc (.cells #[.int .i64 m, .slice none 0 0, .slice none 0 0] 59)) w.heap.size (fun k => k = w.heap.size) (Arn0 Int n) := by
    intro m hm
    subst hm
    exact ⟨.slice none 0 0, .slice none 0 0, Blk.new w _ _, Rw.nil _ _, Rw.nil _ _, fun k => by simp [Value.ownBlock]⟩
  have F := Lib.hid fin
  clear fin
  have HN := Lib.hid hn
  clear hn
  by_cases h0 : most < 0
  · go_enter Try.func7, Try.ntmps7
    go_wp2
    go_ret
    exact ⟨rfl, F.out 0 (by have := HN.out; rw [if_neg (by omega)] at this; omega), below1 _ _⟩
  · have n0 : decide (most < 0) = false := by rw [decide_eq_false_iff_not]; exact h0
    by_cases h1 : 4096 < most
    · have G := Lib.hid h0
      clear h0
      go_enter Try.func7, Try.ntmps7
      go_wp2
      go_ret
      exact ⟨rfl, F.out 0 (by have := HN.out; rw [if_neg (by omega)] at this; omega), below1 _ _⟩
    · have n1 : decide (4096 < most) = false := by rw [decide_eq_false_iff_not]; exact h1
      have G := Lib.hid (And.intro h0 h1)
      clear h0 h1
      go_enter Try.func7, Try.ntmps7
      go_wp2
      go_ret
      exact ⟨rfl, F.out most (by have := HN.out; have := G.out; rw [if_pos (by omega)] at *; omega), below1 _ _⟩

set_option maxHeartbeats 1000000 in
theorem room_is (a : Arn Int) (N : Int) (p : Nat) (M : Nat → Prop) (w : World) (ha : Ar w p M a) (hok : a.ok N) :
    Calls Try.prog 17 #[.pointer (some ⟨p, 0, none⟩)] w fun e w' => e = .returned (.int .i64 (a.room : Int)) ∧ Below w.heap.size w w' := by
  obtain ⟨vs, vb, h1, h2, h3, h4⟩ := ha
  obtain ⟨so, sc, rfl, s1, s2, _⟩ := h2.sl
  obtain ⟨bo, bc, rfl, b1, b2, _⟩ := h3.sl
  have c0 := h1.cell 0
  have c1 := h1.cell 1
  have c2 := h1.cell 2
  simp at c0 c1 c2
  have H := Lib.hid (And.intro hok.1 (And.intro hok.2.1 hok.bk_le))
  have hmx : Try.prog.follows .mixedOrders = true := by kernel_rfl
  clear h1 h2 h3 h4 s1 s2 b1 b2 hok
  go_enter Try.func17, Try.ntmps17
  go_wp2
  go_quiet (fail)
  go_wp2
  go_ret
  refine ⟨ret_int ?_, ?_⟩
  · unfold Arn.room
    have := H.out
    unfold wrap64
    omega
  · exact below_drewV _ (Below.refl _ _)

end Go.Proofs.Ytlommgljkjkmkaa.Gn
