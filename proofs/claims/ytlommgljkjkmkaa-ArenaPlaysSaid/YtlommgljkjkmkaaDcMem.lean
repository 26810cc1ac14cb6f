/-
  The document's arena in memory: a value of four cells; a copy where it may be written; a new one. Conditions: the bounds named in each theorem.
-/
import Derived.Test.YtlommgljkjkmkaaArMem
namespace Go.Proofs.Ytlommgljkjkmkaa.Gn
open Go.RowKit
set_option linter.unusedVariables false
set_option linter.unusedSimpArgs false

section
variable {W : World} {B : Nat} {a b c d a' b' c' d' : Value} {t : TypeId}
theorem Blk.four (h : Blk W B #[a, b, c, d] t) : (W.cell? ⟨B, 0, none⟩ = some a ∧ W.cell? ⟨B, 1, none⟩ = some b ∧ W.cell? ⟨B, 2, none⟩ = some c ∧ W.cell? ⟨B, 3, none⟩ = some d) ∧ W.frozen? ⟨B, 0, none⟩ = false ∧ W.frozen? ⟨B, 1, none⟩ = false ∧ W.frozen? ⟨B, 2, none⟩ = false ∧ W.frozen? ⟨B, 3, none⟩ = false :=
  ⟨⟨h.cell 0, h.cell 1, h.cell 2, h.cell 3⟩, h.frozen 0, h.frozen 1, h.frozen 2, h.frozen 3⟩
theorem Blk.set4 (h : Blk W B #[a, b, c, d] t) : Blk ((((W.setCell ⟨B, 0, none⟩ a').setCell ⟨B, 1, none⟩ b').setCell ⟨B, 2, none⟩ c').setCell ⟨B, 3, none⟩ d') B #[a', b', c', d'] t := (((h.setAt 0 a').setAt 1 b').setAt 2 c').setAt 3 d'
theorem Blk.two (h : Blk W B #[a, b] t) : (W.cell? ⟨B, 0, none⟩ = some a ∧ W.cell? ⟨B, 1, none⟩ = some b) ∧ W.frozen? ⟨B, 0, none⟩ = false ∧ W.frozen? ⟨B, 1, none⟩ = false :=
  ⟨⟨h.cell 0, h.cell 1⟩, h.frozen 0, h.frozen 1⟩
theorem Blk.set2 (h : Blk W B #[a, b] t) : Blk ((W.setCell ⟨B, 0, none⟩ a').setCell ⟨B, 1, none⟩ b') B #[a', b'] t := (h.setAt 0 a').setAt 1 b'
theorem below_set4 {n : Nat} {w0 w : World} (h : Below n w0 w) (hB : n ≤ B) : Below n w0 ((((w.setCell ⟨B, 0, none⟩ a').setCell ⟨B, 1, none⟩ b').setCell ⟨B, 2, none⟩ c').setCell ⟨B, 3, none⟩ d') :=
  (((h.setCell (p := ⟨B, 0, none⟩) hB _).setCell (p := ⟨B, 1, none⟩) hB _).setCell (p := ⟨B, 2, none⟩) hB _).setCell (p := ⟨B, 3, none⟩) hB _
theorem below_set2 {n : Nat} {w0 w : World} (h : Below n w0 w) (hB : n ≤ B) : Below n w0 ((w.setCell ⟨B, 0, none⟩ a').setCell ⟨B, 1, none⟩ b') :=
  (h.setCell (p := ⟨B, 0, none⟩) hB _).setCell (p := ⟨B, 1, none⟩) hB _
theorem heap_set4 (w : World) {k : Nat} (hk : k ≠ B) : ((((w.setCell ⟨B, 0, none⟩ a').setCell ⟨B, 1, none⟩ b').setCell ⟨B, 2, none⟩ c').setCell ⟨B, 3, none⟩ d').heap[k]? = w.heap[k]? := by
  rw [Below.heap_setCell _ ⟨B, 3, none⟩ _ k hk, Below.heap_setCell _ ⟨B, 2, none⟩ _ k hk, Below.heap_setCell _ ⟨B, 1, none⟩ _ k hk, Below.heap_setCell _ ⟨B, 0, none⟩ _ k hk]
theorem heap_set2 (w : World) {k : Nat} (hk : k ≠ B) : ((w.setCell ⟨B, 0, none⟩ a').setCell ⟨B, 1, none⟩ b').heap[k]? = w.heap[k]? := by
  rw [Below.heap_setCell _ ⟨B, 1, none⟩ _ k hk, Below.heap_setCell _ ⟨B, 0, none⟩ _ k hk]
end

theorem Rw.ne {α : Type} {E : El α} {w : World} {b q : Nat} {v : Value} {l : List α} {cs : Array Value} {t : TypeId} (h : Rw E w b v l) (hB : Blk w q cs t) (ht : E.T ≠ t) : ∀ k, v.ownBlock = some k → k ≠ q := by
  intro k hk e
  subst e
  obtain ⟨cur, h1⟩ := h.type k hk
  rw [show w.heap[k]? = _ from hB] at h1
  have := Option.some.inj h1
  injection this with _ e _
  exact ht e.symm
/-- The document's arena as a value; its rows lie in blocks of F. -/
def Dv (W : World) (v : Value) (d : Dc) (F : Nat → Prop) : Prop :=
  ∃ ga gc ta tc ba bc, v = .agg #[.slice ga d.gens.length gc, .slice ta d.taken.length tc, .slice ba d.back.length bc, .int .i64 (d.ever : Int)] ∧
    Sg elI W ga d.gens ∧ Sg elB W ta d.taken ∧ Sg elN W ba d.back ∧ (ga = none → gc = 0) ∧ (ta = none → tc = 0) ∧ (ba = none → bc = 0) ∧ d.back.length ≤ bc ∧
    (∀ a, ga = some a → F a.block) ∧ (∀ a, ta = some a → F a.block) ∧ (∀ a, ba = some a → F a.block) ∧ ∀ k, F k → k < W.heap.size
theorem Dv.move {W w' : World} {v : Value} {d : Dc} {F : Nat → Prop} (h : Dv W v d F) (hs : W.heap.size ≤ w'.heap.size) (he : ∀ k, F k → w'.heap[k]? = W.heap[k]?) : Dv w' v d F := by
  obtain ⟨ga, gc, ta, tc, ba, bc, h0, h1, h2, h3, h4, h5, h6, h7, h8, h9, h10, h11⟩ := h
  exact ⟨ga, gc, ta, tc, ba, bc, h0, h1.move fun a ha => he _ (h8 a ha), h2.move fun a ha => he _ (h9 a ha), h3.move fun a ha => he _ (h10 a ha), h4, h5, h6, h7, h8, h9, h10, fun k hk => Nat.lt_of_lt_of_le (h11 k hk) hs⟩
theorem Dv.lt {W : World} {v : Value} {d : Dc} {F : Nat → Prop} (h : Dv W v d F) : ∀ k, F k → k < W.heap.size := by
  obtain ⟨ga, gc, ta, tc, ba, bc, h0, h1, h2, h3, h4, h5, h6, h7, h8, h9, h10, h11⟩ := h
  exact h11
theorem Dv.keep {W w' : World} {v : Value} {d : Dc} {F : Nat → Prop} (h : Dv W v d F) (hb : Below W.heap.size W w') : Dv w' v d F := h.move hb.size fun k hk => hb.block k (h.lt k hk)
theorem Dv.chg {M : Nat → Prop} {W w' : World} {v : Value} {d : Dc} {F : Nat → Prop} (h : Dv W v d F) (hb : Chg M W w') (hn : ∀ k, F k → ¬ M k) : Dv w' v d F := h.move hb.size fun k hk => hb.block k (h.lt k hk) (hn k hk)
theorem Dv.more {W : World} {v : Value} {d : Dc} {F F' : Nat → Prop} (h : Dv W v d F) (hF : ∀ k, F k → F' k) (hl : ∀ k, F' k → k < W.heap.size) : Dv W v d F' := by
  obtain ⟨ga, gc, ta, tc, ba, bc, h0, h1, h2, h3, h4, h5, h6, h7, h8, h9, h10, h11⟩ := h
  exact ⟨ga, gc, ta, tc, ba, bc, h0, h1, h2, h3, h4, h5, h6, h7, fun a ha => hF _ (h8 a ha), fun a ha => hF _ (h9 a ha), fun a ha => hF _ (h10 a ha), hl⟩

set_option maxHeartbeats 2000000 in
theorem with_is (ga ta ba : Option Addr) (gc tc k bc : Nat) (e : Int) (gens : List Int) (taken : List Bool) (w : World) (hg : Sg elI w ga gens) (ht : Sg elB w ta taken) (hgc : ga = none → gc = 0) (htc : ta = none → tc = 0) (hl : gens.length ≤ 5000) (hl2 : taken.length ≤ 5000) :
    Calls Try.prog 23 #[.agg #[.slice ga gens.length gc, .slice ta taken.length tc, .slice ba k bc, .int .i64 e]] w fun e' w' => ∃ vg vt, e' = .returned (.agg #[vg, vt, .slice ba k bc, .int .i64 e]) ∧ Rw elI w' w.heap.size vg gens ∧ Rw elB w' w.heap.size vt taken ∧ Below w.heap.size w w' := by
  have H := Lib.hid (And.intro hg (And.intro ht (And.intro hgc (And.intro htc (And.intro hl hl2)))))
  clear hg ht hgc htc hl hl2
  go_enter Try.func23, Try.ntmps23
  go_wp2_with (first
    | (at_builtin
       go_loud (
         refine appAll elI rfl _ _ rfl w.heap.size (.slice none 0 0) [] gens ga gc gens.length rfl H.out.2.2.1 _ rfl (Rw.nil _ _) (H.out.1.below (below2 _ _ _)) rfl (by have := H.out.2.2.2.2.1; simp; omega) (by simp; omega) ?_
         intro u1 w1 hown hgr hbk hbel
         rw [List.nil_append] at hown
         obtain ⟨o1, c1, rfl, j1, j2, j3⟩ := hown.sl
         clear j1 j2 j3
         have B1 : Blk w1 w.heap.size #[.slice ga gens.length gc, .slice ta taken.length tc, .slice ba k bc, .int .i64 e] 29 := ((Blk.new w _ _).alloc _).move (hgr.block w.heap.size (by simp; omega) (by simp [Value.ownBlock]))
         have R1 : Blk w1 (w.heap.size + 1) #[.slice none 0 0, .slice none 0 0, .slice none 0 0, .int .i64 0] 29 := (Blk.new' (w.alloc _) _ _ _ (by simp)).move (hgr.block (w.heap.size + 1) (by simp) (by simp [Value.ownBlock]))
         have b0 := B1.four.1.1
         have b1 := B1.four.2.1
         obtain ⟨W1, hW1⟩ : ∃ W1, w1.setCell ⟨w.heap.size, 0, none⟩ (Value.slice o1 gens.length c1) = W1 := ⟨_, rfl⟩
         have B2 : Blk W1 w.heap.size #[(Value.slice o1 gens.length c1), .slice ta taken.length tc, .slice ba k bc, .int .i64 e] 29 := hW1 ▸ B1.setAt 0 (Value.slice o1 gens.length c1)
         have R2 : Blk W1 (w.heap.size + 1) #[.slice none 0 0, .slice none 0 0, .slice none 0 0, .int .i64 0] 29 := hW1 ▸ R1.otherAt (B' := w.heap.size) (by omega) 0 (Value.slice o1 gens.length c1)
         have b2 := B2.four.1.2.1
         have hb : Below w.heap.size w W1 := hW1 ▸ (((below2 w _ _).trans hbel).setCell (p := ⟨w.heap.size, 0, none⟩) (Nat.le_refl _) (Value.slice o1 gens.length c1))
         have ho : Rw elI W1 w.heap.size (Value.slice o1 gens.length c1) gens := hW1 ▸ (hown.move fun k hk => Below.heap_setCell _ ⟨w.heap.size, 0, none⟩ _ k (hown.ne B1 (by decide) k hk))
         have K1 := Lib.hid (And.intro B2 (And.intro R2 (And.intro hb ho)))
         clear hown hgr hbk hbel B1 R1 B2 R2 hb ho
         go_frame))
    | (at_builtin
       go_loud (
         refine appAll elB rfl _ _ rfl w.heap.size (.slice none 0 0) [] taken ta tc taken.length rfl H.out.2.2.2.1 _ rfl (Rw.nil _ _) (H.out.2.1.below K1.out.2.2.1) rfl (by have := H.out.2.2.2.2.2; simp; omega) K1.out.2.2.1.size ?_
         intro u2 w2 hown hgr hbk hbel
         rw [List.nil_append] at hown
         obtain ⟨o2, c2, rfl, j1, j2, j3⟩ := hown.sl
         clear j1 j2 j3
         have B3 := K1.out.1.move (hgr.block w.heap.size K1.out.1.lt (by simp [Value.ownBlock]))
         have R3 := K1.out.2.1.move (hgr.block (w.heap.size + 1) K1.out.2.1.lt (by simp [Value.ownBlock]))
         have b3 := B3.four.1.2.1
         have b4 := B3.four.2.2.1
         obtain ⟨W2, hW2⟩ : ∃ W2, w2.setCell ⟨w.heap.size, 1, none⟩ (Value.slice o2 taken.length c2) = W2 := ⟨_, rfl⟩
         have B4 : Blk W2 w.heap.size #[(Value.slice o1 gens.length c1), (Value.slice o2 taken.length c2), .slice ba k bc, .int .i64 e] 29 := hW2 ▸ B3.setAt 1 (Value.slice o2 taken.length c2)
         have R4 : Blk W2 (w.heap.size + 1) #[.slice none 0 0, .slice none 0 0, .slice none 0 0, .int .i64 0] 29 := hW2 ▸ R3.otherAt (B' := w.heap.size) (by omega) 1 (Value.slice o2 taken.length c2)
         obtain ⟨⟨x0, x1, x2, x3⟩, _⟩ := B4.four
         obtain ⟨⟨y0, y1, y2, y3⟩, z0, z1, z2, z3⟩ := R4.four
         have hb : Below w.heap.size w W2 := hW2 ▸ ((K1.out.2.2.1.trans hbel).setCell (p := ⟨w.heap.size, 1, none⟩) (Nat.le_refl _) (Value.slice o2 taken.length c2))
         have ho : Rw elB W2 w.heap.size (Value.slice o2 taken.length c2) taken := hW2 ▸ (hown.move fun k hk => Below.heap_setCell _ ⟨w.heap.size, 1, none⟩ _ k (hown.ne B3 (by decide) k hk))
         have ho1 : Rw elI W2 w.heap.size (Value.slice o1 gens.length c1) gens := hW2 ▸ ((K1.out.2.2.2.move fun k hk => hgr.block k (K1.out.2.2.2.lt k hk).2 (by simp [Value.ownBlock])).move fun k hk => Below.heap_setCell _ ⟨w.heap.size, 1, none⟩ _ k (K1.out.2.2.2.ne K1.out.1 (by decide) k hk))
         have K2 := Lib.hid (And.intro B4 (And.intro R4 (And.intro hb (And.intro ho ho1))))
         clear hown hgr hbk hbel B3 R3 B4 R4 hb ho ho1
         go_frame)))
  have q := K2.out.2.1.set4 (a' := .slice o1 gens.length c1) (b' := .slice o2 taken.length c2) (c' := .slice ba k bc) (d' := .int .i64 e)
  obtain ⟨⟨y0', y1', y2', y3'⟩, _⟩ := q.four
  refine bodyPost_ret (v := .agg #[.slice o1 gens.length c1, .slice o2 taken.length c2, .slice ba k bc, .int .i64 e]) (by simp [results, Try.results23, go_sem, y0', y1', y2', y3']) rfl ⟨_, _, rfl, ?_, ?_, below_set4 K2.out.2.2.1 (by omega)⟩
  · exact K2.out.2.2.2.2.move fun k hk => heap_set4 _ (K2.out.2.2.2.2.ne K2.out.2.1 (by decide) k hk)
  · exact K2.out.2.2.2.1.move fun k hk => heap_set4 _ (K2.out.2.2.2.1.ne K2.out.2.1 (by decide) k hk)

end Go.Proofs.Ytlommgljkjkmkaa.Gn
