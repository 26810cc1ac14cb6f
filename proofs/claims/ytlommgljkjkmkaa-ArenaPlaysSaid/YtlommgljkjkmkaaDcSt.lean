/-
  The document's arena where it has been copied to be written. No condition but those named.
-/
import Derived.Test.YtlommgljkjkmkaaDcNew
namespace Go.Proofs.Ytlommgljkjkmkaa.Gn
open Go.RowKit
set_option linter.unusedVariables false
set_option linter.unusedSimpArgs false

structure DS (w W : World) (q g t n cg ct : Nat) (gens : List Int) (taken : List Bool) (vb ve : Value) : Prop where
  box : Blk W q #[.slice (some ⟨g, 0, none⟩) n cg, .slice (some ⟨t, 0, none⟩) n ct, vb, ve] 29
  rg : Rw elI W q (.slice (some ⟨g, 0, none⟩) n cg) gens
  rt : Rw elB W q (.slice (some ⟨t, 0, none⟩) n ct) taken
  be : Below q w W
  hg : gens.length = n
  ht : taken.length = n
section
variable {w W W' : World} {q g t n cg ct : Nat} {gens : List Int} {taken : List Bool} {vb ve : Value}
theorem DS.qg (h : DS w W q g t n cg ct gens taken vb ve) : g ≠ q := h.rg.ne h.box (by decide) g rfl
theorem DS.qt (h : DS w W q g t n cg ct gens taken vb ve) : t ≠ q := h.rt.ne h.box (by decide) t rfl
theorem DS.gt (h : DS w W q g t n cg ct gens taken vb ve) : g ≠ t := fun e => own_ne h.rg h.rt (by decide) g rfl (by rw [e]; rfl)
theorem DS.neG (h : DS w W q g t n cg ct gens taken vb ve) {B : Nat} {cs : Array Value} {u : TypeId} (hB : Blk W B cs u) (hu : elI.T ≠ u) : B ≠ g := fun e => h.rg.ne hB hu g rfl e.symm
theorem DS.neT (h : DS w W q g t n cg ct gens taken vb ve) {B : Nat} {cs : Array Value} {u : TypeId} (hB : Blk W B cs u) (hu : elB.T ≠ u) : B ≠ t := fun e => h.rt.ne hB hu t rfl e.symm
theorem DS.frG (h : DS w W q g t n cg ct gens taken vb ve) (i : Nat) : W.frozen? ⟨g, i, none⟩ = false := by
  obtain ⟨cur, hc⟩ := h.rg.type g rfl
  exact (show Blk W g cur elI.T from hc).frozen i
theorem DS.frT (h : DS w W q g t n cg ct gens taken vb ve) (i : Nat) : W.frozen? ⟨t, i, none⟩ = false := by
  obtain ⟨cur, hc⟩ := h.rt.type t rfl
  exact (show Blk W t cur elB.T from hc).frozen i
theorem DS.ceG (h : DS w W q g t n cg ct gens taken vb ve) {i : Nat} {x : Int} (hi : gens[i]? = some x) : W.cell? ⟨g, i, none⟩ = some (.int .i64 x) := by
  have := h.rg.at hi 0 rfl
  rwa [show i * elI.n + 0 = i from by rw [show elI.n = 1 from rfl]; omega] at this
theorem DS.ceT (h : DS w W q g t n cg ct gens taken vb ve) {i : Nat} {x : Bool} (hi : taken[i]? = some x) : W.cell? ⟨t, i, none⟩ = some (.bool x) := by
  have := h.rt.at hi 0 rfl
  rwa [show i * elB.n + 0 = i from by rw [show elB.n = 1 from rfl]; omega] at this
theorem DS.ot (h : DS w W q g t n cg ct gens taken vb ve) {W' : World} (he : ∀ k, (k = q ∨ k = g ∨ k = t) → W'.heap[k]? = W.heap[k]?) (hb : Below q w W') : DS w W' q g t n cg ct gens taken vb ve :=
  ⟨h.box.move (he q (.inl rfl)), h.rg.move fun k hk => he k (.inr (.inl (Option.some.inj hk).symm)), h.rt.move fun k hk => he k (.inr (.inr (Option.some.inj hk).symm)), hb, h.hg, h.ht⟩
theorem DS.setB (h : DS w W q g t n cg ct gens taken vb ve) (v : Value) : DS w (W.setCell ⟨q, 2, none⟩ v) q g t n cg ct gens taken v ve :=
  ⟨h.box.setAt 2 v, h.rg.move fun k hk => Below.heap_setCell _ ⟨q, 2, none⟩ _ k (h.rg.ne h.box (by decide) k hk), h.rt.move fun k hk => Below.heap_setCell _ ⟨q, 2, none⟩ _ k (h.rt.ne h.box (by decide) k hk), h.be.setCell (p := ⟨q, 2, none⟩) (Nat.le_refl _) v, h.hg, h.ht⟩
theorem DS.setE (h : DS w W q g t n cg ct gens taken vb ve) (v : Value) : DS w (W.setCell ⟨q, 3, none⟩ v) q g t n cg ct gens taken vb v :=
  ⟨h.box.setAt 3 v, h.rg.move fun k hk => Below.heap_setCell _ ⟨q, 3, none⟩ _ k (h.rg.ne h.box (by decide) k hk), h.rt.move fun k hk => Below.heap_setCell _ ⟨q, 3, none⟩ _ k (h.rt.ne h.box (by decide) k hk), h.be.setCell (p := ⟨q, 3, none⟩) (Nat.le_refl _) v, h.hg, h.ht⟩
theorem DS.setT (h : DS w W q g t n cg ct gens taken vb ve) {i : Nat} {b0 : Bool} (hi : taken[i]? = some b0) (b : Bool) : DS w (W.setCell ⟨t, i, none⟩ (.bool b)) q g t n cg ct gens (taken.set i b) vb ve := by
  have p := h.rt.put h.ht.symm hi 0 (by decide) (.bool b) b rfl
  rw [show i * elB.n + 0 = i from by rw [show elB.n = 1 from rfl]; omega] at p
  exact ⟨h.box.otherAt (Ne.symm h.qt) _ _, h.rg.move fun k hk => Below.heap_setCell _ ⟨t, i, none⟩ _ k (by obtain rfl := Option.some.inj hk; exact h.gt), p, h.be.setCell (p := ⟨t, i, none⟩) (h.rt.lt t rfl).1 _, h.hg, by rw [List.length_set]; exact h.ht⟩
theorem DS.setG (h : DS w W q g t n cg ct gens taken vb ve) {i : Nat} {x0 : Int} (hi : gens[i]? = some x0) (x : Int) : DS w (W.setCell ⟨g, i, none⟩ (.int .i64 x)) q g t n cg ct (gens.set i x) taken vb ve := by
  have p := h.rg.put h.hg.symm hi 0 (by decide) (.int .i64 x) x rfl
  rw [show i * elI.n + 0 = i from by rw [show elI.n = 1 from rfl]; omega] at p
  exact ⟨h.box.otherAt (Ne.symm h.qg) _ _, p, h.rt.move fun k hk => Below.heap_setCell _ ⟨g, i, none⟩ _ k (by obtain rfl := Option.some.inj hk; exact Ne.symm h.gt), h.be.setCell (p := ⟨g, i, none⟩) (h.rg.lt g rfl).1 _, by rw [List.length_set]; exact h.hg, h.ht⟩
/-- Behind the copy and its store. -/
theorem DS.start {w2 : World} {b : Nat} {a' b' c' d' : Value} (hB : Blk w2 q #[a', b', c', d'] 29) (hbe : Below q w w2) (h1 : Rw elI w2 b (.slice (some ⟨g, 0, none⟩) n cg) gens) (h2 : Rw elB w2 b (.slice (some ⟨t, 0, none⟩) n ct) taken) (hb : q ≤ b) (hg : gens.length = n) (ht : taken.length = n) :
    DS w ((((w2.setCell ⟨q, 0, none⟩ (.slice (some ⟨g, 0, none⟩) n cg)).setCell ⟨q, 1, none⟩ (.slice (some ⟨t, 0, none⟩) n ct)).setCell ⟨q, 2, none⟩ vb).setCell ⟨q, 3, none⟩ ve) q g t n cg ct gens taken vb ve :=
  ⟨hB.set4, (h1.move fun k hk => heap_set4 _ (h1.ne hB (by decide) k hk)).base hb, (h2.move fun k hk => heap_set4 _ (h2.ne hB (by decide) k hk)).base hb, below_set4 hbe (Nat.le_refl _), hg, ht⟩
theorem DS.dv {ba : Option Addr} {bc ever : Nat} {back : List Nat} {F : Nat → Prop} {m : Nat} (h : DS w W w.heap.size g t n cg ct gens taken (.slice ba m bc) (.int .i64 (ever : Int))) (hs : Sg elN W ba back) (hm : m = back.length) (hc : ba = none → bc = 0) (hl : back.length ≤ bc) (hF : ∀ a, ba = some a → F a.block) (hlt : ∀ k, F k → k < W.heap.size) :
    Dv W (.agg #[.slice (some ⟨g, 0, none⟩) n cg, .slice (some ⟨t, 0, none⟩) n ct, .slice ba m bc, .int .i64 (ever : Int)]) ⟨gens, taken, back, ever⟩ (fun k => F k ∨ k = g ∨ k = t) := by
  have l1 := h.rg.lt g rfl
  have l2 := h.rt.lt t rfl
  refine ⟨some ⟨g, 0, none⟩, cg, some ⟨t, 0, none⟩, ct, ba, bc, by rw [h.hg, h.ht, hm], h.rg.seg, h.rt.seg, hs, (fun e => by cases e), (fun e => by cases e), hc, hl, (fun a ha => by obtain rfl := Option.some.inj ha; exact .inr (.inl rfl)), (fun a ha => by obtain rfl := Option.some.inj ha; exact .inr (.inr rfl)), (fun a ha => .inl (hF a ha)), fun k hk => ?_⟩
  rcases hk with e | rfl | rfl
  · exact hlt k e
  · exact l1.2
  · exact l2.2
end

end Go.Proofs.Ytlommgljkjkmkaa.Gn
