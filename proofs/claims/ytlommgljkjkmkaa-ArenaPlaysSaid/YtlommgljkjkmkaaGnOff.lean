/-
  Rows that a call owns and has cut at the front: a slice from some place of its block on. Conditions: the bounds named in each theorem.
-/
import Derived.Test.YtlommgljkjkmkaaGnMem
namespace Go.Proofs.Ytlommgljkjkmkaa.Gn
open Go.RowKit
set_option linter.unusedVariables false

section
variable {α : Type} {E : El α}
def Ro (E : El α) (w : World) (b : Nat) (v : Value) (l : List α) : Prop :=
  (v = .slice none 0 0 ∧ l = []) ∨ ∃ g off cap cur, v = .slice (some ⟨g, off, none⟩) l.length cap ∧ b ≤ g ∧ w.heap[g]? = some (.cells cur E.T (0, 0)) ∧ l.length ≤ cap ∧ cap ≤ maxLen ∧ off + cap * E.n ≤ cur.size ∧ (cur.toList.drop off).take (l.length * E.n) = E.cat l
theorem Ro.nil (w : World) (b : Nat) : Ro E w b (.slice none 0 0) [] := .inl ⟨rfl, rfl⟩
theorem Rw.ro {w : World} {b : Nat} {v : Value} {l : List α} (h : Rw E w b v l) : Ro E w b v l := by
  rcases h.2 with ⟨hv, hn⟩ | ⟨g, cap, cur, hv, hb, hg, h1, h2, h3, h4⟩
  · exact .inl ⟨hv, List.eq_nil_of_length_eq_zero hn⟩
  · exact .inr ⟨g, 0, cap, cur, hv, hb, hg, h1, h2, by omega, by rw [List.drop_zero]; exact h4⟩
theorem Ro.lt {w : World} {b : Nat} {v : Value} {l : List α} (h : Ro E w b v l) : ∀ k, v.ownBlock = some k → b ≤ k ∧ k < w.heap.size := by
  intro k hk
  rcases h with ⟨rfl, _⟩ | ⟨g, off, cap, cur, rfl, hb, hg, _⟩
  · cases hk
  · obtain rfl : g = k := Option.some.inj hk
    exact ⟨hb, (Array.getElem?_eq_some_iff.1 hg).1⟩
theorem Ro.move {w w' : World} {b : Nat} {v : Value} {l : List α} (h : Ro E w b v l) (he : ∀ k, v.ownBlock = some k → w'.heap[k]? = w.heap[k]?) : Ro E w' b v l := by
  rcases h with hn | ⟨g, off, cap, cur, hv, hb, hg, rest⟩
  · exact .inl hn
  · exact .inr ⟨g, off, cap, cur, hv, hb, (he g (by rw [hv]; rfl)).trans hg, rest⟩
theorem Ro.keep {w w' : World} {b : Nat} {v : Value} {l : List α} (h : Ro E w b v l) (hb : Below w.heap.size w w') : Ro E w' b v l := h.move fun k hk => hb.block k (h.lt k hk).2
theorem Ro.chg {M : Nat → Prop} {w w' : World} {b : Nat} {v : Value} {l : List α} (h : Ro E w b v l) (hb : Chg M w w') (hn : ∀ k, v.ownBlock = some k → ¬ M k) : Ro E w' b v l := h.move fun k hk => hb.block k (h.lt k hk).2 (hn k hk)
theorem Ro.type {w : World} {b : Nat} {v : Value} {l : List α} (h : Ro E w b v l) : ∀ k, v.ownBlock = some k → ∃ cur, w.heap[k]? = some (.cells cur E.T (0, 0)) := by
  intro k hk
  rcases h with ⟨rfl, _⟩ | ⟨g, off, cap, cur, rfl, hb, hg, _⟩
  · cases hk
  · obtain rfl : g = k := Option.some.inj hk
    exact ⟨cur, hg⟩
theorem cells_at {w : World} {g off m : Nat} {cur : Array Value} {t : TypeId} {xs : List Value} (hg : w.heap[g]? = some (.cells cur t (0, 0))) (ht : (cur.toList.drop off).take m = xs) (j : Nat) (u : Value) (hj : xs[j]? = some u) : w.cell? ⟨g, off + j, none⟩ = some u := by
  rw [cell_of_row w g (off + j) cur t (0, 0) hg]
  rw [← ht, List.getElem?_take] at hj
  split at hj
  · rw [List.getElem?_drop] at hj
    simpa using hj
  · cases hj
theorem Ro.sl {w : World} {b : Nat} {v : Value} {l : List α} (h : Ro E w b v l) : ∃ ao cap, v = .slice ao l.length cap ∧ l.length ≤ cap ∧ Sg E w ao l := by
  rcases h with ⟨rfl, rfl⟩ | ⟨g, off, cap, cur, rfl, hb, hg, h1, h2, h3, h4⟩
  · exact ⟨none, 0, rfl, Nat.le_refl _, Sg.nil _ _⟩
  · exact ⟨some ⟨g, off, none⟩, cap, rfl, h1, Sg.of_cells fun j u hj => by rw [add_none]; exact cells_at hg h4 j u hj⟩
/-- Cut off the first one. -/
theorem Ro.first {w : World} {b : Nat} {v : Value} {x : α} {l : List α} (h : Ro E w b v (x :: l)) :
    ∃ g off cap, v = .slice (some ⟨g, off, none⟩) (l.length + 1) cap ∧ l.length + 1 ≤ cap ∧ AtL w ⟨g, off, none⟩ (E.c x) ∧ g < w.heap.size ∧ b ≤ g ∧ Ro E w b (.slice (if cap = 1 then some ⟨g, off, none⟩ else some ⟨g, off + E.n, none⟩) l.length (cap - 1)) l := by
  rcases h with ⟨_, hn⟩ | ⟨g, off, cap, cur, rfl, hb, hg, h1, h2, h3, h4⟩
  · cases hn
  · simp only [List.length_cons] at h1 h4
    have hcat : E.cat (x :: l) = E.c x ++ E.cat l := rfl
    have hx := E.len x
    have cx : ∀ j u, (E.c x)[j]? = some u → w.cell? ⟨g, off + j, none⟩ = some u := fun j u hj => cells_at hg h4 j u (by
      rw [hcat, List.getElem?_append_left (by have := (List.getElem?_eq_some_iff.1 hj).1; exact this)]; exact hj)
    refine ⟨g, off, cap, rfl, h1, AtL.of fun j u hj => by rw [add_none]; exact cx j u hj, (Array.getElem?_eq_some_iff.1 hg).1, hb, ?_⟩
    have hsub : (cap - 1) * E.n + E.n = cap * E.n := by
      have : (cap - 1) + 1 = cap := by omega
      rw [← this, Nat.add_mul, Nat.one_mul]; simp
    have hd : (cur.toList.drop (off + E.n)).take (l.length * E.n) = E.cat l := by
      rw [Nat.add_mul, Nat.one_mul, hcat] at h4
      have e : ((cur.toList.drop off).take (l.length * E.n + E.n)).drop E.n = E.cat l := by rw [h4, ← hx, List.drop_left]
      rw [List.drop_take, List.drop_drop] at e
      rw [show l.length * E.n + E.n - E.n = l.length * E.n by omega] at e
      exact e
    by_cases hc : cap = 1
    · rw [if_pos hc]
      have hl : l = [] := List.eq_nil_of_length_eq_zero (by omega)
      subst hl
      exact .inr ⟨g, off, cap - 1, cur, rfl, hb, hg, by simp, by omega, by omega, by simp [El.cat]⟩
    · rw [if_neg hc]
      exact .inr ⟨g, off + E.n, cap - 1, cur, rfl, hb, hg, by omega, by omega, by omega, hd⟩
theorem run_append_ro {w : World} {base : Nat} {ty : TypeId} {v : Value} {l : List α} (b : α) (a : Addr) (hown : Ro E w base v l) (hnews : ∀ j u, (E.c b)[j]? = some u → w.cell? (a.add j) = some u) (hlen : l.length ≤ 1000000000) (hbase : base ≤ w.heap.size) :
    ∃ v' w', (Builtin.append_ #[E.L, E.L] ty #[v, .slice (some a) 1 1]).run Try.prog w = .ok v' w' ∧ Ro E w' base v' (l ++ [b]) ∧ w.grownBy w' v.ownBlock ∧ (v'.ownBlock = v.ownBlock ∨ v'.ownBlock = some w.heap.size) := by
  obtain ⟨i0, hi, hz0, hz1, hz2⟩ := info_parts E.info
  have few := E.few
  have hl1 : (E.c b).length = 1 * i0.size := by rw [E.len, hz1, Nat.one_mul]
  rcases hown with ⟨rfl, rfl⟩ | ⟨g, off, cap, cur, rfl, hbg, hg, h1, h2, h3, h4⟩
  · obtain ⟨v', w', hrun, r1, r2, _, r4⟩ := run_append_own_at (P := Try.prog) w base E.L ty E.T i0 _ E.n E.bytes E.und hi hz0 hz1 hz2 E.zs E.pos _ _ _ (World.ownsRow_nil w base E.T E.n) a 1 1 (E.c b) (by rw [E.len, Nat.one_mul]) hnews (E.one b) (by unfold maxLen; omega) (Nat.le_trans (Nat.mul_le_mul_left _ few) (by omega)) hbase
    refine ⟨v', w', hrun, Rw.ro ?_, r2, r4⟩
    unfold Rw
    rw [List.nil_append, El.cat_one]
    exact r1
  · by_cases hroom : l.length + 1 ≤ cap
    · have hfit : off + l.length * E.n + 0 + (E.c b).length ≤ cur.size := by
        rw [E.len]
        have : (l.length + 1) * E.n ≤ cap * E.n := Nat.mul_le_mul_right _ hroom
        rw [Nat.add_mul, Nat.one_mul] at this
        omega
      have hf := run_firstCells_some (P := Try.prog) w i0.size 1 a 1 1 (E.c b) hl1 hnews
      have hst := run_storeCells_at Try.prog g (off + l.length * E.n) E.T (E.c b) 0 cur w hg hfit (E.one b)
      simp only [Nat.add_zero] at hst
      obtain ⟨R, hR⟩ : ∃ R, (cur.toList.take (off + l.length * E.n) ++ E.c b ++ cur.toList.drop (off + l.length * E.n + (E.c b).length)).toArray = R := ⟨_, rfl⟩
      rw [hR] at hst
      refine ⟨.slice (some ⟨g, off, none⟩) (l.length + 1) cap, w.setRow g R, ?_, .inr ⟨g, off, cap, R, by rw [List.length_append]; rfl, hbg, setRow_heap w g cur _ E.T _ hg, by rw [List.length_append]; exact hroom, h2, ?_, ?_⟩, ⟨rfl, rfl, rfl, by simp, fun k _ hk => setRow_other w g k _ (fun e => hk (by simp [Value.ownBlock, e]))⟩, .inl rfl⟩
      · rw [hz1] at hf
        simp [Builtin.append_, run_underlying E.und, sizeOf, typeInfo, hi, hz1, Builtin.lenOf, hroom, hf, Addr.add_lit, hst]
      · rw [← hR]
        simp only [List.size_toArray, List.length_append, List.length_take, List.length_drop, Array.length_toList]
        omega
      · rw [← hR, List.length_append, El.cat_append, El.cat_one]
        simp only [List.length_singleton]
        have hcl : off + l.length * E.n ≤ cur.toList.length := by
          have : l.length * E.n ≤ cap * E.n := Nat.mul_le_mul_right _ h1
          show off + l.length * E.n ≤ cur.size
          omega
        rw [List.append_assoc, List.drop_append_of_le_length (by rw [List.length_take]; omega), List.drop_take, show off + l.length * E.n - off = l.length * E.n by omega, h4, ← List.append_assoc]
        exact List.take_left' (by rw [List.length_append, El.cat_len, E.len, Nat.add_mul, Nat.one_mul])
    · have holds : ∀ j u, (E.cat l)[j]? = some u → w.cell? ((⟨g, off, none⟩ : Addr).add j) = some u := fun j u hj => by rw [add_none]; exact cells_at hg h4 j u hj
      have hr := run_append_grow (P := Try.prog) w E.L ty E.T i0 _ E.und hi hz0 ⟨g, off, none⟩ l.length cap (E.cat l) (by rw [El.cat_len, hz1]) holds a 1 1 (E.c b) hl1 hnews (by omega) (by omega) (by rw [hz2]; exact growslice_fits (by omega) (Nat.le_trans (Nat.mul_le_mul_left _ few) (by omega)))
      have hge := grownCap_ge w (l.length + 1) cap E.T
      have hcm : grownCap w (l.length + 1) cap E.T ≤ maxLen := grownCap_le_maxLen w (l.length + 1) cap E.T (by unfold maxLen; omega)
      have hzs := E.zs
      refine ⟨_, _, hr, .inr ⟨w.heap.size, 0, _, _, by rw [List.length_append]; rfl, hbase, heap_alloc_new w.drew _, by rw [List.length_append]; exact hge, hcm, ?_, ?_⟩, ⟨rfl, rfl, rfl, by simp, fun k hk _ => Below.heap_alloc w.drew _ k hk⟩, .inr rfl⟩
      · simp only [Array.size_append, List.size_toArray, size_zeroCells, hzs, El.cat_len, E.len, Nat.zero_add]
        have : (grownCap w (l.length + 1) cap E.T - (l.length + 1)) * E.n + (l.length + 1) * E.n = grownCap w (l.length + 1) cap E.T * E.n := by rw [← Nat.add_mul]; congr 1; omega
        rw [Nat.add_mul, Nat.one_mul] at this
        omega
      · rw [List.length_append, El.cat_append, El.cat_one, List.drop_zero]
        simp only [Array.toList_append]
        exact List.take_left' (by rw [List.length_append, El.cat_len, E.len]; simp [Nat.add_mul])
variable {ops : Array Oper} {rest : List Oper} {o : Oper} {a : Act} {Q : Exit → Act → World → Prop}
/-- One element more, which lies in a block just made. -/
theorem appO (E : El α) (hgd : o.guard = none) (s x : Operand) (ho : o.op = .call { callee := .builtin .append, args := #[s, x], argTypes := #[E.L, E.L] })
    (base : Nat) (v : Value) (l : List α) (b : α) (cs : Array Value) (hcs : cs = (E.c b).toArray) (w0 : World) (hs : a.eval s = v) (hown : Ro E w0 base v l)
    (G : Nat) (hG : w0.heap.size = G) (hx : a.eval x = .slice (some ⟨G, 0, none⟩) 1 1) (hlen : l.length ≤ 1000000000) (hb : base ≤ w0.heap.size)
    (h : ∀ v' w', Ro E w' base v' (l ++ [b]) → w0.grownBy w' v.ownBlock → (v'.ownBlock = v.ownBlock ∨ ∃ k, v'.ownBlock = some k ∧ w0.heap.size ≤ k) → Below base w0 w' → wpList Try.prog ops Q rest (a.put o.dst v') w') : wpList Try.prog ops Q (o :: rest) a (w0.alloc (.cells cs E.T)) := by
  subst hG
  subst hcs
  refine wpList_plain hgd fun K hK => ?_
  obtain ⟨v', w', hr, h2, h3, h4⟩ := run_append_ro (ty := o.type) (w := w0.alloc (.cells (E.c b).toArray E.T)) b ⟨w0.heap.size, 0, none⟩ (hown.keep (below1 w0 _)) (fun j u hj => by
    rw [add_none, Nat.zero_add, (Blk.new w0 (E.c b).toArray E.T).cell]
    simpa using hj) hlen (by simp; omega)
  unfold Oper.wp execOp
  simp only [ho, resolve, invoke, builtin, Sem.run_bind, Sem.run_pure, Result.andThen_ok, List.map_toArray, List.map_cons, List.map_nil, hs, hx, hr]
  refine hK _ _ (h v' w' h2 (grown_alloc h3) ?_ (((Below.refl base w0).alloc hb _).grown h3 (by simp; omega) (fun k hk => (hown.lt k hk).1)))
  rcases h4 with e | e
  · exact .inl e
  · exact .inr ⟨_, e, by simp⟩
end

end Go.Proofs.Ytlommgljkjkmkaa.Gn
