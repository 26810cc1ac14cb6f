/-
  Rows of values that a call owns: made, a value more, a value stored. Condition: the bounds named in each theorem.
-/
import Derived.Test.YtfgakoldedpfoaaDoorKcVals
import Derived.Test.YtfgakoldedpfoaaDoorNmCheck
import Derived.Laws.OwnMore
import Derived.OwnWalk
namespace Go.Proofs.YtfgakoldedpfoaaDoor
open Go.RowKit

theorem Tryd.infoV : (Tryd.prog.info? 68).map (fun i => (i.zero, i.size, i.bytes)) = some (some (.agg #[.int .i64 0, .int .i64 0, .int .u64 0, .string ⟨#[]⟩]), 4, 40) := by kernel_rfl

/-- The cells of values. -/
def vcs : List V → List Value
  | [] => []
  | x :: xs => x.cells ++ vcs xs
theorem vcs_append (a b : List V) : vcs (a ++ b) = vcs a ++ vcs b := by
  induction a with
  | nil => rfl
  | cons x a ih => simp [vcs, ih]
theorem vcs_len (a : List V) : (vcs a).length = a.length * 4 := by
  induction a with
  | nil => rfl
  | cons x a ih => rw [vcs, List.length_append, ih]; simp [V.cells]; omega
theorem vcs_at : ∀ (xs : List V) (i : Nat) (x : V) (j : Nat), xs[i]? = some x → j < 4 → (vcs xs)[i * 4 + j]? = x.cells[j]?
  | [], i, x, j, h, _ => by simp at h
  | y :: xs, 0, x, j, h, hj => by
    obtain rfl : y = x := by simpa using h
    rw [vcs, List.getElem?_append_left (by simp [V.cells]; omega)]; simp
  | y :: xs, i + 1, x, j, h, hj => by
    rw [vcs, List.getElem?_append_right (by simp [V.cells]; omega), show (i + 1) * 4 + j - y.cells.length = i * 4 + j by simp [V.cells]; omega]
    exact vcs_at xs i x j (by simpa using h) hj
theorem vcs_set : ∀ (xs : List V) (j : Nat) (x : V), j < xs.length → ((((vcs xs).set (j * 4) (.int .i64 x.k)).set (j * 4 + 1) (.int .i64 x.n)).set (j * 4 + 2) (.int .u64 x.b)).set (j * 4 + 3) (.string ⟨x.s.toArray⟩) = vcs (xs.set j x)
  | [], j, x, h => by simp at h
  | y :: xs, 0, x, _ => by simp [vcs, V.cells]
  | y :: xs, j + 1, x, h => by
    have ih := vcs_set xs j x (by simpa using h)
    have hc : y.cells.length = 4 := rfl
    rw [List.set_cons_succ, vcs, vcs, ← ih]
    rw [List.set_append_right _ _ (by rw [hc]; omega), List.set_append_right _ _ (by rw [hc]; omega), List.set_append_right _ _ (by rw [hc]; omega), List.set_append_right _ _ (by rw [hc]; omega), hc]
    rw [show (j + 1) * 4 - 4 = j * 4 by omega, show (j + 1) * 4 + 1 - 4 = j * 4 + 1 by omega, show (j + 1) * 4 + 2 - 4 = j * 4 + 2 by omega, show (j + 1) * 4 + 3 - 4 = j * 4 + 3 by omega]

/-- A row of values that a call owns. -/
def OwV (w : World) (base : Nat) (v : Value) (xs : List V) : Prop := w.ownsRow base 68 4 v xs.length (vcs xs)
theorem owv_nil (w : World) (base : Nat) : OwV w base (.slice none 0 0) [] := World.ownsRow_nil _ _ _ _
theorem OwV.keep {w w' : World} {b : Nat} {v : Value} {l : List V} (h : OwV w b v l) (hb : Below w.heap.size w w') : OwV w' b v l := by
  refine ⟨h.1, ?_⟩
  rcases h.2 with hn | ⟨g, cap, cur, hv, hbg, hg, rest⟩
  · exact .inl hn
  · exact .inr ⟨g, cap, cur, hv, hbg, (hb.block g (Array.getElem?_eq_some_iff.1 hg).1).trans hg, rest⟩
theorem OwV.base {w : World} {b b' : Nat} {v : Value} {l : List V} (h : OwV w b v l) (hb : b' ≤ b) : OwV w b' v l := by
  refine ⟨h.1, ?_⟩
  rcases h.2 with hn | ⟨g, cap, cur, hv, hbg, rest⟩
  · exact .inl hn
  · exact .inr ⟨g, cap, cur, hv, Nat.le_trans hb hbg, rest⟩
theorem OwV.sl {w : World} {b : Nat} {v : Value} {xs : List V} (h : OwV w b v xs) : ∃ ao cap, v = .slice ao xs.length cap ∧ xs.length ≤ cap ∧ Sl w ao xs := by
  have h' := h
  rcases h.2 with ⟨hv, hn⟩ | ⟨g, cap, cur, hv, _, hg, h1, h2, h3, h4⟩
  · have e := List.eq_nil_of_length_eq_zero hn
    subst e
    exact ⟨none, 0, hv, Nat.le_refl _, fun i x hi => by simp at hi⟩
  · refine ⟨some ⟨g, 0, none⟩, cap, hv, ?_, fun i x hi => ⟨⟨g, 0, none⟩, rfl, ?_⟩⟩
    · first | exact h1 | omega
    have c : ∀ j u, j < 4 → x.cells[j]? = some u → w.cell? ⟨g, i * 4 + j, none⟩ = some u := fun j u hj hu => by
      have := World.ownsRow.cells h' (g := g) (by rw [hv]; rfl) (i * 4 + j) u ((vcs_at xs i x j hi hj).trans hu)
      rwa [add_none] at this
    rw [add_none]
    exact ⟨c 0 _ (by decide) rfl, c 1 _ (by decide) rfl, c 2 _ (by decide) rfl, c 3 _ (by decide) rfl⟩

/-- The value that is made. -/
def V0 : V := ⟨0, 0, 0, []⟩
theorem vcs_made (n : Nat) : (madeCells (Value.agg #[.int .i64 0, .int .i64 0, .int .u64 0, .string ⟨#[]⟩]).cells (n * 4)).toList = vcs (List.replicate n V0) := by
  have hz : (Value.agg #[.int .i64 0, .int .i64 0, .int .u64 0, .string ⟨#[]⟩]).cells = #[.int .i64 0, .int .i64 0, .int .u64 0, .string ⟨#[]⟩] := by simp [Value.cells]
  apply List.ext_getElem?
  intro m
  by_cases hm : m < n * 4
  · obtain ⟨i, j, rfl, hj⟩ : ∃ i j, m = i * 4 + j ∧ j < 4 := ⟨m / 4, m % 4, by omega, by omega⟩
    have hi : i < n := by omega
    rw [vcs_at (List.replicate n V0) i V0 j (by simp [hi]) hj, hz]
    have e : ∀ z : Array Value, (madeCells z (n * 4)).toList[i * 4 + j]? = some (z[(i * 4 + j) % z.size]!) := fun z => by simp [madeCells, hm]
    rw [e]
    show some ((#[.int .i64 0, .int .i64 0, .int .u64 0, .string ⟨#[]⟩] : Array Value)[(i * 4 + j) % 4]!) = _
    rw [show (i * 4 + j) % 4 = j by omega]
    have c : j = 0 ∨ j = 1 ∨ j = 2 ∨ j = 3 := by omega
    rcases c with rfl | rfl | rfl | rfl <;> rfl
  · rw [List.getElem?_eq_none (by simp [madeCells]; omega), List.getElem?_eq_none (by rw [vcs_len]; simp; omega)]

/-- A value of such a row: its cells, none of them under a mark; and what a store of another leaves. -/
theorem OwV.store {w : World} {b g n cap : Nat} {ys : List V} (h : OwV w b (.slice (some ⟨g, 0, none⟩) n cap) ys) (hn : n = ys.length) (j : Nat) (hj : j < ys.length) (x : V) :
    OwV ((((w.setCell ⟨g, j * 4, none⟩ (.int .i64 x.k)).setCell ⟨g, j * 4 + 1, none⟩ (.int .i64 x.n)).setCell ⟨g, j * 4 + 2, none⟩ (.int .u64 x.b)).setCell ⟨g, j * 4 + 3, none⟩ (.string ⟨x.s.toArray⟩)) b (.slice (some ⟨g, 0, none⟩) n cap) (ys.set j x) ∧
    b ≤ g ∧ g < w.heap.size ∧ (∀ i, w.frozen? ⟨g, i, none⟩ = false) := by
  subst hn
  unfold OwV at h ⊢
  have h1 := World.ownsRow.stored h (j * 4) (.int .i64 x.k)
  have h2 := World.ownsRow.stored h1.1 (j * 4 + 1) (.int .i64 x.n)
  have h3 := World.ownsRow.stored h2.1 (j * 4 + 2) (.int .u64 x.b)
  have h4 := World.ownsRow.stored h3.1 (j * 4 + 3) (.string ⟨x.s.toArray⟩)
  have l := World.ownsRow.lt h g rfl
  rw [List.length_set, ← vcs_set ys j x hj]
  exact ⟨h4.1, l.1, l.2, fun i => World.ownsRow.frozenAt h i⟩
theorem OwV.at {w : World} {b g n cap : Nat} {ys : List V} (h : OwV w b (.slice (some ⟨g, 0, none⟩) n cap) ys) (j : Nat) (y : V) (hj : ys[j]? = some y) :
    w.cell? ⟨g, j * 4, none⟩ = some (.int .i64 y.k) ∧ w.cell? ⟨g, j * 4 + 1, none⟩ = some (.int .i64 y.n) ∧ w.cell? ⟨g, j * 4 + 2, none⟩ = some (.int .u64 y.b) ∧ w.cell? ⟨g, j * 4 + 3, none⟩ = some (.string ⟨y.s.toArray⟩) := by
  have c : ∀ i u, i < 4 → y.cells[i]? = some u → w.cell? ⟨g, j * 4 + i, none⟩ = some u := fun i u hi hu => by
    have := World.ownsRow.cells h (g := g) rfl (j * 4 + i) u ((vcs_at ys j y i hj hi).trans hu)
    rwa [add_none] at this
  exact ⟨c 0 _ (by decide) rfl, c 1 _ (by decide) rfl, c 2 _ (by decide) rfl, c 3 _ (by decide) rfl⟩

section
variable {ops : Array Oper} {rest : List Oper} {o : Oper} {a : Act} {Q : Exit → Act → World → Prop}
/-- A value more. -/
theorem appV (hgd : o.guard = none) (s x : Operand) (ho : o.op = .call { callee := .builtin .append, args := #[s, x], argTypes := #[43, 43] })
    (base : Nat) (v : Value) (l : List V) (b : V) (w0 : World) (hs : a.eval s = v) (hown : OwV w0 base v l)
    (hx : a.eval x = .slice (some ⟨w0.heap.size, 0, none⟩) 1 1) (hlen : l.length ≤ 1000000000) (hb : base ≤ w0.heap.size)
    (h : ∀ v' w', OwV w' base v' (l ++ [b]) → Below base w0 w' → wpList Tryd.prog ops Q rest (a.put o.dst v') w') : wpList Tryd.prog ops Q (o :: rest) a (w0.alloc (.cells #[.int .i64 b.k, .int .i64 b.n, .int .u64 b.b, .string ⟨b.s.toArray⟩] 68)) := by
  obtain ⟨i0, hi, hz0, hz1, hz2⟩ := info_parts Tryd.infoV
  refine wpList_append_own _ hgd s x 43 ho base 68 i0 _ 4 40 Tryd.underlying43 hi hz0 hz1 hz2 rfl (by decide) v _ _ hs (World.ownsRow.alloc hown _) ⟨w0.heap.size, 0, none⟩ 1 1 b.cells hx rfl ?_ ?_ (by unfold maxLen; omega) (by omega) (by simp; omega) ?_
  · intro j u hj
    match j, hj with
    | 0, hj => simp [V.cells] at hj; subst hj; simp [Addr.add]
    | 1, hj => simp [V.cells] at hj; subst hj; simp [Addr.add]
    | 2, hj => simp [V.cells] at hj; subst hj; simp [Addr.add]
    | 3, hj => simp [V.cells] at hj; subst hj; simp [Addr.add]
    | (j + 4), hj => simp [V.cells] at hj
  · intro u hu; simp [V.cells] at hu; rcases hu with rfl | rfl | rfl | rfl <;> rfl
  · intro v' w' hown' hgrow _
    refine h v' w' ?_ (((Below.refl base w0).alloc hb _).grown hgrow (by simp; omega) (fun k hk => (World.ownsRow.lt hown k hk).1))
    unfold OwV
    rw [List.length_append, vcs_append]
    have : vcs [b] = b.cells := by simp [vcs]
    rw [this]; exact hown'

/-- So many values made. -/
theorem makeVals (w : World) (hgd : o.guard = none) (l c : Operand) (ho : o.op = Op.makeSlice 43 l c) (kl kc : IntKind) (L C : Int) (n : Nat) (hl : a.eval l = .int kl L) (hc : a.eval c = .int kc C) (hL : L = (n : Int)) (hC : C = (n : Int)) (hn : n ≤ 1000)
    (h : ∀ g w', w.heap.size = g → OwV w' w.heap.size (.slice (some ⟨g, 0, none⟩) n n) (List.replicate n V0) → Below w.heap.size w w' → wpList Tryd.prog ops Q rest (a.put o.dst (.slice (some ⟨g, 0, none⟩) n n)) w') : wpList Tryd.prog ops Q (o :: rest) a w := by
  obtain ⟨i0, hi, hz0, hz1, hz2⟩ := info_parts Tryd.infoV
  refine wpList_make_full w hgd l c 43 ho w.heap.size 68 i0 _ 4 Tryd.underlying43 hi hz0 hz1 kl kc L C n hl hc hL hC (by rw [hz2]; omega) (by unfold maxLen; omega) (Nat.le_refl _) ?_
  intro w' hown hgr
  refine h _ w' rfl ?_ ((Below.refl _ w).grown hgr (Nat.le_refl _) (fun k hk => by cases hk))
  unfold OwV
  rw [List.length_replicate, ← vcs_made]
  exact hown
end

end Go.Proofs.YtfgakoldedpfoaaDoor
