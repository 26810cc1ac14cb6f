/-
  Lines of a sheet in memory: as a slice, and such as a call owns; one line more, many lines more. Conditions: the bounds named in each theorem.
-/
import Derived.Test.YtfgakoldedpfoaaDoorShPlain
import Derived.Test.YtfgakoldedpfoaaDoorRwMem
import Derived.OwnWalk
import Derived.Laws.OwnMore
namespace Go.Proofs.YtfgakoldedpfoaaDoor
open Go.RowKit

theorem Tryd.infoL : (Tryd.prog.info? 54).map (fun i => (i.zero, i.size, i.bytes)) = some (some (.agg #[.string ⟨#[]⟩, .slice none 0 0]), 2, 40) := by kernel_rfl

theorem add_two (a : Addr) (i r : Nat) : a.add (i + r) = (a.add i).add r := by
  unfold Addr.add
  by_cases h1 : i = 0 <;> by_cases h2 : r = 0 <;> simp [h1, h2, Nat.add_assoc]
theorem vcs_one (xs : List V) : ∀ u ∈ vcs xs, u.oneCell' = true := by
  intro u hu
  induction xs with
  | nil => simp [vcs] at hu
  | cons c cs ih =>
    rw [vcs, List.mem_append] at hu
    rcases hu with hu | hu
    · simp [V.cells] at hu; rcases hu with rfl | rfl | rfl | rfl <;> rfl
    · exact ih hu
/-- The cells of a slice of values, one behind the other. -/
theorem Sl.cell {W : World} {a : Addr} {xs : List V} (h : Sl W (some a) xs) (j : Nat) (u : Value) (hj : (vcs xs)[j]? = some u) : W.cell? (a.add j) = some u := by
  have hl : j < xs.length * 4 := by
    have := (List.getElem?_eq_some_iff.1 hj).1
    rwa [vcs_len] at this
  obtain ⟨i, r, rfl, hr⟩ : ∃ i r, j = i * 4 + r ∧ r < 4 := ⟨j / 4, j % 4, by omega, by omega⟩
  have hi : i < xs.length := by omega
  obtain ⟨a', ha, h0, h1, h2, h3⟩ := h i xs[i] (List.getElem?_eq_getElem hi)
  obtain rfl := Option.some.inj ha
  rw [vcs_at xs i xs[i] r (List.getElem?_eq_getElem hi) hr] at hj
  have e : a.add (i * 4 + r) = (a.add (i * 4)).add r := add_two a (i * 4) r
  rw [e]
  have c : r = 0 ∨ r = 1 ∨ r = 2 ∨ r = 3 := by omega
  rcases c with rfl | rfl | rfl | rfl
  · simp [V.cells] at hj; subst hj; exact h0
  · simp [V.cells] at hj; subst hj; exact h1
  · simp [V.cells] at hj; subst hj; exact h2
  · simp [V.cells] at hj; subst hj; exact h3
/-- A line as memory holds it: its row lies at ao. -/
structure LV where
  k : Nm.S
  xs : List V
  ao : Option Addr
  cap : Nat
def LV.l (z : LV) : L := ⟨z.k, z.xs⟩
def LV.cells (z : LV) : List Value := [.string ⟨z.k.toArray⟩, .slice z.ao z.xs.length z.cap]
def lls (zs : List LV) : List L := zs.map LV.l
theorem lls_len (zs : List LV) : (lls zs).length = zs.length := by simp [lls]
theorem lls_append (a b : List LV) : lls (a ++ b) = lls a ++ lls b := by simp [lls]
theorem lls_at {zs : List LV} {j : Nat} (h : j < zs.length) : (lls zs)[j]'(by rw [lls_len]; exact h) = zs[j].l := by simp [lls]
def AtL (W : World) (p : Addr) (z : LV) : Prop := W.cell? p = some (.string ⟨z.k.toArray⟩) ∧ W.cell? ⟨p.block, p.off + 1, none⟩ = some (.slice z.ao z.xs.length z.cap)
def SlL (W : World) (ao : Option Addr) (zs : List LV) : Prop := ∀ (i : Nat) (z : LV), zs[i]? = some z → ∃ a, ao = some a ∧ AtL W (a.add (i * 2)) z
/-- Their rows lie in memory, and keep a value's bounds. -/
def InL (W : World) (zs : List LV) : Prop := ∀ z ∈ zs, Sl W z.ao z.xs ∧ z.xs.length ≤ z.cap ∧ (z.ao = none → z.cap = 0) ∧ ∀ x ∈ z.xs, x.ok
theorem SlL.below {W W' : World} {ao : Option Addr} {zs : List LV} (h : SlL W ao zs) (hb : Below W.heap.size W W') : SlL W' ao zs := by
  intro i c hi
  obtain ⟨a, ha, h0, h1⟩ := h i c hi
  exact ⟨a, ha, keep0 h0 hb, keep0 h1 hb⟩
theorem SlL.nil (W : World) (ao : Option Addr) : SlL W ao [] := fun i x h => by simp at h
theorem SlL.take {W : World} {ao : Option Addr} {zs : List LV} (h : SlL W ao zs) (n : Nat) : SlL W ao (zs.take n) := fun i z hi => h i z (by
  rw [List.getElem?_take] at hi
  split at hi
  · exact hi
  · cases hi)
theorem add_line (a : Addr) (n i : Nat) : (a.add (n * 2)).add (i * 2) = a.add ((n + i) * 2) := by
  rw [← add_two, ← Nat.add_mul]
theorem SlL.drop {W : World} {a : Addr} {zs : List LV} (h : SlL W (some a) zs) (n : Nat) : SlL W (some (a.add (n * 2))) (zs.drop n) := fun i z hi => by
  rw [List.getElem?_drop] at hi
  obtain ⟨a', ha, h0⟩ := h (n + i) z hi
  obtain rfl := Option.some.inj ha
  exact ⟨_, rfl, by rw [add_line]; exact h0⟩
theorem InL.below {W W' : World} {zs : List LV} (h : InL W zs) (hb : Below W.heap.size W W') : InL W' zs := fun z hz => ⟨(h z hz).1.below hb, (h z hz).2⟩
theorem InL.nil (W : World) : InL W [] := fun z hz => by simp at hz
theorem InL.append {W : World} {a b : List LV} (h : InL W a) (g : InL W b) : InL W (a ++ b) := fun z hz => by
  rcases List.mem_append.1 hz with hz | hz
  · exact h z hz
  · exact g z hz
theorem InL.sub {W : World} {a b : List LV} (h : InL W a) (g : ∀ z ∈ b, z ∈ a) : InL W b := fun z hz => h z (g z hz)
def lcs : List LV → List Value
  | [] => []
  | x :: xs => x.cells ++ lcs xs
theorem lcs_append (a b : List LV) : lcs (a ++ b) = lcs a ++ lcs b := by
  induction a with
  | nil => rfl
  | cons x a ih => simp [lcs, ih]
theorem lcs_len (a : List LV) : (lcs a).length = a.length * 2 := by
  induction a with
  | nil => rfl
  | cons x a ih => rw [lcs, List.length_append, ih]; simp [LV.cells]; omega
theorem lcs_at : ∀ (xs : List LV) (i : Nat) (x : LV) (j : Nat), xs[i]? = some x → j < 2 → (lcs xs)[i * 2 + j]? = x.cells[j]?
  | [], i, x, j, h, _ => by simp at h
  | y :: xs, 0, x, j, h, hj => by
    obtain rfl : y = x := by simpa using h
    rw [lcs, List.getElem?_append_left (by simp [LV.cells]; omega)]; simp
  | y :: xs, i + 1, x, j, h, hj => by
    rw [lcs, List.getElem?_append_right (by simp [LV.cells]; omega), show (i + 1) * 2 + j - y.cells.length = i * 2 + j by simp [LV.cells]; omega]
    exact lcs_at xs i x j (by simpa using h) hj
theorem lcs_one (xs : List LV) : ∀ u ∈ lcs xs, u.oneCell' = true := by
  intro u hu
  induction xs with
  | nil => simp [lcs] at hu
  | cons c cs ih =>
    rw [lcs, List.mem_append] at hu
    rcases hu with hu | hu
    · simp [LV.cells] at hu; rcases hu with rfl | rfl <;> rfl
    · exact ih hu
/-- The cells of a slice of lines, one behind the other. -/
theorem SlL.cell {W : World} {a : Addr} {zs : List LV} (h : SlL W (some a) zs) (j : Nat) (u : Value) (hj : (lcs zs)[j]? = some u) : W.cell? (a.add j) = some u := by
  have hl : j < zs.length * 2 := by
    have := (List.getElem?_eq_some_iff.1 hj).1
    rwa [lcs_len] at this
  obtain ⟨i, r, rfl, hr⟩ : ∃ i r, j = i * 2 + r ∧ r < 2 := ⟨j / 2, j % 2, by omega, by omega⟩
  have hi : i < zs.length := by omega
  obtain ⟨a', ha, h0, h1⟩ := h i zs[i] (List.getElem?_eq_getElem hi)
  obtain rfl := Option.some.inj ha
  rw [lcs_at zs i zs[i] r (List.getElem?_eq_getElem hi) hr] at hj
  have e : a.add (i * 2 + r) = (a.add (i * 2)).add r := add_two a (i * 2) r
  rw [e]
  have c : r = 0 ∨ r = 1 := by omega
  rcases c with rfl | rfl
  · simp [LV.cells] at hj; subst hj; exact h0
  · simp [LV.cells] at hj; subst hj; exact h1
theorem SlL.none {W : World} {zs : List LV} (h : SlL W none zs) : zs = [] := by
  cases zs with
  | nil => rfl
  | cons c cs =>
    obtain ⟨a, ha, _⟩ := h 0 c rfl
    cases ha

/-- Lines that a call owns. -/
def OwL (w : World) (base : Nat) (v : Value) (zs : List LV) : Prop := w.ownsRow base 54 2 v zs.length (lcs zs)
theorem owl_nil (w : World) (base : Nat) : OwL w base (.slice none 0 0) [] := World.ownsRow_nil _ _ _ _
theorem OwL.keep {w w' : World} {b : Nat} {v : Value} {l : List LV} (h : OwL w b v l) (hb : Below w.heap.size w w') : OwL w' b v l := by
  refine ⟨h.1, ?_⟩
  rcases h.2 with hn | ⟨g, cap, cur, hv, hbg, hg, rest⟩
  · exact .inl hn
  · exact .inr ⟨g, cap, cur, hv, hbg, (hb.block g (Array.getElem?_eq_some_iff.1 hg).1).trans hg, rest⟩
theorem OwL.base {w : World} {b b' : Nat} {v : Value} {l : List LV} (h : OwL w b v l) (hb : b' ≤ b) : OwL w b' v l := by
  refine ⟨h.1, ?_⟩
  rcases h.2 with hn | ⟨g, cap, cur, hv, hbg, rest⟩
  · exact .inl hn
  · exact .inr ⟨g, cap, cur, hv, Nat.le_trans hb hbg, rest⟩
theorem OwL.sl {w : World} {b : Nat} {v : Value} {zs : List LV} (h : OwL w b v zs) : ∃ ao cap, v = .slice ao zs.length cap ∧ zs.length ≤ cap ∧ SlL w ao zs := by
  have h' := h
  rcases h.2 with ⟨hv, hn⟩ | ⟨g, cap, cur, hv, _, hg, h1, h2, h3, h4⟩
  · have e := List.eq_nil_of_length_eq_zero hn
    subst e
    exact ⟨none, 0, hv, Nat.le_refl _, fun i x hi => by simp at hi⟩
  · refine ⟨some ⟨g, 0, none⟩, cap, hv, ?_, fun i x hi => ⟨⟨g, 0, none⟩, rfl, ?_⟩⟩
    · first | exact h1 | omega
    · have c : ∀ j u, j < 2 → x.cells[j]? = some u → w.cell? ⟨g, i * 2 + j, none⟩ = some u := fun j u hj hu => by
        have := World.ownsRow.cells h' (g := g) (by rw [hv]; rfl) (i * 2 + j) u ((lcs_at zs i x j hi hj).trans hu)
        rwa [add_none] at this
      rw [add_none]
      exact ⟨c 0 _ (by decide) rfl, c 1 _ (by decide) rfl⟩
theorem OwL.slv {w : World} {b n cap : Nat} {ao : Option Addr} {l : List LV} (h : OwL w b (.slice ao n cap) l) : SlL w ao l := by
  obtain ⟨_, _, e, _, hsl⟩ := h.sl
  injection e with e1 _ _
  rw [e1]
  exact hsl
section
variable {ops : Array Oper} {rest : List Oper} {o : Oper} {a : Act} {Q : Exit → Act → World → Prop}
/-- Many lines more. -/
theorem appLs (hgd : o.guard = none) (s x : Operand) (ho : o.op = .call { callee := .builtin .append, args := #[s, x], argTypes := #[25, 25] })
    (base : Nat) (v : Value) (l zs : List LV) (w : World) (hs : a.eval s = v) (hown : OwL w base v l) (ao : Option Addr) (n cap : Nat) (hx : a.eval x = .slice ao n cap) (hn : n = zs.length) (hz : SlL w ao zs) (hnone : ao = none → cap = 0)
    (hlen : l.length + zs.length ≤ 1000000) (hb : base ≤ w.heap.size)
    (h : ∀ v' w', OwL w' base v' (l ++ zs) → Below base w w' → w.grownBy w' v.ownBlock → (v'.ownBlock = v.ownBlock ∨ v'.ownBlock = some w.heap.size) → wpList Tryd.prog ops Q rest (a.put o.dst v') w') : wpList Tryd.prog ops Q (o :: rest) a w := by
  subst hn
  obtain ⟨i0, hi, hz0, hz1, hz2⟩ := info_parts Tryd.infoL
  cases ao with
  | none =>
    obtain rfl := hz.none
    obtain rfl := hnone rfl
    have hr := run_append_owned_none (P := Tryd.prog) (w := w) base 25 o.type 54 i0 2 Tryd.underlying25 hi v _ _ hown
    refine wpList_plain hgd fun K hK' => ?_
    unfold Oper.wp execOp
    simp only [ho, resolve, invoke, builtin, Sem.run_bind, Sem.run_pure, Result.andThen_ok, List.map_toArray, List.map_cons, List.map_nil, hs, hx, List.length_nil, hr]
    exact hK' _ _ (h v w (by rw [List.append_nil]; exact hown) (Below.refl _ _) (World.grownBy.refl _ _) (.inl rfl))
  | some ad =>
    refine wpList_append_own_at _ hgd s x 25 ho base 54 i0 _ 2 40 Tryd.underlying25 hi hz0 hz1 hz2 rfl (by decide) v _ _ hs hown ad zs.length cap (lcs zs) hx (lcs_len zs) (fun j u hj => hz.cell j u hj) (lcs_one zs) (by unfold maxLen; omega) (by omega) hb ?_
    intro v' w' hown' hgrow _ hbk
    refine h v' w' ?_ ((Below.refl base w).grown hgrow hb (fun k hk => (World.ownsRow.lt hown k hk).1)) hgrow hbk
    unfold OwL
    rw [List.length_append, lcs_append]
    exact hown'
end

/-! ### A slice of lines with their rows -/
def LS (W : World) (zs : List LV) (ao : Option Addr) (cap : Nat) : Prop := SlL W ao zs ∧ InL W zs ∧ zs.length ≤ cap ∧ (ao = none → cap = 0)
theorem LS.below {W W' : World} {zs : List LV} {ao : Option Addr} {cap : Nat} (h : LS W zs ao cap) (hb : Below W.heap.size W W') : LS W' zs ao cap := ⟨h.1.below hb, h.2.1.below hb, h.2.2⟩
theorem LS.nil (W : World) : LS W [] none 0 := ⟨SlL.nil _ _, InL.nil _, Nat.le_refl _, fun _ => rfl⟩
theorem LS.take {W : World} {zs : List LV} {ao : Option Addr} {cap : Nat} (h : LS W zs ao cap) (n : Nat) : LS W (zs.take n) ao cap :=
  ⟨h.1.take n, h.2.1.sub fun z hz => List.mem_of_mem_take hz, by have := h.2.2.1; rw [List.length_take]; omega, h.2.2.2⟩
/-- The address of what lies behind a cut. -/
def cuta (ao : Option Addr) (cap i s : Nat) : Option Addr := if cap = i then ao else ao.map (·.add (i * s))
theorem LS.drop {W : World} {zs : List LV} {ao : Option Addr} {cap : Nat} (h : LS W zs ao cap) (i : Nat) (hi : i ≤ zs.length) : LS W (zs.drop i) (cuta ao cap i 2) (cap - i) := by
  obtain ⟨h1, h2, h3, h4⟩ := h
  refine ⟨?_, h2.sub fun z hz => List.mem_of_mem_drop hz, by rw [List.length_drop]; omega, fun hn => ?_⟩
  · unfold cuta
    split
    · rw [List.drop_of_length_le (by omega)]; exact SlL.nil _ _
    · cases ao with
      | none => rw [h1.none, List.drop_nil]; exact SlL.nil _ _
      | some a => exact h1.drop i
  · unfold cuta at hn
    split at hn
    · omega
    · cases ao with
      | none => rw [h4 rfl]; omega
      | some a => cases hn
theorem InL.at {W : World} {zs : List LV} (h : InL W zs) {j : Nat} (hj : j < zs.length) : Sl W zs[j].ao zs[j].xs ∧ zs[j].xs.length ≤ zs[j].cap ∧ (zs[j].ao = none → zs[j].cap = 0) ∧ ∀ x ∈ zs[j].xs, x.ok := h _ (List.getElem_mem hj)
theorem OwL.ls {W : World} {b : Nat} {v : Value} {zs : List LV} (h : OwL W b v zs) (hi : InL W zs) : ∃ ao cap, v = .slice ao zs.length cap ∧ LS W zs ao cap := by
  obtain ⟨ao, cap, hv, h1, h2⟩ := h.sl
  refine ⟨ao, cap, hv, h2, hi, h1, fun hn => ?_⟩
  subst hn
  rcases h.2 with ⟨hv', _⟩ | ⟨g, cap', cur, hv', _⟩
  · rw [hv] at hv'; injection hv'
  · rw [hv] at hv'; injection hv' with e _ _; cases e
theorem lcs_row : ∀ (zs : List LV) (j : Nat) (z : LV) (xs : List V) (ao : Option Addr) (cap : Nat), zs[j]? = some z → (lcs zs).set (j * 2 + 1) (.slice ao xs.length cap) = lcs (zs.set j ⟨z.k, xs, ao, cap⟩)
  | [], j, z, xs, ao, cap, h => by simp at h
  | y :: zs, 0, z, xs, ao, cap, h => by
    obtain rfl : y = z := by simpa using h
    simp [lcs, LV.cells]
  | y :: zs, j + 1, z, xs, ao, cap, h => by
    have ih := lcs_row zs j z xs ao cap (by simpa using h)
    have hc : y.cells.length = 2 := rfl
    rw [List.set_cons_succ, lcs, lcs, ← ih, List.set_append_right _ _ (by rw [hc]; omega), hc, show (j + 1) * 2 + 1 - 2 = j * 2 + 1 by omega]
/-- Another row in a line's place. -/
theorem OwL.row {w : World} {b g n cap : Nat} {ys : List LV} (h : OwL w b (.slice (some ⟨g, 0, none⟩) n cap) ys) (hn : n = ys.length) (j : Nat) (z : LV) (hj : ys[j]? = some z) (xs : List V) (ao : Option Addr) (c : Nat) :
    OwL (w.setCell ⟨g, j * 2 + 1, none⟩ (.slice ao xs.length c)) b (.slice (some ⟨g, 0, none⟩) n cap) (ys.set j ⟨z.k, xs, ao, c⟩) ∧ b ≤ g ∧ g < w.heap.size ∧ (∀ i, w.frozen? ⟨g, i, none⟩ = false) ∧ w.grownBy (w.setCell ⟨g, j * 2 + 1, none⟩ (.slice ao xs.length c)) (some g) := by
  subst hn
  unfold OwL at h ⊢
  have h1 := World.ownsRow.stored h (j * 2 + 1) (.slice ao xs.length c)
  have l := World.ownsRow.lt h g rfl
  rw [List.length_set, ← lcs_row ys j z xs ao c hj]
  exact ⟨h1.1, l.1, l.2, fun i => World.ownsRow.frozenAt h i, h1.2⟩
theorem OwL.kept {w w' : World} {row : Option Nat} {b : Nat} {v : Value} {l : List LV} (h : OwL w b v l) (hg : w.grownBy w' row) (hr : ∀ g cur fz, row = some g → w.heap[g]? ≠ some (.cells cur 54 fz)) : OwL w' b v l := by
  refine ⟨h.1, ?_⟩
  rcases h.2 with hn | ⟨k, cap, cur, hv, hbg, hk, rest⟩
  · exact .inl hn
  · exact .inr ⟨k, cap, cur, hv, hbg, (hg.block k (Array.getElem?_eq_some_iff.1 hk).1 (fun e => hr k cur _ e.symm hk)).trans hk, rest⟩
theorem OwL.apart {w w' : World} {row : Option Nat} {b : Nat} {v : Value} {l : List LV} (h : OwL w b v l) (hg : w.grownBy w' row) (hr : ∀ k, v.ownBlock = some k → row ≠ some k) : OwL w' b v l := by
  refine ⟨h.1, ?_⟩
  rcases h.2 with hn | ⟨k, cap, cur, hv, hbg, hk, rest⟩
  · exact .inl hn
  · exact .inr ⟨k, cap, cur, hv, hbg, (hg.block k (Array.getElem?_eq_some_iff.1 hk).1 (fun e => hr k (by rw [hv]; rfl) e.symm)).trans hk, rest⟩
theorem OwV.apart {w w' : World} {row : Option Nat} {b : Nat} {v : Value} {l : List V} (h : OwV w b v l) (hg : w.grownBy w' row) (hr : ∀ k, v.ownBlock = some k → row ≠ some k) : OwV w' b v l := by
  refine ⟨h.1, ?_⟩
  rcases h.2 with hn | ⟨k, cap, cur, hv, hbg, hk, rest⟩
  · exact .inl hn
  · exact .inr ⟨k, cap, cur, hv, hbg, (hg.block k (Array.getElem?_eq_some_iff.1 hk).1 (fun e => hr k (by rw [hv]; rfl) e.symm)).trans hk, rest⟩
theorem OwR.store {w : World} {b g n cap : Nat} {zs : List RV} (h : OwR w b (.slice (some ⟨g, 0, none⟩) n cap) zs) (hn : n = zs.length) (j : Nat) (z : RV) :
    OwR (w.setCell ⟨g, j, none⟩ (.slice z.ao z.xs.length z.cap)) b (.slice (some ⟨g, 0, none⟩) n cap) (zs.set j z) ∧ b ≤ g ∧ g < w.heap.size ∧ (∀ i, w.frozen? ⟨g, i, none⟩ = false) ∧ w.grownBy (w.setCell ⟨g, j, none⟩ (.slice z.ao z.xs.length z.cap)) (some g) := by
  subst hn
  unfold OwR at h ⊢
  have h1 := World.ownsRow.stored h j (.slice z.ao z.xs.length z.cap)
  have l := World.ownsRow.lt h g rfl
  rw [List.length_set, List.map_set]
  exact ⟨h1.1, l.1, l.2, fun i => World.ownsRow.frozenAt h i, h1.2⟩
def RV0 : RV := ⟨[], none, 0⟩
theorem rcs_made (n : Nat) : (madeCells (Value.slice none 0 0).cells (n * 1)).toList = (List.replicate n RV0).map RV.val := by
  have hz : (Value.slice none 0 0).cells = #[.slice none 0 0] := by simp [Value.cells]
  rw [hz, Nat.mul_one, toList_madeCells_one, List.map_replicate]; rfl

/-! ### A row that lies in a block of values -/
def InG (g : Nat) (l : List V) (y : LV) : Prop := ∃ off p, off + y.xs.length ≤ l.length ∧ y.xs = (l.drop off).take y.xs.length ∧ y.ao = some ⟨g, p, none⟩ ∧ (y.xs = [] ∨ p = off * 4) ∧ y.cap = y.xs.length
theorem InG.more {g : Nat} {l : List V} {y : LV} (h : InG g l y) (m : List V) : InG g (l ++ m) y := by
  obtain ⟨off, p, h1, h2, h3, h4, h5⟩ := h
  refine ⟨off, p, by rw [List.length_append]; omega, ?_, h3, h4, h5⟩
  rw [List.drop_append_of_le_length (by omega), List.take_append_of_le_length (by rw [List.length_drop]; omega)]
  exact h2
theorem InG.new (g : Nat) (l : List V) (k : Nm.S) (xs : List V) : InG g (l ++ xs) ⟨k, xs, if xs = [] then some ⟨g, 0, none⟩ else some ⟨g, l.length * 4, none⟩, xs.length⟩ := by
  by_cases h : xs = []
  · rw [if_pos h]
    exact ⟨l.length, 0, by rw [List.length_append]; exact Nat.le_refl _, by simp, rfl, .inl h, rfl⟩
  · rw [if_neg h]
    exact ⟨l.length, l.length * 4, by rw [List.length_append]; exact Nat.le_refl _, by simp, rfl, .inr rfl, rfl⟩
theorem InG.fit {g b n c : Nat} {l : List V} {y : LV} {W : World} (h : InG g l y) (hO : OwV W b (.slice (some ⟨g, 0, none⟩) n c) l) (hok : ∀ x ∈ l, x.ok) : Sl W y.ao y.xs ∧ y.xs.length ≤ y.cap ∧ (y.ao = none → y.cap = 0) ∧ ∀ x ∈ y.xs, x.ok := by
  obtain ⟨off, p, h1, h2, h3, h4, h5⟩ := h
  refine ⟨fun i x hi => ?_, by omega, fun hn => (by rw [h3] at hn; cases hn), fun x hx => ?_⟩
  · rcases h4 with h4 | rfl
    · rw [h4] at hi; simp at hi
    · refine ⟨_, h3, ?_⟩
      have hil := (List.getElem?_eq_some_iff.1 hi).1
      have e : l[off + i]? = some x := by
        rw [h2, List.getElem?_take_of_lt hil, List.getElem?_drop] at hi
        exact hi
      have := hO.at (off + i) x e
      have ha : (⟨g, off * 4, none⟩ : Addr).add (i * 4) = ⟨g, (off + i) * 4, none⟩ := by
        rw [← add_none g (off * 4), ← add_two, ← Nat.add_mul, add_none]
      rw [ha]
      exact this
  · rw [h2] at hx
    exact hok x (List.mem_of_mem_drop (List.mem_of_mem_take hx))
/-! ### Lines that lie from a block on: a store elsewhere -/
def LB (b : Nat) (zs : List LV) (ao : Option Addr) : Prop := (∀ a, ao = some a → b ≤ a.block) ∧ ∀ z ∈ zs, ∀ a, z.ao = some a → b ≤ a.block
theorem LB.mono {b b' : Nat} {zs : List LV} {ao : Option Addr} (h : LB b zs ao) (hb : b' ≤ b) : LB b' zs ao := ⟨fun a ha => Nat.le_trans hb (h.1 a ha), fun z hz a ha => Nat.le_trans hb (h.2 z hz a ha)⟩
theorem add_block (a : Addr) (n : Nat) : (a.add n).block = a.block := by unfold Addr.add; split <;> rfl
theorem cell_off {W : World} {p : Addr} {x : Value} {g : Nat} (i : Nat) (u : Value) (h : W.cell? p = some x) (hne : p.block ≠ g) : (W.setCell ⟨g, i, none⟩ u).cell? p = some x :=
  (World.cell?_of_block (Below.heap_setCell W ⟨g, i, none⟩ u p.block hne)).trans h
theorem LS.off {W : World} {zs : List LV} {ao : Option Addr} {cap b g : Nat} (h : LS W zs ao cap) (hb : LB b zs ao) (hg : g < b) (i : Nat) (u : Value) : LS (W.setCell ⟨g, i, none⟩ u) zs ao cap := by
  obtain ⟨h1, h2, h3⟩ := h
  refine ⟨fun j z hj => ?_, fun z hz => ⟨fun j x hj => ?_, (h2 z hz).2⟩, h3⟩
  · obtain ⟨a, ha, c0, c1⟩ := h1 j z hj
    have hbl := hb.1 a ha
    refine ⟨a, ha, cell_off _ _ c0 (by rw [add_block]; omega), cell_off _ _ c1 (by show (a.add (j * 2)).block ≠ g; rw [add_block]; omega)⟩
  · obtain ⟨a, ha, c0, c1, c2, c3⟩ := (h2 z hz).1 j x hj
    have hbl := hb.2 z hz a ha
    have hne : (a.add (j * 4)).block ≠ g := by rw [add_block]; omega
    exact ⟨a, ha, cell_off _ _ c0 hne, cell_off _ _ c1 hne, cell_off _ _ c2 hne, cell_off _ _ c3 hne⟩
theorem OwL.off {w : World} {b g : Nat} {v : Value} {l : List LV} (h : OwL w b v l) (i : Nat) (u : Value) (hg : g < b) : OwL (w.setCell ⟨g, i, none⟩ u) b v l := by
  refine ⟨h.1, ?_⟩
  rcases h.2 with hn | ⟨k, cap, cur, hv, hbg, hk, rest⟩
  · exact .inl hn
  · exact .inr ⟨k, cap, cur, hv, hbg, (Below.heap_setCell w ⟨g, i, none⟩ u k (by simp; omega)).trans hk, rest⟩
theorem OwC.off {w : World} {b g : Nat} {v : Value} {l : List C} (h : OwC w b v l) (i : Nat) (u : Value) (hg : g < b) : OwC (w.setCell ⟨g, i, none⟩ u) b v l := by
  refine ⟨h.1, ?_⟩
  rcases h.2 with hn | ⟨k, cap, cur, hv, hbg, hk, rest⟩
  · exact .inl hn
  · exact .inr ⟨k, cap, cur, hv, hbg, (Below.heap_setCell w ⟨g, i, none⟩ u k (by simp; omega)).trans hk, rest⟩
theorem Blk.frozen {W : World} {B : Nat} {cs : Array Value} {t : TypeId} (h : Blk W B cs t) (i : Nat) : W.frozen? ⟨B, i, none⟩ = false := by simp [World.frozen?, show W.heap[B]? = _ from h]
theorem Blk.setAt {W : World} {B : Nat} {cs : Array Value} {t : TypeId} (i : Nat) (u : Value) (h : Blk W B cs t) : Blk (W.setCell ⟨B, i, none⟩ u) B (cs.setIfInBounds i u) t := by
  obtain ⟨hlt, hk⟩ := Array.getElem?_eq_some_iff.1 h
  show (W.heap.modify B _)[B]? = _
  rw [Array.getElem?_eq_getElem (by rw [Array.size_modify]; exact hlt), Array.getElem_modify_self, hk]
  rfl
theorem Blk.otherAt {W : World} {B B' : Nat} {cs : Array Value} {t : TypeId} (h : Blk W B cs t) (hne : B ≠ B') (i : Nat) (u : Value) : Blk (W.setCell ⟨B', i, none⟩ u) B cs t :=
  (Below.heap_setCell W ⟨B', i, none⟩ u B hne).trans h
theorem Blk.s4 {W : World} {B : Nat} {u0 u1 u2 u3 : Value} {t : TypeId} (h : Blk W B #[u0, u1, u2, u3] t) :
    (W.cell? ⟨B, 0, none⟩ = some u0 ∧ W.cell? ⟨B, 1, none⟩ = some u1 ∧ W.cell? ⟨B, 2, none⟩ = some u2 ∧ W.cell? ⟨B, 3, none⟩ = some u3) ∧ W.frozen? ⟨B, 0, none⟩ = false ∧ W.frozen? ⟨B, 1, none⟩ = false ∧ W.frozen? ⟨B, 2, none⟩ = false ∧ W.frozen? ⟨B, 3, none⟩ = false :=
  ⟨⟨h.cell 0, h.cell 1, h.cell 2, h.cell 3⟩, h.frozen 0, h.frozen 1, h.frozen 2, h.frozen 3⟩
/-- Four stores into a block of the call's own. -/
def st4 (W : World) (B : Nat) (a b c d : Value) : World := (((W.setCell ⟨B, 0, none⟩ a).setCell ⟨B, 1, none⟩ b).setCell ⟨B, 2, none⟩ c).setCell ⟨B, 3, none⟩ d
theorem below_st4 {b : Nat} {w W : World} {B : Nat} (h : Below b w W) (hB : b ≤ B) (u0 u1 u2 u3 : Value) : Below b w (st4 W B u0 u1 u2 u3) :=
  (((h.setCell (p := ⟨B, 0, none⟩) hB u0).setCell (p := ⟨B, 1, none⟩) hB u1).setCell (p := ⟨B, 2, none⟩) hB u2).setCell (p := ⟨B, 3, none⟩) hB u3
theorem LS.off4 {W : World} {zs : List LV} {ao : Option Addr} {cap b g : Nat} (h : LS W zs ao cap) (hb : LB b zs ao) (hg : g < b) (u0 u1 u2 u3 : Value) : LS (st4 W g u0 u1 u2 u3) zs ao cap :=
  (((h.off hb hg 0 u0).off hb hg 1 u1).off hb hg 2 u2).off hb hg 3 u3
theorem OwL.off4 {W : World} {b g : Nat} {v : Value} {l : List LV} (h : OwL W b v l) (hg : g < b) (u0 u1 u2 u3 : Value) : OwL (st4 W g u0 u1 u2 u3) b v l := (((h.off 0 u0 hg).off 1 u1 hg).off 2 u2 hg).off 3 u3 hg
theorem OwC.off4 {W : World} {b g : Nat} {v : Value} {l : List C} (h : OwC W b v l) (hg : g < b) (u0 u1 u2 u3 : Value) : OwC (st4 W g u0 u1 u2 u3) b v l := (((h.off 0 u0 hg).off 1 u1 hg).off 2 u2 hg).off 3 u3 hg
theorem Blk.put4 {W : World} {B : Nat} {v0 v1 v2 v3 : Value} {t : TypeId} (h : Blk W B #[v0, v1, v2, v3] t) (u0 u1 u2 u3 : Value) : Blk (st4 W B u0 u1 u2 u3) B #[u0, u1, u2, u3] t := by
  have := (((h.setAt 0 u0).setAt 1 u1).setAt 2 u2).setAt 3 u3
  simpa [st4] using this
theorem Blk.off4 {W : World} {B B' : Nat} {cs : Array Value} {t : TypeId} (h : Blk W B cs t) (hne : B ≠ B') (u0 u1 u2 u3 : Value) : Blk (st4 W B' u0 u1 u2 u3) B cs t :=
  (((h.otherAt hne 0 u0).otherAt hne 1 u1).otherAt hne 2 u2).otherAt hne 3 u3

end Go.Proofs.YtfgakoldedpfoaaDoor
