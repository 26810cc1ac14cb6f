/-
  Rows behind a change as plain mathematics. Conditions: none.
  Rows of values that a call owns: made, a value more, a value stored. Condition: the bounds named in each theorem.
  Rows of rows of values in memory: as slices, and such as a call owns. Conditions: the bounds named in each theorem.
  Lists of rows, and lists of such lists, in memory: as slices, and such as a call owns. Conditions: the bounds named in each theorem.
  Rows with one value less, with another value, one by one. Conditions: none.
-/
import Derived.Test.YtdonmbmahcjfbaaGreatDoorChSrcs
import Derived.Test.YtdonmbmahcjfbaaGreatDoorKcVals
import Derived.Test.YtdonmbmahcjfbaaGreatDoorNmCheck
import Derived.Laws.OwnMore
import Derived.OwnWalk
import Derived.Test.YtdonmbmahcjfbaaGreatDoorScFit
import Derived.Laws.CopyOwn
import Derived.Lib.SlBuf
namespace Go.Proofs.YtdonmbmahcjfbaaGreatDoor
open Go.RowKit

/-- The values of columns behind the key that have one of some names, and of all others, behind the key's. -/
def vsm (cs : List C) (ns : List Nm.S) (K : Nat) (row : List V) : List V := row.take K ++ (((cs.zip row).drop K).filter (fun p => decide (p.1.name ∈ ns))).map (·.2)
def vrs (cs : List C) (ns : List Nm.S) (K : Nat) (row : List V) : List V := row.take K ++ (((cs.zip row).drop K).filter (fun p => decide (p.1.name ∉ ns))).map (·.2)
def V.toE (v : V) (kind : Int) : Int := (Km.Cv.to v.k v.n v.b v.s kind).e
/-- A row without the value of a column; with another one there. -/
def T.rdrp (t : T) (s : Nm.S) (row : List V) : List (List V) × Int :=
  if Nm.fi t.cns s < t.keys then ([], 10) else ([row.eraseIdx (Nm.fi t.cns s).toNat], 0)
def T.vat (t : T) (s : Nm.S) (row : List V) : V := (row[(Nm.fi t.cns s).toNat]?).getD ⟨0, 0, 0, []⟩
def T.rret (t : T) (s : Nm.S) (kind : Int) (row : List V) : List (List V) × Int :=
  if Nm.fi t.cns s < t.keys then ([], 10) else if (t.vat s row).toE kind ≠ 0 then ([], (t.vat s row).toE kind) else ([row.set (Nm.fi t.cns s).toNat ((t.vat s row).to kind)], 0)
/-- What a row becomes, whatever it is. -/
def Ch.rbod (c : Ch) (t : T) (row : List V) : List (List V) × Int :=
  if c.kind = 2 then ([row ++ [c.col.d]], 0) else if c.kind = 3 then t.rdrp c.name row else if c.kind = 4 then t.rret c.name c.type row
  else if c.kind = 5 then ([vsm t.cs c.names t.keys.toNat row, vrs t.cs c.names t.keys.toNat row], 0) else ([row], 0)
def Ch.row (c : Ch) (t : T) (row : List V) : List (List V) × Int :=
  if t.fit row ≠ 0 then ([], t.fit row) else if t.name ∉ c.src then ([], 1) else c.rbod t row
/-- How many rows one row becomes. -/
def kn (k : Int) : Nat := if k = 5 then 2 else if 2 ≤ k ∧ k ≤ 6 then 1 else 0
/-- Of rows, one by one: lists, one for each target; the place and the error of the first that is refused. -/
def rws (c : Ch) (t : T) : List (List V) → Nat → List (List (List V)) → List (List (List V)) × Int × Int
  | [], _, out => (out, 0, 0)
  | x :: l, j, out => if (c.row t x).2 ≠ 0 then ([], j, (c.row t x).2) else rws c t l (j + 1) (List.zipWith (fun o y => o ++ [y]) out (c.row t x).1)
def Ch.rows (c : Ch) (t : T) (l : List (List V)) : List (List (List V)) × Int × Int :=
  if l.length = 0 ∧ kn c.kind = 0 then ([], 0, 1) else rws c t l 0 (List.replicate (kn c.kind) [])

theorem row_bad {c : Ch} {t : T} {row : List V} (h : t.fit row ≠ 0) : c.row t row = ([], t.fit row) := by unfold Ch.row; rw [if_pos h]
theorem row_none {c : Ch} {t : T} {row : List V} (h : t.fit row = 0) (hs : t.name ∉ c.src) : c.row t row = ([], 1) := by unfold Ch.row; rw [if_neg (by simpa using h), if_pos hs]
theorem row_bod {c : Ch} {t : T} {row : List V} (h : t.fit row = 0) (hs : t.name ∈ c.src) : c.row t row = c.rbod t row := by unfold Ch.row; rw [if_neg (by simpa using h), if_neg (by simpa using hs)]
theorem src_kind {c : Ch} {s : Nm.S} (h : s ∈ c.src) : 2 ≤ c.kind ∧ c.kind ≤ 6 := by
  unfold Ch.src at h
  split at h
  · omega
  · split at h
    · omega
    · simp at h
/-- The list that Row tells has as many rows as there are targets. -/
theorem row_len {c : Ch} {t : T} {row : List V} (h : (c.row t row).2 = 0) : (c.row t row).1.length = kn c.kind := by
  by_cases h0 : t.fit row = 0
  case neg => rw [row_bad h0] at h; exact absurd h h0
  by_cases h1 : t.name ∈ c.src
  case neg => rw [row_none h0 h1] at h; exact absurd h (by decide)
  have hk := src_kind h1
  rw [row_bod h0 h1] at h ⊢
  unfold Ch.rbod T.rdrp T.rret kn at *
  repeat' split at h
  all_goals first
    | exact absurd h (by decide)
    | (exfalso; omega)
    | (simp_all; done)
    | (simp_all; omega)
    | (simp_all; split <;> first | omega | rfl)
/-! ### The values of a split, one by one -/
theorem vs_at {cs : List C} {row : List V} (hl : row.length = cs.length) {K j : Nat} (hK : K ≤ j) (hj : j < row.length) : ((cs.take (j + 1)).zip (row.take (j + 1))).drop K = ((cs.take j).zip (row.take j)).drop K ++ [(cs[j]'(by omega), row[j])] := by
  rw [List.take_succ_eq_append_getElem hj, List.take_succ_eq_append_getElem (show j < cs.length by omega), List.zip_append (by simp; omega), List.drop_append_of_le_length (by simp; omega)]
  rfl
theorem vsm_in {cs : List C} {row : List V} (hl : row.length = cs.length) {ns : List Nm.S} {K j : Nat} (hK : K ≤ j) (hj : j < row.length) (h : (cs[j]'(by omega)).name ∈ ns) : vsm (cs.take (j + 1)) ns K (row.take (j + 1)) = vsm (cs.take j) ns K (row.take j) ++ [row[j]] ∧ vrs (cs.take (j + 1)) ns K (row.take (j + 1)) = vrs (cs.take j) ns K (row.take j) := by
  unfold vsm vrs
  rw [vs_at hl hK hj, List.filter_append, List.map_append, List.filter_append, List.map_append, List.take_take, List.take_take, Nat.min_eq_left (by omega), Nat.min_eq_left (by omega)]
  simp [h]
theorem vsm_out {cs : List C} {row : List V} (hl : row.length = cs.length) {ns : List Nm.S} {K j : Nat} (hK : K ≤ j) (hj : j < row.length) (h : (cs[j]'(by omega)).name ∉ ns) : vsm (cs.take (j + 1)) ns K (row.take (j + 1)) = vsm (cs.take j) ns K (row.take j) ∧ vrs (cs.take (j + 1)) ns K (row.take (j + 1)) = vrs (cs.take j) ns K (row.take j) ++ [row[j]] := by
  unfold vsm vrs
  rw [vs_at hl hK hj, List.filter_append, List.map_append, List.filter_append, List.map_append, List.take_take, List.take_take, Nat.min_eq_left (by omega), Nat.min_eq_left (by omega)]
  simp [h]
theorem vsm_0 (cs : List C) (row : List V) (ns : List Nm.S) (K : Nat) : vsm (cs.take K) ns K (row.take K) = row.take K ∧ vrs (cs.take K) ns K (row.take K) = row.take K := by
  have e : ((cs.take K).zip (row.take K)).drop K = [] := List.drop_eq_nil_of_le (by simp; omega)
  unfold vsm vrs
  rw [e, List.take_take, Nat.min_self]
  simp
theorem vsm_len (cs : List C) (ns : List Nm.S) (K : Nat) (row : List V) : (vsm cs ns K row).length ≤ row.length ∧ (vrs cs ns K row).length ≤ row.length := by
  have h1 := List.length_filter_le (fun p : C × V => decide (p.1.name ∈ ns)) ((cs.zip row).drop K)
  have h2 := List.length_filter_le (fun p : C × V => decide (p.1.name ∉ ns)) ((cs.zip row).drop K)
  unfold vsm vrs
  simp only [List.length_append, List.length_map, List.length_take]
  rw [List.length_drop, List.length_zip] at h1 h2
  omega

end Go.Proofs.YtdonmbmahcjfbaaGreatDoor

namespace Go.Proofs.YtdonmbmahcjfbaaGreatDoor
open Go.RowKit

theorem Tryz.infoV : (Tryz.prog.info? 28).map (fun i => (i.zero, i.size, i.bytes)) = some (some (.agg #[.int .i64 0, .int .i64 0, .int .u64 0, .string ⟨#[]⟩]), 4, 40) := by kernel_rfl

/-- The cells of values. -/
def vcs : List V → List Value
  | [] => []
  | x :: xs => x.cells ++ vcs xs
theorem vcs_append (a b : List V) : vcs (a ++ b) = vcs a ++ vcs b := by
  induction a with
  | nil => rfl
  | cons x a ih => simp [vcs, ih]
theorem vcs_len (a : List V) : (vcs a).length = a.length * 4 := by
  induction a with
  | nil => rfl
  | cons x a ih => rw [vcs, List.length_append, ih]; simp [V.cells]; omega
theorem vcs_at : ∀ (xs : List V) (i : Nat) (x : V) (j : Nat), xs[i]? = some x → j < 4 → (vcs xs)[i * 4 + j]? = x.cells[j]?
  | [], i, x, j, h, _ => by simp at h
  | y :: xs, 0, x, j, h, hj => by
    obtain rfl : y = x := by simpa using h
    rw [vcs, List.getElem?_append_left (by simp [V.cells]; omega)]; simp
  | y :: xs, i + 1, x, j, h, hj => by
    rw [vcs, List.getElem?_append_right (by simp [V.cells]; omega), show (i + 1) * 4 + j - y.cells.length = i * 4 + j by simp [V.cells]; omega]
    exact vcs_at xs i x j (by simpa using h) hj
theorem vcs_set : ∀ (xs : List V) (j : Nat) (x : V), j < xs.length → ((((vcs xs).set (j * 4) (.int .i64 x.k)).set (j * 4 + 1) (.int .i64 x.n)).set (j * 4 + 2) (.int .u64 x.b)).set (j * 4 + 3) (.string ⟨x.s.toArray⟩) = vcs (xs.set j x)
  | [], j, x, h => by simp at h
  | y :: xs, 0, x, _ => by simp [vcs, V.cells]
  | y :: xs, j + 1, x, h => by
    have ih := vcs_set xs j x (by simpa using h)
    have hc : y.cells.length = 4 := rfl
    rw [List.set_cons_succ, vcs, vcs, ← ih]
    rw [List.set_append_right _ _ (by rw [hc]; omega), List.set_append_right _ _ (by rw [hc]; omega), List.set_append_right _ _ (by rw [hc]; omega), List.set_append_right _ _ (by rw [hc]; omega), hc]
    rw [show (j + 1) * 4 - 4 = j * 4 by omega, show (j + 1) * 4 + 1 - 4 = j * 4 + 1 by omega, show (j + 1) * 4 + 2 - 4 = j * 4 + 2 by omega, show (j + 1) * 4 + 3 - 4 = j * 4 + 3 by omega]

/-- A row of values that a call owns. -/
def OwV (w : World) (base : Nat) (v : Value) (xs : List V) : Prop := w.ownsRow base 28 4 v xs.length (vcs xs)
theorem OwV.keep {w w' : World} {b : Nat} {v : Value} {l : List V} (h : OwV w b v l) (hb : Below w.heap.size w w') : OwV w' b v l := by
  refine ⟨h.1, ?_⟩
  rcases h.2 with hn | ⟨g, cap, cur, hv, hbg, hg, rest⟩
  · exact .inl hn
  · exact .inr ⟨g, cap, cur, hv, hbg, (hb.block g (Array.getElem?_eq_some_iff.1 hg).1).trans hg, rest⟩
theorem OwV.base {w : World} {b b' : Nat} {v : Value} {l : List V} (h : OwV w b v l) (hb : b' ≤ b) : OwV w b' v l := by
  refine ⟨h.1, ?_⟩
  rcases h.2 with hn | ⟨g, cap, cur, hv, hbg, rest⟩
  · exact .inl hn
  · exact .inr ⟨g, cap, cur, hv, Nat.le_trans hb hbg, rest⟩
theorem OwV.sl {w : World} {b : Nat} {v : Value} {xs : List V} (h : OwV w b v xs) : ∃ ao cap, v = .slice ao xs.length cap ∧ xs.length ≤ cap ∧ Sl w ao xs := by
  have h' := h
  rcases h.2 with ⟨hv, hn⟩ | ⟨g, cap, cur, hv, _, hg, h1, h2, h3, h4⟩
  · have e := List.eq_nil_of_length_eq_zero hn
    subst e
    exact ⟨none, 0, hv, Nat.le_refl _, fun i x hi => by simp at hi⟩
  · refine ⟨some ⟨g, 0, none⟩, cap, hv, ?_, fun i x hi => ⟨⟨g, 0, none⟩, rfl, ?_⟩⟩
    · first | exact h1 | omega
    have c : ∀ j u, j < 4 → x.cells[j]? = some u → w.cell? ⟨g, i * 4 + j, none⟩ = some u := fun j u hj hu => by
      have := World.ownsRow.cells h' (g := g) (by rw [hv]; rfl) (i * 4 + j) u ((vcs_at xs i x j hi hj).trans hu)
      rwa [add_none] at this
    rw [add_none]
    exact ⟨c 0 _ (by decide) rfl, c 1 _ (by decide) rfl, c 2 _ (by decide) rfl, c 3 _ (by decide) rfl⟩

/-- The value that is made. -/
def V0 : V := ⟨0, 0, 0, []⟩
theorem vcs_made (n : Nat) : (madeCells (Value.agg #[.int .i64 0, .int .i64 0, .int .u64 0, .string ⟨#[]⟩]).cells (n * 4)).toList = vcs (List.replicate n V0) := by
  have hz : (Value.agg #[.int .i64 0, .int .i64 0, .int .u64 0, .string ⟨#[]⟩]).cells = #[.int .i64 0, .int .i64 0, .int .u64 0, .string ⟨#[]⟩] := by simp [Value.cells]
  apply List.ext_getElem?
  intro m
  by_cases hm : m < n * 4
  · obtain ⟨i, j, rfl, hj⟩ : ∃ i j, m = i * 4 + j ∧ j < 4 := ⟨m / 4, m % 4, by omega, by omega⟩
    have hi : i < n := by omega
    rw [vcs_at (List.replicate n V0) i V0 j (by simp [hi]) hj, hz]
    have e : ∀ z : Array Value, (madeCells z (n * 4)).toList[i * 4 + j]? = some (z[(i * 4 + j) % z.size]!) := fun z => by simp [madeCells, hm]
    rw [e]
    show some ((#[.int .i64 0, .int .i64 0, .int .u64 0, .string ⟨#[]⟩] : Array Value)[(i * 4 + j) % 4]!) = _
    rw [show (i * 4 + j) % 4 = j by omega]
    have c : j = 0 ∨ j = 1 ∨ j = 2 ∨ j = 3 := by omega
    rcases c with rfl | rfl | rfl | rfl <;> rfl
  · rw [List.getElem?_eq_none (by simp [madeCells]; omega), List.getElem?_eq_none (by rw [vcs_len]; simp; omega)]

/-- A value of such a row: its cells, none of them under a mark; and what a store of another leaves. -/
theorem OwV.store {w : World} {b g n cap : Nat} {ys : List V} (h : OwV w b (.slice (some ⟨g, 0, none⟩) n cap) ys) (hn : n = ys.length) (j : Nat) (hj : j < ys.length) (x : V) :
    OwV ((((w.setCell ⟨g, j * 4, none⟩ (.int .i64 x.k)).setCell ⟨g, j * 4 + 1, none⟩ (.int .i64 x.n)).setCell ⟨g, j * 4 + 2, none⟩ (.int .u64 x.b)).setCell ⟨g, j * 4 + 3, none⟩ (.string ⟨x.s.toArray⟩)) b (.slice (some ⟨g, 0, none⟩) n cap) (ys.set j x) ∧
    b ≤ g ∧ g < w.heap.size ∧ (∀ i, w.frozen? ⟨g, i, none⟩ = false) := by
  subst hn
  unfold OwV at h ⊢
  have h1 := World.ownsRow.stored h (j * 4) (.int .i64 x.k)
  have h2 := World.ownsRow.stored h1.1 (j * 4 + 1) (.int .i64 x.n)
  have h3 := World.ownsRow.stored h2.1 (j * 4 + 2) (.int .u64 x.b)
  have h4 := World.ownsRow.stored h3.1 (j * 4 + 3) (.string ⟨x.s.toArray⟩)
  have l := World.ownsRow.lt h g rfl
  rw [List.length_set, ← vcs_set ys j x hj]
  exact ⟨h4.1, l.1, l.2, fun i => World.ownsRow.frozenAt h i⟩
theorem OwV.at {w : World} {b g n cap : Nat} {ys : List V} (h : OwV w b (.slice (some ⟨g, 0, none⟩) n cap) ys) (j : Nat) (y : V) (hj : ys[j]? = some y) :
    w.cell? ⟨g, j * 4, none⟩ = some (.int .i64 y.k) ∧ w.cell? ⟨g, j * 4 + 1, none⟩ = some (.int .i64 y.n) ∧ w.cell? ⟨g, j * 4 + 2, none⟩ = some (.int .u64 y.b) ∧ w.cell? ⟨g, j * 4 + 3, none⟩ = some (.string ⟨y.s.toArray⟩) := by
  have c : ∀ i u, i < 4 → y.cells[i]? = some u → w.cell? ⟨g, j * 4 + i, none⟩ = some u := fun i u hi hu => by
    have := World.ownsRow.cells h (g := g) rfl (j * 4 + i) u ((vcs_at ys j y i hj hi).trans hu)
    rwa [add_none] at this
  exact ⟨c 0 _ (by decide) rfl, c 1 _ (by decide) rfl, c 2 _ (by decide) rfl, c 3 _ (by decide) rfl⟩

section
variable {ops : Array Oper} {rest : List Oper} {o : Oper} {a : Act} {Q : Exit → Act → World → Prop}
/-- So many values made. -/
theorem makeVals (w : World) (hgd : o.guard = none) (l c : Operand) (ho : o.op = Op.makeSlice 33 l c) (kl kc : IntKind) (L C : Int) (n : Nat) (hl : a.eval l = .int kl L) (hc : a.eval c = .int kc C) (hL : L = (n : Int)) (hC : C = (n : Int)) (hn : n ≤ 1000)
    (h : ∀ g w', w.heap.size = g → OwV w' w.heap.size (.slice (some ⟨g, 0, none⟩) n n) (List.replicate n V0) → Below w.heap.size w w' → wpList Tryz.prog ops Q rest (a.put o.dst (.slice (some ⟨g, 0, none⟩) n n)) w') : wpList Tryz.prog ops Q (o :: rest) a w := by
  obtain ⟨i0, hi, hz0, hz1, hz2⟩ := info_parts Tryz.infoV
  refine wpList_make_full w hgd l c 33 ho w.heap.size 28 i0 _ 4 Tryz.underlying33 hi hz0 hz1 kl kc L C n hl hc hL hC (by rw [hz2]; omega) (by unfold maxLen; omega) (Nat.le_refl _) ?_
  intro w' hown hgr
  refine h _ w' rfl ?_ ((Below.refl _ w).grown hgr (Nat.le_refl _) (fun k hk => by cases hk))
  unfold OwV
  rw [List.length_replicate, ← vcs_made]
  exact hown
end

end Go.Proofs.YtdonmbmahcjfbaaGreatDoor

namespace Go.Proofs.YtdonmbmahcjfbaaGreatDoor
open Go.RowKit

theorem OwV.kept {w w' : World} {row : Option Nat} {b : Nat} {v : Value} {l : List V} (h : OwV w b v l) (hg : w.grownBy w' row) (hr : ∀ g cur fz, row = some g → w.heap[g]? ≠ some (.cells cur 28 fz)) : OwV w' b v l := by
  refine ⟨h.1, ?_⟩
  rcases h.2 with hn | ⟨k, cap, cur, hv, hbg, hk, rest⟩
  · exact .inl hn
  · exact .inr ⟨k, cap, cur, hv, hbg, (hg.block k (Array.getElem?_eq_some_iff.1 hk).1 (fun e => hr k cur _ e.symm hk)).trans hk, rest⟩
/-- A row beside another one's block. -/
theorem OwV.apart {w w' : World} {row : Option Nat} {b : Nat} {v : Value} {l : List V} (h : OwV w b v l) (hg : w.grownBy w' row) (hr : ∀ k, v.ownBlock = some k → row ≠ some k) : OwV w' b v l := by
  refine ⟨h.1, ?_⟩
  rcases h.2 with hn | ⟨k, cap, cur, hv, hbg, hk, rest⟩
  · exact .inl hn
  · exact .inr ⟨k, cap, cur, hv, hbg, (hg.block k (Array.getElem?_eq_some_iff.1 hk).1 (fun e => hr k (by rw [hv]; rfl) e.symm)).trans hk, rest⟩
theorem OwV.slv {w : World} {b n cap : Nat} {ao : Option Addr} {l : List V} (h : OwV w b (.slice ao n cap) l) : Sl w ao l := by
  obtain ⟨_, _, e, _, hsl⟩ := h.sl
  injection e with e1 _ _
  rw [e1]
  exact hsl
theorem OwV.off {w : World} {b g : Nat} {v : Value} {l : List V} (h : OwV w b v l) (i : Nat) (u : Value) (hg : g < b) : OwV (w.setCell ⟨g, i, none⟩ u) b v l := by
  refine ⟨h.1, ?_⟩
  rcases h.2 with hn | ⟨k, cap, cur, hv, hbg, hk, rest⟩
  · exact .inl hn
  · exact .inr ⟨k, cap, cur, hv, hbg, (Below.heap_setCell w ⟨g, i, none⟩ u k (by simp; omega)).trans hk, rest⟩
theorem vcs_one (xs : List V) : ∀ u ∈ vcs xs, u.oneCell' = true := by
  intro u hu
  induction xs with
  | nil => simp [vcs] at hu
  | cons c cs ih =>
    rw [vcs, List.mem_append] at hu
    rcases hu with hu | hu
    · simp [V.cells] at hu; rcases hu with rfl | rfl | rfl | rfl <;> rfl
    · exact ih hu
theorem Sl.none {W : World} {xs : List V} (h : Sl W none xs) : xs = [] := by
  cases xs with
  | nil => rfl
  | cons c cs =>
    obtain ⟨a, ha, _⟩ := h 0 c rfl
    cases ha
/-- The cells of a slice of values, one behind the other. -/
theorem Sl.cell {W : World} {a : Addr} {xs : List V} (h : Sl W (some a) xs) (j : Nat) (u : Value) (hj : (vcs xs)[j]? = some u) : W.cell? (a.add j) = some u := by
  have hl : j < xs.length * 4 := by
    have := (List.getElem?_eq_some_iff.1 hj).1
    rwa [vcs_len] at this
  obtain ⟨i, r, rfl, hr⟩ : ∃ i r, j = i * 4 + r ∧ r < 4 := ⟨j / 4, j % 4, by omega, by omega⟩
  have hi : i < xs.length := by omega
  obtain ⟨a', ha, h0, h1, h2, h3⟩ := h i xs[i] (List.getElem?_eq_getElem hi)
  obtain rfl := Option.some.inj ha
  rw [vcs_at xs i xs[i] r (List.getElem?_eq_getElem hi) hr] at hj
  have e : a.add (i * 4 + r) = (a.add (i * 4)).add r := add_two a (i * 4) r
  rw [e]
  have c : r = 0 ∨ r = 1 ∨ r = 2 ∨ r = 3 := by omega
  rcases c with rfl | rfl | rfl | rfl
  · simp [V.cells] at hj; subst hj; exact h0
  · simp [V.cells] at hj; subst hj; exact h1
  · simp [V.cells] at hj; subst hj; exact h2
  · simp [V.cells] at hj; subst hj; exact h3

/-! ### A row as a slice -/
structure RV where
  xs : List V
  ao : Option Addr
  cap : Nat
def RV.val (y : RV) : Value := .slice y.ao y.xs.length y.cap
def rxs (ys : List RV) : List (List V) := ys.map RV.xs
def SlR (W : World) (ao : Option Addr) (ys : List RV) : Prop := ∀ (i : Nat) (y : RV), ys[i]? = some y → ∃ a, ao = some a ∧ W.cell? (a.add i) = some (.slice y.ao y.xs.length y.cap)
theorem SlR.below {W W' : World} {ao : Option Addr} {ys : List RV} (h : SlR W ao ys) (hb : Below W.heap.size W W') : SlR W' ao ys := by
  intro i x hi
  obtain ⟨a, ha, h0⟩ := h i x hi
  exact ⟨a, ha, keep0 h0 hb⟩
theorem SlR.nil (W : World) (ao : Option Addr) : SlR W ao [] := fun i x h => by simp at h
/-- Rows that a call has made; rows in memory. -/
def FitR (W : World) (b : Nat) (ys : List RV) : Prop := ∀ y ∈ ys, OwV W b (.slice y.ao y.xs.length y.cap) y.xs
def InR (W : World) (ys : List RV) : Prop := ∀ y ∈ ys, Sl W y.ao y.xs
theorem FitR.in {W : World} {b : Nat} {ys : List RV} (h : FitR W b ys) : InR W ys := fun y hy => (h y hy).slv
theorem FitR.keep {W W' : World} {b : Nat} {ys : List RV} (h : FitR W b ys) (hb : Below W.heap.size W W') : FitR W' b ys := fun y hy => (h y hy).keep hb
theorem FitR.base {W : World} {b b' : Nat} {ys : List RV} (h : FitR W b ys) (hb : b' ≤ b) : FitR W b' ys := fun y hy => (h y hy).base hb
theorem FitR.kept {W W' : World} {b : Nat} {ys : List RV} {row : Option Nat} (h : FitR W b ys) (hg : W.grownBy W' row) (hr : ∀ g cur fz, row = some g → W.heap[g]? ≠ some (.cells cur 28 fz)) : FitR W' b ys := fun y hy => (h y hy).kept hg hr
theorem FitR.nil (W : World) (b : Nat) : FitR W b [] := fun x hx => by simp at hx
theorem FitR.one {W : World} {b : Nat} {y : RV} (h : OwV W b (.slice y.ao y.xs.length y.cap) y.xs) : FitR W b [y] := fun z hz => by
  obtain rfl := List.mem_singleton.1 hz
  exact h
theorem FitR.two {W : World} {b : Nat} {y z : RV} (h : OwV W b (.slice y.ao y.xs.length y.cap) y.xs) (h' : OwV W b (.slice z.ao z.xs.length z.cap) z.xs) : FitR W b [y, z] := fun u hu => by
  simp at hu
  rcases hu with rfl | rfl
  · exact h
  · exact h'
theorem FitR.append {W : World} {b : Nat} {xs ys : List RV} (h : FitR W b xs) (hs : FitR W b ys) : FitR W b (xs ++ ys) := fun y hy => by
  rcases List.mem_append.1 hy with hy | hy
  · exact h y hy
  · exact hs y hy
theorem InR.below {W W' : World} {ys : List RV} (h : InR W ys) (hb : Below W.heap.size W W') : InR W' ys := fun y hy => (h y hy).below hb
/-- What Row tells. -/
def RR (w w' : World) (e : Ending) (r : List (List V) × Int) : Prop :=
  ∃ (ao : Option Addr) (cap : Nat) (ys : List RV), e = .returned (.tuple #[.slice ao ys.length cap, .int .i64 r.2]) ∧ rxs ys = r.1 ∧ SlR w' ao ys ∧ FitR w' w.heap.size ys ∧ ∀ a, ao = some a → w.heap.size ≤ a.block
theorem RR.bad {w w' : World} {r : List (List V) × Int} {E : Int} (h : r = ([], E)) : RR w w' (.returned (.tuple #[.slice none 0 0, .int .i64 E])) r := by
  subst h
  exact ⟨none, 0, [], rfl, rfl, SlR.nil _ _, FitR.nil _ _, fun a h => by cases h⟩
theorem RR.base {w W w' : World} {e : Ending} {r : List (List V) × Int} (h : RR W w' e r) (hb : w.heap.size ≤ W.heap.size) : RR w w' e r := by
  obtain ⟨ao, cap, ys, h1, h2, h3, h4, h5⟩ := h
  exact ⟨ao, cap, ys, h1, h2, h3, h4.base hb, fun a ha => Nat.le_trans hb (h5 a ha)⟩
theorem at_new {n m : Nat} (h : n ≤ m) : ∀ a, some (⟨m, 0, none⟩ : Addr) = some a → n ≤ a.block := fun a e => by cases e; exact h
/-- A list of one row, of two, that the walk has just laid out. -/
theorem slr_one (w : World) (y : RV) : SlR (w.alloc (.cells #[.slice y.ao y.xs.length y.cap] 33)) (some ⟨w.heap.size, 0, none⟩) [y] := by
  intro i x hi
  have : i = 0 := by
    have := (List.getElem?_eq_some_iff.1 hi).1
    simp at this; omega
  subst this
  obtain rfl : y = x := by simpa using hi
  exact ⟨_, rfl, by simp [Addr.add]⟩
theorem slr_two (w : World) (y z : RV) : SlR (w.alloc (.cells #[.slice y.ao y.xs.length y.cap, .slice z.ao z.xs.length z.cap] 33)) (some ⟨w.heap.size, 0, none⟩) [y, z] := by
  intro i x hi
  have : i = 0 ∨ i = 1 := by
    have := (List.getElem?_eq_some_iff.1 hi).1
    simp at this; omega
  rcases this with rfl | rfl
  · obtain rfl : y = x := by simpa using hi
    exact ⟨_, rfl, by simp [Addr.add]⟩
  · obtain rfl : z = x := by simpa using hi
    exact ⟨_, rfl, by simp [Addr.add]⟩

section
variable {ops : Array Oper} {rest : List Oper} {o : Oper} {a : Act} {Q : Exit → Act → World → Prop}
/-- A value more, and which block may have changed. -/
theorem appVg (hgd : o.guard = none) (s x : Operand) (ho : o.op = .call { callee := .builtin .append, args := #[s, x], argTypes := #[33, 33] })
    (base : Nat) (v : Value) (l : List V) (b : V) (w0 : World) (hs : a.eval s = v) (hown : OwV w0 base v l)
    (G : Nat) (hG : w0.heap.size = G) (hx : a.eval x = .slice (some ⟨G, 0, none⟩) 1 1) (hlen : l.length ≤ 1000000000) (hb : base ≤ w0.heap.size)
    (h : ∀ v' w', OwV w' base v' (l ++ [b]) → w0.grownBy w' v.ownBlock → (v'.ownBlock = v.ownBlock ∨ ∃ k, v'.ownBlock = some k ∧ w0.heap.size ≤ k) → Below base w0 w' → wpList Tryz.prog ops Q rest (a.put o.dst v') w') : wpList Tryz.prog ops Q (o :: rest) a (w0.alloc (.cells #[.int .i64 b.k, .int .i64 b.n, .int .u64 b.b, .string ⟨b.s.toArray⟩] 28)) := by
  subst hG
  obtain ⟨i0, hi, hz0, hz1, hz2⟩ := info_parts Tryz.infoV
  refine wpList_append_own_at _ hgd s x 33 ho base 28 i0 _ 4 40 Tryz.underlying33 hi hz0 hz1 hz2 rfl (by decide) v _ _ hs (World.ownsRow.alloc hown _) ⟨w0.heap.size, 0, none⟩ 1 1 b.cells hx rfl ?_ ?_ (by unfold maxLen; omega) (by omega) (by simp; omega) ?_
  · intro j u hj
    match j, hj with
    | 0, hj => simp [V.cells] at hj; subst hj; simp [Addr.add]
    | 1, hj => simp [V.cells] at hj; subst hj; simp [Addr.add]
    | 2, hj => simp [V.cells] at hj; subst hj; simp [Addr.add]
    | 3, hj => simp [V.cells] at hj; subst hj; simp [Addr.add]
    | (j + 4), hj => simp [V.cells] at hj
  · intro u hu; simp [V.cells] at hu; rcases hu with rfl | rfl | rfl | rfl <;> rfl
  · intro v' w' hown' hgrow _ hbk
    have hg0 : w0.grownBy w' v.ownBlock := by
      refine ⟨hgrow.os, hgrow.tape, hgrow.output, Nat.le_trans (by simp) hgrow.size, fun k hk hne => ?_⟩
      rw [hgrow.block k (by simp; omega) hne, Below.heap_alloc _ _ _ hk]
    refine h v' w' ?_ hg0 ?_ (((Below.refl base w0).alloc hb _).grown hgrow (by simp; omega) (fun k hk => (World.ownsRow.lt hown k hk).1))
    · unfold OwV
      rw [List.length_append, vcs_append]
      have : vcs [b] = b.cells := by simp [vcs]
      rw [this]; exact hown'
    · rcases hbk with e | e
      · exact .inl e
      · exact .inr ⟨_, e, by simp⟩
end
/-- The same in a region that draws its order. -/
theorem step_appV {ops : Array Oper} {o : Oper} {a : Act} {W : World} {K : Act → World → Prop} {Q : Exit → Act → World → Prop} {E : Prop} (hgd : o.guard = none) (s x : Operand) (ho : o.op = .call { callee := .builtin .append, args := #[s, x], argTypes := #[33, 33] })
    (base : Nat) (v : Value) (l : List V) (b : V) (G : Nat) (hs : a.eval s = v) (hx : a.eval x = .slice (some ⟨G, 0, none⟩) 1 1) (hown : OwV W base v l)
    (hG : Blk W G #[.int .i64 b.k, .int .i64 b.n, .int .u64 b.b, .string ⟨b.s.toArray⟩] 28) (hlen : l.length ≤ 1000000000) (hb : base ≤ W.heap.size)
    (h : ∀ v' w', OwV w' base v' (l ++ [b]) → W.grownBy w' v.ownBlock → (v'.ownBlock = v.ownBlock ∨ v'.ownBlock = some W.heap.size) → K (a.put o.dst v') w') :
    if Region.wanted o (yielded ops a.tmps) = true then Oper.wp Tryz.prog o a W K Q else E := by
  have hw : Region.wanted o (yielded ops a.tmps) = true := by simp [Region.wanted, hgd]
  rw [if_pos hw]
  obtain ⟨i0, hi, hz0, hz1, hz2⟩ := info_parts Tryz.infoV
  obtain ⟨v', w', hrun, r1, r2, _, r4⟩ := run_append_own_at (P := Tryz.prog) W base 33 o.type 28 i0 _ 4 40 Tryz.underlying33 hi hz0 hz1 hz2 rfl (by decide) v _ _ hown ⟨G, 0, none⟩ 1 1 b.cells rfl (by
    intro j u hj
    match j, hj with
    | 0, hj => simp [V.cells] at hj; subst hj; exact hG.cell 0
    | 1, hj => simp [V.cells] at hj; subst hj; exact hG.cell 1
    | 2, hj => simp [V.cells] at hj; subst hj; exact hG.cell 2
    | 3, hj => simp [V.cells] at hj; subst hj; exact hG.cell 3
    | (j + 4), hj => simp [V.cells] at hj) (by intro u hu; simp [V.cells] at hu; rcases hu with rfl | rfl | rfl | rfl <;> rfl) (by unfold maxLen; omega) (by omega) hb
  unfold Oper.wp execOp
  simp only [ho, resolve, invoke, builtin, Sem.run_bind, Sem.run_pure, Result.andThen_ok, List.map_toArray, List.map_cons, List.map_nil, hs, hx, hrun]
  refine h v' w' ?_ r2 r4
  unfold OwV
  rw [List.length_append, vcs_append]
  have : vcs [b] = b.cells := by simp [vcs]
  rw [this]; exact r1

/-! ### copy -/
theorem run_copyV (w : World) (ty : TypeId) (g n dCap : Nat) (a : Addr) (sCap : Nat) (cur : Array Value) (t : TypeId) (xs : List V) (hx : xs.length = n)
    (hg : w.heap[g]? = some (.cells cur t (0, 0))) (hsrc : ∀ j v, (vcs xs)[j]? = some v → w.cell? (a.add j) = some v) (hfit : n * 4 = cur.size) :
    (Builtin.copy_ #[33, 33] ty #[.slice (some ⟨g, 0, none⟩) n dCap, .slice (some a) n sCap]).run Tryz.prog w = .ok (goInt n) (w.setRow g (vcs xs).toArray) := by
  obtain ⟨i0, hi, hz0, hz1, hz2⟩ := info_parts Tryz.infoV
  have hl := run_loadCells_list (P := Tryz.prog) w a (vcs xs) hsrc
  have hcl : (vcs xs).length = n * 4 := by rw [vcs_len, hx]
  have hst := run_storeCells_at Tryz.prog g 0 t (vcs xs) 0 cur w hg (by simp; omega) (vcs_one xs)
  have e : (cur.toList.take (0 + 0) ++ vcs xs ++ cur.toList.drop (0 + 0 + (vcs xs).length)).toArray = (vcs xs).toArray := by
    have : cur.toList.drop (0 + 0 + (vcs xs).length) = [] := List.drop_eq_nil_of_le (by simp; omega)
    rw [this]; simp
  rw [e] at hst
  rw [hcl] at hl
  simp [Builtin.copy_, run_underlying Tryz.underlying33, Builtin.lenOf, Builtin.firstCells, sizeOf, typeInfo, hi, hz1, hl, hst]
theorem run_copyV_none (w : World) (ty : TypeId) (d : Addr) (dCap sCap : Nat) :
    (Builtin.copy_ #[33, 33] ty #[.slice (some d) 0 dCap, .slice none 0 sCap]).run Tryz.prog w = .ok (goInt 0) w := by
  obtain ⟨i0, hi, hz0, hz1, hz2⟩ := info_parts Tryz.infoV
  simp [Builtin.copy_, run_underlying Tryz.underlying33, Builtin.lenOf, Builtin.firstCells, sizeOf, typeInfo, hi, storeCells]
/-- A row that is laid anew. -/
theorem OwV.laid {w : World} {b g n : Nat} {ys xs : List V} (h : OwV w b (.slice (some ⟨g, 0, none⟩) n n) ys) (hx : xs.length = n) : OwV (w.setRow g (vcs xs).toArray) b (.slice (some ⟨g, 0, none⟩) n n) xs ∧ b ≤ g ∧ ∃ cur, w.heap[g]? = some (.cells cur 28 (0, 0)) ∧ n * 4 = cur.size := by
  rcases h.2 with ⟨h', _⟩ | ⟨g', cap', cur, h', hb, hg, h1, h2, h3, h4⟩
  · simp at h'
  · simp only [Value.slice.injEq, Option.some.injEq, Addr.mk.injEq, and_true] at h'
    obtain ⟨rfl, _, rfl⟩ := h'
    refine ⟨⟨by rw [vcs_len], .inr ⟨g, n, (vcs xs).toArray, by rw [hx], hb, setRow_heap w g cur _ _ _ hg, by omega, h2, by simp [vcs_len, hx], by rw [hx]; exact List.take_of_length_le (by rw [vcs_len, hx]; exact Nat.le_refl _)⟩⟩, hb, cur, hg, by omega⟩

end Go.Proofs.YtdonmbmahcjfbaaGreatDoor

namespace Go.Proofs.YtdonmbmahcjfbaaGreatDoor
open Go.RowKit

theorem Tryz.infoR : (Tryz.prog.info? 33).map (fun i => (i.zero, i.size, i.bytes)) = some (some (.slice none 0 0), 1, 24) := by kernel_rfl
theorem Tryz.infoQ : (Tryz.prog.info? 38).map (fun i => (i.zero, i.size, i.bytes)) = some (some (.slice none 0 0), 1, 24) := by kernel_rfl
structure QV where
  ys : List RV
  ao : Option Addr
  cap : Nat
def QV.val (z : QV) : Value := .slice z.ao z.ys.length z.cap
def QV.ls (z : QV) : List (List V) := rxs z.ys
def SlQ (W : World) (ao : Option Addr) (zs : List QV) : Prop := ∀ (i : Nat) (z : QV), zs[i]? = some z → ∃ a, ao = some a ∧ W.cell? (a.add i) = some (.slice z.ao z.ys.length z.cap)
theorem SlQ.below {W W' : World} {ao : Option Addr} {zs : List QV} (h : SlQ W ao zs) (hb : Below W.heap.size W W') : SlQ W' ao zs := by
  intro i x hi
  obtain ⟨a, ha, h0⟩ := h i x hi
  exact ⟨a, ha, keep0 h0 hb⟩
theorem SlQ.nil (W : World) (ao : Option Addr) : SlQ W ao [] := fun i x h => by simp at h
/-- A list of rows that a call owns. -/
def OwR (w : World) (base : Nat) (v : Value) (l : List RV) : Prop := w.ownsRow base 33 1 v l.length (l.map RV.val)
theorem owr_nil (w : World) (base : Nat) : OwR w base (.slice none 0 0) [] := World.ownsRow_nil _ _ _ _
theorem OwR.keep {w w' : World} {b : Nat} {v : Value} {l : List RV} (h : OwR w b v l) (hb : Below w.heap.size w w') : OwR w' b v l := by
  refine ⟨h.1, ?_⟩
  rcases h.2 with hn | ⟨g, cap, cur, hv, hbg, hg, rest⟩
  · exact .inl hn
  · exact .inr ⟨g, cap, cur, hv, hbg, (hb.block g (Array.getElem?_eq_some_iff.1 hg).1).trans hg, rest⟩
theorem OwR.base {w : World} {b b' : Nat} {v : Value} {l : List RV} (h : OwR w b v l) (hb : b' ≤ b) : OwR w b' v l := by
  refine ⟨h.1, ?_⟩
  rcases h.2 with hn | ⟨g, cap, cur, hv, hbg, rest⟩
  · exact .inl hn
  · exact .inr ⟨g, cap, cur, hv, Nat.le_trans hb hbg, rest⟩
theorem OwR.kept {w w' : World} {row : Option Nat} {b : Nat} {v : Value} {l : List RV} (h : OwR w b v l) (hg : w.grownBy w' row) (hr : ∀ g cur fz, row = some g → w.heap[g]? ≠ some (.cells cur 33 fz)) : OwR w' b v l := by
  refine ⟨h.1, ?_⟩
  rcases h.2 with hn | ⟨k, cap, cur, hv, hbg, hk, rest⟩
  · exact .inl hn
  · exact .inr ⟨k, cap, cur, hv, hbg, (hg.block k (Array.getElem?_eq_some_iff.1 hk).1 (fun e => hr k cur _ e.symm hk)).trans hk, rest⟩
theorem OwR.apart {w w' : World} {row : Option Nat} {b : Nat} {v : Value} {l : List RV} (h : OwR w b v l) (hg : w.grownBy w' row) (hr : ∀ k, v.ownBlock = some k → row ≠ some k) : OwR w' b v l := by
  refine ⟨h.1, ?_⟩
  rcases h.2 with hn | ⟨k, cap, cur, hv, hbg, hk, rest⟩
  · exact .inl hn
  · exact .inr ⟨k, cap, cur, hv, hbg, (hg.block k (Array.getElem?_eq_some_iff.1 hk).1 (fun e => hr k (by rw [hv]; rfl) e.symm)).trans hk, rest⟩
/-- A block that such a row owns bears its own type. -/
theorem OwR.type {w : World} {b : Nat} {v : Value} {l : List RV} (h : OwR w b v l) {t : TypeId} (ht : t ≠ 33) : ∀ g cur fz, v.ownBlock = some g → w.heap[g]? ≠ some (.cells cur t fz) := by
  intro g cur fz hv he
  rcases h.2 with ⟨hn, _⟩ | ⟨k, cap, cur', hv', _, hk, _⟩
  · rw [hn] at hv; cases hv
  · rw [hv'] at hv
    obtain rfl : k = g := Option.some.inj hv
    rw [hk] at he
    have := Option.some.inj he
    injection this with _ e _
    exact ht e.symm
theorem OwR.sl {w : World} {b : Nat} {v : Value} {l : List RV} (h : OwR w b v l) : ∃ ao cap, v = .slice ao l.length cap ∧ l.length ≤ cap ∧ SlR w ao l := by
  have h' := h
  rcases h.2 with ⟨hv, hn⟩ | ⟨g, cap, cur, hv, _, hg, h1, _⟩
  · have e := List.eq_nil_of_length_eq_zero hn
    subst e
    exact ⟨none, 0, hv, Nat.le_refl _, fun i x hi => by simp at hi⟩
  · refine ⟨some ⟨g, 0, none⟩, cap, hv, ?_, fun i x hi => ⟨⟨g, 0, none⟩, rfl, ?_⟩⟩
    · first | exact h1 | omega
    · exact World.ownsRow.cells h' (g := g) (by rw [hv]; rfl) i _ (by rw [List.getElem?_map, hi]; rfl)
theorem OwR.lt {w : World} {b : Nat} {v : Value} {l : List RV} (h : OwR w b v l) : ∀ k, v.ownBlock = some k → b ≤ k ∧ k < w.heap.size := fun k hk => World.ownsRow.lt h k hk
/-- A list of lists of rows that a call owns. -/
def OwQ (w : World) (base : Nat) (v : Value) (l : List QV) : Prop := w.ownsRow base 38 1 v l.length (l.map QV.val)
theorem OwQ.keep {w w' : World} {b : Nat} {v : Value} {l : List QV} (h : OwQ w b v l) (hb : Below w.heap.size w w') : OwQ w' b v l := by
  refine ⟨h.1, ?_⟩
  rcases h.2 with hn | ⟨g, cap, cur, hv, hbg, hg, rest⟩
  · exact .inl hn
  · exact .inr ⟨g, cap, cur, hv, hbg, (hb.block g (Array.getElem?_eq_some_iff.1 hg).1).trans hg, rest⟩
theorem OwQ.base {w : World} {b b' : Nat} {v : Value} {l : List QV} (h : OwQ w b v l) (hb : b' ≤ b) : OwQ w b' v l := by
  refine ⟨h.1, ?_⟩
  rcases h.2 with hn | ⟨g, cap, cur, hv, hbg, rest⟩
  · exact .inl hn
  · exact .inr ⟨g, cap, cur, hv, Nat.le_trans hb hbg, rest⟩
theorem OwQ.kept {w w' : World} {row : Option Nat} {b : Nat} {v : Value} {l : List QV} (h : OwQ w b v l) (hg : w.grownBy w' row) (hr : ∀ g cur fz, row = some g → w.heap[g]? ≠ some (.cells cur 38 fz)) : OwQ w' b v l := by
  refine ⟨h.1, ?_⟩
  rcases h.2 with hn | ⟨k, cap, cur, hv, hbg, hk, rest⟩
  · exact .inl hn
  · exact .inr ⟨k, cap, cur, hv, hbg, (hg.block k (Array.getElem?_eq_some_iff.1 hk).1 (fun e => hr k cur _ e.symm hk)).trans hk, rest⟩
theorem OwQ.apart {w w' : World} {row : Option Nat} {b : Nat} {v : Value} {l : List QV} (h : OwQ w b v l) (hg : w.grownBy w' row) (hr : ∀ k, v.ownBlock = some k → row ≠ some k) : OwQ w' b v l := by
  refine ⟨h.1, ?_⟩
  rcases h.2 with hn | ⟨k, cap, cur, hv, hbg, hk, rest⟩
  · exact .inl hn
  · exact .inr ⟨k, cap, cur, hv, hbg, (hg.block k (Array.getElem?_eq_some_iff.1 hk).1 (fun e => hr k (by rw [hv]; rfl) e.symm)).trans hk, rest⟩
/-- A block that such a row owns bears its own type. -/
theorem OwQ.type {w : World} {b : Nat} {v : Value} {l : List QV} (h : OwQ w b v l) {t : TypeId} (ht : t ≠ 38) : ∀ g cur fz, v.ownBlock = some g → w.heap[g]? ≠ some (.cells cur t fz) := by
  intro g cur fz hv he
  rcases h.2 with ⟨hn, _⟩ | ⟨k, cap, cur', hv', _, hk, _⟩
  · rw [hn] at hv; cases hv
  · rw [hv'] at hv
    obtain rfl : k = g := Option.some.inj hv
    rw [hk] at he
    have := Option.some.inj he
    injection this with _ e _
    exact ht e.symm
theorem OwQ.sl {w : World} {b : Nat} {v : Value} {l : List QV} (h : OwQ w b v l) : ∃ ao cap, v = .slice ao l.length cap ∧ l.length ≤ cap ∧ SlQ w ao l := by
  have h' := h
  rcases h.2 with ⟨hv, hn⟩ | ⟨g, cap, cur, hv, _, hg, h1, _⟩
  · have e := List.eq_nil_of_length_eq_zero hn
    subst e
    exact ⟨none, 0, hv, Nat.le_refl _, fun i x hi => by simp at hi⟩
  · refine ⟨some ⟨g, 0, none⟩, cap, hv, ?_, fun i x hi => ⟨⟨g, 0, none⟩, rfl, ?_⟩⟩
    · first | exact h1 | omega
    · exact World.ownsRow.cells h' (g := g) (by rw [hv]; rfl) i _ (by rw [List.getElem?_map, hi]; rfl)
theorem OwQ.lt {w : World} {b : Nat} {v : Value} {l : List QV} (h : OwQ w b v l) : ∀ k, v.ownBlock = some k → b ≤ k ∧ k < w.heap.size := fun k hk => World.ownsRow.lt h k hk

/-- One row more, in a region that draws its order. -/
theorem step_appR {ops : Array Oper} {o : Oper} {a : Act} {W : World} {K : Act → World → Prop} {Q : Exit → Act → World → Prop} {E : Prop} (hgd : o.guard = none) (s x : Operand) (ho : o.op = .call { callee := .builtin .append, args := #[s, x], argTypes := #[38, 38] })
    (base : Nat) (v : Value) (l : List RV) (b : RV) (G : Nat) (hs : a.eval s = v) (hx : a.eval x = .slice (some ⟨G, 0, none⟩) 1 1) (hown : OwR W base v l)
    (hG : Blk W G #[.slice b.ao b.xs.length b.cap] 33) (hlen : l.length ≤ 1000000000) (hb : base ≤ W.heap.size)
    (h : ∀ v' w', OwR w' base v' (l ++ [b]) → W.grownBy w' v.ownBlock → (v'.ownBlock = v.ownBlock ∨ v'.ownBlock = some W.heap.size) → K (a.put o.dst v') w') :
    if Region.wanted o (yielded ops a.tmps) = true then Oper.wp Tryz.prog o a W K Q else E := by
  have hw : Region.wanted o (yielded ops a.tmps) = true := by simp [Region.wanted, hgd]
  rw [if_pos hw]
  obtain ⟨i0, hi, hz0, hz1, hz2⟩ := info_parts Tryz.infoR
  obtain ⟨v', w', hrun, r1, r2, _, r4⟩ := run_append_own_at (P := Tryz.prog) W base 38 o.type 33 i0 _ 1 24 Tryz.underlying38 hi hz0 hz1 hz2 rfl (by decide) v _ _ hown ⟨G, 0, none⟩ 1 1 [b.val] rfl (by
    intro j u hj
    match j, hj with
    | 0, hj => simp [RV.val] at hj; subst hj; exact hG.cell 0
    | (j + 1), hj => simp at hj) (by intro u hu; simp [RV.val] at hu; subst hu; rfl) (by unfold maxLen; omega) (by omega) hb
  unfold Oper.wp execOp
  simp only [ho, resolve, invoke, builtin, Sem.run_bind, Sem.run_pure, Result.andThen_ok, List.map_toArray, List.map_cons, List.map_nil, hs, hx, hrun]
  refine h v' w' ?_ r2 r4
  unfold OwR
  rw [List.length_append, List.map_append]
  exact r1
def QV0 : QV := ⟨[], none, 0⟩
theorem qcs_made (n : Nat) : (madeCells (Value.slice none 0 0).cells (n * 1)).toList = (List.replicate n QV0).map QV.val := by
  apply List.ext_getElem?
  intro m
  by_cases hm : m < n
  · have e : ∀ z : Array Value, (madeCells z (n * 1)).toList[m]? = some (z[m % z.size]!) := fun z => by simp [madeCells, hm]
    rw [e]
    simp [Value.cells, hm, QV0, QV.val, Nat.mod_one]
  · rw [List.getElem?_eq_none (by simp [madeCells]; omega), List.getElem?_eq_none (by simp; omega)]
section
variable {ops : Array Oper} {rest : List Oper} {o : Oper} {a : Act} {Q : Exit → Act → World → Prop}
/-- So many lists made. -/
theorem makeQ (w : World) (hgd : o.guard = none) (l c : Operand) (ho : o.op = Op.makeSlice 47 l c) (kl kc : IntKind) (L C : Int) (n : Nat) (hl : a.eval l = .int kl L) (hc : a.eval c = .int kc C) (hL : L = (n : Int)) (hC : C = (n : Int)) (hn : n ≤ 1000)
    (h : ∀ g w', w.heap.size = g → OwQ w' w.heap.size (.slice (some ⟨g, 0, none⟩) n n) (List.replicate n QV0) → Below w.heap.size w w' → wpList Tryz.prog ops Q rest (a.put o.dst (.slice (some ⟨g, 0, none⟩) n n)) w') : wpList Tryz.prog ops Q (o :: rest) a w := by
  obtain ⟨i0, hi, hz0, hz1, hz2⟩ := info_parts Tryz.infoQ
  refine wpList_make_full w hgd l c 47 ho w.heap.size 38 i0 _ 1 Tryz.underlying47 hi hz0 hz1 kl kc L C n hl hc hL hC (by rw [hz2]; omega) (by unfold maxLen; omega) (Nat.le_refl _) ?_
  intro w' hown hgr
  refine h _ w' rfl ?_ ((Below.refl _ w).grown hgr (Nat.le_refl _) (fun k hk => by cases hk))
  unfold OwQ
  rw [List.length_replicate, ← qcs_made]
  exact hown
end
theorem OwQ.at {w : World} {b g n cap : Nat} {zs : List QV} (h : OwQ w b (.slice (some ⟨g, 0, none⟩) n cap) zs) (j : Nat) (z : QV) (hj : zs[j]? = some z) : w.cell? ⟨g, j, none⟩ = some (.slice z.ao z.ys.length z.cap) := by
  have := World.ownsRow.cells h (g := g) rfl j (.slice z.ao z.ys.length z.cap) (by rw [List.getElem?_map, hj]; rfl)
  rwa [add_none] at this
theorem OwQ.store {w : World} {b g n cap : Nat} {zs : List QV} (h : OwQ w b (.slice (some ⟨g, 0, none⟩) n cap) zs) (hn : n = zs.length) (j : Nat) (z : QV) :
    OwQ (w.setCell ⟨g, j, none⟩ (.slice z.ao z.ys.length z.cap)) b (.slice (some ⟨g, 0, none⟩) n cap) (zs.set j z) ∧ b ≤ g ∧ g < w.heap.size ∧ (∀ i, w.frozen? ⟨g, i, none⟩ = false) ∧ w.grownBy (w.setCell ⟨g, j, none⟩ (.slice z.ao z.ys.length z.cap)) (some g) := by
  subst hn
  unfold OwQ at h ⊢
  have h1 := World.ownsRow.stored h j (.slice z.ao z.ys.length z.cap)
  have l := World.ownsRow.lt h g rfl
  rw [List.length_set, List.map_set]
  exact ⟨h1.1, l.1, l.2, fun i => World.ownsRow.frozenAt h i, h1.2⟩
/-- Lists that a call has made, no two of them in one block. -/
def FitQ (W : World) (b : Nat) (zs : List QV) : Prop := (∀ z ∈ zs, OwR W b (.slice z.ao z.ys.length z.cap) z.ys ∧ FitR W b z.ys) ∧
  ∀ (i j : Nat) (x y : QV), zs[i]? = some x → zs[j]? = some y → i ≠ j → ∀ k, (Value.slice x.ao x.ys.length x.cap).ownBlock = some k → (Value.slice y.ao y.ys.length y.cap).ownBlock ≠ some k
theorem FitQ.made (W : World) (b n : Nat) : FitQ W b (List.replicate n QV0) := by
  refine ⟨fun z hz => ?_, fun i j x y hx hy hne k hk => ?_⟩
  · obtain rfl := (List.mem_replicate.1 hz).2
    exact ⟨owr_nil _ _, FitR.nil _ _⟩
  · have := List.mem_of_getElem? hx
    obtain rfl := (List.mem_replicate.1 this).2
    simp [QV0, Value.ownBlock] at hk
theorem FitQ.keep {W W' : World} {b : Nat} {zs : List QV} (h : FitQ W b zs) (hb : Below W.heap.size W W') : FitQ W' b zs := ⟨fun z hz => ⟨(h.1 z hz).1.keep hb, (h.1 z hz).2.keep hb⟩, h.2⟩
theorem FitQ.base {W : World} {b b' : Nat} {zs : List QV} (h : FitQ W b zs) (hb : b' ≤ b) : FitQ W b' zs := ⟨fun z hz => ⟨(h.1 z hz).1.base hb, (h.1 z hz).2.base hb⟩, h.2⟩
/-- One list with a row more, in its place. -/
theorem FitQ.more {W W1 W2 : World} {b k : Nat} {zs : List QV} {z : QV} {y : RV} {vo : Option Addr} {vc g : Nat} (h : FitQ W b zs) (hk : zs[k]? = some z)
    (hg : W.grownBy W1 (Value.slice z.ao z.ys.length z.cap).ownBlock) (ho : OwR W1 b (.slice vo (z.ys ++ [y]).length vc) (z.ys ++ [y])) (hy : FitR W b [y])
    (hbk : (Value.slice vo (z.ys ++ [y]).length vc).ownBlock = (Value.slice z.ao z.ys.length z.cap).ownBlock ∨ (Value.slice vo (z.ys ++ [y]).length vc).ownBlock = some W.heap.size)
    (hs : W1.grownBy W2 (some g)) (hq : ∀ t, t ≠ 38 → ∀ cur fz, W1.heap[g]? ≠ some (.cells cur t fz)) : FitQ W2 b (zs.set k ⟨z.ys ++ [y], vo, vc⟩) := by
  have hz := h.1 z (List.mem_of_getElem? hk)
  have nV : ∀ g' cur fz, some g = some g' → W1.heap[g']? ≠ some (.cells cur 28 fz) := fun g' cur fz e => by
    obtain rfl := Option.some.inj e
    exact hq _ (by decide) cur fz
  have nR : ∀ g' cur fz, some g = some g' → W1.heap[g']? ≠ some (.cells cur 33 fz) := fun g' cur fz e => by
    obtain rfl := Option.some.inj e
    exact hq _ (by decide) cur fz
  have vV := hz.1.type (t := 28) (by decide)
  have lk : k < zs.length := (List.getElem?_eq_some_iff.1 hk).1
  refine ⟨fun u hu => ?_, fun i j x x' hx hx' hne n hn hn' => ?_⟩
  · obtain ⟨i, hi, rfl⟩ := List.getElem_of_mem hu
    rw [List.length_set] at hi
    rw [List.getElem_set]
    split
    · exact ⟨ho.kept hs nR, (((hz.2.append hy).kept hg vV).kept hs nV)⟩
    · rename_i hne
      have hu' := h.1 zs[i] (List.getElem_mem hi)
      have hd := h.2 k i z zs[i] hk (List.getElem?_eq_getElem hi) hne
      exact ⟨(hu'.1.apart hg (fun n hn e => hd n e hn)).kept hs nR, (hu'.2.kept hg vV).kept hs nV⟩
  · rw [List.getElem?_set] at hx hx'
    have old : ∀ (m : Nat) (u : QV), zs[m]? = some u → ∀ n, (Value.slice u.ao u.ys.length u.cap).ownBlock = some n → n < W.heap.size := fun m u hu n hn => ((h.1 u (List.mem_of_getElem? hu)).1.lt n hn).2
    split at hx
    · rename_i e1
      subst e1
      obtain rfl := Option.some.inj hx
      rw [if_neg hne] at hx'
      rcases hbk with e | e
      · exact h.2 k j z x' hk hx' hne n (e ▸ hn) hn'
      · have e2 : some W.heap.size = some n := e.symm.trans hn
        obtain rfl := Option.some.inj e2
        have := old j x' hx' _ hn'
        omega
    · rename_i e1
      split at hx'
      · rename_i e2
        subst e2
        obtain rfl := Option.some.inj hx'
        rcases hbk with e | e
        · exact h.2 i k x z hx hk hne n hn (e ▸ hn')
        · have e2 : some W.heap.size = some n := e.symm.trans hn'
          obtain rfl := Option.some.inj e2
          have := old i x hx _ hn
          omega
      · exact h.2 i j x x' hx hx' hne n hn hn'

end Go.Proofs.YtdonmbmahcjfbaaGreatDoor

namespace Go.Proofs.YtdonmbmahcjfbaaGreatDoor
open Go.RowKit

/-! ### One value less, another value, one by one -/
end Go.Proofs.YtdonmbmahcjfbaaGreatDoor
