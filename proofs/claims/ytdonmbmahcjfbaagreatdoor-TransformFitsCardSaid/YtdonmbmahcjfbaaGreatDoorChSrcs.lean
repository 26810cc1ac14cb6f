/-
  Changes of tables as plain mathematics: whether tables may be, a change's sources, what is there instead, all tables behind it. Conditions: none.
  Tables in memory: a slice of tables, a row of them that a call owns: made, one more, one stored. Conditions: the bounds named in each theorem.
  Where a table of a name stands: Find (by slices.IndexFunc and a closure), the document's Find; whether tables may be: CheckAll, the document's; a table with columns of its own: copied (by slices.Clone). Conditions: the bounds named in each theorem.
  The parts of Targets: a table with columns of its own (copied, by slices.Clone), tables of names (ofNames), tables without some (without), a column behind the key (behindKey). Conditions: the bounds named in each theorem.
  A change behind its interface: changerOf; whether it takes tables away: taken, takes; the names of those: Sources, the document's Sources. Conditions: none.
  The names of the tables that are no more behind a change: Sources. Conditions: none.
-/
import Derived.Test.YtdonmbmahcjfbaaGreatDoorScPlain
import Derived.Test.YtdonmbmahcjfbaaGreatDoorCvPlain
import Derived.Test.YtdonmbmahcjfbaaGreatDoorScSame
import Derived.Maps.AppendAt
import Derived.Lib.SliceRun
import Derived.Stop.Asserts
import Derived.Deep.MidRow
namespace Go.Proofs.YtdonmbmahcjfbaaGreatDoor
open Go.RowKit

/-- A change. -/
structure Ch where
  kind : Int
  table : Nm.S
  other : Nm.S
  to : Nm.S
  also : Nm.S
  name : Nm.S
  type : Int
  names : List Nm.S
  col : C
  df : T

def nms (l : List T) : List Nm.S := l.map T.name
def T.cns (t : T) : List Nm.S := t.cs.map C.name
/-- The names of the tables that are no more; what is left; the table of a name. -/
def Ch.src (c : Ch) : List Nm.S := if c.kind = 6 then [c.table, c.other] else if 2 ≤ c.kind ∧ c.kind ≤ 5 then [c.table] else []
def lft (l : List T) (g : List Nm.S) : List T := l.filter (fun t => decide (t.name ∉ g))
/-- A column more; one less; one of another kind. -/
def T.add (t : T) (c : C) : List T × Int :=
  if c.ck ≠ 0 then ([], c.ck) else if c.name ∈ t.cns then ([], 12) else if 8 ≤ t.cs.length then ([], 2) else if c.null = false ∧ c.d.k = 0 then ([], 11)
  else ([⟨t.name, t.keys, t.cs ++ [c]⟩], 0)
def V.to (v : V) (kind : Int) : V := ⟨(Km.Cv.to v.k v.n v.b v.s kind).k, (Km.Cv.to v.k v.n v.b v.s kind).n, (Km.Cv.to v.k v.n v.b v.s kind).b, (Km.Cv.to v.k v.n v.b v.s kind).s⟩
def T.col (t : T) (s : Nm.S) : C := (t.cs[(Nm.fi t.cns s).toNat]?).getD C0
/-- One as two. -/
def T.bad (t : T) (ns : List Nm.S) : Bool := (ns.any fun s => decide (Nm.fi t.cns s < t.keys)) || !(Nm.un ns)
def T.some (t : T) (ns : List Nm.S) : List C := t.cs.take t.keys.toNat ++ (t.cs.drop t.keys.toNat).filter (fun c => decide (c.name ∈ ns))
def T.rest (t : T) (ns : List Nm.S) : List C := t.cs.take t.keys.toNat ++ (t.cs.drop t.keys.toNat).filter (fun c => decide (c.name ∉ ns))
/-- A new one. -/
def T.new (t : T) : List T × Int := if t.ck ≠ 0 then ([], t.ck) else ([t], 0)

def twice (l : List T) (g : List Nm.S) (to : List T) : Bool := to.any fun t => decide (t.name ∈ nms (lft l g))
/-- A table more, where it belongs; all of them. -/
def put : List T → T → List T
  | [], t => [t]
  | x :: l, t => if t.name < x.name then t :: x :: l else x :: put l t
/-! ### Tables that may be -/
/-! ### Tables by their names -/
theorem fi_mem {l : List Nm.S} {s : Nm.S} (h : s ∈ l) : Nm.fi l s = (l.idxOf s : Int) := by rw [Nm.fi, if_pos h]
theorem fi_lt (l : List Nm.S) (s : Nm.S) : Nm.fi l s < l.length := by
  unfold Nm.fi
  split
  · rename_i h; have := List.idxOf_lt_length_iff.2 h; omega
  · omega
end Go.Proofs.YtdonmbmahcjfbaaGreatDoor

namespace Go.Proofs.YtdonmbmahcjfbaaGreatDoor
open Go.RowKit

/-- A table as a row of tables holds it: its columns lie at ao. -/
structure TV where
  t : T
  ao : Option Addr
  cap : Nat
def TV.cells (x : TV) : List Value := [.string ⟨x.t.name.toArray⟩, .int .i64 x.t.keys, .slice x.ao x.t.cs.length x.cap]
/-- Cell by cell. -/
def AtT (W : World) (p : Addr) (x : TV) : Prop :=
  W.cell? p = some (.string ⟨x.t.name.toArray⟩) ∧ W.cell? ⟨p.block, p.off + 1, none⟩ = some (.int .i64 x.t.keys) ∧ W.cell? ⟨p.block, p.off + 2, none⟩ = some (.slice x.ao x.t.cs.length x.cap)
/-- A slice of tables; their columns. -/
def SlV (W : World) (ao : Option Addr) (xs : List TV) : Prop := ∀ (i : Nat) (x : TV), xs[i]? = some x → ∃ a, ao = some a ∧ AtT W (a.add (i * 3)) x
def Fit (W : World) (xs : List TV) : Prop := ∀ x ∈ xs, At3 W x.t x.ao x.cap
theorem SlV.below {W W' : World} {ao : Option Addr} {xs : List TV} (h : SlV W ao xs) (hb : Below W.heap.size W W') : SlV W' ao xs := by
  intro i c hi
  obtain ⟨a, ha, h0, h1, h2⟩ := h i c hi
  exact ⟨a, ha, keep0 h0 hb, keep0 h1 hb, keep0 h2 hb⟩
theorem SlV.nil (W : World) (ao : Option Addr) : SlV W ao [] := fun i x h => by simp at h
theorem Fit.below {W W' : World} {xs : List TV} (h : Fit W xs) (hb : Below W.heap.size W W') : Fit W' xs := fun x hx => (h x hx).keep hb
theorem Fit.nil (W : World) : Fit W [] := fun x hx => by simp at hx
theorem Fit.cons {W : World} {x : TV} {xs : List TV} (h : At3 W x.t x.ao x.cap) (hs : Fit W xs) : Fit W (x :: xs) := fun y hy => by
  rcases List.mem_cons.1 hy with rfl | hy
  · exact h
  · exact hs y hy
theorem Fit.append {W : World} {xs ys : List TV} (h : Fit W xs) (hs : Fit W ys) : Fit W (xs ++ ys) := fun y hy => by
  rcases List.mem_append.1 hy with hy | hy
  · exact h y hy
  · exact hs y hy

/-- The cells of tables. -/
def tcs : List TV → List Value
  | [] => []
  | x :: xs => x.cells ++ tcs xs
theorem tcs_at : ∀ (xs : List TV) (i : Nat) (x : TV) (j : Nat), xs[i]? = some x → j < 3 → (tcs xs)[i * 3 + j]? = x.cells[j]?
  | [], i, x, j, h, _ => by simp at h
  | y :: xs, 0, x, j, h, hj => by
    obtain rfl : y = x := by simpa using h
    rw [tcs, List.getElem?_append_left (by simp [TV.cells]; omega)]; simp
  | y :: xs, i + 1, x, j, h, hj => by
    rw [tcs, List.getElem?_append_right (by simp [TV.cells]; omega), show (i + 1) * 3 + j - y.cells.length = i * 3 + j by simp [TV.cells]; omega]
    exact tcs_at xs i x j (by simpa using h) hj
theorem tcs_set : ∀ (xs : List TV) (j : Nat) (x : TV), j < xs.length → ((((tcs xs).set (j * 3) (.string ⟨x.t.name.toArray⟩)).set (j * 3 + 1) (.int .i64 x.t.keys)).set (j * 3 + 2) (.slice x.ao x.t.cs.length x.cap)) = tcs (xs.set j x)
  | [], j, x, h => by simp at h
  | y :: xs, 0, x, _ => by simp [tcs, TV.cells]
  | y :: xs, j + 1, x, h => by
    have ih := tcs_set xs j x (by simpa using h)
    have hc : y.cells.length = 3 := rfl
    rw [List.set_cons_succ, tcs, tcs, ← ih]
    rw [List.set_append_right _ _ (by rw [hc]; omega), List.set_append_right _ _ (by rw [hc]; omega), List.set_append_right _ _ (by rw [hc]; omega), hc]
    rw [show (j + 1) * 3 - 3 = j * 3 by omega, show (j + 1) * 3 + 1 - 3 = j * 3 + 1 by omega, show (j + 1) * 3 + 2 - 3 = j * 3 + 2 by omega]

/-- A row of tables that a call owns. -/
def OwT (w : World) (base : Nat) (v : Value) (xs : List TV) : Prop := w.ownsRow base 24 3 v xs.length (tcs xs)
theorem OwT.keep {w w' : World} {b : Nat} {v : Value} {l : List TV} (h : OwT w b v l) (hb : Below w.heap.size w w') : OwT w' b v l := by
  refine ⟨h.1, ?_⟩
  rcases h.2 with hn | ⟨g, cap, cur, hv, hbg, hg, rest⟩
  · exact .inl hn
  · exact .inr ⟨g, cap, cur, hv, hbg, (hb.block g (Array.getElem?_eq_some_iff.1 hg).1).trans hg, rest⟩
theorem OwT.base {w : World} {b b' : Nat} {v : Value} {l : List TV} (h : OwT w b v l) (hb : b' ≤ b) : OwT w b' v l := by
  refine ⟨h.1, ?_⟩
  rcases h.2 with hn | ⟨g, cap, cur, hv, hbg, rest⟩
  · exact .inl hn
  · exact .inr ⟨g, cap, cur, hv, Nat.le_trans hb hbg, rest⟩
/-- Such a row as a slice: its length, its room, what it holds. -/
theorem OwT.sl {w : World} {b : Nat} {v : Value} {xs : List TV} (h : OwT w b v xs) : ∃ ao cap, v = .slice ao xs.length cap ∧ xs.length ≤ cap ∧ SlV w ao xs := by
  have h' := h
  rcases h.2 with ⟨hv, hn⟩ | ⟨g, cap, cur, hv, _, hg, h1, h2, h3, h4⟩
  · have e := List.eq_nil_of_length_eq_zero hn
    subst e
    exact ⟨none, 0, hv, Nat.le_refl _, fun i x hi => by simp at hi⟩
  · refine ⟨some ⟨g, 0, none⟩, cap, hv, ?_, fun i x hi => ⟨⟨g, 0, none⟩, rfl, ?_⟩⟩
    · first | exact h1 | omega
    · have c : ∀ j u, j < 3 → x.cells[j]? = some u → w.cell? ⟨g, i * 3 + j, none⟩ = some u := fun j u hj hu => by
        have := World.ownsRow.cells h' (g := g) (by rw [hv]; rfl) (i * 3 + j) u ((tcs_at xs i x j hi hj).trans hu)
        rwa [add_none] at this
      rw [add_none]
      exact ⟨c 0 _ (by decide) rfl, c 1 _ (by decide) rfl, c 2 _ (by decide) rfl⟩
/-- What a store of another table leaves. -/
theorem OwT.store {w : World} {b g n cap : Nat} {ys : List TV} (h : OwT w b (.slice (some ⟨g, 0, none⟩) n cap) ys) (hn : n = ys.length) (j : Nat) (hj : j < ys.length) (x : TV) :
    OwT (((w.setCell ⟨g, j * 3, none⟩ (.string ⟨x.t.name.toArray⟩)).setCell ⟨g, j * 3 + 1, none⟩ (.int .i64 x.t.keys)).setCell ⟨g, j * 3 + 2, none⟩ (.slice x.ao x.t.cs.length x.cap)) b (.slice (some ⟨g, 0, none⟩) n cap) (ys.set j x) ∧ b ≤ g ∧ g < w.heap.size ∧ (∀ i, w.frozen? ⟨g, i, none⟩ = false) := by
  subst hn
  unfold OwT at h ⊢
  have h0 := World.ownsRow.stored h (j * 3) (.string ⟨x.t.name.toArray⟩)
  have h1 := World.ownsRow.stored h0.1 (j * 3 + 1) (.int .i64 x.t.keys)
  have h2 := World.ownsRow.stored h1.1 (j * 3 + 2) (.slice x.ao x.t.cs.length x.cap)
  have l := World.ownsRow.lt h g rfl
  rw [List.length_set, ← tcs_set ys j x hj]
  exact ⟨h2.1, l.1, l.2, fun i => World.ownsRow.frozenAt h i⟩
theorem OwT.at {w : World} {b g n cap : Nat} {ys : List TV} (h : OwT w b (.slice (some ⟨g, 0, none⟩) n cap) ys) (j : Nat) (y : TV) (hj : ys[j]? = some y) :
    w.cell? ⟨g, j * 3, none⟩ = some (.string ⟨y.t.name.toArray⟩) ∧ w.cell? ⟨g, j * 3 + 1, none⟩ = some (.int .i64 y.t.keys) ∧ w.cell? ⟨g, j * 3 + 2, none⟩ = some (.slice y.ao y.t.cs.length y.cap) := by
  have c : ∀ i u, i < 3 → y.cells[i]? = some u → w.cell? ⟨g, j * 3 + i, none⟩ = some u := fun i u hi hu => by
    have := World.ownsRow.cells h (g := g) rfl (j * 3 + i) u ((tcs_at ys j y i hj hi).trans hu)
    rwa [add_none] at this
  exact ⟨c 0 _ (by decide) rfl, c 1 _ (by decide) rfl, c 2 _ (by decide) rfl⟩
/-! ### Blocks, once more -/
theorem Blk.frozen {W : World} {B : Nat} {cs : Array Value} {t : TypeId} (h : Blk W B cs t) (i : Nat) : W.frozen? ⟨B, i, none⟩ = false := by simp [World.frozen?, show W.heap[B]? = _ from h]
theorem Blk.setAt {W : World} {B : Nat} {cs : Array Value} {t : TypeId} (i : Nat) (u : Value) (h : Blk W B cs t) : Blk (W.setCell ⟨B, i, none⟩ u) B (cs.setIfInBounds i u) t := by
  obtain ⟨hlt, hk⟩ := Array.getElem?_eq_some_iff.1 h
  show (W.heap.modify B _)[B]? = _
  rw [Array.getElem?_eq_getElem (by rw [Array.size_modify]; exact hlt), Array.getElem_modify_self, hk]
  rfl
theorem Blk.otherAt {W : World} {B B' : Nat} {cs : Array Value} {t : TypeId} (h : Blk W B cs t) (hne : B ≠ B') (i : Nat) (u : Value) : Blk (W.setCell ⟨B', i, none⟩ u) B cs t :=
  (Below.heap_setCell W ⟨B', i, none⟩ u B hne).trans h
/-- A row of columns beside a store elsewhere, and beside a row of tables that grows. -/
theorem OwC.off {w : World} {b g : Nat} {v : Value} {l : List C} (h : OwC w b v l) (i : Nat) (u : Value) (hg : g < b) : OwC (w.setCell ⟨g, i, none⟩ u) b v l := by
  refine ⟨h.1, ?_⟩
  rcases h.2 with hn | ⟨k, cap, cur, hv, hbg, hk, rest⟩
  · exact .inl hn
  · exact .inr ⟨k, cap, cur, hv, hbg, (Below.heap_setCell w ⟨g, i, none⟩ u k (by simp; omega)).trans hk, rest⟩
theorem OwC.kept {w w' : World} {row : Option Nat} {b : Nat} {v : Value} {l : List C} (h : OwC w b v l) (hg : w.grownBy w' row) (hr : ∀ g cur fz, row = some g → w.heap[g]? ≠ some (.cells cur 30 fz)) : OwC w' b v l := by
  refine ⟨h.1, ?_⟩
  rcases h.2 with hn | ⟨k, cap, cur, hv, hbg, hk, rest⟩
  · exact .inl hn
  · exact .inr ⟨k, cap, cur, hv, hbg, (hg.block k (Array.getElem?_eq_some_iff.1 hk).1 (fun e => hr k cur _ e.symm hk)).trans hk, rest⟩
theorem OwT.type {w : World} {b : Nat} {v : Value} {l : List TV} (h : OwT w b v l) : ∀ g cur fz, v.ownBlock = some g → w.heap[g]? ≠ some (.cells cur 30 fz) := by
  intro g cur fz hv he
  rcases h.2 with ⟨hn, _⟩ | ⟨k, cap, cur', hv', _, hk, _⟩
  · rw [hn] at hv; cases hv
  · rw [hv'] at hv
    obtain rfl : k = g := Option.some.inj hv
    rw [hk] at he
    have := Option.some.inj he
    injection this with _ e _
    exact absurd e (by decide)
/-- Tables whose columns are rows that calls have made. -/
def FitO (W : World) (b : Nat) (xs : List TV) : Prop := ∀ x ∈ xs, OwC W b (.slice x.ao x.t.cs.length x.cap) x.t.cs ∧ ∀ c ∈ x.t.cs, c.d.ok
theorem OwC.at3 {W : World} {b : Nat} {x : TV} (h : OwC W b (.slice x.ao x.t.cs.length x.cap) x.t.cs) (ho : ∀ c ∈ x.t.cs, c.d.ok) : At3 W x.t x.ao x.cap := by
  obtain ⟨ao, cap, e, hc, hs⟩ := h.sl
  injection e with e1 _ e3
  rw [e1, e3]
  exact ⟨hs, hc, ho⟩
theorem FitO.fit {W : World} {b : Nat} {xs : List TV} (h : FitO W b xs) : Fit W xs := fun x hx => OwC.at3 (h x hx).1 (h x hx).2
theorem FitO.keep {W W' : World} {b : Nat} {xs : List TV} (h : FitO W b xs) (hb : Below W.heap.size W W') : FitO W' b xs := fun x hx => ⟨(h x hx).1.keep hb, (h x hx).2⟩
theorem FitO.base {W : World} {b b' : Nat} {xs : List TV} (h : FitO W b xs) (hb : b' ≤ b) : FitO W b' xs := fun x hx => ⟨(h x hx).1.base hb, (h x hx).2⟩
theorem FitO.kept {W W' : World} {b : Nat} {xs : List TV} {row : Option Nat} (h : FitO W b xs) (hg : W.grownBy W' row) (hr : ∀ g cur fz, row = some g → W.heap[g]? ≠ some (.cells cur 30 fz)) : FitO W' b xs := fun x hx => ⟨(h x hx).1.kept hg hr, (h x hx).2⟩
theorem FitO.nil (W : World) (b : Nat) : FitO W b [] := fun x hx => by simp at hx
theorem FitO.one {W : World} {b : Nat} {x : TV} (h : OwC W b (.slice x.ao x.t.cs.length x.cap) x.t.cs) (ho : ∀ c ∈ x.t.cs, c.d.ok) : FitO W b [x] := fun y hy => by
  obtain rfl := List.mem_singleton.1 hy
  exact ⟨h, ho⟩
theorem FitO.append {W : World} {b : Nat} {xs ys : List TV} (h : FitO W b xs) (hs : FitO W b ys) : FitO W b (xs ++ ys) := fun y hy => by
  rcases List.mem_append.1 hy with hy | hy
  · exact h y hy
  · exact hs y hy
set_option linter.unusedSimpArgs false in
theorem add_two (a : Addr) (i r : Nat) : a.add (i + r) = (a.add i).add r := by
  unfold Addr.add
  by_cases h1 : i = 0 <;> by_cases h2 : r = 0 <;> simp [h1, h2, Nat.add_assoc]
/-- The cells of a slice of columns, one behind the other. -/
theorem SlC.cell {W : World} {a : Addr} {cs : List C} (h : SlC W (some a) cs) (j : Nat) (u : Value) (hj : (ccs cs)[j]? = some u) : W.cell? (a.add j) = some u := by
  have hl : j < cs.length * 7 := by
    have := (List.getElem?_eq_some_iff.1 hj).1
    rwa [ccs_len] at this
  obtain ⟨i, r, rfl, hr⟩ : ∃ i r, j = i * 7 + r ∧ r < 7 := ⟨j / 7, j % 7, by omega, by omega⟩
  have hi : i < cs.length := by omega
  obtain ⟨a', ha, h0, h1, h2, h3, h4, h5, h6⟩ := h i cs[i] (List.getElem?_eq_getElem hi)
  obtain rfl := Option.some.inj ha
  rw [ccs_at cs i cs[i] r (List.getElem?_eq_getElem hi) hr] at hj
  have e : a.add (i * 7 + r) = (a.add (i * 7)).add r := add_two a (i * 7) r
  rw [e]
  have c : r = 0 ∨ r = 1 ∨ r = 2 ∨ r = 3 ∨ r = 4 ∨ r = 5 ∨ r = 6 := by omega
  rcases c with rfl | rfl | rfl | rfl | rfl | rfl | rfl
  · simp [C.cells] at hj; subst hj; exact h0
  · simp [C.cells] at hj; subst hj; exact h1
  · simp [C.cells] at hj; subst hj; exact h2
  · simp [C.cells] at hj; subst hj; exact h3
  · simp [C.cells] at hj; subst hj; exact h4
  · simp [C.cells] at hj; subst hj; exact h5
  · simp [C.cells] at hj; subst hj; exact h6
section
variable {ops : Array Oper} {rest : List Oper} {o : Oper} {a : Act} {Q : Exit → Act → World → Prop}
end

end Go.Proofs.YtdonmbmahcjfbaaGreatDoor

namespace Go.Proofs.YtdonmbmahcjfbaaGreatDoor
open Go.RowKit

/-! ### Find -/
theorem mf (fn : Fn) (first cap : Array Value) (w : World) : (Instr.makeFunc fn first cap).run Tryz.prog w = .ok (.func fn first cap) w := rfl
/-! ### CheckAll -/
end Go.Proofs.YtdonmbmahcjfbaaGreatDoor

namespace Go.Proofs.YtdonmbmahcjfbaaGreatDoor
open Go.RowKit

theorem SlC.none {W : World} {cs : List C} (h : SlC W none cs) : cs = [] := by
  cases cs with
  | nil => rfl
  | cons c cs =>
    obtain ⟨a, ha, _⟩ := h 0 c rfl
    cases ha

/-! ### without -/
/-! ### ofNames -/
end Go.Proofs.YtdonmbmahcjfbaaGreatDoor

namespace Go.Proofs.YtdonmbmahcjfbaaGreatDoor
open Go.RowKit
set_option linter.unusedVariables false

theorem rng {W : World} {B : Nat} {cs : List Value} {t : TypeId} (h : Blk W B cs.toArray t) : W.rangeAt B 0 cs := fun j v hv => by
  rw [Nat.zero_add, h.cell j]
  simpa using hv
theorem infoCh : (Tryz.prog.info? 32).map (·.size) = some 18 := by kernel_rfl

set_option maxHeartbeats 2000000 in
theorem changer_1 (tb ot to al nm : Nm.S) (ty : Int) (no : Option Addr) (nn nc : Nat) (col : C) (df : T) (dO : Option Addr) (dc : Nat) (w : World) :
    Calls Tryz.prog 39 #[.agg #[.int .i64 1, .string ⟨tb.toArray⟩, .string ⟨ot.toArray⟩, .string ⟨to.toArray⟩, .string ⟨al.toArray⟩, .string ⟨nm.toArray⟩, .int .i64 ty, .slice no nn nc, .string ⟨col.name.toArray⟩, .int .i64 col.kind, .bool col.null, .int .i64 col.d.k, .int .i64 col.d.n, .int .u64 col.d.b, .string ⟨col.d.s.toArray⟩, .string ⟨df.name.toArray⟩, .int .i64 df.keys, .slice dO df.cs.length dc]] w fun e w' => e = .returned (.iface 101 (.agg #[.string ⟨df.name.toArray⟩, .int .i64 df.keys, .slice dO df.cs.length dc])) ∧ Below w.heap.size w w' := by
  go_enter Tryz.func39, Tryz.ntmps39
  go_wp2
  go_ret
  exact ⟨rfl, below1 _ _⟩

set_option maxHeartbeats 2000000 in
theorem changer_2 (tb ot to al nm : Nm.S) (ty : Int) (no : Option Addr) (nn nc : Nat) (col : C) (df : T) (dO : Option Addr) (dc : Nat) (w : World) :
    Calls Tryz.prog 39 #[.agg #[.int .i64 2, .string ⟨tb.toArray⟩, .string ⟨ot.toArray⟩, .string ⟨to.toArray⟩, .string ⟨al.toArray⟩, .string ⟨nm.toArray⟩, .int .i64 ty, .slice no nn nc, .string ⟨col.name.toArray⟩, .int .i64 col.kind, .bool col.null, .int .i64 col.d.k, .int .i64 col.d.n, .int .u64 col.d.b, .string ⟨col.d.s.toArray⟩, .string ⟨df.name.toArray⟩, .int .i64 df.keys, .slice dO df.cs.length dc]] w fun e w' => e = .returned (.iface 105 (.agg #[.string ⟨tb.toArray⟩, .string ⟨col.name.toArray⟩, .int .i64 col.kind, .bool col.null, .int .i64 col.d.k, .int .i64 col.d.n, .int .u64 col.d.b, .string ⟨col.d.s.toArray⟩])) ∧ Below w.heap.size w w' := by
  go_enter Tryz.func39, Tryz.ntmps39
  go_wp2
  go_ret
  exact ⟨rfl, below1 _ _⟩

set_option maxHeartbeats 2000000 in
theorem changer_3 (tb ot to al nm : Nm.S) (ty : Int) (no : Option Addr) (nn nc : Nat) (col : C) (df : T) (dO : Option Addr) (dc : Nat) (w : World) :
    Calls Tryz.prog 39 #[.agg #[.int .i64 3, .string ⟨tb.toArray⟩, .string ⟨ot.toArray⟩, .string ⟨to.toArray⟩, .string ⟨al.toArray⟩, .string ⟨nm.toArray⟩, .int .i64 ty, .slice no nn nc, .string ⟨col.name.toArray⟩, .int .i64 col.kind, .bool col.null, .int .i64 col.d.k, .int .i64 col.d.n, .int .u64 col.d.b, .string ⟨col.d.s.toArray⟩, .string ⟨df.name.toArray⟩, .int .i64 df.keys, .slice dO df.cs.length dc]] w fun e w' => e = .returned (.iface 107 (.agg #[.string ⟨tb.toArray⟩, .string ⟨nm.toArray⟩])) ∧ Below w.heap.size w w' := by
  go_enter Tryz.func39, Tryz.ntmps39
  go_wp2
  go_ret
  exact ⟨rfl, below1 _ _⟩

set_option maxHeartbeats 2000000 in
theorem changer_4 (tb ot to al nm : Nm.S) (ty : Int) (no : Option Addr) (nn nc : Nat) (col : C) (df : T) (dO : Option Addr) (dc : Nat) (w : World) :
    Calls Tryz.prog 39 #[.agg #[.int .i64 4, .string ⟨tb.toArray⟩, .string ⟨ot.toArray⟩, .string ⟨to.toArray⟩, .string ⟨al.toArray⟩, .string ⟨nm.toArray⟩, .int .i64 ty, .slice no nn nc, .string ⟨col.name.toArray⟩, .int .i64 col.kind, .bool col.null, .int .i64 col.d.k, .int .i64 col.d.n, .int .u64 col.d.b, .string ⟨col.d.s.toArray⟩, .string ⟨df.name.toArray⟩, .int .i64 df.keys, .slice dO df.cs.length dc]] w fun e w' => e = .returned (.iface 109 (.agg #[.string ⟨tb.toArray⟩, .string ⟨nm.toArray⟩, .int .i64 ty])) ∧ Below w.heap.size w w' := by
  go_enter Tryz.func39, Tryz.ntmps39
  go_wp2
  go_ret
  exact ⟨rfl, below1 _ _⟩

set_option maxHeartbeats 2000000 in
theorem changer_5 (tb ot to al nm : Nm.S) (ty : Int) (no : Option Addr) (nn nc : Nat) (col : C) (df : T) (dO : Option Addr) (dc : Nat) (w : World) :
    Calls Tryz.prog 39 #[.agg #[.int .i64 5, .string ⟨tb.toArray⟩, .string ⟨ot.toArray⟩, .string ⟨to.toArray⟩, .string ⟨al.toArray⟩, .string ⟨nm.toArray⟩, .int .i64 ty, .slice no nn nc, .string ⟨col.name.toArray⟩, .int .i64 col.kind, .bool col.null, .int .i64 col.d.k, .int .i64 col.d.n, .int .u64 col.d.b, .string ⟨col.d.s.toArray⟩, .string ⟨df.name.toArray⟩, .int .i64 df.keys, .slice dO df.cs.length dc]] w fun e w' => e = .returned (.iface 111 (.agg #[.string ⟨tb.toArray⟩, .string ⟨to.toArray⟩, .string ⟨al.toArray⟩, .slice no nn nc])) ∧ Below w.heap.size w w' := by
  go_enter Tryz.func39, Tryz.ntmps39
  go_wp2
  go_ret
  exact ⟨rfl, below1 _ _⟩

set_option maxHeartbeats 2000000 in
theorem changer_6 (tb ot to al nm : Nm.S) (ty : Int) (no : Option Addr) (nn nc : Nat) (col : C) (df : T) (dO : Option Addr) (dc : Nat) (w : World) :
    Calls Tryz.prog 39 #[.agg #[.int .i64 6, .string ⟨tb.toArray⟩, .string ⟨ot.toArray⟩, .string ⟨to.toArray⟩, .string ⟨al.toArray⟩, .string ⟨nm.toArray⟩, .int .i64 ty, .slice no nn nc, .string ⟨col.name.toArray⟩, .int .i64 col.kind, .bool col.null, .int .i64 col.d.k, .int .i64 col.d.n, .int .u64 col.d.b, .string ⟨col.d.s.toArray⟩, .string ⟨df.name.toArray⟩, .int .i64 df.keys, .slice dO df.cs.length dc]] w fun e w' => e = .returned (.iface 113 (.agg #[.string ⟨tb.toArray⟩, .string ⟨ot.toArray⟩, .string ⟨to.toArray⟩])) ∧ Below w.heap.size w w' := by
  go_enter Tryz.func39, Tryz.ntmps39
  go_wp2
  go_ret
  exact ⟨rfl, below1 _ _⟩

set_option maxHeartbeats 2000000 in
theorem changer_0 (K : Int) (tb ot to al nm : Nm.S) (ty : Int) (no : Option Addr) (nn nc : Nat) (col : C) (df : T) (dO : Option Addr) (dc : Nat) (w : World) (h1 : (K == 1) = false) (h2 : (K == 2) = false) (h3 : (K == 3) = false) (h4 : (K == 4) = false) (h5 : (K == 5) = false) (h6 : (K == 6) = false) :
    Calls Tryz.prog 39 #[.agg #[.int .i64 K, .string ⟨tb.toArray⟩, .string ⟨ot.toArray⟩, .string ⟨to.toArray⟩, .string ⟨al.toArray⟩, .string ⟨nm.toArray⟩, .int .i64 ty, .slice no nn nc, .string ⟨col.name.toArray⟩, .int .i64 col.kind, .bool col.null, .int .i64 col.d.k, .int .i64 col.d.n, .int .u64 col.d.b, .string ⟨col.d.s.toArray⟩, .string ⟨df.name.toArray⟩, .int .i64 df.keys, .slice dO df.cs.length dc]] w fun e w' => e = .returned .nilIface ∧ Below w.heap.size w w' := by
  go_enter Tryz.func39, Tryz.ntmps39
  go_wp2
  go_ret
  exact ⟨rfl, below1 _ _⟩

theorem ows_one (w : World) (s : Nm.S) : OwS (w.alloc (.cells #[.string ⟨s.toArray⟩] 9)) w.heap.size (.slice (some ⟨w.heap.size, 0, none⟩) 1 1) [s] := by
  refine ⟨rfl, .inr ⟨w.heap.size, 1, _, rfl, Nat.le_refl _, Blk.new w _ _, Nat.le_refl _, by unfold maxLen; decide, rfl, rfl⟩⟩
theorem ows_two (w : World) (s t : Nm.S) : OwS (w.alloc (.cells #[.string ⟨s.toArray⟩, .string ⟨t.toArray⟩] 9)) w.heap.size (.slice (some ⟨w.heap.size, 0, none⟩) 2 2) [s, t] := by
  refine ⟨rfl, .inr ⟨w.heap.size, 2, _, rfl, Nat.le_refl _, Blk.new w _ _, Nat.le_refl _, by unfold maxLen; decide, rfl, rfl⟩⟩

set_option maxHeartbeats 1000000 in
theorem takes_one (tb : Nm.S) (w : World) :
    Calls Tryz.prog 197 #[.agg #[.string ⟨tb.toArray⟩]] w fun e w' => ∃ v, e = .returned v ∧ OwS w' w.heap.size v [tb] ∧ Below w.heap.size w w' := by
  go_enter Tryz.func197, Tryz.ntmps197
  go_wp2
  go_ret
  exact ⟨_, rfl, (show OwS _ (w.heap.size + 1) _ _ from by have := ows_one (w.alloc (.cells #[.string ⟨tb.toArray⟩] 103)) tb; simpa using this).base (by omega), below2s _ _ _⟩

set_option maxHeartbeats 1000000 in
theorem takes_merge (tb ot to : Nm.S) (w : World) :
    Calls Tryz.prog 207 #[.agg #[.string ⟨tb.toArray⟩, .string ⟨ot.toArray⟩, .string ⟨to.toArray⟩]] w fun e w' => ∃ v, e = .returned v ∧ OwS w' w.heap.size v [tb, ot] ∧ Below w.heap.size w w' := by
  go_enter Tryz.func207, Tryz.ntmps207
  go_wp2
  go_ret
  exact ⟨_, rfl, (show OwS _ (w.heap.size + 1) _ _ from by have := ows_two (w.alloc (.cells #[.string ⟨tb.toArray⟩, .string ⟨ot.toArray⟩, .string ⟨to.toArray⟩] 113)) tb ot; simpa using this).base (by omega), below2s _ _ _⟩

theorem as_create (v : Value) (xT : TypeId) (w : World) : (Instr.typeAssert (.iface 101 v) xT 115 true).run Tryz.prog w = .ok (.tuple #[.nilIface, .bool false]) w :=
  run_typeAssert_lacksB Tryz.underlying115 (by kernel_rfl) (by kernel_rfl) v xT w
set_option maxHeartbeats 1000000 in
theorem taken_1 (tb ot to al nm : Nm.S) (ty : Int) (no : Option Addr) (nn nc : Nat) (col : C) (df : T) (dO : Option Addr) (dc : Nat) (w : World) :
    Calls Tryz.prog 40 #[.iface 101 (.agg #[.string ⟨df.name.toArray⟩, .int .i64 df.keys, .slice dO df.cs.length dc])] w fun e w' => ∃ v, e = .returned v ∧ OwS w' w.heap.size v [] ∧ Below w.heap.size w w' := by
  have k0 := as_create
  go_enter Tryz.func40, Tryz.ntmps40
  go_wp2
  go_ret
  exact ⟨_, rfl, ows_nil _ _, Below.refl _ _⟩

theorem as_add (v : Value) (xT : TypeId) (w : World) : (Instr.typeAssert (.iface 105 v) xT 115 true).run Tryz.prog w = .ok (.tuple #[.iface 105 v, .bool true]) w :=
  run_typeAssert_hasB Tryz.underlying115 (by kernel_rfl) v xT w
theorem mt_add (x0 x1 x2 x3 x4 x5 x6 x7 : Value) (w : World) : (Go.method 385 105 (.agg #[x0, x1, x2, x3, x4, x5, x6, x7]) "transom/change.takes").run Tryz.prog w = .ok (197, .agg #[x0]) w := by kernel_rfl
set_option maxHeartbeats 1000000 in
theorem taken_2 (tb ot to al nm : Nm.S) (ty : Int) (no : Option Addr) (nn nc : Nat) (col : C) (df : T) (dO : Option Addr) (dc : Nat) (w : World) :
    Calls Tryz.prog 40 #[.iface 105 (.agg #[.string ⟨tb.toArray⟩, .string ⟨col.name.toArray⟩, .int .i64 col.kind, .bool col.null, .int .i64 col.d.k, .int .i64 col.d.n, .int .u64 col.d.b, .string ⟨col.d.s.toArray⟩])] w fun e w' => ∃ v, e = .returned v ∧ OwS w' w.heap.size v [tb] ∧ Below w.heap.size w w' := by
  have k0 := as_add
  have k1 := mt_add
  go_enter Tryz.func40, Tryz.ntmps40
  go_wp2_with fail
  refine (takes_one tb _).mono ?_
  rintro e w1 ⟨v, rfl, hO, hb⟩
  obtain ⟨bo, bc, rfl, _⟩ := hO.sl
  have K := Lib.hid (And.intro hO hb)
  clear hO hb
  go_wp2
  go_ret
  exact ⟨_, rfl, K.out.1, K.out.2⟩

theorem as_drop (v : Value) (xT : TypeId) (w : World) : (Instr.typeAssert (.iface 107 v) xT 115 true).run Tryz.prog w = .ok (.tuple #[.iface 107 v, .bool true]) w :=
  run_typeAssert_hasB Tryz.underlying115 (by kernel_rfl) v xT w
theorem mt_drop (x0 x1 : Value) (w : World) : (Go.method 385 107 (.agg #[x0, x1]) "transom/change.takes").run Tryz.prog w = .ok (197, .agg #[x0]) w := by kernel_rfl
set_option maxHeartbeats 1000000 in
theorem taken_3 (tb ot to al nm : Nm.S) (ty : Int) (no : Option Addr) (nn nc : Nat) (col : C) (df : T) (dO : Option Addr) (dc : Nat) (w : World) :
    Calls Tryz.prog 40 #[.iface 107 (.agg #[.string ⟨tb.toArray⟩, .string ⟨nm.toArray⟩])] w fun e w' => ∃ v, e = .returned v ∧ OwS w' w.heap.size v [tb] ∧ Below w.heap.size w w' := by
  have k0 := as_drop
  have k1 := mt_drop
  go_enter Tryz.func40, Tryz.ntmps40
  go_wp2_with fail
  refine (takes_one tb _).mono ?_
  rintro e w1 ⟨v, rfl, hO, hb⟩
  obtain ⟨bo, bc, rfl, _⟩ := hO.sl
  have K := Lib.hid (And.intro hO hb)
  clear hO hb
  go_wp2
  go_ret
  exact ⟨_, rfl, K.out.1, K.out.2⟩

theorem as_retype (v : Value) (xT : TypeId) (w : World) : (Instr.typeAssert (.iface 109 v) xT 115 true).run Tryz.prog w = .ok (.tuple #[.iface 109 v, .bool true]) w :=
  run_typeAssert_hasB Tryz.underlying115 (by kernel_rfl) v xT w
theorem mt_retype (x0 x1 x2 : Value) (w : World) : (Go.method 385 109 (.agg #[x0, x1, x2]) "transom/change.takes").run Tryz.prog w = .ok (197, .agg #[x0]) w := by kernel_rfl
set_option maxHeartbeats 1000000 in
theorem taken_4 (tb ot to al nm : Nm.S) (ty : Int) (no : Option Addr) (nn nc : Nat) (col : C) (df : T) (dO : Option Addr) (dc : Nat) (w : World) :
    Calls Tryz.prog 40 #[.iface 109 (.agg #[.string ⟨tb.toArray⟩, .string ⟨nm.toArray⟩, .int .i64 ty])] w fun e w' => ∃ v, e = .returned v ∧ OwS w' w.heap.size v [tb] ∧ Below w.heap.size w w' := by
  have k0 := as_retype
  have k1 := mt_retype
  go_enter Tryz.func40, Tryz.ntmps40
  go_wp2_with fail
  refine (takes_one tb _).mono ?_
  rintro e w1 ⟨v, rfl, hO, hb⟩
  obtain ⟨bo, bc, rfl, _⟩ := hO.sl
  have K := Lib.hid (And.intro hO hb)
  clear hO hb
  go_wp2
  go_ret
  exact ⟨_, rfl, K.out.1, K.out.2⟩

theorem as_split (v : Value) (xT : TypeId) (w : World) : (Instr.typeAssert (.iface 111 v) xT 115 true).run Tryz.prog w = .ok (.tuple #[.iface 111 v, .bool true]) w :=
  run_typeAssert_hasB Tryz.underlying115 (by kernel_rfl) v xT w
theorem mt_split (x0 x1 x2 x3 : Value) (w : World) : (Go.method 385 111 (.agg #[x0, x1, x2, x3]) "transom/change.takes").run Tryz.prog w = .ok (197, .agg #[x0]) w := by kernel_rfl
set_option maxHeartbeats 1000000 in
theorem taken_5 (tb ot to al nm : Nm.S) (ty : Int) (no : Option Addr) (nn nc : Nat) (col : C) (df : T) (dO : Option Addr) (dc : Nat) (w : World) :
    Calls Tryz.prog 40 #[.iface 111 (.agg #[.string ⟨tb.toArray⟩, .string ⟨to.toArray⟩, .string ⟨al.toArray⟩, .slice no nn nc])] w fun e w' => ∃ v, e = .returned v ∧ OwS w' w.heap.size v [tb] ∧ Below w.heap.size w w' := by
  have k0 := as_split
  have k1 := mt_split
  go_enter Tryz.func40, Tryz.ntmps40
  go_wp2_with fail
  refine (takes_one tb _).mono ?_
  rintro e w1 ⟨v, rfl, hO, hb⟩
  obtain ⟨bo, bc, rfl, _⟩ := hO.sl
  have K := Lib.hid (And.intro hO hb)
  clear hO hb
  go_wp2
  go_ret
  exact ⟨_, rfl, K.out.1, K.out.2⟩

theorem as_merge (v : Value) (xT : TypeId) (w : World) : (Instr.typeAssert (.iface 113 v) xT 115 true).run Tryz.prog w = .ok (.tuple #[.iface 113 v, .bool true]) w :=
  run_typeAssert_hasB Tryz.underlying115 (by kernel_rfl) v xT w
theorem mt_merge (x0 x1 x2 : Value) (w : World) : (Go.method 385 113 (.agg #[x0, x1, x2]) "transom/change.takes").run Tryz.prog w = .ok (207, .agg #[x0, x1, x2]) w := by kernel_rfl
set_option maxHeartbeats 1000000 in
theorem taken_6 (tb ot to al nm : Nm.S) (ty : Int) (no : Option Addr) (nn nc : Nat) (col : C) (df : T) (dO : Option Addr) (dc : Nat) (w : World) :
    Calls Tryz.prog 40 #[.iface 113 (.agg #[.string ⟨tb.toArray⟩, .string ⟨ot.toArray⟩, .string ⟨to.toArray⟩])] w fun e w' => ∃ v, e = .returned v ∧ OwS w' w.heap.size v [tb, ot] ∧ Below w.heap.size w w' := by
  have k0 := as_merge
  have k1 := mt_merge
  go_enter Tryz.func40, Tryz.ntmps40
  go_wp2_with fail
  refine (takes_merge tb ot to _).mono ?_
  rintro e w1 ⟨v, rfl, hO, hb⟩
  obtain ⟨bo, bc, rfl, _⟩ := hO.sl
  have K := Lib.hid (And.intro hO hb)
  clear hO hb
  go_wp2
  go_ret
  exact ⟨_, rfl, K.out.1, K.out.2⟩

theorem asn_nil (xT : TypeId) (w : World) : (Instr.typeAssert .nilIface xT 115 true).run Tryz.prog w = .ok (.tuple #[.nilIface, .bool false]) w := by kernel_rfl
set_option maxHeartbeats 1000000 in
theorem taken_0 (w : World) :
    Calls Tryz.prog 40 #[.nilIface] w fun e w' => ∃ v, e = .returned v ∧ OwS w' w.heap.size v [] ∧ Below w.heap.size w w' := by
  have k0 := asn_nil
  go_enter Tryz.func40, Tryz.ntmps40
  go_wp2
  go_ret
  exact ⟨_, rfl, ows_nil _ _, Below.refl _ _⟩

end Go.Proofs.YtdonmbmahcjfbaaGreatDoor

namespace Go.Proofs.YtdonmbmahcjfbaaGreatDoor
open Go.RowKit
set_option linter.unusedVariables false

set_option maxHeartbeats 1000000 in
theorem sources_0 (K : Int) (tb ot to al nm : Nm.S) (ty : Int) (no : Option Addr) (nn nc : Nat) (col : C) (df : T) (dO : Option Addr) (dc : Nat) (w : World) (h1 : (K == 1) = false) (h2 : (K == 2) = false) (h3 : (K == 3) = false) (h4 : (K == 4) = false) (h5 : (K == 5) = false) (h6 : (K == 6) = false) :
    Calls Tryz.prog 26 #[.agg #[.int .i64 K, .string ⟨tb.toArray⟩, .string ⟨ot.toArray⟩, .string ⟨to.toArray⟩, .string ⟨al.toArray⟩, .string ⟨nm.toArray⟩, .int .i64 ty, .slice no nn nc, .string ⟨col.name.toArray⟩, .int .i64 col.kind, .bool col.null, .int .i64 col.d.k, .int .i64 col.d.n, .int .u64 col.d.b, .string ⟨col.d.s.toArray⟩, .string ⟨df.name.toArray⟩, .int .i64 df.keys, .slice dO df.cs.length dc]] w fun e w' => ∃ v, e = .returned v ∧ OwS w' w.heap.size v [] ∧ Below w.heap.size w w' := by
  go_enter Tryz.func26, Tryz.ntmps26
  go_wp2_with ((refine (?_ : wpList _ _ _ (Oper.mk _ (Op.load 32 _) _ _ _ _ :: _) _ _)); refine wpList_load_mid rfl 32 _ rfl w.heap.size 0 rfl [.int .i64 K, .string ⟨tb.toArray⟩, .string ⟨ot.toArray⟩, .string ⟨to.toArray⟩, .string ⟨al.toArray⟩, .string ⟨nm.toArray⟩, .int .i64 ty, .slice no nn nc, .string ⟨col.name.toArray⟩, .int .i64 col.kind, .bool col.null, .int .i64 col.d.k, .int .i64 col.d.n, .int .u64 col.d.b, .string ⟨col.d.s.toArray⟩, .string ⟨df.name.toArray⟩, .int .i64 df.keys, .slice dO df.cs.length dc] _ (rng (Blk.new w _ _)) Tryz.underlying32 rfl infoCh ?_; go_frame)
  refine (changer_0 K tb ot to al nm ty no nn nc col df dO dc _ h1 h2 h3 h4 h5 h6).mono ?_
  rintro e w1 ⟨rfl, hb⟩
  have B := Lib.hid (step1 (Below.refl _ w) hb)
  clear hb
  go_wp2_with fail
  refine (taken_0 _).mono ?_
  rintro e w2 ⟨v, rfl, hO, hb⟩
  obtain ⟨bo, bc, rfl, _⟩ := hO.sl
  have K := Lib.hid (And.intro (hO.base B.out.size) (step0 B.out hb))
  clear hO hb
  go_wp2
  go_ret
  exact ⟨_, rfl, K.out.1, K.out.2⟩

set_option maxHeartbeats 1000000 in
theorem sources_1 (tb ot to al nm : Nm.S) (ty : Int) (no : Option Addr) (nn nc : Nat) (col : C) (df : T) (dO : Option Addr) (dc : Nat) (w : World) :
    Calls Tryz.prog 26 #[.agg #[.int .i64 1, .string ⟨tb.toArray⟩, .string ⟨ot.toArray⟩, .string ⟨to.toArray⟩, .string ⟨al.toArray⟩, .string ⟨nm.toArray⟩, .int .i64 ty, .slice no nn nc, .string ⟨col.name.toArray⟩, .int .i64 col.kind, .bool col.null, .int .i64 col.d.k, .int .i64 col.d.n, .int .u64 col.d.b, .string ⟨col.d.s.toArray⟩, .string ⟨df.name.toArray⟩, .int .i64 df.keys, .slice dO df.cs.length dc]] w fun e w' => ∃ v, e = .returned v ∧ OwS w' w.heap.size v [] ∧ Below w.heap.size w w' := by
  go_enter Tryz.func26, Tryz.ntmps26
  go_wp2_with ((refine (?_ : wpList _ _ _ (Oper.mk _ (Op.load 32 _) _ _ _ _ :: _) _ _)); refine wpList_load_mid rfl 32 _ rfl w.heap.size 0 rfl [.int .i64 1, .string ⟨tb.toArray⟩, .string ⟨ot.toArray⟩, .string ⟨to.toArray⟩, .string ⟨al.toArray⟩, .string ⟨nm.toArray⟩, .int .i64 ty, .slice no nn nc, .string ⟨col.name.toArray⟩, .int .i64 col.kind, .bool col.null, .int .i64 col.d.k, .int .i64 col.d.n, .int .u64 col.d.b, .string ⟨col.d.s.toArray⟩, .string ⟨df.name.toArray⟩, .int .i64 df.keys, .slice dO df.cs.length dc] _ (rng (Blk.new w _ _)) Tryz.underlying32 rfl infoCh ?_; go_frame)
  refine (changer_1 tb ot to al nm ty no nn nc col df dO dc _).mono ?_
  rintro e w1 ⟨rfl, hb⟩
  have B := Lib.hid (step1 (Below.refl _ w) hb)
  clear hb
  go_wp2_with fail
  refine (taken_1 tb ot to al nm ty no nn nc col df dO dc _).mono ?_
  rintro e w2 ⟨v, rfl, hO, hb⟩
  obtain ⟨bo, bc, rfl, _⟩ := hO.sl
  have K := Lib.hid (And.intro (hO.base B.out.size) (step0 B.out hb))
  clear hO hb
  go_wp2
  go_ret
  exact ⟨_, rfl, K.out.1, K.out.2⟩

set_option maxHeartbeats 1000000 in
theorem sources_2 (tb ot to al nm : Nm.S) (ty : Int) (no : Option Addr) (nn nc : Nat) (col : C) (df : T) (dO : Option Addr) (dc : Nat) (w : World) :
    Calls Tryz.prog 26 #[.agg #[.int .i64 2, .string ⟨tb.toArray⟩, .string ⟨ot.toArray⟩, .string ⟨to.toArray⟩, .string ⟨al.toArray⟩, .string ⟨nm.toArray⟩, .int .i64 ty, .slice no nn nc, .string ⟨col.name.toArray⟩, .int .i64 col.kind, .bool col.null, .int .i64 col.d.k, .int .i64 col.d.n, .int .u64 col.d.b, .string ⟨col.d.s.toArray⟩, .string ⟨df.name.toArray⟩, .int .i64 df.keys, .slice dO df.cs.length dc]] w fun e w' => ∃ v, e = .returned v ∧ OwS w' w.heap.size v [tb] ∧ Below w.heap.size w w' := by
  go_enter Tryz.func26, Tryz.ntmps26
  go_wp2_with ((refine (?_ : wpList _ _ _ (Oper.mk _ (Op.load 32 _) _ _ _ _ :: _) _ _)); refine wpList_load_mid rfl 32 _ rfl w.heap.size 0 rfl [.int .i64 2, .string ⟨tb.toArray⟩, .string ⟨ot.toArray⟩, .string ⟨to.toArray⟩, .string ⟨al.toArray⟩, .string ⟨nm.toArray⟩, .int .i64 ty, .slice no nn nc, .string ⟨col.name.toArray⟩, .int .i64 col.kind, .bool col.null, .int .i64 col.d.k, .int .i64 col.d.n, .int .u64 col.d.b, .string ⟨col.d.s.toArray⟩, .string ⟨df.name.toArray⟩, .int .i64 df.keys, .slice dO df.cs.length dc] _ (rng (Blk.new w _ _)) Tryz.underlying32 rfl infoCh ?_; go_frame)
  refine (changer_2 tb ot to al nm ty no nn nc col df dO dc _).mono ?_
  rintro e w1 ⟨rfl, hb⟩
  have B := Lib.hid (step1 (Below.refl _ w) hb)
  clear hb
  go_wp2_with fail
  refine (taken_2 tb ot to al nm ty no nn nc col df dO dc _).mono ?_
  rintro e w2 ⟨v, rfl, hO, hb⟩
  obtain ⟨bo, bc, rfl, _⟩ := hO.sl
  have K := Lib.hid (And.intro (hO.base B.out.size) (step0 B.out hb))
  clear hO hb
  go_wp2
  go_ret
  exact ⟨_, rfl, K.out.1, K.out.2⟩

set_option maxHeartbeats 1000000 in
theorem sources_3 (tb ot to al nm : Nm.S) (ty : Int) (no : Option Addr) (nn nc : Nat) (col : C) (df : T) (dO : Option Addr) (dc : Nat) (w : World) :
    Calls Tryz.prog 26 #[.agg #[.int .i64 3, .string ⟨tb.toArray⟩, .string ⟨ot.toArray⟩, .string ⟨to.toArray⟩, .string ⟨al.toArray⟩, .string ⟨nm.toArray⟩, .int .i64 ty, .slice no nn nc, .string ⟨col.name.toArray⟩, .int .i64 col.kind, .bool col.null, .int .i64 col.d.k, .int .i64 col.d.n, .int .u64 col.d.b, .string ⟨col.d.s.toArray⟩, .string ⟨df.name.toArray⟩, .int .i64 df.keys, .slice dO df.cs.length dc]] w fun e w' => ∃ v, e = .returned v ∧ OwS w' w.heap.size v [tb] ∧ Below w.heap.size w w' := by
  go_enter Tryz.func26, Tryz.ntmps26
  go_wp2_with ((refine (?_ : wpList _ _ _ (Oper.mk _ (Op.load 32 _) _ _ _ _ :: _) _ _)); refine wpList_load_mid rfl 32 _ rfl w.heap.size 0 rfl [.int .i64 3, .string ⟨tb.toArray⟩, .string ⟨ot.toArray⟩, .string ⟨to.toArray⟩, .string ⟨al.toArray⟩, .string ⟨nm.toArray⟩, .int .i64 ty, .slice no nn nc, .string ⟨col.name.toArray⟩, .int .i64 col.kind, .bool col.null, .int .i64 col.d.k, .int .i64 col.d.n, .int .u64 col.d.b, .string ⟨col.d.s.toArray⟩, .string ⟨df.name.toArray⟩, .int .i64 df.keys, .slice dO df.cs.length dc] _ (rng (Blk.new w _ _)) Tryz.underlying32 rfl infoCh ?_; go_frame)
  refine (changer_3 tb ot to al nm ty no nn nc col df dO dc _).mono ?_
  rintro e w1 ⟨rfl, hb⟩
  have B := Lib.hid (step1 (Below.refl _ w) hb)
  clear hb
  go_wp2_with fail
  refine (taken_3 tb ot to al nm ty no nn nc col df dO dc _).mono ?_
  rintro e w2 ⟨v, rfl, hO, hb⟩
  obtain ⟨bo, bc, rfl, _⟩ := hO.sl
  have K := Lib.hid (And.intro (hO.base B.out.size) (step0 B.out hb))
  clear hO hb
  go_wp2
  go_ret
  exact ⟨_, rfl, K.out.1, K.out.2⟩

set_option maxHeartbeats 1000000 in
theorem sources_4 (tb ot to al nm : Nm.S) (ty : Int) (no : Option Addr) (nn nc : Nat) (col : C) (df : T) (dO : Option Addr) (dc : Nat) (w : World) :
    Calls Tryz.prog 26 #[.agg #[.int .i64 4, .string ⟨tb.toArray⟩, .string ⟨ot.toArray⟩, .string ⟨to.toArray⟩, .string ⟨al.toArray⟩, .string ⟨nm.toArray⟩, .int .i64 ty, .slice no nn nc, .string ⟨col.name.toArray⟩, .int .i64 col.kind, .bool col.null, .int .i64 col.d.k, .int .i64 col.d.n, .int .u64 col.d.b, .string ⟨col.d.s.toArray⟩, .string ⟨df.name.toArray⟩, .int .i64 df.keys, .slice dO df.cs.length dc]] w fun e w' => ∃ v, e = .returned v ∧ OwS w' w.heap.size v [tb] ∧ Below w.heap.size w w' := by
  go_enter Tryz.func26, Tryz.ntmps26
  go_wp2_with ((refine (?_ : wpList _ _ _ (Oper.mk _ (Op.load 32 _) _ _ _ _ :: _) _ _)); refine wpList_load_mid rfl 32 _ rfl w.heap.size 0 rfl [.int .i64 4, .string ⟨tb.toArray⟩, .string ⟨ot.toArray⟩, .string ⟨to.toArray⟩, .string ⟨al.toArray⟩, .string ⟨nm.toArray⟩, .int .i64 ty, .slice no nn nc, .string ⟨col.name.toArray⟩, .int .i64 col.kind, .bool col.null, .int .i64 col.d.k, .int .i64 col.d.n, .int .u64 col.d.b, .string ⟨col.d.s.toArray⟩, .string ⟨df.name.toArray⟩, .int .i64 df.keys, .slice dO df.cs.length dc] _ (rng (Blk.new w _ _)) Tryz.underlying32 rfl infoCh ?_; go_frame)
  refine (changer_4 tb ot to al nm ty no nn nc col df dO dc _).mono ?_
  rintro e w1 ⟨rfl, hb⟩
  have B := Lib.hid (step1 (Below.refl _ w) hb)
  clear hb
  go_wp2_with fail
  refine (taken_4 tb ot to al nm ty no nn nc col df dO dc _).mono ?_
  rintro e w2 ⟨v, rfl, hO, hb⟩
  obtain ⟨bo, bc, rfl, _⟩ := hO.sl
  have K := Lib.hid (And.intro (hO.base B.out.size) (step0 B.out hb))
  clear hO hb
  go_wp2
  go_ret
  exact ⟨_, rfl, K.out.1, K.out.2⟩

set_option maxHeartbeats 1000000 in
theorem sources_5 (tb ot to al nm : Nm.S) (ty : Int) (no : Option Addr) (nn nc : Nat) (col : C) (df : T) (dO : Option Addr) (dc : Nat) (w : World) :
    Calls Tryz.prog 26 #[.agg #[.int .i64 5, .string ⟨tb.toArray⟩, .string ⟨ot.toArray⟩, .string ⟨to.toArray⟩, .string ⟨al.toArray⟩, .string ⟨nm.toArray⟩, .int .i64 ty, .slice no nn nc, .string ⟨col.name.toArray⟩, .int .i64 col.kind, .bool col.null, .int .i64 col.d.k, .int .i64 col.d.n, .int .u64 col.d.b, .string ⟨col.d.s.toArray⟩, .string ⟨df.name.toArray⟩, .int .i64 df.keys, .slice dO df.cs.length dc]] w fun e w' => ∃ v, e = .returned v ∧ OwS w' w.heap.size v [tb] ∧ Below w.heap.size w w' := by
  go_enter Tryz.func26, Tryz.ntmps26
  go_wp2_with ((refine (?_ : wpList _ _ _ (Oper.mk _ (Op.load 32 _) _ _ _ _ :: _) _ _)); refine wpList_load_mid rfl 32 _ rfl w.heap.size 0 rfl [.int .i64 5, .string ⟨tb.toArray⟩, .string ⟨ot.toArray⟩, .string ⟨to.toArray⟩, .string ⟨al.toArray⟩, .string ⟨nm.toArray⟩, .int .i64 ty, .slice no nn nc, .string ⟨col.name.toArray⟩, .int .i64 col.kind, .bool col.null, .int .i64 col.d.k, .int .i64 col.d.n, .int .u64 col.d.b, .string ⟨col.d.s.toArray⟩, .string ⟨df.name.toArray⟩, .int .i64 df.keys, .slice dO df.cs.length dc] _ (rng (Blk.new w _ _)) Tryz.underlying32 rfl infoCh ?_; go_frame)
  refine (changer_5 tb ot to al nm ty no nn nc col df dO dc _).mono ?_
  rintro e w1 ⟨rfl, hb⟩
  have B := Lib.hid (step1 (Below.refl _ w) hb)
  clear hb
  go_wp2_with fail
  refine (taken_5 tb ot to al nm ty no nn nc col df dO dc _).mono ?_
  rintro e w2 ⟨v, rfl, hO, hb⟩
  obtain ⟨bo, bc, rfl, _⟩ := hO.sl
  have K := Lib.hid (And.intro (hO.base B.out.size) (step0 B.out hb))
  clear hO hb
  go_wp2
  go_ret
  exact ⟨_, rfl, K.out.1, K.out.2⟩

set_option maxHeartbeats 1000000 in
theorem sources_6 (tb ot to al nm : Nm.S) (ty : Int) (no : Option Addr) (nn nc : Nat) (col : C) (df : T) (dO : Option Addr) (dc : Nat) (w : World) :
    Calls Tryz.prog 26 #[.agg #[.int .i64 6, .string ⟨tb.toArray⟩, .string ⟨ot.toArray⟩, .string ⟨to.toArray⟩, .string ⟨al.toArray⟩, .string ⟨nm.toArray⟩, .int .i64 ty, .slice no nn nc, .string ⟨col.name.toArray⟩, .int .i64 col.kind, .bool col.null, .int .i64 col.d.k, .int .i64 col.d.n, .int .u64 col.d.b, .string ⟨col.d.s.toArray⟩, .string ⟨df.name.toArray⟩, .int .i64 df.keys, .slice dO df.cs.length dc]] w fun e w' => ∃ v, e = .returned v ∧ OwS w' w.heap.size v [tb, ot] ∧ Below w.heap.size w w' := by
  go_enter Tryz.func26, Tryz.ntmps26
  go_wp2_with ((refine (?_ : wpList _ _ _ (Oper.mk _ (Op.load 32 _) _ _ _ _ :: _) _ _)); refine wpList_load_mid rfl 32 _ rfl w.heap.size 0 rfl [.int .i64 6, .string ⟨tb.toArray⟩, .string ⟨ot.toArray⟩, .string ⟨to.toArray⟩, .string ⟨al.toArray⟩, .string ⟨nm.toArray⟩, .int .i64 ty, .slice no nn nc, .string ⟨col.name.toArray⟩, .int .i64 col.kind, .bool col.null, .int .i64 col.d.k, .int .i64 col.d.n, .int .u64 col.d.b, .string ⟨col.d.s.toArray⟩, .string ⟨df.name.toArray⟩, .int .i64 df.keys, .slice dO df.cs.length dc] _ (rng (Blk.new w _ _)) Tryz.underlying32 rfl infoCh ?_; go_frame)
  refine (changer_6 tb ot to al nm ty no nn nc col df dO dc _).mono ?_
  rintro e w1 ⟨rfl, hb⟩
  have B := Lib.hid (step1 (Below.refl _ w) hb)
  clear hb
  go_wp2_with fail
  refine (taken_6 tb ot to al nm ty no nn nc col df dO dc _).mono ?_
  rintro e w2 ⟨v, rfl, hO, hb⟩
  obtain ⟨bo, bc, rfl, _⟩ := hO.sl
  have K := Lib.hid (And.intro (hO.base B.out.size) (step0 B.out hb))
  clear hO hb
  go_wp2
  go_ret
  exact ⟨_, rfl, K.out.1, K.out.2⟩

/-- The names of the tables that are no more. -/
theorem sources_is (c : Ch) (no : Option Addr) (nc : Nat) (dO : Option Addr) (dc : Nat) (w : World) :
    Calls Tryz.prog 26 #[.agg #[.int .i64 c.kind, .string ⟨c.table.toArray⟩, .string ⟨c.other.toArray⟩, .string ⟨c.to.toArray⟩, .string ⟨c.also.toArray⟩, .string ⟨c.name.toArray⟩, .int .i64 c.type, .slice no c.names.length nc, .string ⟨c.col.name.toArray⟩, .int .i64 c.col.kind, .bool c.col.null, .int .i64 c.col.d.k, .int .i64 c.col.d.n, .int .u64 c.col.d.b, .string ⟨c.col.d.s.toArray⟩, .string ⟨c.df.name.toArray⟩, .int .i64 c.df.keys, .slice dO c.df.cs.length dc]] w fun e w' => ∃ v, e = .returned v ∧ OwS w' w.heap.size v c.src ∧ Below w.heap.size w w' := by
  obtain ⟨K, tb, ot, to, al, nm, ty, ns, col, df⟩ := c
  by_cases h1 : K = 1
  · subst h1; exact sources_1 tb ot to al nm ty no ns.length nc col df dO dc w
  by_cases h2 : K = 2
  · subst h2; exact sources_2 tb ot to al nm ty no ns.length nc col df dO dc w
  by_cases h3 : K = 3
  · subst h3; exact sources_3 tb ot to al nm ty no ns.length nc col df dO dc w
  by_cases h4 : K = 4
  · subst h4; exact sources_4 tb ot to al nm ty no ns.length nc col df dO dc w
  by_cases h5 : K = 5
  · subst h5; exact sources_5 tb ot to al nm ty no ns.length nc col df dO dc w
  by_cases h6 : K = 6
  · subst h6; exact sources_6 tb ot to al nm ty no ns.length nc col df dO dc w
  have e : (⟨K, tb, ot, to, al, nm, ty, ns, col, df⟩ : Ch).src = [] := by
    unfold Ch.src
    rw [if_neg (show ¬ K = 6 from h6), if_neg (show ¬ (2 ≤ K ∧ K ≤ 5) by omega)]
  rw [e]
  exact sources_0 K tb ot to al nm ty no ns.length nc col df dO dc w (beq_f h1) (beq_f h2) (beq_f h3) (beq_f h4) (beq_f h5) (beq_f h6)

end Go.Proofs.YtdonmbmahcjfbaaGreatDoor
