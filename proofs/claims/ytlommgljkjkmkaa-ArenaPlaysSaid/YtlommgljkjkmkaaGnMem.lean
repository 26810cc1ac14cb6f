/-
  Memory, for any stage: blocks, which blocks may have changed, rows of elements of any kind that a call owns, slices of such. Conditions: the bounds named in each theorem.
-/
import Derived.Test.YtlommgljkjkmkaaRows
import Derived.WalkKit
import Derived.WalkSpells
import Derived.WalkLawsBesides
import Derived.Lib.Hide
import Derived.Below
import Derived.Laws.OwnMore
import Derived.Maps.AppendAt
import Derived.OwnWalk
import Derived.Deep.QuietTactic
import Derived.BigQuiet
import Derived.Deep.RegionHeld3
import Derived.Deep.DrawnRows
import Derived.LoopN
namespace Go.Proofs.Ytlommgljkjkmkaa.Gn
open Go.RowKit
set_option linter.unusedVariables false

theorem ret_int {k : IntKind} {a b : Int} (h : a = b) : Ending.returned (.int k a) = .returned (.int k b) := by rw [h]
theorem ret_bool {a b : Bool} (h : a = b) : Ending.returned (.bool a) = .returned (.bool b) := by rw [h]
theorem wrap_k {k : Nat} (h : k ≤ 1000000) : wrap64 ((k : Int) + 1) = (k : Int) + 1 := by unfold wrap64; omega
theorem wrap_in (x : Int) (h0 : -9223372036854775808 ≤ x) (h1 : x ≤ 9223372036854775807) : wrap64 x = x := by unfold wrap64; omega
theorem cell_lt {w : World} {p : Addr} {x : Value} (h : w.cell? p = some x) : p.block < w.heap.size := by
  unfold World.cell? at h
  rcases Nat.lt_or_ge p.block w.heap.size with hl | hl
  · exact hl
  · have hn : w.heap[p.block]? = none := Array.getElem?_eq_none hl
    simp [hn] at h
theorem keep0 {a v : World} {p : Addr} {x : Value} (c : a.cell? p = some x) (h : Below a.heap.size a v) : v.cell? p = some x := (h.cell (cell_lt c)).trans c
theorem step0 {w a v : World} (h : Below w.heap.size w a) (g : Below a.heap.size a v) : Below w.heap.size w v := h.trans (g.mono h.size)
theorem stepB {B : Nat} {w a v : World} (h : Below B w a) (g : Below a.heap.size a v) (hB : B ≤ a.heap.size) : Below B w v := h.trans (g.mono hB)
theorem below1 (w : World) (o : Obj) : Below w.heap.size w (w.alloc o) := (Below.refl _ w).alloc (Nat.le_refl _) o
theorem below2 (w : World) (o p : Obj) : Below w.heap.size w ((w.alloc o).alloc p) := (below1 w o).alloc (below1 w o).size p
theorem below3 (w : World) (o p q : Obj) : Below w.heap.size w (((w.alloc o).alloc p).alloc q) := (below2 w o p).alloc (below2 w o p).size q
theorem below_drewV {B : Nat} {a w : World} (n : Nat) (h : Below B a w) : Below B a (w.drewN n) := ⟨h.os, h.tape, h.output, h.size, h.block⟩
theorem below_drew1 {B : Nat} {a w : World} (h : Below B a w) : Below B a w.drew := ⟨h.os, h.tape, h.output, h.size, h.block⟩
theorem add_none (g i j : Nat) : (⟨g, i, none⟩ : Addr).add j = ⟨g, i + j, none⟩ := by
  unfold Addr.add
  split
  · rename_i h; rw [h]; rfl
  · simp
theorem add_two (a : Addr) (i r : Nat) : a.add (i + r) = (a.add i).add r := by
  unfold Addr.add
  by_cases h1 : i = 0 <;> by_cases h2 : r = 0 <;> simp [h1, h2, Nat.add_assoc]
theorem add_off (a : Addr) (j : Nat) (h : 0 < j) : a.add j = ⟨a.block, a.off + j, none⟩ := by
  unfold Addr.add
  rw [if_neg (by omega)]
theorem add_block (a : Addr) (j : Nat) : (a.add j).block = a.block := by
  unfold Addr.add
  split <;> rfl

/-! ### Blocks -/
def Blk (W : World) (B : Nat) (cs : Array Value) (t : TypeId) : Prop := W.heap[B]? = some (.cells cs t (0, 0))
section
variable {W W' : World} {B B' : Nat} {cs : Array Value} {t : TypeId}
theorem Blk.lt (h : Blk W B cs t) : B < W.heap.size := (Array.getElem?_eq_some_iff.1 h).1
theorem Blk.cell (h : Blk W B cs t) (i : Nat) : W.cell? ⟨B, i, none⟩ = cs[i]? := by
  simp [World.cell?, show W.heap[B]? = _ from h]
theorem Blk.new (W : World) (cs : Array Value) (t : TypeId) : Blk (W.alloc (.cells cs t)) W.heap.size cs t := heap_alloc_new W _
theorem Blk.new' (W : World) (cs : Array Value) (t : TypeId) (B : Nat) (h : W.heap.size = B) : Blk (W.alloc (.cells cs t)) B cs t := h ▸ Blk.new W cs t
theorem Blk.move (h : Blk W B cs t) (he : W'.heap[B]? = W.heap[B]?) : Blk W' B cs t := he.trans h
theorem Blk.below (h : Blk W B cs t) (hb : Below W.heap.size W W') : Blk W' B cs t := h.move (hb.block B h.lt)
theorem Blk.below' {n : Nat} (h : Blk W B cs t) (hb : Below n W W') (hn : B < n) : Blk W' B cs t := h.move (hb.block B hn)
theorem Blk.alloc (h : Blk W B cs t) (o : Obj) : Blk (W.alloc o) B cs t := h.below (below1 W o)
theorem Blk.drw (h : Blk W B cs t) : Blk W.drew B cs t := h
theorem Blk.drwN (h : Blk W B cs t) (n : Nat) : Blk (W.drewN n) B cs t := h
theorem Blk.frozen (h : Blk W B cs t) (i : Nat) : W.frozen? ⟨B, i, none⟩ = false := by simp [World.frozen?, show W.heap[B]? = _ from h]
theorem Blk.setAt (i : Nat) (u : Value) (h : Blk W B cs t) : Blk (W.setCell ⟨B, i, none⟩ u) B (cs.setIfInBounds i u) t := by
  obtain ⟨hlt, hk⟩ := Array.getElem?_eq_some_iff.1 h
  show (W.heap.modify B _)[B]? = _
  rw [Array.getElem?_eq_getElem (by rw [Array.size_modify]; exact hlt), Array.getElem_modify_self, hk]
  rfl
theorem Blk.otherAt (h : Blk W B cs t) (hne : B ≠ B') (i : Nat) (u : Value) : Blk (W.setCell ⟨B', i, none⟩ u) B cs t := h.move (Below.heap_setCell W ⟨B', i, none⟩ u B hne)
end

/-! ### Which blocks may have changed -/
structure Chg (M : Nat → Prop) (w w' : World) : Prop where
  os : w'.os = w.os
  tape : w'.tape = w.tape
  output : w'.output = w.output
  size : w.heap.size ≤ w'.heap.size
  block : ∀ k, k < w.heap.size → ¬ M k → w'.heap[k]? = w.heap[k]?
section
variable {M M' : Nat → Prop} {w a v w' : World}
theorem Chg.refl (M : Nat → Prop) (w : World) : Chg M w w := ⟨rfl, rfl, rfl, Nat.le_refl _, fun _ _ _ => rfl⟩
theorem Chg.trans (h : Chg M w a) (k : Chg M' a v) (hm : ∀ k, M' k → M k ∨ w.heap.size ≤ k) : Chg M w v :=
  ⟨k.os.trans h.os, k.tape.trans h.tape, k.output.trans h.output, Nat.le_trans h.size k.size, fun i hi hn => (k.block i (by have := h.size; omega) (fun e => by rcases hm i e with x | x; exact hn x; omega)).trans (h.block i hi hn)⟩
theorem Chg.of_below (h : Below w.heap.size w w') : Chg M w w' := ⟨h.os, h.tape, h.output, h.size, fun k hk _ => h.block k hk⟩
theorem Chg.then (h : Chg M w a) (k : Below a.heap.size a v) : Chg M w v := h.trans (M' := M) (Chg.of_below k) (fun _ e => Or.inl e)
theorem Chg.below {B : Nat} (h : Chg M w w') (hm : ∀ k, M k → B ≤ k) (hB : B ≤ w.heap.size) : Below B w w' :=
  ⟨h.os, h.tape, h.output, h.size, fun k hk => h.block k (by omega) (fun e => by have := hm k e; omega)⟩
theorem Chg.set {p : Addr} (h : Chg M w a) (hp : M p.block ∨ w.heap.size ≤ p.block) (u : Value) : Chg M w (a.setCell p u) :=
  ⟨h.os, h.tape, h.output, Nat.le_trans h.size (by simp [World.setCell]), fun k hk hn => (Below.heap_setCell a p u k (fun e => by subst e; rcases hp with x | x; exact hn x; omega)).trans (h.block k hk hn)⟩
theorem Chg.alloc (h : Chg M w a) (o : Obj) : Chg M w (a.alloc o) := h.then (below1 a o)
theorem Chg.drew (h : Chg M w a) : Chg M w a.drew := ⟨h.os, h.tape, h.output, h.size, h.block⟩
theorem Chg.drewN (h : Chg M w a) (n : Nat) : Chg M w (a.drewN n) := ⟨h.os, h.tape, h.output, h.size, h.block⟩
theorem Chg.grown {row : Option Nat} (h : Chg M w a) (hg : a.grownBy v row) (hr : ∀ k, row = some k → M k ∨ w.heap.size ≤ k) : Chg M w v :=
  ⟨hg.os.trans h.os, hg.tape.trans h.tape, hg.output.trans h.output, Nat.le_trans h.size hg.size, fun k hk hn => (hg.block k (by have := h.size; omega) (fun e => by rcases hr k e.symm with x | x; exact hn x; omega)).trans (h.block k hk hn)⟩
theorem Chg.mono (h : Chg M w w') (hm : ∀ k, M k → M' k) : Chg M' w w' := ⟨h.os, h.tape, h.output, h.size, fun k hk hn => h.block k hk (fun e => hn (hm k e))⟩
/-- A cell of a block that may not have changed. -/
theorem Chg.cell {p : Addr} {x : Value} (h : Chg M w w') (c : w.cell? p = some x) (hn : ¬ M p.block) : w'.cell? p = some x := (World.cell?_of_block (h.block p.block (cell_lt c) hn)).trans c
end

/-! ### Elements, and rows of them -/
/-- A kind of elements: its type, the type of its slices, how many cells, the zero, the cells of each. -/
structure El (α : Type) where
  T : TypeId
  L : TypeId
  n : Nat
  bytes : Nat
  z : Value
  c : α → List Value
  len : ∀ x, (c x).length = n
  one : ∀ x, ∀ u ∈ c x, u.oneCell' = true
  pos : 0 < n
  und : Try.prog.underlying L = some (.slice T)
  info : (Try.prog.info? T).map (fun i => (i.zero, i.size, i.bytes)) = some (some z, n, bytes)
  zs : z.cells.size = n
  few : bytes ≤ 1000
theorem info_parts {T : TypeId} {z : Value} {n b : Nat} (h : (Try.prog.info? T).map (fun i => (i.zero, i.size, i.bytes)) = some (some z, n, b)) : ∃ i, Try.prog.info? T = some i ∧ i.zero = some z ∧ i.size = n ∧ i.bytes = b := by
  cases hi : Try.prog.info? T with
  | none => rw [hi] at h; cases h
  | some i =>
    rw [hi] at h
    simp only [Option.map_some, Option.some.injEq, Prod.mk.injEq] at h
    exact ⟨i, rfl, h.1, h.2.1, h.2.2⟩
section
variable {α : Type} (E : El α)
def El.cat : List α → List Value
  | [] => []
  | x :: xs => E.c x ++ El.cat xs
theorem El.cat_append (a b : List α) : E.cat (a ++ b) = E.cat a ++ E.cat b := by
  induction a with
  | nil => rfl
  | cons x a ih => simp [El.cat, ih]
theorem El.cat_len (a : List α) : (E.cat a).length = a.length * E.n := by
  induction a with
  | nil => simp [El.cat]
  | cons x a ih => rw [El.cat, List.length_append, ih, E.len, List.length_cons, Nat.add_mul, Nat.one_mul, Nat.add_comm]
theorem El.cat_one (x : α) : E.cat [x] = E.c x := by simp [El.cat]
theorem El.cat_at : ∀ (xs : List α) (i : Nat) (x : α) (j : Nat), xs[i]? = some x → j < E.n → (E.cat xs)[i * E.n + j]? = (E.c x)[j]?
  | [], i, x, j, h, _ => by simp at h
  | y :: xs, 0, x, j, h, hj => by
    obtain rfl : y = x := by simpa using h
    rw [El.cat, List.getElem?_append_left (by rw [E.len]; omega)]; simp
  | y :: xs, i + 1, x, j, h, hj => by
    rw [El.cat, List.getElem?_append_right (by rw [E.len, Nat.add_mul]; omega), E.len, show (i + 1) * E.n + j - E.n = i * E.n + j by rw [Nat.add_mul]; omega]
    exact El.cat_at xs i x j (by simpa using h) hj
theorem El.cat_mem (xs : List α) : ∀ u ∈ E.cat xs, u.oneCell' = true := by
  intro u hu
  induction xs with
  | nil => simp [El.cat] at hu
  | cons x xs ih =>
    rw [El.cat, List.mem_append] at hu
    rcases hu with hu | hu
    · exact E.one x u hu
    · exact ih hu
theorem El.cat_set : ∀ (xs : List α) (i : Nat) (x y : α) (j : Nat) (u : Value), xs[i]? = some x → j < E.n → E.c y = (E.c x).set j u → (E.cat xs).set (i * E.n + j) u = E.cat (xs.set i y)
  | [], i, x, y, j, u, h, _, _ => by simp at h
  | z :: xs, 0, x, y, j, u, h, hj, hy => by
    obtain rfl : z = x := by simpa using h
    rw [El.cat, Nat.zero_mul, Nat.zero_add, List.set_append_left _ _ (by rw [E.len]; exact hj), List.set_cons_zero, El.cat, hy]
  | z :: xs, i + 1, x, y, j, u, h, hj, hy => by
    rw [El.cat, List.set_append_right _ _ (by rw [E.len, Nat.add_mul]; omega), E.len, show (i + 1) * E.n + j - E.n = i * E.n + j by rw [Nat.add_mul]; omega, El.cat_set xs i x y j u (by simpa using h) hj hy]
    rfl
/-- Cells from an address on. -/
def AtL (W : World) (p : Addr) (cs : List Value) : Prop := (∀ u, cs[0]? = some u → W.cell? p = some u) ∧ ∀ (j : Nat) (u : Value), cs[j]? = some u → 0 < j → W.cell? ⟨p.block, p.off + j, none⟩ = some u
theorem AtL.add {W : World} {p : Addr} {cs : List Value} (h : AtL W p cs) (j : Nat) (u : Value) (hj : cs[j]? = some u) : W.cell? (p.add j) = some u := by
  by_cases e : j = 0
  · subst e
    rw [show p.add 0 = p from by simp [Addr.add]]
    exact h.1 u hj
  · rw [add_off p j (by omega)]
    exact h.2 j u hj (by omega)
theorem AtL.of {W : World} {p : Addr} {cs : List Value} (h : ∀ j u, cs[j]? = some u → W.cell? (p.add j) = some u) : AtL W p cs :=
  ⟨fun u hu => by have := h 0 u hu; rwa [show p.add 0 = p from by simp [Addr.add]] at this, fun j u hu hj => by have := h j u hu; rwa [add_off p j hj] at this⟩
/-- A slice of elements. -/
def Sg (W : World) (ao : Option Addr) (xs : List α) : Prop := ∀ (i : Nat) (x : α), xs[i]? = some x → ∃ a, ao = some a ∧ AtL W (a.add (i * E.n)) (E.c x)
variable {E}
theorem Sg.nil (W : World) (ao : Option Addr) : Sg E W ao [] := fun i x h => by simp at h
theorem Sg.none {W : World} {xs : List α} (h : Sg E W none xs) : xs = [] := by
  cases xs with
  | nil => rfl
  | cons c cs =>
    obtain ⟨a, ha, _⟩ := h 0 c rfl
    cases ha
theorem Sg.at {W : World} {a : Addr} {xs : List α} (h : Sg E W (some a) xs) {i : Nat} {x : α} (hi : xs[i]? = some x) : AtL W (a.add (i * E.n)) (E.c x) := by
  obtain ⟨a', e, r⟩ := h i x hi
  obtain rfl := Option.some.inj e
  exact r
theorem Sg.cells {W : World} {a : Addr} {xs : List α} (h : Sg E W (some a) xs) (j : Nat) (u : Value) (hj : (E.cat xs)[j]? = some u) : W.cell? (a.add j) = some u := by
  have hl : j < xs.length * E.n := by
    have := (List.getElem?_eq_some_iff.1 hj).1
    rwa [El.cat_len] at this
  have hn := E.pos
  obtain ⟨i, r, rfl, hr⟩ : ∃ i r, j = i * E.n + r ∧ r < E.n := ⟨j / E.n, j % E.n, (by rw [Nat.mul_comm]; exact (Nat.div_add_mod j E.n).symm), Nat.mod_lt _ hn⟩
  have hi : i < xs.length := by
    rcases Nat.lt_or_ge i xs.length with h | h
    · exact h
    · have := Nat.mul_le_mul_right E.n h; omega
  rw [El.cat_at E xs i xs[i] r (List.getElem?_eq_getElem hi) hr] at hj
  rw [add_two]
  exact (h.at (List.getElem?_eq_getElem hi)).add r u hj
theorem Sg.of_cells {W : World} {a : Addr} {xs : List α} (h : ∀ j u, (E.cat xs)[j]? = some u → W.cell? (a.add j) = some u) : Sg E W (some a) xs := by
  intro i x hi
  refine ⟨a, rfl, AtL.of fun j u hj => ?_⟩
  rw [← add_two]
  refine h _ u ?_
  rw [El.cat_at E xs i x j hi (by have := (List.getElem?_eq_some_iff.1 hj).1; rwa [E.len] at this)]
  exact hj
theorem Sg.move {W W' : World} {ao : Option Addr} {xs : List α} (h : Sg E W ao xs) (he : ∀ a, ao = some a → W'.heap[a.block]? = W.heap[a.block]?) : Sg E W' ao xs := by
  intro i x hi
  obtain ⟨a, rfl, r⟩ := h i x hi
  refine ⟨a, rfl, AtL.of fun j u hj => ?_⟩
  rw [World.cell?_of_block (w := W) (by rw [add_block, add_block]; exact he a rfl)]
  exact r.add j u hj
theorem Sg.lt {W : World} {a : Addr} {xs : List α} (h : Sg E W (some a) xs) (hx : 0 < xs.length) : a.block < W.heap.size := by
  have := h.at (List.getElem?_eq_getElem hx)
  have hl : 0 < (E.c xs[0]).length := by rw [E.len]; exact E.pos
  have c := cell_lt (this.1 _ (List.getElem?_eq_getElem hl))
  rwa [add_block] at c
theorem Sg.below {W W' : World} {ao : Option Addr} {xs : List α} (h : Sg E W ao xs) (hb : Below W.heap.size W W') : Sg E W' ao xs := by
  cases xs with
  | nil => exact Sg.nil _ _
  | cons x xs => exact h.move fun a ha => by subst ha; exact hb.block _ (h.lt (by simp))
theorem Sg.chg {M : Nat → Prop} {W W' : World} {ao : Option Addr} {xs : List α} (h : Sg E W ao xs) (hb : Chg M W W') (hn : ∀ a, ao = some a → ¬ M a.block) : Sg E W' ao xs := by
  cases xs with
  | nil => exact Sg.nil _ _
  | cons x xs => exact h.move fun a ha => by subst ha; exact hb.block _ (h.lt (by simp)) (hn _ rfl)
theorem Sg.take {W : World} {ao : Option Addr} {xs : List α} (h : Sg E W ao xs) (k : Nat) : Sg E W ao (xs.take k) := by
  intro i x hi
  rw [List.getElem?_take] at hi
  split at hi
  · exact h i x hi
  · cases hi
theorem Sg.drop {W : World} {a : Addr} {xs : List α} (h : Sg E W (some a) xs) (k : Nat) : Sg E W (some (a.add (k * E.n))) (xs.drop k) := by
  intro i x hi
  rw [List.getElem?_drop] at hi
  have := h.at hi
  rw [Nat.add_mul, add_two] at this
  exact ⟨_, rfl, this⟩

/-- A row of elements that a call owns, from a base on. -/
def Rw (E : El α) (w : World) (b : Nat) (v : Value) (l : List α) : Prop := w.ownsRow b E.T E.n v l.length (E.cat l)
theorem Rw.nil (w : World) (b : Nat) : Rw E w b (.slice none 0 0) [] := World.ownsRow_nil _ _ _ _
theorem Rw.lt {w : World} {b : Nat} {v : Value} {l : List α} (h : Rw E w b v l) : ∀ k, v.ownBlock = some k → b ≤ k ∧ k < w.heap.size := World.ownsRow.lt h
theorem Rw.move {w w' : World} {b : Nat} {v : Value} {l : List α} (h : Rw E w b v l) (he : ∀ k, v.ownBlock = some k → w'.heap[k]? = w.heap[k]?) : Rw E w' b v l := by
  refine ⟨h.1, ?_⟩
  rcases h.2 with hn | ⟨g, cap, cur, hv, hbg, hg, rest⟩
  · exact .inl hn
  · exact .inr ⟨g, cap, cur, hv, hbg, (he g (by rw [hv]; rfl)).trans hg, rest⟩
theorem Rw.keep {w w' : World} {b : Nat} {v : Value} {l : List α} (h : Rw E w b v l) (hb : Below w.heap.size w w') : Rw E w' b v l := h.move fun k hk => hb.block k (h.lt k hk).2
theorem Rw.chg {M : Nat → Prop} {w w' : World} {b : Nat} {v : Value} {l : List α} (h : Rw E w b v l) (hb : Chg M w w') (hn : ∀ k, v.ownBlock = some k → ¬ M k) : Rw E w' b v l := h.move fun k hk => hb.block k (h.lt k hk).2 (hn k hk)
theorem Rw.base {w : World} {b b' : Nat} {v : Value} {l : List α} (h : Rw E w b v l) (hb : b' ≤ b) : Rw E w b' v l := by
  refine ⟨h.1, ?_⟩
  rcases h.2 with hn | ⟨g, cap, cur, hv, hbg, rest⟩
  · exact .inl hn
  · exact .inr ⟨g, cap, cur, hv, Nat.le_trans hb hbg, rest⟩
theorem Rw.rebase {w : World} {b b' : Nat} {v : Value} {l : List α} (h : Rw E w b v l) (hb : ∀ k, v.ownBlock = some k → b' ≤ k) : Rw E w b' v l := by
  refine ⟨h.1, ?_⟩
  rcases h.2 with hn | ⟨g, cap, cur, hv, hbg, rest⟩
  · exact .inl hn
  · exact .inr ⟨g, cap, cur, hv, hb g (by rw [hv]; rfl), rest⟩
/-- Of what type the row's block is. -/
theorem Rw.type {w : World} {b : Nat} {v : Value} {l : List α} (h : Rw E w b v l) : ∀ k, v.ownBlock = some k → ∃ cur, w.heap[k]? = some (.cells cur E.T (0, 0)) := by
  intro k hk
  rcases h.2 with ⟨hn, _⟩ | ⟨g, cap, cur, hv, hbg, hg, _⟩
  · rw [hn] at hk; cases hk
  · rw [hv] at hk
    obtain rfl : g = k := Option.some.inj hk
    exact ⟨cur, hg⟩
/-- As a slice. -/
theorem Rw.sl {w : World} {b : Nat} {v : Value} {l : List α} (h : Rw E w b v l) : ∃ ao cap, v = .slice ao l.length cap ∧ l.length ≤ cap ∧ Sg E w ao l ∧ (ao = none → cap = 0) := by
  have h' := h
  rcases h.2 with ⟨hv, hn⟩ | ⟨g, cap, cur, hv, _, hg, h1, h2, h3, h4⟩
  · have e := List.eq_nil_of_length_eq_zero hn
    subst e
    exact ⟨none, 0, hv, Nat.le_refl _, Sg.nil _ _, fun _ => rfl⟩
  · exact ⟨some ⟨g, 0, none⟩, cap, hv, h1, Sg.of_cells fun j u hj => World.ownsRow.cells h' (g := g) (by rw [hv]; rfl) j u hj, fun e => by cases e⟩
/-- A row of some elements has its block. -/
theorem Rw.open {w : World} {b : Nat} {v : Value} {l : List α} (h : Rw E w b v l) (hl : 0 < l.length) : ∃ g cap, v = .slice (some ⟨g, 0, none⟩) l.length cap ∧ l.length ≤ cap ∧ cap ≤ maxLen ∧ b ≤ g ∧ g < w.heap.size ∧ ∀ i, w.frozen? ⟨g, i, none⟩ = false := by
  have h' := h
  rcases h.2 with ⟨hv, hn⟩ | ⟨g, cap, cur, hv, hb, hg, h1, h2, _⟩
  · omega
  · subst hv
    exact ⟨g, cap, rfl, h1, h2, hb, (Array.getElem?_eq_some_iff.1 hg).1, fun i => World.ownsRow.frozenAt h' i⟩
theorem Rw.at {w : World} {b g n cap : Nat} {l : List α} (h : Rw E w b (.slice (some ⟨g, 0, none⟩) n cap) l) {i : Nat} {x : α} (hi : l[i]? = some x) (j : Nat) {u : Value} (hj : (E.c x)[j]? = some u) : w.cell? ⟨g, i * E.n + j, none⟩ = some u := by
  have := World.ownsRow.cells h (g := g) rfl (i * E.n + j) u ((El.cat_at E l i x j hi (by have := (List.getElem?_eq_some_iff.1 hj).1; rwa [E.len] at this)).trans hj)
  rwa [add_none, Nat.zero_add] at this
/-- One cell is stored. -/
theorem Rw.put {w : World} {b g n cap : Nat} {l : List α} (h : Rw E w b (.slice (some ⟨g, 0, none⟩) n cap) l) (hn : n = l.length) {i : Nat} {x : α} (hi : l[i]? = some x) (j : Nat) (hj : j < E.n) (u : Value) (y : α) (hy : E.c y = (E.c x).set j u) :
    Rw E (w.setCell ⟨g, i * E.n + j, none⟩ u) b (.slice (some ⟨g, 0, none⟩) n cap) (l.set i y) := by
  subst hn
  have h0 := (World.ownsRow.stored h (i * E.n + j) u).1
  unfold Rw
  rw [List.length_set, ← El.cat_set E l i x y j u hi hj hy]
  exact h0
/-- A slice of the first ones: the same row, shorter. -/
theorem Rw.first {w : World} {b g n cap : Nat} {l : List α} (h : Rw E w b (.slice (some ⟨g, 0, none⟩) n cap) l) (k : Nat) (hk : k ≤ l.length) : Rw E w b (.slice (some ⟨g, 0, none⟩) k cap) (l.take k) := by
  rcases h.2 with ⟨hv, hn⟩ | ⟨g', cap', cur, hv, hb, hg, h1, h2, h3, h4⟩
  · cases hv
  · injection hv with e1 e2 e3
    injection e1 with e1
    injection e1 with e1 _ _
    subst e1 e2 e3
    have hlen : (l.take k).length = k := by rw [List.length_take]; omega
    refine ⟨El.cat_len E _, .inr ⟨g, cap, cur, by rw [hlen], hb, hg, by omega, h2, h3, ?_⟩⟩
    have e : E.cat (l.take k) = (E.cat l).take (k * E.n) := by
      have e1 : E.cat l = E.cat (l.take k) ++ E.cat (l.drop k) := by rw [← El.cat_append, List.take_append_drop]
      have e2 : (E.cat (l.take k)).length = k * E.n := by rw [El.cat_len, hlen]
      rw [e1, ← e2, List.take_left]
    rw [hlen, e, ← h4, List.take_take, Nat.min_eq_left (Nat.mul_le_mul_right _ hk)]
/-- A row that has just been laid out. -/
theorem Rw.lit (w : World) (l : List α) (b : Nat) (hb : b ≤ w.heap.size) (hm : l.length ≤ maxLen) : Rw E (w.alloc (.cells (E.cat l).toArray E.T)) b (.slice (some ⟨w.heap.size, 0, none⟩) l.length l.length) l :=
  World.ownsRow_lit w (E.cat l).toArray l.length hb hm (by simp [El.cat_len])
theorem El.made (n : Nat) (x0 : α) (hz : E.z.cells.toList = E.c x0) : (madeCells E.z.cells (n * E.n)).toList = E.cat (List.replicate n x0) := by
  have hs : E.z.cells.size = E.n := E.zs
  have hn := E.pos
  apply List.ext_getElem?
  intro m
  by_cases hm : m < n * E.n
  · obtain ⟨i, j, rfl, hj⟩ : ∃ i j, m = i * E.n + j ∧ j < E.n := ⟨m / E.n, m % E.n, (by rw [Nat.mul_comm]; exact (Nat.div_add_mod m E.n).symm), Nat.mod_lt _ hn⟩
    have hi : i < n := by
      rcases Nat.lt_or_ge i n with h | h
      · exact h
      · have := Nat.mul_le_mul_right E.n h; omega
    rw [El.cat_at E (List.replicate n x0) i x0 j (by simp [hi]) hj, ← hz]
    have e : (madeCells E.z.cells (n * E.n)).toList[i * E.n + j]? = some (E.z.cells[(i * E.n + j) % E.z.cells.size]!) := by simp [madeCells, hm]
    rw [e, hs, show (i * E.n + j) % E.n = j by rw [Nat.add_comm, Nat.add_mul_mod_self_right, Nat.mod_eq_of_lt hj]]
    have hjs : j < E.z.cells.size := by omega
    rw [getElem!_pos E.z.cells j hjs]
    simp [hjs]
  · rw [List.getElem?_eq_none (by simp [madeCells]; omega), List.getElem?_eq_none (by rw [El.cat_len]; simp; omega)]
end

/-! ### Operations -/
section
variable {α : Type} {E : El α} {ops : Array Oper} {rest : List Oper} {o : Oper} {a : Act} {Q : Exit → Act → World → Prop}
theorem grown_alloc {w0 w' : World} {o : Obj} {row : Option Nat} (h : (w0.alloc o).grownBy w' row) : w0.grownBy w' row := by
  refine ⟨h.os, h.tape, h.output, Nat.le_trans (by simp) h.size, fun k hk hne => ?_⟩
  rw [h.block k (by simp; omega) hne, Below.heap_alloc _ _ _ hk]
/-- One element more, which lies in a block just made. -/
theorem appE (E : El α) (hgd : o.guard = none) (s x : Operand) (ho : o.op = .call { callee := .builtin .append, args := #[s, x], argTypes := #[E.L, E.L] })
    (base : Nat) (v : Value) (l : List α) (b : α) (cs : Array Value) (hcs : cs = (E.c b).toArray) (w0 : World) (hs : a.eval s = v) (hown : Rw E w0 base v l)
    (G : Nat) (hG : w0.heap.size = G) (hx : a.eval x = .slice (some ⟨G, 0, none⟩) 1 1) (hlen : l.length ≤ 1000000000) (hb : base ≤ w0.heap.size)
    (h : ∀ v' w', Rw E w' base v' (l ++ [b]) → w0.grownBy w' v.ownBlock → (v'.ownBlock = v.ownBlock ∨ ∃ k, v'.ownBlock = some k ∧ w0.heap.size ≤ k) → Below base w0 w' → wpList Try.prog ops Q rest (a.put o.dst v') w') : wpList Try.prog ops Q (o :: rest) a (w0.alloc (.cells cs E.T)) := by
  subst hG
  subst hcs
  obtain ⟨i0, hi, hz0, hz1, hz2⟩ := info_parts E.info
  have few := E.few
  refine wpList_append_own_at _ hgd s x E.L ho base E.T i0 _ E.n E.bytes E.und hi hz0 hz1 hz2 E.zs E.pos v _ _ hs (World.ownsRow.alloc hown _) ⟨w0.heap.size, 0, none⟩ 1 1 (E.c b) hx (by rw [E.len, Nat.one_mul]) ?_ (E.one b) (by unfold maxLen; omega) (Nat.le_trans (Nat.mul_le_mul_left _ few) (by omega)) (by simp; omega) ?_
  · intro j u hj
    rw [add_none, Nat.zero_add, (Blk.new w0 (E.c b).toArray E.T).cell]
    simpa using hj
  · intro v' w' hown' hgrow _ hbk
    refine h v' w' ?_ (grown_alloc hgrow) ?_ (((Below.refl base w0).alloc hb _).grown hgrow (by simp; omega) (fun k hk => (World.ownsRow.lt hown k hk).1))
    · unfold Rw
      rw [List.length_append, El.cat_append, El.cat_one]
      exact hown'
    · rcases hbk with e | e
      · exact .inl e
      · exact .inr ⟨_, e, by simp⟩
/-- The same in a region that draws its order. -/
theorem step_appE (E : El α) {W : World} {K : Act → World → Prop} {D : Prop} (hgd : o.guard = none) (s x : Operand) (ho : o.op = .call { callee := .builtin .append, args := #[s, x], argTypes := #[E.L, E.L] })
    (base : Nat) (v : Value) (l : List α) (b : α) (G : Nat) (hs : a.eval s = v) (hx : a.eval x = .slice (some ⟨G, 0, none⟩) 1 1) (hown : Rw E W base v l)
    (hG : Blk W G (E.c b).toArray E.T) (hlen : l.length ≤ 1000000000) (hb : base ≤ W.heap.size)
    (h : ∀ v' w', Rw E w' base v' (l ++ [b]) → W.grownBy w' v.ownBlock → (v'.ownBlock = v.ownBlock ∨ v'.ownBlock = some W.heap.size) → Below base W w' → K (a.put o.dst v') w') :
    if Region.wanted o (yielded ops a.tmps) = true then Oper.wp Try.prog o a W K Q else D := by
  have hw : Region.wanted o (yielded ops a.tmps) = true := by simp [Region.wanted, hgd]
  rw [if_pos hw]
  obtain ⟨i0, hi, hz0, hz1, hz2⟩ := info_parts E.info
  have few := E.few
  obtain ⟨v', w', hrun, r1, r2, _, r4⟩ := run_append_own_at (P := Try.prog) W base E.L o.type E.T i0 _ E.n E.bytes E.und hi hz0 hz1 hz2 E.zs E.pos v _ _ hown ⟨G, 0, none⟩ 1 1 (E.c b) (by rw [E.len, Nat.one_mul]) (by
    intro j u hj
    rw [add_none, Nat.zero_add, hG.cell]
    simpa using hj) (E.one b) (by unfold maxLen; omega) (Nat.le_trans (Nat.mul_le_mul_left _ few) (by omega)) hb
  unfold Oper.wp execOp
  simp only [ho, resolve, invoke, builtin, Sem.run_bind, Sem.run_pure, Result.andThen_ok, List.map_toArray, List.map_cons, List.map_nil, hs, hx, hrun]
  refine h v' w' ?_ r2 r4 ((Below.refl base W).grown r2 hb (fun k hk => (World.ownsRow.lt hown k hk).1))
  unfold Rw
  rw [List.length_append, El.cat_append, El.cat_one]
  exact r1
/-- All elements of a slice more. -/
theorem appAll (E : El α) (hgd : o.guard = none) (s x : Operand) (ho : o.op = .call { callee := .builtin .append, args := #[s, x], argTypes := #[E.L, E.L] })
    (base : Nat) (v : Value) (l ys : List α) (ao : Option Addr) (c m : Nat) (hm : m = ys.length) (hc : ao = none → c = 0) (w0 : World) (hs : a.eval s = v) (hown : Rw E w0 base v l) (hsl : Sg E w0 ao ys) (hx : a.eval x = .slice ao m c) (hlen : l.length + ys.length ≤ 1000000000) (hb : base ≤ w0.heap.size)
    (h : ∀ v' w', Rw E w' base v' (l ++ ys) → w0.grownBy w' v.ownBlock → (v'.ownBlock = v.ownBlock ∨ v'.ownBlock = some w0.heap.size) → Below base w0 w' → wpList Try.prog ops Q rest (a.put o.dst v') w') : wpList Try.prog ops Q (o :: rest) a w0 := by
  subst hm
  obtain ⟨i0, hi, hz0, hz1, hz2⟩ := info_parts E.info
  have few := E.few
  cases ao with
  | none =>
    have e := hsl.none
    subst e
    have hc0 := hc rfl
    subst hc0
    refine wpList_plain hgd fun K hK => ?_
    have hr := run_append_owned_none (P := Try.prog) w0 base E.L o.type E.T i0 E.n E.und hi v _ _ hown
    unfold Oper.wp execOp
    simp only [ho, resolve, invoke, builtin, Sem.run_bind, Sem.run_pure, Result.andThen_ok, List.map_toArray, List.map_cons, List.map_nil, hs, hx, List.length_nil, hr]
    exact hK _ _ (h v w0 (by rw [List.append_nil]; exact hown) ⟨rfl, rfl, rfl, Nat.le_refl _, fun _ _ _ => rfl⟩ (.inl rfl) (Below.refl _ _))
  | some p =>
    refine wpList_append_own_at _ hgd s x E.L ho base E.T i0 _ E.n E.bytes E.und hi hz0 hz1 hz2 E.zs E.pos v _ _ hs hown p ys.length c (E.cat ys) hx (El.cat_len E ys) (fun j u hj => hsl.cells j u hj) (El.cat_mem E ys) (by unfold maxLen; omega) (Nat.le_trans (Nat.mul_le_mul_left _ few) (by omega)) hb ?_
    intro v' w' hown' hgrow _ hbk
    refine h v' w' ?_ hgrow hbk ((Below.refl base w0).grown hgrow hb (fun k hk => (World.ownsRow.lt hown k hk).1))
    unfold Rw
    rw [List.length_append, El.cat_append]
    exact hown'
/-- So many zeros made. -/
theorem makeE (E : El α) (hgd : o.guard = none) (l c : Operand) (ho : o.op = Op.makeSlice E.L l c) (kl kc : IntKind) (L C : Int) (n : Nat) (w : World) (x0 : α) (hz : E.z.cells.toList = E.c x0) (hl : a.eval l = .int kl L) (hc : a.eval c = .int kc C) (hL : L = (n : Int)) (hC : C = (n : Int)) (hn : n ≤ 100000)
    (h : ∀ g w', w.heap.size = g → Rw E w' w.heap.size (.slice (some ⟨g, 0, none⟩) n n) (List.replicate n x0) → Below w.heap.size w w' → wpList Try.prog ops Q rest (a.put o.dst (.slice (some ⟨g, 0, none⟩) n n)) w') : wpList Try.prog ops Q (o :: rest) a w := by
  obtain ⟨i0, hi, hz0, hz1, hz2⟩ := info_parts E.info
  have few := E.few
  refine wpList_make_full w hgd l c E.L ho w.heap.size E.T i0 _ E.n E.und hi hz0 hz1 kl kc L C n hl hc hL hC (by rw [hz2]; exact Nat.le_trans (Nat.mul_le_mul few hn) (by omega)) (by unfold maxLen; omega) (Nat.le_refl _) ?_
  intro w' hown hgr
  refine h _ w' rfl ?_ ((Below.refl _ w).grown hgr (Nat.le_refl _) (fun k hk => by cases hk))
  unfold Rw
  rw [List.length_replicate, ← El.made n x0 hz]
  exact hown
end

end Go.Proofs.Ytlommgljkjkmkaa.Gn
