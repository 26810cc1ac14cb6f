/-
  Changes of tables as plain mathematics: whether tables may be, a change's sources, what is there instead, all tables behind it. Conditions: none.
  Tables in memory: a slice of tables, a row of them that a call owns: made, one more, one stored. Conditions: the bounds named in each theorem.
  Where a table of a name stands: Find (by slices.IndexFunc and a closure), the document's Find; whether tables may be: CheckAll, the document's; a table with columns of its own: copied (by slices.Clone). Conditions: the bounds named in each theorem.
  The parts of Targets: a table with columns of its own (copied, by slices.Clone), tables of names (ofNames), tables without some (without), a column behind the key (behindKey). Conditions: the bounds named in each theorem.
  A change behind its interface: changerOf; whether it takes tables away: taken, takes; the names of those: Sources, the document's Sources. Conditions: none.
  The names of the tables that are no more behind a change: Sources. Conditions: none.
-/
import Derived.Test.YtdonmbmahcjfbaaGreatDoorScPlain
import Derived.Test.YtdonmbmahcjfbaaGreatDoorCvPlain
import Derived.Test.YtdonmbmahcjfbaaGreatDoorScSame
import Derived.Maps.AppendAt
import Derived.Lib.SliceRun
import Derived.Stop.Asserts
import Derived.Deep.MidRow
namespace Go.Proofs.YtdonmbmahcjfbaaGreatDoor
open Go.RowKit

/-- A change. -/
structure Ch where
  kind : Int
  table : Nm.S
  other : Nm.S
  to : Nm.S
  also : Nm.S
  name : Nm.S
  type : Int
  names : List Nm.S
  col : C
  df : T

def nms (l : List T) : List Nm.S := l.map T.name
def T.cns (t : T) : List Nm.S := t.cs.map C.name
/-- The first error of tables; do texts rise; may tables be. -/
def tcl : List T → Int
  | [] => 0
  | t :: ts => if t.ck = 0 then tcl ts else t.ck
def rises : List Nm.S → Bool
  | a :: b :: l => decide (a < b) && rises (b :: l)
  | _ => true
def cka (l : List T) : Int := if 16 < l.length then 2 else if tcl l ≠ 0 then tcl l else if rises (nms l) = true then 0 else 12

/-- The names of the tables that are no more; what is left; the table of a name. -/
def Ch.src (c : Ch) : List Nm.S := if c.kind = 6 then [c.table, c.other] else if 2 ≤ c.kind ∧ c.kind ≤ 5 then [c.table] else []
def lft (l : List T) (g : List Nm.S) : List T := l.filter (fun t => decide (t.name ∉ g))
def tat (l : List T) (s : Nm.S) : T := (l[(nms l).idxOf s]?).getD T0

/-- A column more; one less; one of another kind. -/
def T.add (t : T) (c : C) : List T × Int :=
  if c.ck ≠ 0 then ([], c.ck) else if c.name ∈ t.cns then ([], 12) else if 8 ≤ t.cs.length then ([], 2) else if c.null = false ∧ c.d.k = 0 then ([], 11)
  else ([⟨t.name, t.keys, t.cs ++ [c]⟩], 0)
def T.drp (t : T) (s : Nm.S) : List T × Int :=
  if Nm.fi t.cns s < t.keys then ([], 10) else ([⟨t.name, t.keys, t.cs.eraseIdx (Nm.fi t.cns s).toNat⟩], 0)
def V.to (v : V) (kind : Int) : V := ⟨(Km.Cv.to v.k v.n v.b v.s kind).k, (Km.Cv.to v.k v.n v.b v.s kind).n, (Km.Cv.to v.k v.n v.b v.s kind).b, (Km.Cv.to v.k v.n v.b v.s kind).s⟩
def C.re (c : C) (kind : Int) (v : V) : C := ⟨c.name, kind, c.null, v⟩
def T.col (t : T) (s : Nm.S) : C := (t.cs[(Nm.fi t.cns s).toNat]?).getD C0
def T.ret (t : T) (s : Nm.S) (kind : Int) (v : V) : List T × Int :=
  if Nm.fi t.cns s < t.keys then ([], 10) else if Km.Cv.can (t.col s).kind kind = false then ([], 5)
  else ([⟨t.name, t.keys, t.cs.set (Nm.fi t.cns s).toNat ((t.col s).re kind v)⟩], 0)
/-- One as two. -/
def T.bad (t : T) (ns : List Nm.S) : Bool := (ns.any fun s => decide (Nm.fi t.cns s < t.keys)) || !(Nm.un ns)
def T.some (t : T) (ns : List Nm.S) : List C := t.cs.take t.keys.toNat ++ (t.cs.drop t.keys.toNat).filter (fun c => decide (c.name ∈ ns))
def T.rest (t : T) (ns : List Nm.S) : List C := t.cs.take t.keys.toNat ++ (t.cs.drop t.keys.toNat).filter (fun c => decide (c.name ∉ ns))
def T.spl (t : T) (c : Ch) : List T × Int :=
  if Nm.ck c.to ≠ 0 then ([], Nm.ck c.to) else if Nm.ck c.also ≠ 0 then ([], Nm.ck c.also) else if c.to = c.also then ([], 12) else if t.bad c.names = true then ([], 10)
  else ([⟨c.to, t.keys, t.some c.names⟩, ⟨c.also, t.keys, t.rest c.names⟩], 0)
/-- Two as one. -/
def Ch.mrg (c : Ch) (a b : T) : List T × Int :=
  if c.table = c.other then ([], 12) else if Nm.ck c.to ≠ 0 then ([], Nm.ck c.to) else if a.keys = b.keys ∧ csm a.cs b.cs = true then ([⟨c.to, a.keys, a.cs⟩], 0) else ([], 11)
/-- A new one. -/
def T.new (t : T) : List T × Int := if t.ck ≠ 0 then ([], t.ck) else ([t], 0)

/-- What is there instead, whatever else is; with the question whether names are there. (v: what a retype makes of the column's Default.) -/
def Ch.bod (c : Ch) (v : V) (l : List T) : List T × Int :=
  if c.kind = 1 then c.df.new else if c.kind = 2 then (tat l c.table).add c.col else if c.kind = 3 then (tat l c.table).drp c.name
  else if c.kind = 4 then (tat l c.table).ret c.name c.type v else if c.kind = 5 then (tat l c.table).spl c else c.mrg (tat l c.table) (tat l c.other)
def twice (l : List T) (g : List Nm.S) (to : List T) : Bool := to.any fun t => decide (t.name ∈ nms (lft l g))
def lack (l : List T) (g : List Nm.S) : Bool := g.any fun s => decide (s ∉ nms l)
def Ch.tgt (c : Ch) (v : V) (l : List T) : List T × Int :=
  if cka l ≠ 0 then ([], cka l) else if c.kind < 1 ∨ 6 < c.kind then ([], 1) else if lack l c.src = true then ([], 9)
  else if (c.bod v l).2 ≠ 0 then ([], (c.bod v l).2) else if twice l c.src (c.bod v l).1 = true then ([], 12) else c.bod v l
/-- A table more, where it belongs; all of them. -/
def put : List T → T → List T
  | [], t => [t]
  | x :: l, t => if t.name < x.name then t :: x :: l else x :: put l t
def puts (l : List T) (ts : List T) : List T := ts.foldl put l
def Ch.app (c : Ch) (v : V) (l : List T) : List T × Int :=
  if (c.tgt v l).2 ≠ 0 then ([], (c.tgt v l).2) else if 16 < (puts (lft l c.src) (c.tgt v l).1).length then ([], 2) else (puts (lft l c.src) (c.tgt v l).1, 0)

/-! ### Tables that may be -/
theorem tcl_all {l : List T} (h : tcl l = 0) : ∀ t ∈ l, t.ck = 0 := by
  induction l with
  | nil => simp
  | cons c cs ih =>
    rw [tcl] at h
    split at h
    · rename_i g
      intro x hx
      rcases List.mem_cons.1 hx with rfl | hx
      · exact g
      · exact ih h x hx
    · rename_i g; exact absurd h g
theorem tcl_of {l : List T} (h : ∀ t ∈ l, t.ck = 0) : tcl l = 0 := by
  induction l with
  | nil => rfl
  | cons c cs ih => rw [tcl, if_pos (h c (List.mem_cons_self ..))]; exact ih fun x hx => h x (List.mem_cons_of_mem _ hx)
theorem tcl_stop (l : List T) (j : Nat) (hj : j < l.length) (h0 : ∀ t ∈ l.take j, t.ck = 0) (h1 : l[j].ck ≠ 0) : tcl l = l[j].ck := by
  induction l generalizing j with
  | nil => simp at hj
  | cons c cs ih =>
    cases j with
    | zero => rw [tcl, if_neg (show ¬ c.ck = 0 from h1)]; rfl
    | succ j =>
      rw [tcl, if_pos (h0 c (by simp))]
      exact ih j (by simpa using hj) (fun x hx => h0 x (by simp [hx])) h1
theorem ttake_all {l : List T} {j : Nat} (hj : j < l.length) {p : T → Prop} (h : ∀ c ∈ l.take j, p c) (h1 : p l[j]) : ∀ c ∈ l.take (j + 1), p c := by
  rw [List.take_succ_eq_append_getElem hj]
  intro x hx
  rcases List.mem_append.1 hx with g | g
  · exact h x g
  · obtain rfl := List.mem_singleton.1 g; exact h1
theorem rises_iff : ∀ (l : List Nm.S), rises l = true ↔ ∀ (i : Nat) (h : i + 1 < l.length), l[i] < l[i + 1]
  | [] => by simp [rises]
  | [a] => by simp [rises]
  | a :: b :: l => by
    rw [rises, Bool.and_eq_true, decide_eq_true_eq, rises_iff (b :: l)]
    constructor
    · rintro ⟨h1, h2⟩ i hi
      cases i with
      | zero => exact h1
      | succ i => exact h2 i (by simpa using hi)
    · intro h
      exact ⟨h 0 (by simp), fun i hi => h (i + 1) (by simpa using hi)⟩
theorem rises_pair {l : List Nm.S} (h : rises l = true) : l.Pairwise (· < ·) := by
  induction l with
  | nil => exact List.Pairwise.nil
  | cons a l ih =>
    cases l with
    | nil => simp
    | cons b l =>
      rw [rises, Bool.and_eq_true, decide_eq_true_eq] at h
      have ih := ih h.2
      refine List.pairwise_cons.2 ⟨fun x hx => ?_, ih⟩
      rcases List.mem_cons.1 hx with rfl | hx
      · exact h.1
      · exact List.lt_trans h.1 ((List.pairwise_cons.1 ih).1 x hx)
theorem pair_rises {l : List Nm.S} (h : l.Pairwise (· < ·)) : rises l = true := by
  rw [rises_iff]
  intro i hi
  exact List.pairwise_iff_getElem.1 h i (i + 1) (by omega) hi (by omega)
theorem rises_nodup {l : List Nm.S} (h : rises l = true) : l.Nodup := by
  refine (rises_pair h).imp ?_
  intro a b hab e
  subst e
  exact List.lt_irrefl _ hab
theorem cka_ok {l : List T} (h : cka l = 0) : l.length ≤ 16 ∧ (∀ t ∈ l, t.ck = 0) ∧ rises (nms l) = true := by
  unfold cka at h
  split at h
  · omega
  · rename_i g0
    split at h
    · rename_i g1; exact absurd h g1
    · rename_i g1
      split at h
      · rename_i g2; exact ⟨by omega, tcl_all (by omega), g2⟩
      · omega
theorem cka_of {l : List T} (h0 : l.length ≤ 16) (h1 : ∀ t ∈ l, t.ck = 0) (h2 : rises (nms l) = true) : cka l = 0 := by
  unfold cka
  rw [if_neg (by omega), if_neg (by simp [tcl_of h1]), if_pos h2]

/-! ### Tables by their names -/
theorem idx_lt {l : List T} {s : Nm.S} (h : s ∈ nms l) : (nms l).idxOf s < l.length := by
  have := List.idxOf_lt_length_iff.2 h
  unfold nms at this ⊢
  simpa using this
theorem tat_name {l : List T} {s : Nm.S} (h : s ∈ nms l) : (tat l s).name = s := by
  have h0 := idx_lt h
  unfold tat
  rw [List.getElem?_eq_getElem h0, Option.getD_some]
  have h1 : (nms l)[(nms l).idxOf s]'(List.idxOf_lt_length_iff.2 h) = s := List.getElem_idxOf _
  have h2 : (nms l)[(nms l).idxOf s]'(List.idxOf_lt_length_iff.2 h) = l[(nms l).idxOf s].name := List.getElem_map T.name
  rw [← h2, h1]
theorem tat_mem {l : List T} {s : Nm.S} (h : s ∈ nms l) : tat l s ∈ l := by
  unfold tat
  rw [List.getElem?_eq_getElem (idx_lt h), Option.getD_some]
  exact List.getElem_mem _
theorem tat_at {l : List T} {s : Nm.S} {j : Nat} (h : Nm.fi (nms l) s = j) (hj : j < l.length) : l[j] = tat l s := by
  have hm : s ∈ nms l := by
    refine Classical.byContradiction fun g => ?_
    rw [Nm.fi_none _ _ g] at h; omega
  rw [Nm.fi, if_pos hm] at h
  unfold tat
  have : (nms l).idxOf s = j := by omega
  rw [this, List.getElem?_eq_getElem hj, Option.getD_some]
theorem fi_mem {l : List Nm.S} {s : Nm.S} (h : s ∈ l) : Nm.fi l s = (l.idxOf s : Int) := by rw [Nm.fi, if_pos h]
theorem fi_lt (l : List Nm.S) (s : Nm.S) : Nm.fi l s < l.length := by
  unfold Nm.fi
  split
  · rename_i h; have := List.idxOf_lt_length_iff.2 h; omega
  · omega
theorem fi_ge (l : List Nm.S) (s : Nm.S) : -1 ≤ Nm.fi l s := by
  unfold Nm.fi
  split <;> omega

end Go.Proofs.YtdonmbmahcjfbaaGreatDoor

namespace Go.Proofs.YtdonmbmahcjfbaaGreatDoor
open Go.RowKit

/-- A table as a row of tables holds it: its columns lie at ao. -/
structure TV where
  t : T
  ao : Option Addr
  cap : Nat
def TV.cells (x : TV) : List Value := [.string ⟨x.t.name.toArray⟩, .int .i64 x.t.keys, .slice x.ao x.t.cs.length x.cap]
def TV0 : TV := ⟨T0, none, 0⟩
def tvs (xs : List TV) : List T := xs.map TV.t
theorem tvs_len (xs : List TV) : (tvs xs).length = xs.length := by simp [tvs]
theorem tvs_at {xs : List TV} {j : Nat} (h : j < xs.length) : (tvs xs)[j]'(by rw [tvs_len]; exact h) = xs[j].t := by simp [tvs]
theorem nms_len (xs : List TV) : (nms (tvs xs)).length = xs.length := by simp [nms, tvs]
theorem nms_at {xs : List TV} {j : Nat} (h : j < xs.length) : (nms (tvs xs))[j]'(by rw [nms_len]; exact h) = xs[j].t.name := by simp [nms, tvs]

/-- Cell by cell. -/
def AtT (W : World) (p : Addr) (x : TV) : Prop :=
  W.cell? p = some (.string ⟨x.t.name.toArray⟩) ∧ W.cell? ⟨p.block, p.off + 1, none⟩ = some (.int .i64 x.t.keys) ∧ W.cell? ⟨p.block, p.off + 2, none⟩ = some (.slice x.ao x.t.cs.length x.cap)
/-- A slice of tables; their columns. -/
def SlV (W : World) (ao : Option Addr) (xs : List TV) : Prop := ∀ (i : Nat) (x : TV), xs[i]? = some x → ∃ a, ao = some a ∧ AtT W (a.add (i * 3)) x
def Fit (W : World) (xs : List TV) : Prop := ∀ x ∈ xs, At3 W x.t x.ao x.cap
theorem SlV.below {W W' : World} {ao : Option Addr} {xs : List TV} (h : SlV W ao xs) (hb : Below W.heap.size W W') : SlV W' ao xs := by
  intro i c hi
  obtain ⟨a, ha, h0, h1, h2⟩ := h i c hi
  exact ⟨a, ha, keep0 h0 hb, keep0 h1 hb, keep0 h2 hb⟩
theorem SlV.nil (W : World) (ao : Option Addr) : SlV W ao [] := fun i x h => by simp at h
theorem Fit.below {W W' : World} {xs : List TV} (h : Fit W xs) (hb : Below W.heap.size W W') : Fit W' xs := fun x hx => (h x hx).keep hb
theorem Fit.nil (W : World) : Fit W [] := fun x hx => by simp at hx
theorem Fit.cons {W : World} {x : TV} {xs : List TV} (h : At3 W x.t x.ao x.cap) (hs : Fit W xs) : Fit W (x :: xs) := fun y hy => by
  rcases List.mem_cons.1 hy with rfl | hy
  · exact h
  · exact hs y hy
theorem Fit.append {W : World} {xs ys : List TV} (h : Fit W xs) (hs : Fit W ys) : Fit W (xs ++ ys) := fun y hy => by
  rcases List.mem_append.1 hy with hy | hy
  · exact h y hy
  · exact hs y hy

theorem Tryz.infoT : (Tryz.prog.info? 24).map (fun i => (i.zero, i.size, i.bytes)) = some (some (.agg #[.string ⟨#[]⟩, .int .i64 0, .slice none 0 0]), 3, 48) := by kernel_rfl

/-- The cells of tables. -/
def tcs : List TV → List Value
  | [] => []
  | x :: xs => x.cells ++ tcs xs
theorem tcs_append (a b : List TV) : tcs (a ++ b) = tcs a ++ tcs b := by
  induction a with
  | nil => rfl
  | cons x a ih => simp [tcs, ih]
theorem tcs_len (a : List TV) : (tcs a).length = a.length * 3 := by
  induction a with
  | nil => rfl
  | cons x a ih => rw [tcs, List.length_append, ih]; simp [TV.cells]; omega
theorem tcs_at : ∀ (xs : List TV) (i : Nat) (x : TV) (j : Nat), xs[i]? = some x → j < 3 → (tcs xs)[i * 3 + j]? = x.cells[j]?
  | [], i, x, j, h, _ => by simp at h
  | y :: xs, 0, x, j, h, hj => by
    obtain rfl : y = x := by simpa using h
    rw [tcs, List.getElem?_append_left (by simp [TV.cells]; omega)]; simp
  | y :: xs, i + 1, x, j, h, hj => by
    rw [tcs, List.getElem?_append_right (by simp [TV.cells]; omega), show (i + 1) * 3 + j - y.cells.length = i * 3 + j by simp [TV.cells]; omega]
    exact tcs_at xs i x j (by simpa using h) hj
theorem tcs_set : ∀ (xs : List TV) (j : Nat) (x : TV), j < xs.length → ((((tcs xs).set (j * 3) (.string ⟨x.t.name.toArray⟩)).set (j * 3 + 1) (.int .i64 x.t.keys)).set (j * 3 + 2) (.slice x.ao x.t.cs.length x.cap)) = tcs (xs.set j x)
  | [], j, x, h => by simp at h
  | y :: xs, 0, x, _ => by simp [tcs, TV.cells]
  | y :: xs, j + 1, x, h => by
    have ih := tcs_set xs j x (by simpa using h)
    have hc : y.cells.length = 3 := rfl
    rw [List.set_cons_succ, tcs, tcs, ← ih]
    rw [List.set_append_right _ _ (by rw [hc]; omega), List.set_append_right _ _ (by rw [hc]; omega), List.set_append_right _ _ (by rw [hc]; omega), hc]
    rw [show (j + 1) * 3 - 3 = j * 3 by omega, show (j + 1) * 3 + 1 - 3 = j * 3 + 1 by omega, show (j + 1) * 3 + 2 - 3 = j * 3 + 2 by omega]

/-- A row of tables that a call owns. -/
def OwT (w : World) (base : Nat) (v : Value) (xs : List TV) : Prop := w.ownsRow base 24 3 v xs.length (tcs xs)
theorem owt_nil (w : World) (base : Nat) : OwT w base (.slice none 0 0) [] := World.ownsRow_nil _ _ _ _
theorem OwT.keep {w w' : World} {b : Nat} {v : Value} {l : List TV} (h : OwT w b v l) (hb : Below w.heap.size w w') : OwT w' b v l := by
  refine ⟨h.1, ?_⟩
  rcases h.2 with hn | ⟨g, cap, cur, hv, hbg, hg, rest⟩
  · exact .inl hn
  · exact .inr ⟨g, cap, cur, hv, hbg, (hb.block g (Array.getElem?_eq_some_iff.1 hg).1).trans hg, rest⟩
theorem OwT.base {w : World} {b b' : Nat} {v : Value} {l : List TV} (h : OwT w b v l) (hb : b' ≤ b) : OwT w b' v l := by
  refine ⟨h.1, ?_⟩
  rcases h.2 with hn | ⟨g, cap, cur, hv, hbg, rest⟩
  · exact .inl hn
  · exact .inr ⟨g, cap, cur, hv, Nat.le_trans hb hbg, rest⟩
/-- Such a row as a slice: its length, its room, what it holds. -/
theorem OwT.sl {w : World} {b : Nat} {v : Value} {xs : List TV} (h : OwT w b v xs) : ∃ ao cap, v = .slice ao xs.length cap ∧ xs.length ≤ cap ∧ SlV w ao xs := by
  have h' := h
  rcases h.2 with ⟨hv, hn⟩ | ⟨g, cap, cur, hv, _, hg, h1, h2, h3, h4⟩
  · have e := List.eq_nil_of_length_eq_zero hn
    subst e
    exact ⟨none, 0, hv, Nat.le_refl _, fun i x hi => by simp at hi⟩
  · refine ⟨some ⟨g, 0, none⟩, cap, hv, ?_, fun i x hi => ⟨⟨g, 0, none⟩, rfl, ?_⟩⟩
    · first | exact h1 | omega
    · have c : ∀ j u, j < 3 → x.cells[j]? = some u → w.cell? ⟨g, i * 3 + j, none⟩ = some u := fun j u hj hu => by
        have := World.ownsRow.cells h' (g := g) (by rw [hv]; rfl) (i * 3 + j) u ((tcs_at xs i x j hi hj).trans hu)
        rwa [add_none] at this
      rw [add_none]
      exact ⟨c 0 _ (by decide) rfl, c 1 _ (by decide) rfl, c 2 _ (by decide) rfl⟩
theorem tcs_made (n : Nat) : (madeCells (Value.agg #[.string ⟨#[]⟩, .int .i64 0, .slice none 0 0]).cells (n * 3)).toList = tcs (List.replicate n TV0) := by
  have hz : (Value.agg #[.string ⟨#[]⟩, .int .i64 0, .slice none 0 0]).cells = #[.string ⟨#[]⟩, .int .i64 0, .slice none 0 0] := by simp [Value.cells]
  apply List.ext_getElem?
  intro m
  by_cases hm : m < n * 3
  · obtain ⟨i, j, rfl, hj⟩ : ∃ i j, m = i * 3 + j ∧ j < 3 := ⟨m / 3, m % 3, by omega, by omega⟩
    have hi : i < n := by omega
    rw [tcs_at (List.replicate n TV0) i TV0 j (by simp [hi]) hj, hz]
    have e : ∀ z : Array Value, (madeCells z (n * 3)).toList[i * 3 + j]? = some (z[(i * 3 + j) % z.size]!) := fun z => by simp [madeCells, hm]
    rw [e]
    show some ((#[.string ⟨#[]⟩, .int .i64 0, .slice none 0 0] : Array Value)[(i * 3 + j) % 3]!) = _
    rw [show (i * 3 + j) % 3 = j by omega]
    have c : j = 0 ∨ j = 1 ∨ j = 2 := by omega
    rcases c with rfl | rfl | rfl <;> rfl
  · rw [List.getElem?_eq_none (by simp [madeCells]; omega), List.getElem?_eq_none (by rw [tcs_len]; simp; omega)]
/-- What a store of another table leaves. -/
theorem OwT.store {w : World} {b g n cap : Nat} {ys : List TV} (h : OwT w b (.slice (some ⟨g, 0, none⟩) n cap) ys) (hn : n = ys.length) (j : Nat) (hj : j < ys.length) (x : TV) :
    OwT (((w.setCell ⟨g, j * 3, none⟩ (.string ⟨x.t.name.toArray⟩)).setCell ⟨g, j * 3 + 1, none⟩ (.int .i64 x.t.keys)).setCell ⟨g, j * 3 + 2, none⟩ (.slice x.ao x.t.cs.length x.cap)) b (.slice (some ⟨g, 0, none⟩) n cap) (ys.set j x) ∧ b ≤ g ∧ g < w.heap.size ∧ (∀ i, w.frozen? ⟨g, i, none⟩ = false) := by
  subst hn
  unfold OwT at h ⊢
  have h0 := World.ownsRow.stored h (j * 3) (.string ⟨x.t.name.toArray⟩)
  have h1 := World.ownsRow.stored h0.1 (j * 3 + 1) (.int .i64 x.t.keys)
  have h2 := World.ownsRow.stored h1.1 (j * 3 + 2) (.slice x.ao x.t.cs.length x.cap)
  have l := World.ownsRow.lt h g rfl
  rw [List.length_set, ← tcs_set ys j x hj]
  exact ⟨h2.1, l.1, l.2, fun i => World.ownsRow.frozenAt h i⟩
theorem OwT.at {w : World} {b g n cap : Nat} {ys : List TV} (h : OwT w b (.slice (some ⟨g, 0, none⟩) n cap) ys) (j : Nat) (y : TV) (hj : ys[j]? = some y) :
    w.cell? ⟨g, j * 3, none⟩ = some (.string ⟨y.t.name.toArray⟩) ∧ w.cell? ⟨g, j * 3 + 1, none⟩ = some (.int .i64 y.t.keys) ∧ w.cell? ⟨g, j * 3 + 2, none⟩ = some (.slice y.ao y.t.cs.length y.cap) := by
  have c : ∀ i u, i < 3 → y.cells[i]? = some u → w.cell? ⟨g, j * 3 + i, none⟩ = some u := fun i u hi hu => by
    have := World.ownsRow.cells h (g := g) rfl (j * 3 + i) u ((tcs_at ys j y i hj hi).trans hu)
    rwa [add_none] at this
  exact ⟨c 0 _ (by decide) rfl, c 1 _ (by decide) rfl, c 2 _ (by decide) rfl⟩
theorem set3 {b g : Nat} {w w3 : World} {o0 o1 o2 : Nat} {u0 u1 u2 : Value} (h : Below b w w3) (hg : b ≤ g) : Below b w (((w3.setCell ⟨g, o0, none⟩ u0).setCell ⟨g, o1, none⟩ u1).setCell ⟨g, o2, none⟩ u2) :=
  ((h.setCell (p := ⟨g, o0, none⟩) hg u0).setCell (p := ⟨g, o1, none⟩) hg u1).setCell (p := ⟨g, o2, none⟩) hg u2
theorem vset_next (done : List TV) (N j : Nat) (x : TV) (hd : done.length = j) (hj : j < N) : (done ++ List.replicate (N - j) TV0).set j x = (done ++ [x]) ++ List.replicate (N - (j + 1)) TV0 := by
  rw [List.set_append_right _ _ (by omega), hd, Nat.sub_self, show N - j = (N - (j + 1)) + 1 by omega, List.replicate_succ, List.set_cons_zero, List.append_assoc]
  rfl
/-- A row that the walk has just laid out: of one table, of two. -/
theorem owt_one (w : World) (x : TV) : OwT (w.alloc (.cells #[.string ⟨x.t.name.toArray⟩, .int .i64 x.t.keys, .slice x.ao x.t.cs.length x.cap] 24)) w.heap.size (.slice (some ⟨w.heap.size, 0, none⟩) 1 1) [x] := by
  refine ⟨rfl, .inr ⟨w.heap.size, 1, _, rfl, Nat.le_refl _, Blk.new w _ _, Nat.le_refl _, by unfold maxLen; decide, rfl, rfl⟩⟩
theorem owt_two (w : World) (x y : TV) : OwT (w.alloc (.cells #[.string ⟨x.t.name.toArray⟩, .int .i64 x.t.keys, .slice x.ao x.t.cs.length x.cap, .string ⟨y.t.name.toArray⟩, .int .i64 y.t.keys, .slice y.ao y.t.cs.length y.cap] 24)) w.heap.size (.slice (some ⟨w.heap.size, 0, none⟩) 2 2) [x, y] := by
  refine ⟨rfl, .inr ⟨w.heap.size, 2, _, rfl, Nat.le_refl _, Blk.new w _ _, Nat.le_refl _, by unfold maxLen; decide, rfl, rfl⟩⟩

/-! ### Blocks, once more -/
theorem Blk.frozen {W : World} {B : Nat} {cs : Array Value} {t : TypeId} (h : Blk W B cs t) (i : Nat) : W.frozen? ⟨B, i, none⟩ = false := by simp [World.frozen?, show W.heap[B]? = _ from h]
theorem Blk.setAt {W : World} {B : Nat} {cs : Array Value} {t : TypeId} (i : Nat) (u : Value) (h : Blk W B cs t) : Blk (W.setCell ⟨B, i, none⟩ u) B (cs.setIfInBounds i u) t := by
  obtain ⟨hlt, hk⟩ := Array.getElem?_eq_some_iff.1 h
  show (W.heap.modify B _)[B]? = _
  rw [Array.getElem?_eq_getElem (by rw [Array.size_modify]; exact hlt), Array.getElem_modify_self, hk]
  rfl
theorem Blk.otherAt {W : World} {B B' : Nat} {cs : Array Value} {t : TypeId} (h : Blk W B cs t) (hne : B ≠ B') (i : Nat) (u : Value) : Blk (W.setCell ⟨B', i, none⟩ u) B cs t :=
  (Below.heap_setCell W ⟨B', i, none⟩ u B hne).trans h
/-- A row of columns beside a store elsewhere, and beside a row of tables that grows. -/
theorem OwC.off {w : World} {b g : Nat} {v : Value} {l : List C} (h : OwC w b v l) (i : Nat) (u : Value) (hg : g < b) : OwC (w.setCell ⟨g, i, none⟩ u) b v l := by
  refine ⟨h.1, ?_⟩
  rcases h.2 with hn | ⟨k, cap, cur, hv, hbg, hk, rest⟩
  · exact .inl hn
  · exact .inr ⟨k, cap, cur, hv, hbg, (Below.heap_setCell w ⟨g, i, none⟩ u k (by simp; omega)).trans hk, rest⟩
theorem OwC.kept {w w' : World} {row : Option Nat} {b : Nat} {v : Value} {l : List C} (h : OwC w b v l) (hg : w.grownBy w' row) (hr : ∀ g cur fz, row = some g → w.heap[g]? ≠ some (.cells cur 30 fz)) : OwC w' b v l := by
  refine ⟨h.1, ?_⟩
  rcases h.2 with hn | ⟨k, cap, cur, hv, hbg, hk, rest⟩
  · exact .inl hn
  · exact .inr ⟨k, cap, cur, hv, hbg, (hg.block k (Array.getElem?_eq_some_iff.1 hk).1 (fun e => hr k cur _ e.symm hk)).trans hk, rest⟩
theorem OwT.type {w : World} {b : Nat} {v : Value} {l : List TV} (h : OwT w b v l) : ∀ g cur fz, v.ownBlock = some g → w.heap[g]? ≠ some (.cells cur 30 fz) := by
  intro g cur fz hv he
  rcases h.2 with ⟨hn, _⟩ | ⟨k, cap, cur', hv', _, hk, _⟩
  · rw [hn] at hv; cases hv
  · rw [hv'] at hv
    obtain rfl : k = g := Option.some.inj hv
    rw [hk] at he
    have := Option.some.inj he
    injection this with _ e _
    exact absurd e (by decide)
/-- Tables whose columns are rows that calls have made. -/
def FitO (W : World) (b : Nat) (xs : List TV) : Prop := ∀ x ∈ xs, OwC W b (.slice x.ao x.t.cs.length x.cap) x.t.cs ∧ ∀ c ∈ x.t.cs, c.d.ok
theorem OwC.at3 {W : World} {b : Nat} {x : TV} (h : OwC W b (.slice x.ao x.t.cs.length x.cap) x.t.cs) (ho : ∀ c ∈ x.t.cs, c.d.ok) : At3 W x.t x.ao x.cap := by
  obtain ⟨ao, cap, e, hc, hs⟩ := h.sl
  injection e with e1 _ e3
  rw [e1, e3]
  exact ⟨hs, hc, ho⟩
theorem FitO.fit {W : World} {b : Nat} {xs : List TV} (h : FitO W b xs) : Fit W xs := fun x hx => OwC.at3 (h x hx).1 (h x hx).2
theorem FitO.keep {W W' : World} {b : Nat} {xs : List TV} (h : FitO W b xs) (hb : Below W.heap.size W W') : FitO W' b xs := fun x hx => ⟨(h x hx).1.keep hb, (h x hx).2⟩
theorem FitO.base {W : World} {b b' : Nat} {xs : List TV} (h : FitO W b xs) (hb : b' ≤ b) : FitO W b' xs := fun x hx => ⟨(h x hx).1.base hb, (h x hx).2⟩
theorem FitO.kept {W W' : World} {b : Nat} {xs : List TV} {row : Option Nat} (h : FitO W b xs) (hg : W.grownBy W' row) (hr : ∀ g cur fz, row = some g → W.heap[g]? ≠ some (.cells cur 30 fz)) : FitO W' b xs := fun x hx => ⟨(h x hx).1.kept hg hr, (h x hx).2⟩
theorem FitO.nil (W : World) (b : Nat) : FitO W b [] := fun x hx => by simp at hx
theorem FitO.one {W : World} {b : Nat} {x : TV} (h : OwC W b (.slice x.ao x.t.cs.length x.cap) x.t.cs) (ho : ∀ c ∈ x.t.cs, c.d.ok) : FitO W b [x] := fun y hy => by
  obtain rfl := List.mem_singleton.1 hy
  exact ⟨h, ho⟩
theorem FitO.append {W : World} {b : Nat} {xs ys : List TV} (h : FitO W b xs) (hs : FitO W b ys) : FitO W b (xs ++ ys) := fun y hy => by
  rcases List.mem_append.1 hy with hy | hy
  · exact h y hy
  · exact hs y hy
set_option linter.unusedSimpArgs false in
theorem add_two (a : Addr) (i r : Nat) : a.add (i + r) = (a.add i).add r := by
  unfold Addr.add
  by_cases h1 : i = 0 <;> by_cases h2 : r = 0 <;> simp [h1, h2, Nat.add_assoc]
/-- The cells of a slice of columns, one behind the other. -/
theorem SlC.cell {W : World} {a : Addr} {cs : List C} (h : SlC W (some a) cs) (j : Nat) (u : Value) (hj : (ccs cs)[j]? = some u) : W.cell? (a.add j) = some u := by
  have hl : j < cs.length * 7 := by
    have := (List.getElem?_eq_some_iff.1 hj).1
    rwa [ccs_len] at this
  obtain ⟨i, r, rfl, hr⟩ : ∃ i r, j = i * 7 + r ∧ r < 7 := ⟨j / 7, j % 7, by omega, by omega⟩
  have hi : i < cs.length := by omega
  obtain ⟨a', ha, h0, h1, h2, h3, h4, h5, h6⟩ := h i cs[i] (List.getElem?_eq_getElem hi)
  obtain rfl := Option.some.inj ha
  rw [ccs_at cs i cs[i] r (List.getElem?_eq_getElem hi) hr] at hj
  have e : a.add (i * 7 + r) = (a.add (i * 7)).add r := add_two a (i * 7) r
  rw [e]
  have c : r = 0 ∨ r = 1 ∨ r = 2 ∨ r = 3 ∨ r = 4 ∨ r = 5 ∨ r = 6 := by omega
  rcases c with rfl | rfl | rfl | rfl | rfl | rfl | rfl
  · simp [C.cells] at hj; subst hj; exact h0
  · simp [C.cells] at hj; subst hj; exact h1
  · simp [C.cells] at hj; subst hj; exact h2
  · simp [C.cells] at hj; subst hj; exact h3
  · simp [C.cells] at hj; subst hj; exact h4
  · simp [C.cells] at hj; subst hj; exact h5
  · simp [C.cells] at hj; subst hj; exact h6
theorem ccs_one (cs : List C) : ∀ u ∈ ccs cs, u.oneCell' = true := by
  intro u hu
  induction cs with
  | nil => simp [ccs] at hu
  | cons c cs ih =>
    rw [ccs, List.mem_append] at hu
    rcases hu with hu | hu
    · simp [C.cells] at hu; rcases hu with rfl | rfl | rfl | rfl | rfl | rfl | rfl <;> rfl
    · exact ih hu

section
variable {ops : Array Oper} {rest : List Oper} {o : Oper} {a : Act} {Q : Exit → Act → World → Prop}
/-- A table more. -/
theorem appT (hgd : o.guard = none) (s x : Operand) (ho : o.op = .call { callee := .builtin .append, args := #[s, x], argTypes := #[54, 54] })
    (base : Nat) (v : Value) (l : List TV) (b : TV) (w0 : World) (hs : a.eval s = v) (hown : OwT w0 base v l)
    (G : Nat) (hG : w0.heap.size = G) (hx : a.eval x = .slice (some ⟨G, 0, none⟩) 1 1) (hlen : l.length ≤ 1000000000) (hb : base ≤ w0.heap.size)
    (h : ∀ v' w', OwT w' base v' (l ++ [b]) → w0.grownBy w' v.ownBlock → (v'.ownBlock = v.ownBlock ∨ ∃ k, v'.ownBlock = some k ∧ w0.heap.size ≤ k) → Below base w0 w' → wpList Tryz.prog ops Q rest (a.put o.dst v') w') : wpList Tryz.prog ops Q (o :: rest) a (w0.alloc (.cells #[.string ⟨b.t.name.toArray⟩, .int .i64 b.t.keys, .slice b.ao b.t.cs.length b.cap] 24)) := by
  subst hG
  obtain ⟨i0, hi, hz0, hz1, hz2⟩ := info_parts Tryz.infoT
  refine wpList_append_own_at _ hgd s x 54 ho base 24 i0 _ 3 48 Tryz.underlying54 hi hz0 hz1 hz2 rfl (by decide) v _ _ hs (World.ownsRow.alloc hown _) ⟨w0.heap.size, 0, none⟩ 1 1 b.cells hx rfl ?_ ?_ (by unfold maxLen; omega) (by omega) (by simp; omega) ?_
  · intro j u hj
    match j, hj with
    | 0, hj => simp [TV.cells] at hj; subst hj; simp [Addr.add]
    | 1, hj => simp [TV.cells] at hj; subst hj; simp [Addr.add]
    | 2, hj => simp [TV.cells] at hj; subst hj; simp [Addr.add]
    | (j + 3), hj => simp [TV.cells] at hj
  · intro u hu; simp [TV.cells] at hu; rcases hu with rfl | rfl | rfl <;> rfl
  · intro v' w' hown' hgrow _ hbk
    have hg0 : w0.grownBy w' v.ownBlock := by
      refine ⟨hgrow.os, hgrow.tape, hgrow.output, Nat.le_trans (by simp) hgrow.size, fun k hk hne => ?_⟩
      rw [hgrow.block k (by simp; omega) hne, Below.heap_alloc _ _ _ hk]
    refine h v' w' ?_ hg0 ?_ (((Below.refl base w0).alloc hb _).grown hgrow (by simp; omega) (fun k hk => (World.ownsRow.lt hown k hk).1))
    · unfold OwT
      rw [List.length_append, tcs_append]
      have : tcs [b] = b.cells := by simp [tcs]
      rw [this]; exact hown'
    · rcases hbk with e | e
      · exact .inl e
      · exact .inr ⟨_, e, by simp⟩
/-- So many tables made. -/
theorem makeV (w : World) (hgd : o.guard = none) (l c : Operand) (ho : o.op = Op.makeSlice 54 l c) (kl kc : IntKind) (L C : Int) (n : Nat) (hl : a.eval l = .int kl L) (hc : a.eval c = .int kc C) (hL : L = (n : Int)) (hC : C = (n : Int)) (hn : n ≤ 1000)
    (h : ∀ g w', w.heap.size = g → OwT w' w.heap.size (.slice (some ⟨g, 0, none⟩) n n) (List.replicate n TV0) → Below w.heap.size w w' → wpList Tryz.prog ops Q rest (a.put o.dst (.slice (some ⟨g, 0, none⟩) n n)) w') : wpList Tryz.prog ops Q (o :: rest) a w := by
  obtain ⟨i0, hi, hz0, hz1, hz2⟩ := info_parts Tryz.infoT
  refine wpList_make_full w hgd l c 54 ho w.heap.size 24 i0 _ 3 Tryz.underlying54 hi hz0 hz1 kl kc L C n hl hc hL hC (by rw [hz2]; omega) (by unfold maxLen; omega) (Nat.le_refl _) ?_
  intro w' hown hgr
  refine h _ w' rfl ?_ ((Below.refl _ w).grown hgr (Nat.le_refl _) (fun k hk => by cases hk))
  unfold OwT
  rw [List.length_replicate, ← tcs_made]
  exact hown
end

end Go.Proofs.YtdonmbmahcjfbaaGreatDoor

namespace Go.Proofs.YtdonmbmahcjfbaaGreatDoor
open Go.RowKit

/-! ### Find -/
theorem mf (fn : Fn) (first cap : Array Value) (w : World) : (Instr.makeFunc fn first cap).run Tryz.prog w = .ok (.func fn first cap) w := rfl
set_option maxHeartbeats 1000000 in
theorem findc_is (nm s : Nm.S) (ks : Int) (ao : Option Addr) (n cap : Nat) (g : Nat) (w : World) (B : Bool) (hB : (nm == s) = B) (hc : w.cell? ⟨g, 0, none⟩ = some (.string ⟨s.toArray⟩)) :
    Calls Tryz.prog 44 #[.agg #[.string ⟨nm.toArray⟩, .int .i64 ks, .slice ao n cap], .pointer (some ⟨g, 0, none⟩)] w fun e w' => e = .returned (.bool B) ∧ Below w.heap.size w w' := by
  have hc' := keep0 hc (below1 w (.cells #[.string ⟨nm.toArray⟩, .int .i64 ks, .slice ao n cap] 24))
  clear hc
  go_enter Tryz.func44, Tryz.ntmps44
  go_wp2
  go_ret
  exact ⟨rfl, below1 _ _⟩

set_option maxHeartbeats 2000000 in
theorem indexT_is (xs : List TV) (s : Nm.S) (g : Nat) (ao : Option Addr) (cap : Nat) (w : World) (h : SlV w ao xs) (hl : xs.length ≤ 1000) (hc : w.cell? ⟨g, 0, none⟩ = some (.string ⟨s.toArray⟩)) :
    Calls Tryz.prog 43 #[.slice ao xs.length cap, .func (.func 44) #[] #[.pointer (some ⟨g, 0, none⟩)]] w fun e w' => e = .returned (.int .i64 (Nm.fi (nms (tvs xs)) s)) ∧ Below w.heap.size w w' := by
  have H := Lib.hid (And.intro h (And.intro hl hc))
  clear h hl hc
  go_enter Tryz.func43, Tryz.ntmps43
  go_wp2
  go_loopw [8] (fun i wr => ∃ j : Nat, i = .int .i64 j ∧ j ≤ xs.length ∧ Below w.heap.size w wr ∧ s ∉ (nms (tvs xs)).take j) (fun i _ => xs.length - (intOf i).toNat)
  case atStart => exact ⟨0, rfl, Nat.zero_le _, Below.refl _ _, by simp⟩
  case round =>
    obtain ⟨j, rfl, hj, hb, hn⟩ := hrel
    have J := Lib.hid (And.intro hb hn)
    clear hb hn
    by_cases hlt : j < xs.length
    · obtain ⟨a, rfl, h0, h1, h2⟩ := H.out.1.below J.out.1 j xs[j] (List.getElem?_eq_getElem hlt)
      have hw : wrap64 ((j : Int) + 1) = (j : Int) + 1 := by have := H.out.2.1; exact wrap_in _ (by omega) (by omega)
      have hln := nms_len xs
      have hat := nms_at hlt
      by_cases he : xs[j].t.name = s
      · have X := Lib.hid (Nm.fi_at (nms (tvs xs)) s j (by omega) (hat.trans he) J.out.2)
        have E := Lib.hid (leq_t he)
        clear he hln hat
        go_wp2_with fail
        refine (findc_is xs[j].t.name s xs[j].t.keys _ _ _ g _ true E.out (keep0 H.out.2.2 J.out.1)).mono ?_
        rintro e w1 ⟨rfl, hb⟩
        have K := Lib.hid (step0 J.out.1 hb)
        clear hb
        go_wp2
        go_ret
        exact ⟨ret_int X.out.symm, K.out⟩
      · have X := Lib.hid (Nm.take_none (l := nms (tvs xs)) (s := s) (by omega) J.out.2 (by rw [hat]; exact he))
        have E := Lib.hid (leq_f he)
        clear he hln hat
        go_wp2_with fail
        refine (findc_is xs[j].t.name s xs[j].t.keys _ _ _ g _ false E.out (keep0 H.out.2.2 J.out.1)).mono ?_
        rintro e w1 ⟨rfl, hb⟩
        have K := Lib.hid (step0 J.out.1 hb)
        clear hb
        go_wp2
        go_roundw
        case rel => exact ⟨j + 1, by go_num, hlt, K.out, X.out⟩
        case measure => rw [hw]; simp [intOf]; omega
    · obtain rfl : j = xs.length := by omega
      have X := Lib.hid (Nm.fi_none (nms (tvs xs)) s (by have := J.out.2; rwa [← nms_len xs, List.take_length] at this))
      go_wp2
      go_ret
      exact ⟨ret_int X.out.symm, J.out.1⟩

set_option maxHeartbeats 1000000 in
theorem cfind_is (xs : List TV) (s : Nm.S) (ao : Option Addr) (cap : Nat) (w : World) (F : Int) (h : SlV w ao xs) (hl : xs.length ≤ 1000) (hF : Nm.fi (nms (tvs xs)) s = F) :
    Calls Tryz.prog 19 #[.slice ao xs.length cap, .string ⟨s.toArray⟩] w fun e w' => e = .returned (.int .i64 F) ∧ Below w.heap.size w w' := by
  subst hF
  have H := Lib.hid (And.intro h hl)
  have hmf := @mf
  clear h hl
  go_enter Tryz.func19, Tryz.ntmps19
  go_wp2_with fail
  refine (indexT_is xs s w.heap.size ao cap _ (H.out.1.below (below1 _ _)) H.out.2 (by simp)).mono ?_
  rintro e w1 ⟨rfl, hb⟩
  have K := Lib.hid (step1 (Below.refl _ w) hb)
  clear hb
  go_wp2
  go_ret
  exact ⟨rfl, K.out⟩

/-! ### CheckAll -/
theorem riseAt {l : List T} {j : Nat} (hj : j + 1 < l.length) (h : rises (nms l) = true) : l[j].name < l[j + 1].name := by
  have := (rises_iff (nms l)).1 h j (by simpa [nms] using hj)
  simpa [nms] using this
theorem rise_none {l : List T} {j : Nat} (hj : j + 1 < l.length) (h : ¬ l[j].name < l[j + 1].name) : rises (nms l) = false := by
  cases e : rises (nms l) with
  | false => rfl
  | true => exact absurd (riseAt hj e) h
theorem cka_long {l : List T} (h : 16 < l.length) : cka l = 2 := by unfold cka; rw [if_pos h]
theorem cka_tab {l : List T} (h : ¬ 16 < l.length) (h1 : tcl l ≠ 0) : cka l = tcl l := by unfold cka; rw [if_neg h, if_pos h1]
theorem cka_rise {l : List T} (h : ¬ 16 < l.length) (h1 : ∀ t ∈ l, t.ck = 0) (h2 : rises (nms l) = false) : cka l = 12 := by unfold cka; rw [if_neg h, if_neg (by simp [tcl_of h1]), if_neg (by simp [h2])]
theorem cka_fine {l : List T} (h : ¬ 16 < l.length) (h1 : ∀ t ∈ l, t.ck = 0) (h2 : rises (nms l) = true) : cka l = 0 := cka_of (by omega) h1 h2
theorem rises_all {l : List T} (h : ∀ (i : Nat) (h : i + 1 < l.length), l[i].name < l[i + 1].name) : rises (nms l) = true := by
  rw [rises_iff]
  intro i hi
  have := h i (by simpa [nms] using hi)
  simpa [nms] using this

set_option maxHeartbeats 4000000 in
theorem checkAll_is (xs : List TV) (ao : Option Addr) (cap : Nat) (w : World) (hg : Env w) (h : SlV w ao xs) (hf : Fit w xs) (hl : xs.length ≤ 1000) (E : Int) (hE : cka (tvs xs) = E) :
    Calls Tryz.prog 38 #[.slice ao xs.length cap] w fun e w' => e = .returned (.int .i64 E) ∧ Below w.heap.size w w' := by
  subst hE
  have H := Lib.hid (And.intro h (And.intro hf (And.intro hl hg)))
  clear h hf hl hg
  by_cases h16 : 16 < xs.length
  · have X := Lib.hid (cka_long (l := tvs xs) (by rw [tvs_len]; exact h16))
    have d1 : decide ((16 : Int) < (xs.length : Int)) = true := by rw [decide_eq_true_iff]; omega
    clear h16
    go_enter Tryz.func38, Tryz.ntmps38
    go_wp2
    go_ret
    exact ⟨ret_int X.out.symm, Below.refl _ _⟩
  · have d1 : decide ((16 : Int) < (xs.length : Int)) = false := by rw [decide_eq_false_iff_not]; omega
    have H16 := Lib.hid h16
    clear h16
    go_enter Tryz.func38, Tryz.ntmps38
    go_wp2
    go_loopw [12] (fun i wr => ∃ j : Nat, i = .int .i64 j ∧ j ≤ xs.length ∧ Below w.heap.size w wr ∧ ∀ t ∈ (tvs xs).take j, t.ck = 0) (fun i _ => xs.length - (intOf i).toNat)
    case atStart => exact ⟨0, rfl, Nat.zero_le _, Below.refl _ _, by simp⟩
    case round =>
      obtain ⟨j, rfl, hj, hb, hn⟩ := hrel
      have J := Lib.hid (And.intro hb hn)
      clear hb hn
      by_cases hlt : j < xs.length
      · obtain ⟨a, rfl, h0, h1, h2⟩ := H.out.1.below J.out.1 j xs[j] (List.getElem?_eq_getElem hlt)
        have hw : wrap64 ((j : Int) + 1) = (j : Int) + 1 := by have := H.out.2.2.1; exact wrap_in _ (by omega) (by omega)
        have hat := Lib.hid (H.out.2.1.below J.out.1 xs[j] (List.getElem_mem hlt))
        by_cases hc : xs[j].t.ck = 0
        · have HC := Lib.hid hc
          clear hc
          go_wp2_with fail
          refine (check_t xs[j].t xs[j].ao xs[j].cap 0 _ (H.out.2.2.2.keep (J.out.1.alloc J.out.1.size _)) (hat.out.keep (below1 _ _)) HC.out).mono ?_
          rintro e w1 ⟨rfl, hb⟩
          have K := Lib.hid (step1 J.out.1 hb)
          clear hb
          go_wp2
          go_roundw
          case rel => exact ⟨j + 1, by go_num, hlt, K.out, ttake_all (l := tvs xs) (by rw [tvs_len]; exact hlt) J.out.2 (by rw [tvs_at hlt]; exact HC.out)⟩
          case measure => rw [hw]; simp [intOf]; omega
        · obtain ⟨E, hE⟩ : ∃ E, xs[j].t.ck = E := ⟨_, rfl⟩
          have e0 := bne_t (show ¬ E = 0 by omega)
          have HC := Lib.hid (And.intro hE hc)
          clear hc hE
          go_wp2_with fail
          refine (check_t xs[j].t xs[j].ao xs[j].cap E _ (H.out.2.2.2.keep (J.out.1.alloc J.out.1.size _)) (hat.out.keep (below1 _ _)) HC.out.1).mono ?_
          rintro e w1 ⟨rfl, hb⟩
          have K := Lib.hid (step1 J.out.1 hb)
          clear hb
          go_wp2
          go_ret
          refine ⟨?_, K.out⟩
          have e1 := tcl_stop (tvs xs) j (by rw [tvs_len]; exact hlt) J.out.2 (by rw [tvs_at hlt]; exact HC.out.2)
          rw [tvs_at hlt] at e1
          rw [cka_tab (by rw [tvs_len]; exact H16.out) (by rw [e1]; exact HC.out.2), e1, HC.out.1]
          rfl
      · obtain rfl : j = xs.length := by omega
        have hall := J.out.2
        rw [← tvs_len xs, List.take_length] at hall
        have HA := Lib.hid hall
        clear hall
        go_wp2
        go_loopw [6] (fun i wr => ∃ j : Nat, i = .int .i64 ((j : Int) + 1) ∧ (j = 0 ∨ j + 1 ≤ xs.length) ∧ Below w.heap.size w wr ∧ ∀ (k : Nat) (hk : k + 1 < (tvs xs).length), k + 1 ≤ j → (tvs xs)[k].name < (tvs xs)[k + 1].name) (fun i _ => xs.length + 1 - (intOf i).toNat)
        case atStart => exact ⟨0, rfl, .inl rfl, J.out.1, fun k _ hk => by omega⟩
        case round =>
          obtain ⟨j, rfl, hj, hb, hn⟩ := hrel
          have J2 := Lib.hid (And.intro hb hn)
          clear hb hn
          by_cases hlt : j + 1 < xs.length
          · obtain ⟨a, rfl, h0, h1, h2⟩ := H.out.1.below J2.out.1 j xs[j] (List.getElem?_eq_getElem (by omega))
            obtain ⟨a', ha', h3, h4, h5⟩ := H.out.1.below J2.out.1 (j + 1) xs[j + 1] (List.getElem?_eq_getElem hlt)
            obtain rfl := Option.some.inj ha'
            have hw : wrap64 ((j : Int) + 1 + 1) = (j : Int) + 1 + 1 := by have := H.out.2.2.1; exact wrap_in _ (by omega) (by omega)
            have hw0 : IntKind.i64.wrap (j : Int) = (j : Int) := by have := H.out.2.2.1; rw [IntKind.wrap_i64]; omega
            have i0 : (0 : Int) ≤ (j : Int) := by omega
            have i1 : (j : Int) < (xs.length : Int) := by omega
            have i2 : (0 : Int) ≤ (j : Int) + 1 := by omega
            have i3 : (j : Int) + 1 < (xs.length : Int) := by omega
            have i4 : ((j : Int) + 1).toNat = j + 1 := by omega
            by_cases hr : xs[j].t.name < xs[j + 1].t.name
            · have lt1 : Op.bytesLess xs[j].t.name xs[j + 1].t.name = true := by rw [Vl.less_eq]; simp [hr]
              have R := Lib.hid hr
              clear hr
              go_wp2
              go_quiet (fail)
              go_wp2
              go_roundw
              case rel =>
                refine ⟨j + 1, by go_num, .inr hlt, below_drewN _ J2.out.1, fun k hk hle => ?_⟩
                by_cases e : k + 1 ≤ j
                · exact J2.out.2 k hk e
                · obtain rfl : k = j := by omega
                  rw [tvs_at (by omega), tvs_at (by omega)]; exact R.out
              case measure => rw [hw]; simp [intOf]; omega
            · have lt1 : Op.bytesLess xs[j].t.name xs[j + 1].t.name = false := by rw [Vl.less_eq]; simpa using hr
              have R := Lib.hid hr
              clear hr
              go_wp2
              go_quiet (fail)
              go_wp2
              go_ret
              refine ⟨?_, below_drewN _ J2.out.1⟩
              rw [cka_rise (by rw [tvs_len]; exact H16.out) HA.out (rise_none (j := j) (by rw [tvs_len]; exact hlt) (by rw [tvs_at (by omega), tvs_at (by omega)]; exact R.out))]
              rfl
          · have X := Lib.hid (cka_fine (l := tvs xs) (by rw [tvs_len]; exact H16.out) HA.out (rises_all fun i hi => J2.out.2 i hi (by rw [tvs_len] at hi; omega)))
            go_wp2
            go_ret
            exact ⟨ret_int X.out.symm, J2.out.1⟩

end Go.Proofs.YtdonmbmahcjfbaaGreatDoor

namespace Go.Proofs.YtdonmbmahcjfbaaGreatDoor
open Go.RowKit

theorem SlC.none {W : World} {cs : List C} (h : SlC W none cs) : cs = [] := by
  cases cs with
  | nil => rfl
  | cons c cs =>
    obtain ⟨a, ha, _⟩ := h 0 c rfl
    cases ha

set_option maxHeartbeats 2000000 in
theorem clone_is (cs : List C) (ao : Option Addr) (cap : Nat) (w : World) (h : SlC w ao cs) (hl : cs.length ≤ 1000) :
    Calls Tryz.prog 196 #[.slice ao cs.length cap] w fun e w' => ∃ v, e = .returned v ∧ OwC w' w.heap.size v cs ∧ Below w.heap.size w w' := by
  have q : ∀ (w : World) (a : Option Addr) (n c n' c' : Nat), (binOp .eql 22 (.slice a n c) (.slice none n' c')).run Tryz.prog w = .ok (.bool a.isNone) w := fun w a n c n' c' => Lib.run_eql_slice_nil w _ _ a n c n' c' Tryz.underlying22
  cases ao with
  | none =>
    obtain rfl := h.none
    clear h hl
    go_enter Tryz.func196, Tryz.ntmps196
    go_wp2
    go_ret
    exact ⟨_, rfl, owc_nil _ _, Below.refl _ _⟩
  | some a =>
    obtain ⟨i0, hi, hz0, hz1, hz2⟩ := info_parts Tryz.infoC
    have H := Lib.hid (And.intro h hl)
    clear h hl
    go_enter Tryz.func196, Tryz.ntmps196
    go_wp2_with (at_builtin; refine wpList_append_own _ rfl _ _ 22 rfl w.heap.size 30 i0 _ 7 72 Tryz.underlying22 hi hz0 hz1 hz2 rfl (by decide) _ _ _ rfl (World.ownsRow_made w #[] 0 (Nat.le_refl _) (Nat.zero_le _) (by simp)) a cs.length cap (ccs cs) rfl ?qc1 ?qc2 ?qc3 ?qc4 ?qc5 ?qc6 ?_)
    case qc1 => exact ccs_len cs
    case qc2 =>
      intro j u hj
      exact keep0 (H.out.1.cell j u hj) (below1 _ _)
    case qc3 => exact ccs_one cs
    case qc4 => have := H.out.2; unfold maxLen; omega
    case qc5 => have := H.out.2; omega
    case qc6 => simp
    intro v' w' hown hgrow _
    have K := Lib.hid (show OwC w' w.heap.size v' cs from hown)
    have B := Lib.hid (((Below.refl _ w).alloc (Nat.le_refl _) _).grown hgrow (by simp) (fun k hk => by simp [Value.ownBlock] at hk; omega))
    clear hown hgrow
    go_wp2
    go_ret
    exact ⟨_, rfl, K.out, B.out⟩

set_option maxHeartbeats 2000000 in
theorem copied_is (nm : Nm.S) (ks : Int) (cs : List C) (ao : Option Addr) (cap : Nat) (w : World) (h : SlC w ao cs) (hl : cs.length ≤ 1000) :
    Calls Tryz.prog 195 #[.agg #[.string ⟨nm.toArray⟩, .int .i64 ks, .slice ao cs.length cap]] w fun e w' => ∃ vo vc, e = .returned (.agg #[.string ⟨nm.toArray⟩, .int .i64 ks, .slice vo cs.length vc]) ∧ OwC w' (w.heap.size + 2) (.slice vo cs.length vc) cs ∧ Below w.heap.size w w' := by
  have H := Lib.hid (And.intro h hl)
  clear h hl
  go_enter Tryz.func195, Tryz.ntmps195
  go_wp2_with fail
  refine (clone_is cs ao cap _ (H.out.1.below (below2s _ _ _)) H.out.2).mono ?_
  rintro e w3 ⟨v, rfl, hO, hb⟩
  obtain ⟨vo, vc, rfl, _, _⟩ := hO.sl
  have hO' : OwC w3 (w.heap.size + 2) (.slice vo cs.length vc) cs := by simpa using hO
  have q0 := ((Blk.new w _ _).alloc _).below hb
  have q1 := (Blk.new (w.alloc _) _ _).below hb
  have hsz : (w.alloc (.cells #[.string ⟨nm.toArray⟩, .int .i64 ks, .slice ao cs.length cap] 24)).heap.size = w.heap.size + 1 := by simp
  rw [hsz] at q1
  have qB := step0 (below2s w _ _) hb
  have c2 := q0.cell 2
  have f2 := q0.frozen 2
  have p0 := q0.setAt 2 (.slice vo cs.length vc)
  have p1 := q1.otherAt (show w.heap.size + 1 ≠ w.heap.size by omega) 2 (.slice vo cs.length vc)
  have pB := qB.setCell (p := ⟨w.heap.size, 2, none⟩) (Nat.le_refl _) (.slice vo cs.length vc)
  have pO := hO'.off 2 (.slice vo cs.length vc) (show w.heap.size < w.heap.size + 2 by omega)
  obtain ⟨W2, hW2⟩ : ∃ W2, w3.setCell ⟨w.heap.size, 2, none⟩ (.slice vo cs.length vc) = W2 := ⟨_, rfl⟩
  rw [hW2] at p0 p1 pB pO
  have d0 := p0.cell 0
  have d1 := p0.cell 1
  have d2 := p0.cell 2
  have g0 := p1.cell 0
  have g1 := p1.cell 1
  have g2 := p1.cell 2
  have h0 := p1.frozen 0
  have h1 := p1.frozen 1
  have h2 := p1.frozen 2
  simp at c2 d0 d1 d2 g0 g1 g2
  have PB := Lib.hid (And.intro pB pO)
  clear hb q0 q1 qB p0 p1 pB pO hO hO' hsz
  go_wp2
  refine bodyPost_ret (v := .agg #[.string ⟨nm.toArray⟩, .int .i64 ks, .slice vo cs.length vc]) ?_ rfl ⟨vo, vc, rfl, (((PB.out.2.off 0 _ (by omega)).off 1 _ (by omega)).off 2 _ (by omega)), set3 PB.out.1 (by omega)⟩
  simp [results, Tryz.results195, go_sem, g0, g1, g2]

set_option maxHeartbeats 1000000 in
theorem behind_is (nm : Nm.S) (K : Nat) (cs : List C) (s : Nm.S) (ao : Option Addr) (cap : Nat) (w : World) (h : SlC w ao cs) (hl : cs.length ≤ 1000) (F : Int) (hF : (if Nm.fi (cs.map C.name) s < (K : Int) then -1 else Nm.fi (cs.map C.name) s) = F) :
    Calls Tryz.prog 201 #[.agg #[.string ⟨nm.toArray⟩, .int .i64 (K : Int), .slice ao cs.length cap], .string ⟨s.toArray⟩] w fun e w' => e = .returned (.int .i64 F) ∧ Below w.heap.size w w' := by
  obtain ⟨X, hX⟩ : ∃ X, Nm.fi (cs.map C.name) s = X := ⟨_, rfl⟩
  rw [hX] at hF
  have H := Lib.hid (And.intro h (And.intro hl hX))
  clear h hl hX
  by_cases hk : X < (K : Int)
  · rw [if_pos hk] at hF
    subst hF
    have d1 : decide (X < (K : Int)) = true := by rw [decide_eq_true_iff]; exact hk
    clear hk
    go_enter Tryz.func201, Tryz.ntmps201
    go_wp2_with fail
    refine (find_t nm (K : Int) cs s ao cap _ (H.out.1.below (below1 _ _)) H.out.2.1 X H.out.2.2).mono ?_
    rintro e w1 ⟨rfl, hb⟩
    obtain ⟨t0, t1, t2⟩ := ((Blk.new w #[.string ⟨nm.toArray⟩, .int .i64 (K : Int), .slice ao cs.length cap] 24).below hb).t3
    have B := Lib.hid (step1 (Below.refl _ w) hb)
    clear hb
    go_wp2
    go_ret
    exact ⟨rfl, B.out⟩
  · rw [if_neg hk] at hF
    subst hF
    have d1 : decide (X < (K : Int)) = false := by rw [decide_eq_false_iff_not]; exact hk
    clear hk
    go_enter Tryz.func201, Tryz.ntmps201
    go_wp2_with fail
    refine (find_t nm (K : Int) cs s ao cap _ (H.out.1.below (below1 _ _)) H.out.2.1 X H.out.2.2).mono ?_
    rintro e w1 ⟨rfl, hb⟩
    obtain ⟨t0, t1, t2⟩ := ((Blk.new w #[.string ⟨nm.toArray⟩, .int .i64 (K : Int), .slice ao cs.length cap] 24).below hb).t3
    have B := Lib.hid (step1 (Below.refl _ w) hb)
    clear hb
    go_wp2
    go_ret
    exact ⟨rfl, B.out⟩

/-! ### without -/
def lftv (xs : List TV) (g : List Nm.S) : List TV := xs.filter (fun x => decide (x.t.name ∉ g))
theorem lftv_tvs (xs : List TV) (g : List Nm.S) : tvs (lftv xs g) = lft (tvs xs) g := by
  unfold tvs lftv lft
  rw [List.filter_map]
  rfl
theorem lftv_in {xs : List TV} {g : List Nm.S} {j : Nat} (hj : j < xs.length) (h : xs[j].t.name ∈ g) : lftv (xs.take (j + 1)) g = lftv (xs.take j) g := by
  unfold lftv; rw [List.take_succ_eq_append_getElem hj, List.filter_append]; simp [h]
theorem lftv_out {xs : List TV} {g : List Nm.S} {j : Nat} (hj : j < xs.length) (h : xs[j].t.name ∉ g) : lftv (xs.take (j + 1)) g = lftv (xs.take j) g ++ [xs[j]] := by
  unfold lftv; rw [List.take_succ_eq_append_getElem hj, List.filter_append]; simp [h]
theorem lftv_len (xs : List TV) (g : List Nm.S) (j : Nat) : (lftv (xs.take j) g).length ≤ j := by
  unfold lftv
  exact Nat.le_trans (List.length_filter_le _ _) (by simp; omega)

set_option maxHeartbeats 2000000 in
theorem cwithout_is (xs : List TV) (g : List Nm.S) (n k : Nat) (ao bo : Option Addr) (cap cb : Nat) (w : World) (hn : xs.length = n) (hk : g.length = k) (h : SlV w ao xs) (hg : SlS w bo g) (hl : xs.length ≤ 1000) (hgl : g.length ≤ 1000) :
    Calls Tryz.prog 42 #[.slice ao n cap, .slice bo k cb] w fun e w' => ∃ v, e = .returned v ∧ OwT w' w.heap.size v (lftv xs g) ∧ Below w.heap.size w w' := by
  subst hn hk
  have H := Lib.hid (And.intro h (And.intro hg (And.intro hl hgl)))
  clear h hg hl hgl
  go_enter Tryz.func42, Tryz.ntmps42
  go_wp2
  go_loopw [5, 10] (fun q i wr => ∃ j : Nat, i = .int .i64 j ∧ j ≤ xs.length ∧ Below w.heap.size w wr ∧ OwT wr w.heap.size q (lftv (xs.take j) g)) (fun _ i _ => xs.length - (intOf i).toNat)
  case atStart => exact ⟨0, rfl, Nat.zero_le _, Below.refl _ _, owt_nil _ _⟩
  case round =>
    obtain ⟨j, rfl, hj, hb, hO⟩ := hrel
    have J := Lib.hid (And.intro hb hO)
    clear hb hO
    by_cases hlt : j < xs.length
    · obtain ⟨a, rfl, h0, h1, h2⟩ := H.out.1.below J.out.1 j xs[j] (List.getElem?_eq_getElem hlt)
      have hw : wrap64 ((j : Int) + 1) = (j : Int) + 1 := by have := H.out.2.2.1; exact wrap_in _ (by omega) (by omega)
      obtain ⟨F, hF⟩ : ∃ F, Nm.fi g xs[j].t.name = F := ⟨_, rfl⟩
      by_cases hin : xs[j].t.name ∈ g
      · have d1 : decide (F < 0) = false := by rw [decide_eq_false_iff_not, ← hF, Nm.fi_lo]; simpa using hin
        have X := Lib.hid (And.intro hF (lftv_in hlt hin))
        clear hF hin
        go_wp2_with fail
        refine (find_is g xs[j].t.name _ F bo cb _ rfl (H.out.2.1.below (J.out.1.alloc J.out.1.size _)) (by have := H.out.2.2.2; omega) X.out.1).mono ?_
        rintro e w1 ⟨rfl, rfl⟩
        go_wp2
        go_roundw
        case rel => exact ⟨j + 1, by go_num, hlt, J.out.1.alloc J.out.1.size _, by rw [X.out.2]; exact J.out.2.keep (below1 _ _)⟩
        case measure => rw [hw]; simp [intOf]; omega
      · have d1 : decide (F < 0) = true := by rw [decide_eq_true_iff, ← hF, Nm.fi_lo]; exact hin
        have X := Lib.hid (And.intro hF (lftv_out hlt hin))
        clear hF hin
        go_wp2_with fail
        refine (find_is g xs[j].t.name _ F bo cb _ rfl (H.out.2.1.below (J.out.1.alloc J.out.1.size _)) (by have := H.out.2.2.2; omega) X.out.1).mono ?_
        rintro e w1 ⟨rfl, rfl⟩
        go_wp2_with (at_builtin; refine appT rfl _ _ rfl w.heap.size u5 (lftv (xs.take j) g) xs[j] (wr.alloc _) rfl (J.out.2.keep (below1 _ _)) (wr.heap.size + 1) (by simp) rfl (by have := lftv_len xs g j; have := H.out.2.2.1; omega) (by have := J.out.1.size; simp; omega) ?_; intro v' w2 hown' _ _ hb'; have K := Lib.hid (And.intro hown' ((J.out.1.alloc J.out.1.size _).trans hb')); clear hown' hb'; go_frame)
        go_roundw
        case rel => exact ⟨j + 1, by go_num, hlt, K.out.2, by rw [X.out.2]; exact K.out.1⟩
        case measure => rw [hw]; simp [intOf]; omega
    · obtain rfl : j = xs.length := by omega
      have hO := J.out.2
      rw [List.take_length] at hO
      have ST := Lib.hid hO
      clear hO
      go_wp2
      go_ret
      exact ⟨_, rfl, ST.out, J.out.1⟩

/-! ### ofNames -/
/-- The place of a name's table. -/
def tvat (xs : List TV) (s : Nm.S) : TV := (xs[(nms (tvs xs)).idxOf s]?).getD TV0
theorem tvat_t {xs : List TV} {s : Nm.S} (h : s ∈ nms (tvs xs)) : (tvat xs s).t = tat (tvs xs) s := by
  have h0 := idx_lt h
  have h1 : (nms (tvs xs)).idxOf s < xs.length := by rw [tvs_len] at h0; exact h0
  unfold tvat tat
  rw [List.getElem?_eq_getElem h1, List.getElem?_eq_getElem h0, Option.getD_some, Option.getD_some, tvs_at h1]
theorem tvat_mem {xs : List TV} {s : Nm.S} (h : s ∈ nms (tvs xs)) : tvat xs s ∈ xs := by
  have h0 := idx_lt h
  rw [tvs_len] at h0
  unfold tvat
  rw [List.getElem?_eq_getElem h0, Option.getD_some]
  exact List.getElem_mem _
theorem map_tvat_next {xs : List TV} {g : List Nm.S} {j : Nat} (hj : j < g.length) : (g.take (j + 1)).map (tvat xs) = (g.take j).map (tvat xs) ++ [tvat xs g[j]] := by
  rw [List.take_succ_eq_append_getElem hj, List.map_append]; rfl
theorem lack_stop {l : List T} {g : List Nm.S} {j : Nat} (hj : j < g.length) (h : g[j] ∉ nms l) : lack l g = true := by
  unfold lack
  rw [List.any_eq_true]
  exact ⟨g[j], List.getElem_mem hj, by simpa using h⟩
theorem lack_none {l : List T} {g : List Nm.S} (h : ∀ s ∈ g, s ∈ nms l) : lack l g = false := by
  unfold lack
  rw [List.any_eq_false]
  intro s hs; simpa using h s hs
theorem lack_all {l : List T} {g : List Nm.S} (h : lack l g = false) : ∀ s ∈ g, s ∈ nms l := by
  unfold lack at h
  rw [List.any_eq_false] at h
  intro s hs; simpa using h s hs
theorem stake_all {g : List Nm.S} {j : Nat} (hj : j < g.length) {p : Nm.S → Prop} (h : ∀ c ∈ g.take j, p c) (h1 : p g[j]) : ∀ c ∈ g.take (j + 1), p c := by
  rw [List.take_succ_eq_append_getElem hj]
  intro x hx
  rcases List.mem_append.1 hx with g | g
  · exact h x g
  · obtain rfl := List.mem_singleton.1 g; exact h1

set_option maxHeartbeats 4000000 in
theorem ofNames_is (xs : List TV) (g : List Nm.S) (n k : Nat) (ao bo : Option Addr) (cap cb : Nat) (w : World) (hn : xs.length = n) (hk : g.length = k) (h : SlV w ao xs) (hg : SlS w bo g) (hl : xs.length ≤ 1000) (hgl : g.length ≤ 1000) :
    Calls Tryz.prog 41 #[.slice ao n cap, .slice bo k cb] w fun e w' => ((lack (tvs xs) g = true ∧ e = .returned (.tuple #[.slice none 0 0, .int .i64 9])) ∨ (lack (tvs xs) g = false ∧ ∃ v, e = .returned (.tuple #[v, .int .i64 0]) ∧ OwT w' w.heap.size v (g.map (tvat xs)))) ∧ Below w.heap.size w w' := by
  subst hn hk
  have H := Lib.hid (And.intro h (And.intro hg (And.intro hl hgl)))
  clear h hg hl hgl
  go_enter Tryz.func41, Tryz.ntmps41
  go_wp2_with (refine makeV _ rfl _ _ rfl _ _ _ _ g.length rfl rfl rfl rfl H.out.2.2.2 ?_; intro G w1 hG hO hb; have S := Lib.hid (And.intro hO (And.intro hb hG)); clear hO hb hG; go_frame)
  go_loopw [15] (fun i wr => ∃ j : Nat, i = .int .i64 j ∧ j ≤ g.length ∧ Below w.heap.size w wr ∧ OwT wr w.heap.size (.slice (some ⟨G, 0, none⟩) g.length g.length) ((g.take j).map (tvat xs) ++ List.replicate (g.length - j) TV0) ∧ ∀ s ∈ g.take j, s ∈ nms (tvs xs)) (fun i _ => g.length - (intOf i).toNat)
  case atStart => exact ⟨0, rfl, Nat.zero_le _, S.out.2.1, S.out.1, by simp⟩
  case round =>
    obtain ⟨j, rfl, hj, hb, hO, hall⟩ := hrel
    have J := Lib.hid (And.intro hb (And.intro hO hall))
    clear hb hO hall
    by_cases hlt : j < g.length
    · obtain ⟨a, rfl, h0⟩ := H.out.2.1.below J.out.1 j g[j] (List.getElem?_eq_getElem hlt)
      have hw : wrap64 ((j : Int) + 1) = (j : Int) + 1 := by have := H.out.2.2.2; exact wrap_in _ (by omega) (by omega)
      obtain ⟨F, hF⟩ : ∃ F, Nm.fi (nms (tvs xs)) g[j] = F := ⟨_, rfl⟩
      by_cases hin : g[j] ∈ nms (tvs xs)
      · have h2 := hF
        rw [fi_mem hin] at h2
        have hlt2 := idx_lt hin
        rw [tvs_len] at hlt2
        obtain ⟨I, hI⟩ : ∃ I, (nms (tvs xs)).idxOf g[j] = I := ⟨_, rfl⟩
        rw [hI] at h2 hlt2
        have hx : xs[I] = tvat xs g[j] := by unfold tvat; rw [hI, List.getElem?_eq_getElem hlt2, Option.getD_some]
        have d1 : decide (F < 0) = false := by rw [decide_eq_false_iff_not]; omega
        have hd : ((g.take j).map (tvat xs)).length = j := by simp; omega
        have X := Lib.hid (And.intro hF (And.intro hin (And.intro hx hd)))
        subst h2
        have i0 : (0 : Int) ≤ (I : Int) := by omega
        have i1 : (I : Int) < (xs.length : Int) := by omega
        clear hF hin hI hx hd
        go_wp2_with fail
        refine (cfind_is xs g[j] ao cap _ (I : Int) (H.out.1.below J.out.1) H.out.2.2.1 X.out.1).mono ?_
        rintro e w2 ⟨rfl, hb⟩
        obtain ⟨a', ha', c0, c1, c2⟩ := H.out.1.below (step0 J.out.1 hb) I xs[I] (List.getElem?_eq_getElem hlt2)
        have hO2 := J.out.2.1.keep hb
        have hy : ((g.take j).map (tvat xs) ++ List.replicate (g.length - j) TV0)[j]? = some TV0 := by
          rw [List.getElem?_append_right (by rw [X.out.2.2.2]; exact Nat.le_refl _), List.getElem?_replicate, X.out.2.2.2, if_pos (by omega)]
        obtain ⟨hst, hbg, hgl, hfz⟩ := hO2.store (by simp; omega) j (by simp; omega) xs[I]
        obtain ⟨e0, e1, e2⟩ := hO2.at j TV0 hy
        have f0 := hfz (j * 3)
        have f1 := hfz (j * 3 + 1)
        have f2 := hfz (j * 3 + 2)
        have K := Lib.hid (And.intro hst (And.intro hbg (step0 J.out.1 hb)))
        subst ha'
        clear hb hO2 hy hst hbg hgl hfz
        go_wp2
        go_roundw
        case rel =>
          refine ⟨j + 1, by go_num, hlt, set3 K.out.2.2 K.out.2.1, ?_, stake_all hlt J.out.2.2 X.out.2.1⟩
          have e : ((g.take j).map (tvat xs) ++ List.replicate (g.length - j) TV0).set j xs[I] = (g.take (j + 1)).map (tvat xs) ++ List.replicate (g.length - (j + 1)) TV0 := by rw [vset_next _ g.length j _ X.out.2.2.2 hlt, X.out.2.2.1, ← map_tvat_next hlt]
          rw [← e]
          exact K.out.1
        case measure => rw [hw]; simp [intOf]; omega
      · have d1 : decide (F < 0) = true := by rw [decide_eq_true_iff, ← hF, Nm.fi_lo]; exact hin
        have X := Lib.hid (And.intro hF (lack_stop (l := tvs xs) hlt hin))
        clear hF hin
        go_wp2_with fail
        refine (cfind_is xs g[j] ao cap _ F (H.out.1.below J.out.1) H.out.2.2.1 X.out.1).mono ?_
        rintro e w2 ⟨rfl, hb⟩
        have K := Lib.hid (step0 J.out.1 hb)
        clear hb
        go_wp2
        go_ret2
        exact ⟨.inl ⟨X.out.2, rfl⟩, K.out⟩
    · obtain rfl : j = g.length := by omega
      have hO := J.out.2.1
      rw [Nat.sub_self, List.replicate_zero, List.append_nil, List.take_length] at hO
      have hall := J.out.2.2
      rw [List.take_length] at hall
      have ST := Lib.hid (And.intro hO (lack_none hall))
      clear hO hall
      go_wp2
      go_ret2
      exact ⟨.inr ⟨ST.out.2, _, rfl, ST.out.1⟩, J.out.1⟩

end Go.Proofs.YtdonmbmahcjfbaaGreatDoor

namespace Go.Proofs.YtdonmbmahcjfbaaGreatDoor
open Go.RowKit
set_option linter.unusedVariables false

theorem rng {W : World} {B : Nat} {cs : List Value} {t : TypeId} (h : Blk W B cs.toArray t) : W.rangeAt B 0 cs := fun j v hv => by
  rw [Nat.zero_add, h.cell j]
  simpa using hv
theorem infoCh : (Tryz.prog.info? 32).map (·.size) = some 18 := by kernel_rfl

set_option maxHeartbeats 2000000 in
theorem changer_1 (tb ot to al nm : Nm.S) (ty : Int) (no : Option Addr) (nn nc : Nat) (col : C) (df : T) (dO : Option Addr) (dc : Nat) (w : World) :
    Calls Tryz.prog 39 #[.agg #[.int .i64 1, .string ⟨tb.toArray⟩, .string ⟨ot.toArray⟩, .string ⟨to.toArray⟩, .string ⟨al.toArray⟩, .string ⟨nm.toArray⟩, .int .i64 ty, .slice no nn nc, .string ⟨col.name.toArray⟩, .int .i64 col.kind, .bool col.null, .int .i64 col.d.k, .int .i64 col.d.n, .int .u64 col.d.b, .string ⟨col.d.s.toArray⟩, .string ⟨df.name.toArray⟩, .int .i64 df.keys, .slice dO df.cs.length dc]] w fun e w' => e = .returned (.iface 101 (.agg #[.string ⟨df.name.toArray⟩, .int .i64 df.keys, .slice dO df.cs.length dc])) ∧ Below w.heap.size w w' := by
  go_enter Tryz.func39, Tryz.ntmps39
  go_wp2
  go_ret
  exact ⟨rfl, below1 _ _⟩

set_option maxHeartbeats 2000000 in
theorem changer_2 (tb ot to al nm : Nm.S) (ty : Int) (no : Option Addr) (nn nc : Nat) (col : C) (df : T) (dO : Option Addr) (dc : Nat) (w : World) :
    Calls Tryz.prog 39 #[.agg #[.int .i64 2, .string ⟨tb.toArray⟩, .string ⟨ot.toArray⟩, .string ⟨to.toArray⟩, .string ⟨al.toArray⟩, .string ⟨nm.toArray⟩, .int .i64 ty, .slice no nn nc, .string ⟨col.name.toArray⟩, .int .i64 col.kind, .bool col.null, .int .i64 col.d.k, .int .i64 col.d.n, .int .u64 col.d.b, .string ⟨col.d.s.toArray⟩, .string ⟨df.name.toArray⟩, .int .i64 df.keys, .slice dO df.cs.length dc]] w fun e w' => e = .returned (.iface 105 (.agg #[.string ⟨tb.toArray⟩, .string ⟨col.name.toArray⟩, .int .i64 col.kind, .bool col.null, .int .i64 col.d.k, .int .i64 col.d.n, .int .u64 col.d.b, .string ⟨col.d.s.toArray⟩])) ∧ Below w.heap.size w w' := by
  go_enter Tryz.func39, Tryz.ntmps39
  go_wp2
  go_ret
  exact ⟨rfl, below1 _ _⟩

set_option maxHeartbeats 2000000 in
theorem changer_3 (tb ot to al nm : Nm.S) (ty : Int) (no : Option Addr) (nn nc : Nat) (col : C) (df : T) (dO : Option Addr) (dc : Nat) (w : World) :
    Calls Tryz.prog 39 #[.agg #[.int .i64 3, .string ⟨tb.toArray⟩, .string ⟨ot.toArray⟩, .string ⟨to.toArray⟩, .string ⟨al.toArray⟩, .string ⟨nm.toArray⟩, .int .i64 ty, .slice no nn nc, .string ⟨col.name.toArray⟩, .int .i64 col.kind, .bool col.null, .int .i64 col.d.k, .int .i64 col.d.n, .int .u64 col.d.b, .string ⟨col.d.s.toArray⟩, .string ⟨df.name.toArray⟩, .int .i64 df.keys, .slice dO df.cs.length dc]] w fun e w' => e = .returned (.iface 107 (.agg #[.string ⟨tb.toArray⟩, .string ⟨nm.toArray⟩])) ∧ Below w.heap.size w w' := by
  go_enter Tryz.func39, Tryz.ntmps39
  go_wp2
  go_ret
  exact ⟨rfl, below1 _ _⟩

set_option maxHeartbeats 2000000 in
theorem changer_4 (tb ot to al nm : Nm.S) (ty : Int) (no : Option Addr) (nn nc : Nat) (col : C) (df : T) (dO : Option Addr) (dc : Nat) (w : World) :
    Calls Tryz.prog 39 #[.agg #[.int .i64 4, .string ⟨tb.toArray⟩, .string ⟨ot.toArray⟩, .string ⟨to.toArray⟩, .string ⟨al.toArray⟩, .string ⟨nm.toArray⟩, .int .i64 ty, .slice no nn nc, .string ⟨col.name.toArray⟩, .int .i64 col.kind, .bool col.null, .int .i64 col.d.k, .int .i64 col.d.n, .int .u64 col.d.b, .string ⟨col.d.s.toArray⟩, .string ⟨df.name.toArray⟩, .int .i64 df.keys, .slice dO df.cs.length dc]] w fun e w' => e = .returned (.iface 109 (.agg #[.string ⟨tb.toArray⟩, .string ⟨nm.toArray⟩, .int .i64 ty])) ∧ Below w.heap.size w w' := by
  go_enter Tryz.func39, Tryz.ntmps39
  go_wp2
  go_ret
  exact ⟨rfl, below1 _ _⟩

set_option maxHeartbeats 2000000 in
theorem changer_5 (tb ot to al nm : Nm.S) (ty : Int) (no : Option Addr) (nn nc : Nat) (col : C) (df : T) (dO : Option Addr) (dc : Nat) (w : World) :
    Calls Tryz.prog 39 #[.agg #[.int .i64 5, .string ⟨tb.toArray⟩, .string ⟨ot.toArray⟩, .string ⟨to.toArray⟩, .string ⟨al.toArray⟩, .string ⟨nm.toArray⟩, .int .i64 ty, .slice no nn nc, .string ⟨col.name.toArray⟩, .int .i64 col.kind, .bool col.null, .int .i64 col.d.k, .int .i64 col.d.n, .int .u64 col.d.b, .string ⟨col.d.s.toArray⟩, .string ⟨df.name.toArray⟩, .int .i64 df.keys, .slice dO df.cs.length dc]] w fun e w' => e = .returned (.iface 111 (.agg #[.string ⟨tb.toArray⟩, .string ⟨to.toArray⟩, .string ⟨al.toArray⟩, .slice no nn nc])) ∧ Below w.heap.size w w' := by
  go_enter Tryz.func39, Tryz.ntmps39
  go_wp2
  go_ret
  exact ⟨rfl, below1 _ _⟩

set_option maxHeartbeats 2000000 in
theorem changer_6 (tb ot to al nm : Nm.S) (ty : Int) (no : Option Addr) (nn nc : Nat) (col : C) (df : T) (dO : Option Addr) (dc : Nat) (w : World) :
    Calls Tryz.prog 39 #[.agg #[.int .i64 6, .string ⟨tb.toArray⟩, .string ⟨ot.toArray⟩, .string ⟨to.toArray⟩, .string ⟨al.toArray⟩, .string ⟨nm.toArray⟩, .int .i64 ty, .slice no nn nc, .string ⟨col.name.toArray⟩, .int .i64 col.kind, .bool col.null, .int .i64 col.d.k, .int .i64 col.d.n, .int .u64 col.d.b, .string ⟨col.d.s.toArray⟩, .string ⟨df.name.toArray⟩, .int .i64 df.keys, .slice dO df.cs.length dc]] w fun e w' => e = .returned (.iface 113 (.agg #[.string ⟨tb.toArray⟩, .string ⟨ot.toArray⟩, .string ⟨to.toArray⟩])) ∧ Below w.heap.size w w' := by
  go_enter Tryz.func39, Tryz.ntmps39
  go_wp2
  go_ret
  exact ⟨rfl, below1 _ _⟩

set_option maxHeartbeats 2000000 in
theorem changer_0 (K : Int) (tb ot to al nm : Nm.S) (ty : Int) (no : Option Addr) (nn nc : Nat) (col : C) (df : T) (dO : Option Addr) (dc : Nat) (w : World) (h1 : (K == 1) = false) (h2 : (K == 2) = false) (h3 : (K == 3) = false) (h4 : (K == 4) = false) (h5 : (K == 5) = false) (h6 : (K == 6) = false) :
    Calls Tryz.prog 39 #[.agg #[.int .i64 K, .string ⟨tb.toArray⟩, .string ⟨ot.toArray⟩, .string ⟨to.toArray⟩, .string ⟨al.toArray⟩, .string ⟨nm.toArray⟩, .int .i64 ty, .slice no nn nc, .string ⟨col.name.toArray⟩, .int .i64 col.kind, .bool col.null, .int .i64 col.d.k, .int .i64 col.d.n, .int .u64 col.d.b, .string ⟨col.d.s.toArray⟩, .string ⟨df.name.toArray⟩, .int .i64 df.keys, .slice dO df.cs.length dc]] w fun e w' => e = .returned .nilIface ∧ Below w.heap.size w w' := by
  go_enter Tryz.func39, Tryz.ntmps39
  go_wp2
  go_ret
  exact ⟨rfl, below1 _ _⟩

theorem ows_one (w : World) (s : Nm.S) : OwS (w.alloc (.cells #[.string ⟨s.toArray⟩] 9)) w.heap.size (.slice (some ⟨w.heap.size, 0, none⟩) 1 1) [s] := by
  refine ⟨rfl, .inr ⟨w.heap.size, 1, _, rfl, Nat.le_refl _, Blk.new w _ _, Nat.le_refl _, by unfold maxLen; decide, rfl, rfl⟩⟩
theorem ows_two (w : World) (s t : Nm.S) : OwS (w.alloc (.cells #[.string ⟨s.toArray⟩, .string ⟨t.toArray⟩] 9)) w.heap.size (.slice (some ⟨w.heap.size, 0, none⟩) 2 2) [s, t] := by
  refine ⟨rfl, .inr ⟨w.heap.size, 2, _, rfl, Nat.le_refl _, Blk.new w _ _, Nat.le_refl _, by unfold maxLen; decide, rfl, rfl⟩⟩

set_option maxHeartbeats 1000000 in
theorem takes_one (tb : Nm.S) (w : World) :
    Calls Tryz.prog 197 #[.agg #[.string ⟨tb.toArray⟩]] w fun e w' => ∃ v, e = .returned v ∧ OwS w' w.heap.size v [tb] ∧ Below w.heap.size w w' := by
  go_enter Tryz.func197, Tryz.ntmps197
  go_wp2
  go_ret
  exact ⟨_, rfl, (show OwS _ (w.heap.size + 1) _ _ from by have := ows_one (w.alloc (.cells #[.string ⟨tb.toArray⟩] 103)) tb; simpa using this).base (by omega), below2s _ _ _⟩

set_option maxHeartbeats 1000000 in
theorem takes_merge (tb ot to : Nm.S) (w : World) :
    Calls Tryz.prog 207 #[.agg #[.string ⟨tb.toArray⟩, .string ⟨ot.toArray⟩, .string ⟨to.toArray⟩]] w fun e w' => ∃ v, e = .returned v ∧ OwS w' w.heap.size v [tb, ot] ∧ Below w.heap.size w w' := by
  go_enter Tryz.func207, Tryz.ntmps207
  go_wp2
  go_ret
  exact ⟨_, rfl, (show OwS _ (w.heap.size + 1) _ _ from by have := ows_two (w.alloc (.cells #[.string ⟨tb.toArray⟩, .string ⟨ot.toArray⟩, .string ⟨to.toArray⟩] 113)) tb ot; simpa using this).base (by omega), below2s _ _ _⟩

theorem as_create (v : Value) (xT : TypeId) (w : World) : (Instr.typeAssert (.iface 101 v) xT 115 true).run Tryz.prog w = .ok (.tuple #[.nilIface, .bool false]) w :=
  run_typeAssert_lacksB Tryz.underlying115 (by kernel_rfl) (by kernel_rfl) v xT w
set_option maxHeartbeats 1000000 in
theorem taken_1 (tb ot to al nm : Nm.S) (ty : Int) (no : Option Addr) (nn nc : Nat) (col : C) (df : T) (dO : Option Addr) (dc : Nat) (w : World) :
    Calls Tryz.prog 40 #[.iface 101 (.agg #[.string ⟨df.name.toArray⟩, .int .i64 df.keys, .slice dO df.cs.length dc])] w fun e w' => ∃ v, e = .returned v ∧ OwS w' w.heap.size v [] ∧ Below w.heap.size w w' := by
  have k0 := as_create
  go_enter Tryz.func40, Tryz.ntmps40
  go_wp2
  go_ret
  exact ⟨_, rfl, ows_nil _ _, Below.refl _ _⟩

theorem as_add (v : Value) (xT : TypeId) (w : World) : (Instr.typeAssert (.iface 105 v) xT 115 true).run Tryz.prog w = .ok (.tuple #[.iface 105 v, .bool true]) w :=
  run_typeAssert_hasB Tryz.underlying115 (by kernel_rfl) v xT w
theorem mt_add (x0 x1 x2 x3 x4 x5 x6 x7 : Value) (w : World) : (Go.method 385 105 (.agg #[x0, x1, x2, x3, x4, x5, x6, x7]) "transom/change.takes").run Tryz.prog w = .ok (197, .agg #[x0]) w := by kernel_rfl
set_option maxHeartbeats 1000000 in
theorem taken_2 (tb ot to al nm : Nm.S) (ty : Int) (no : Option Addr) (nn nc : Nat) (col : C) (df : T) (dO : Option Addr) (dc : Nat) (w : World) :
    Calls Tryz.prog 40 #[.iface 105 (.agg #[.string ⟨tb.toArray⟩, .string ⟨col.name.toArray⟩, .int .i64 col.kind, .bool col.null, .int .i64 col.d.k, .int .i64 col.d.n, .int .u64 col.d.b, .string ⟨col.d.s.toArray⟩])] w fun e w' => ∃ v, e = .returned v ∧ OwS w' w.heap.size v [tb] ∧ Below w.heap.size w w' := by
  have k0 := as_add
  have k1 := mt_add
  go_enter Tryz.func40, Tryz.ntmps40
  go_wp2_with fail
  refine (takes_one tb _).mono ?_
  rintro e w1 ⟨v, rfl, hO, hb⟩
  obtain ⟨bo, bc, rfl, _⟩ := hO.sl
  have K := Lib.hid (And.intro hO hb)
  clear hO hb
  go_wp2
  go_ret
  exact ⟨_, rfl, K.out.1, K.out.2⟩

theorem as_drop (v : Value) (xT : TypeId) (w : World) : (Instr.typeAssert (.iface 107 v) xT 115 true).run Tryz.prog w = .ok (.tuple #[.iface 107 v, .bool true]) w :=
  run_typeAssert_hasB Tryz.underlying115 (by kernel_rfl) v xT w
theorem mt_drop (x0 x1 : Value) (w : World) : (Go.method 385 107 (.agg #[x0, x1]) "transom/change.takes").run Tryz.prog w = .ok (197, .agg #[x0]) w := by kernel_rfl
set_option maxHeartbeats 1000000 in
theorem taken_3 (tb ot to al nm : Nm.S) (ty : Int) (no : Option Addr) (nn nc : Nat) (col : C) (df : T) (dO : Option Addr) (dc : Nat) (w : World) :
    Calls Tryz.prog 40 #[.iface 107 (.agg #[.string ⟨tb.toArray⟩, .string ⟨nm.toArray⟩])] w fun e w' => ∃ v, e = .returned v ∧ OwS w' w.heap.size v [tb] ∧ Below w.heap.size w w' := by
  have k0 := as_drop
  have k1 := mt_drop
  go_enter Tryz.func40, Tryz.ntmps40
  go_wp2_with fail
  refine (takes_one tb _).mono ?_
  rintro e w1 ⟨v, rfl, hO, hb⟩
  obtain ⟨bo, bc, rfl, _⟩ := hO.sl
  have K := Lib.hid (And.intro hO hb)
  clear hO hb
  go_wp2
  go_ret
  exact ⟨_, rfl, K.out.1, K.out.2⟩

theorem as_retype (v : Value) (xT : TypeId) (w : World) : (Instr.typeAssert (.iface 109 v) xT 115 true).run Tryz.prog w = .ok (.tuple #[.iface 109 v, .bool true]) w :=
  run_typeAssert_hasB Tryz.underlying115 (by kernel_rfl) v xT w
theorem mt_retype (x0 x1 x2 : Value) (w : World) : (Go.method 385 109 (.agg #[x0, x1, x2]) "transom/change.takes").run Tryz.prog w = .ok (197, .agg #[x0]) w := by kernel_rfl
set_option maxHeartbeats 1000000 in
theorem taken_4 (tb ot to al nm : Nm.S) (ty : Int) (no : Option Addr) (nn nc : Nat) (col : C) (df : T) (dO : Option Addr) (dc : Nat) (w : World) :
    Calls Tryz.prog 40 #[.iface 109 (.agg #[.string ⟨tb.toArray⟩, .string ⟨nm.toArray⟩, .int .i64 ty])] w fun e w' => ∃ v, e = .returned v ∧ OwS w' w.heap.size v [tb] ∧ Below w.heap.size w w' := by
  have k0 := as_retype
  have k1 := mt_retype
  go_enter Tryz.func40, Tryz.ntmps40
  go_wp2_with fail
  refine (takes_one tb _).mono ?_
  rintro e w1 ⟨v, rfl, hO, hb⟩
  obtain ⟨bo, bc, rfl, _⟩ := hO.sl
  have K := Lib.hid (And.intro hO hb)
  clear hO hb
  go_wp2
  go_ret
  exact ⟨_, rfl, K.out.1, K.out.2⟩

theorem as_split (v : Value) (xT : TypeId) (w : World) : (Instr.typeAssert (.iface 111 v) xT 115 true).run Tryz.prog w = .ok (.tuple #[.iface 111 v, .bool true]) w :=
  run_typeAssert_hasB Tryz.underlying115 (by kernel_rfl) v xT w
theorem mt_split (x0 x1 x2 x3 : Value) (w : World) : (Go.method 385 111 (.agg #[x0, x1, x2, x3]) "transom/change.takes").run Tryz.prog w = .ok (197, .agg #[x0]) w := by kernel_rfl
set_option maxHeartbeats 1000000 in
theorem taken_5 (tb ot to al nm : Nm.S) (ty : Int) (no : Option Addr) (nn nc : Nat) (col : C) (df : T) (dO : Option Addr) (dc : Nat) (w : World) :
    Calls Tryz.prog 40 #[.iface 111 (.agg #[.string ⟨tb.toArray⟩, .string ⟨to.toArray⟩, .string ⟨al.toArray⟩, .slice no nn nc])] w fun e w' => ∃ v, e = .returned v ∧ OwS w' w.heap.size v [tb] ∧ Below w.heap.size w w' := by
  have k0 := as_split
  have k1 := mt_split
  go_enter Tryz.func40, Tryz.ntmps40
  go_wp2_with fail
  refine (takes_one tb _).mono ?_
  rintro e w1 ⟨v, rfl, hO, hb⟩
  obtain ⟨bo, bc, rfl, _⟩ := hO.sl
  have K := Lib.hid (And.intro hO hb)
  clear hO hb
  go_wp2
  go_ret
  exact ⟨_, rfl, K.out.1, K.out.2⟩

theorem as_merge (v : Value) (xT : TypeId) (w : World) : (Instr.typeAssert (.iface 113 v) xT 115 true).run Tryz.prog w = .ok (.tuple #[.iface 113 v, .bool true]) w :=
  run_typeAssert_hasB Tryz.underlying115 (by kernel_rfl) v xT w
theorem mt_merge (x0 x1 x2 : Value) (w : World) : (Go.method 385 113 (.agg #[x0, x1, x2]) "transom/change.takes").run Tryz.prog w = .ok (207, .agg #[x0, x1, x2]) w := by kernel_rfl
set_option maxHeartbeats 1000000 in
theorem taken_6 (tb ot to al nm : Nm.S) (ty : Int) (no : Option Addr) (nn nc : Nat) (col : C) (df : T) (dO : Option Addr) (dc : Nat) (w : World) :
    Calls Tryz.prog 40 #[.iface 113 (.agg #[.string ⟨tb.toArray⟩, .string ⟨ot.toArray⟩, .string ⟨to.toArray⟩])] w fun e w' => ∃ v, e = .returned v ∧ OwS w' w.heap.size v [tb, ot] ∧ Below w.heap.size w w' := by
  have k0 := as_merge
  have k1 := mt_merge
  go_enter Tryz.func40, Tryz.ntmps40
  go_wp2_with fail
  refine (takes_merge tb ot to _).mono ?_
  rintro e w1 ⟨v, rfl, hO, hb⟩
  obtain ⟨bo, bc, rfl, _⟩ := hO.sl
  have K := Lib.hid (And.intro hO hb)
  clear hO hb
  go_wp2
  go_ret
  exact ⟨_, rfl, K.out.1, K.out.2⟩

theorem asn_nil (xT : TypeId) (w : World) : (Instr.typeAssert .nilIface xT 115 true).run Tryz.prog w = .ok (.tuple #[.nilIface, .bool false]) w := by kernel_rfl
set_option maxHeartbeats 1000000 in
theorem taken_0 (w : World) :
    Calls Tryz.prog 40 #[.nilIface] w fun e w' => ∃ v, e = .returned v ∧ OwS w' w.heap.size v [] ∧ Below w.heap.size w w' := by
  have k0 := asn_nil
  go_enter Tryz.func40, Tryz.ntmps40
  go_wp2
  go_ret
  exact ⟨_, rfl, ows_nil _ _, Below.refl _ _⟩

end Go.Proofs.YtdonmbmahcjfbaaGreatDoor

namespace Go.Proofs.YtdonmbmahcjfbaaGreatDoor
open Go.RowKit
set_option linter.unusedVariables false

set_option maxHeartbeats 1000000 in
theorem sources_0 (K : Int) (tb ot to al nm : Nm.S) (ty : Int) (no : Option Addr) (nn nc : Nat) (col : C) (df : T) (dO : Option Addr) (dc : Nat) (w : World) (h1 : (K == 1) = false) (h2 : (K == 2) = false) (h3 : (K == 3) = false) (h4 : (K == 4) = false) (h5 : (K == 5) = false) (h6 : (K == 6) = false) :
    Calls Tryz.prog 26 #[.agg #[.int .i64 K, .string ⟨tb.toArray⟩, .string ⟨ot.toArray⟩, .string ⟨to.toArray⟩, .string ⟨al.toArray⟩, .string ⟨nm.toArray⟩, .int .i64 ty, .slice no nn nc, .string ⟨col.name.toArray⟩, .int .i64 col.kind, .bool col.null, .int .i64 col.d.k, .int .i64 col.d.n, .int .u64 col.d.b, .string ⟨col.d.s.toArray⟩, .string ⟨df.name.toArray⟩, .int .i64 df.keys, .slice dO df.cs.length dc]] w fun e w' => ∃ v, e = .returned v ∧ OwS w' w.heap.size v [] ∧ Below w.heap.size w w' := by
  go_enter Tryz.func26, Tryz.ntmps26
  go_wp2_with ((refine (?_ : wpList _ _ _ (Oper.mk _ (Op.load 32 _) _ _ _ _ :: _) _ _)); refine wpList_load_mid rfl 32 _ rfl w.heap.size 0 rfl [.int .i64 K, .string ⟨tb.toArray⟩, .string ⟨ot.toArray⟩, .string ⟨to.toArray⟩, .string ⟨al.toArray⟩, .string ⟨nm.toArray⟩, .int .i64 ty, .slice no nn nc, .string ⟨col.name.toArray⟩, .int .i64 col.kind, .bool col.null, .int .i64 col.d.k, .int .i64 col.d.n, .int .u64 col.d.b, .string ⟨col.d.s.toArray⟩, .string ⟨df.name.toArray⟩, .int .i64 df.keys, .slice dO df.cs.length dc] _ (rng (Blk.new w _ _)) Tryz.underlying32 rfl infoCh ?_; go_frame)
  refine (changer_0 K tb ot to al nm ty no nn nc col df dO dc _ h1 h2 h3 h4 h5 h6).mono ?_
  rintro e w1 ⟨rfl, hb⟩
  have B := Lib.hid (step1 (Below.refl _ w) hb)
  clear hb
  go_wp2_with fail
  refine (taken_0 _).mono ?_
  rintro e w2 ⟨v, rfl, hO, hb⟩
  obtain ⟨bo, bc, rfl, _⟩ := hO.sl
  have K := Lib.hid (And.intro (hO.base B.out.size) (step0 B.out hb))
  clear hO hb
  go_wp2
  go_ret
  exact ⟨_, rfl, K.out.1, K.out.2⟩

set_option maxHeartbeats 1000000 in
theorem sources_1 (tb ot to al nm : Nm.S) (ty : Int) (no : Option Addr) (nn nc : Nat) (col : C) (df : T) (dO : Option Addr) (dc : Nat) (w : World) :
    Calls Tryz.prog 26 #[.agg #[.int .i64 1, .string ⟨tb.toArray⟩, .string ⟨ot.toArray⟩, .string ⟨to.toArray⟩, .string ⟨al.toArray⟩, .string ⟨nm.toArray⟩, .int .i64 ty, .slice no nn nc, .string ⟨col.name.toArray⟩, .int .i64 col.kind, .bool col.null, .int .i64 col.d.k, .int .i64 col.d.n, .int .u64 col.d.b, .string ⟨col.d.s.toArray⟩, .string ⟨df.name.toArray⟩, .int .i64 df.keys, .slice dO df.cs.length dc]] w fun e w' => ∃ v, e = .returned v ∧ OwS w' w.heap.size v [] ∧ Below w.heap.size w w' := by
  go_enter Tryz.func26, Tryz.ntmps26
  go_wp2_with ((refine (?_ : wpList _ _ _ (Oper.mk _ (Op.load 32 _) _ _ _ _ :: _) _ _)); refine wpList_load_mid rfl 32 _ rfl w.heap.size 0 rfl [.int .i64 1, .string ⟨tb.toArray⟩, .string ⟨ot.toArray⟩, .string ⟨to.toArray⟩, .string ⟨al.toArray⟩, .string ⟨nm.toArray⟩, .int .i64 ty, .slice no nn nc, .string ⟨col.name.toArray⟩, .int .i64 col.kind, .bool col.null, .int .i64 col.d.k, .int .i64 col.d.n, .int .u64 col.d.b, .string ⟨col.d.s.toArray⟩, .string ⟨df.name.toArray⟩, .int .i64 df.keys, .slice dO df.cs.length dc] _ (rng (Blk.new w _ _)) Tryz.underlying32 rfl infoCh ?_; go_frame)
  refine (changer_1 tb ot to al nm ty no nn nc col df dO dc _).mono ?_
  rintro e w1 ⟨rfl, hb⟩
  have B := Lib.hid (step1 (Below.refl _ w) hb)
  clear hb
  go_wp2_with fail
  refine (taken_1 tb ot to al nm ty no nn nc col df dO dc _).mono ?_
  rintro e w2 ⟨v, rfl, hO, hb⟩
  obtain ⟨bo, bc, rfl, _⟩ := hO.sl
  have K := Lib.hid (And.intro (hO.base B.out.size) (step0 B.out hb))
  clear hO hb
  go_wp2
  go_ret
  exact ⟨_, rfl, K.out.1, K.out.2⟩

set_option maxHeartbeats 1000000 in
theorem sources_2 (tb ot to al nm : Nm.S) (ty : Int) (no : Option Addr) (nn nc : Nat) (col : C) (df : T) (dO : Option Addr) (dc : Nat) (w : World) :
    Calls Tryz.prog 26 #[.agg #[.int .i64 2, .string ⟨tb.toArray⟩, .string ⟨ot.toArray⟩, .string ⟨to.toArray⟩, .string ⟨al.toArray⟩, .string ⟨nm.toArray⟩, .int .i64 ty, .slice no nn nc, .string ⟨col.name.toArray⟩, .int .i64 col.kind, .bool col.null, .int .i64 col.d.k, .int .i64 col.d.n, .int .u64 col.d.b, .string ⟨col.d.s.toArray⟩, .string ⟨df.name.toArray⟩, .int .i64 df.keys, .slice dO df.cs.length dc]] w fun e w' => ∃ v, e = .returned v ∧ OwS w' w.heap.size v [tb] ∧ Below w.heap.size w w' := by
  go_enter Tryz.func26, Tryz.ntmps26
  go_wp2_with ((refine (?_ : wpList _ _ _ (Oper.mk _ (Op.load 32 _) _ _ _ _ :: _) _ _)); refine wpList_load_mid rfl 32 _ rfl w.heap.size 0 rfl [.int .i64 2, .string ⟨tb.toArray⟩, .string ⟨ot.toArray⟩, .string ⟨to.toArray⟩, .string ⟨al.toArray⟩, .string ⟨nm.toArray⟩, .int .i64 ty, .slice no nn nc, .string ⟨col.name.toArray⟩, .int .i64 col.kind, .bool col.null, .int .i64 col.d.k, .int .i64 col.d.n, .int .u64 col.d.b, .string ⟨col.d.s.toArray⟩, .string ⟨df.name.toArray⟩, .int .i64 df.keys, .slice dO df.cs.length dc] _ (rng (Blk.new w _ _)) Tryz.underlying32 rfl infoCh ?_; go_frame)
  refine (changer_2 tb ot to al nm ty no nn nc col df dO dc _).mono ?_
  rintro e w1 ⟨rfl, hb⟩
  have B := Lib.hid (step1 (Below.refl _ w) hb)
  clear hb
  go_wp2_with fail
  refine (taken_2 tb ot to al nm ty no nn nc col df dO dc _).mono ?_
  rintro e w2 ⟨v, rfl, hO, hb⟩
  obtain ⟨bo, bc, rfl, _⟩ := hO.sl
  have K := Lib.hid (And.intro (hO.base B.out.size) (step0 B.out hb))
  clear hO hb
  go_wp2
  go_ret
  exact ⟨_, rfl, K.out.1, K.out.2⟩

set_option maxHeartbeats 1000000 in
theorem sources_3 (tb ot to al nm : Nm.S) (ty : Int) (no : Option Addr) (nn nc : Nat) (col : C) (df : T) (dO : Option Addr) (dc : Nat) (w : World) :
    Calls Tryz.prog 26 #[.agg #[.int .i64 3, .string ⟨tb.toArray⟩, .string ⟨ot.toArray⟩, .string ⟨to.toArray⟩, .string ⟨al.toArray⟩, .string ⟨nm.toArray⟩, .int .i64 ty, .slice no nn nc, .string ⟨col.name.toArray⟩, .int .i64 col.kind, .bool col.null, .int .i64 col.d.k, .int .i64 col.d.n, .int .u64 col.d.b, .string ⟨col.d.s.toArray⟩, .string ⟨df.name.toArray⟩, .int .i64 df.keys, .slice dO df.cs.length dc]] w fun e w' => ∃ v, e = .returned v ∧ OwS w' w.heap.size v [tb] ∧ Below w.heap.size w w' := by
  go_enter Tryz.func26, Tryz.ntmps26
  go_wp2_with ((refine (?_ : wpList _ _ _ (Oper.mk _ (Op.load 32 _) _ _ _ _ :: _) _ _)); refine wpList_load_mid rfl 32 _ rfl w.heap.size 0 rfl [.int .i64 3, .string ⟨tb.toArray⟩, .string ⟨ot.toArray⟩, .string ⟨to.toArray⟩, .string ⟨al.toArray⟩, .string ⟨nm.toArray⟩, .int .i64 ty, .slice no nn nc, .string ⟨col.name.toArray⟩, .int .i64 col.kind, .bool col.null, .int .i64 col.d.k, .int .i64 col.d.n, .int .u64 col.d.b, .string ⟨col.d.s.toArray⟩, .string ⟨df.name.toArray⟩, .int .i64 df.keys, .slice dO df.cs.length dc] _ (rng (Blk.new w _ _)) Tryz.underlying32 rfl infoCh ?_; go_frame)
  refine (changer_3 tb ot to al nm ty no nn nc col df dO dc _).mono ?_
  rintro e w1 ⟨rfl, hb⟩
  have B := Lib.hid (step1 (Below.refl _ w) hb)
  clear hb
  go_wp2_with fail
  refine (taken_3 tb ot to al nm ty no nn nc col df dO dc _).mono ?_
  rintro e w2 ⟨v, rfl, hO, hb⟩
  obtain ⟨bo, bc, rfl, _⟩ := hO.sl
  have K := Lib.hid (And.intro (hO.base B.out.size) (step0 B.out hb))
  clear hO hb
  go_wp2
  go_ret
  exact ⟨_, rfl, K.out.1, K.out.2⟩

set_option maxHeartbeats 1000000 in
theorem sources_4 (tb ot to al nm : Nm.S) (ty : Int) (no : Option Addr) (nn nc : Nat) (col : C) (df : T) (dO : Option Addr) (dc : Nat) (w : World) :
    Calls Tryz.prog 26 #[.agg #[.int .i64 4, .string ⟨tb.toArray⟩, .string ⟨ot.toArray⟩, .string ⟨to.toArray⟩, .string ⟨al.toArray⟩, .string ⟨nm.toArray⟩, .int .i64 ty, .slice no nn nc, .string ⟨col.name.toArray⟩, .int .i64 col.kind, .bool col.null, .int .i64 col.d.k, .int .i64 col.d.n, .int .u64 col.d.b, .string ⟨col.d.s.toArray⟩, .string ⟨df.name.toArray⟩, .int .i64 df.keys, .slice dO df.cs.length dc]] w fun e w' => ∃ v, e = .returned v ∧ OwS w' w.heap.size v [tb] ∧ Below w.heap.size w w' := by
  go_enter Tryz.func26, Tryz.ntmps26
  go_wp2_with ((refine (?_ : wpList _ _ _ (Oper.mk _ (Op.load 32 _) _ _ _ _ :: _) _ _)); refine wpList_load_mid rfl 32 _ rfl w.heap.size 0 rfl [.int .i64 4, .string ⟨tb.toArray⟩, .string ⟨ot.toArray⟩, .string ⟨to.toArray⟩, .string ⟨al.toArray⟩, .string ⟨nm.toArray⟩, .int .i64 ty, .slice no nn nc, .string ⟨col.name.toArray⟩, .int .i64 col.kind, .bool col.null, .int .i64 col.d.k, .int .i64 col.d.n, .int .u64 col.d.b, .string ⟨col.d.s.toArray⟩, .string ⟨df.name.toArray⟩, .int .i64 df.keys, .slice dO df.cs.length dc] _ (rng (Blk.new w _ _)) Tryz.underlying32 rfl infoCh ?_; go_frame)
  refine (changer_4 tb ot to al nm ty no nn nc col df dO dc _).mono ?_
  rintro e w1 ⟨rfl, hb⟩
  have B := Lib.hid (step1 (Below.refl _ w) hb)
  clear hb
  go_wp2_with fail
  refine (taken_4 tb ot to al nm ty no nn nc col df dO dc _).mono ?_
  rintro e w2 ⟨v, rfl, hO, hb⟩
  obtain ⟨bo, bc, rfl, _⟩ := hO.sl
  have K := Lib.hid (And.intro (hO.base B.out.size) (step0 B.out hb))
  clear hO hb
  go_wp2
  go_ret
  exact ⟨_, rfl, K.out.1, K.out.2⟩

set_option maxHeartbeats 1000000 in
theorem sources_5 (tb ot to al nm : Nm.S) (ty : Int) (no : Option Addr) (nn nc : Nat) (col : C) (df : T) (dO : Option Addr) (dc : Nat) (w : World) :
    Calls Tryz.prog 26 #[.agg #[.int .i64 5, .string ⟨tb.toArray⟩, .string ⟨ot.toArray⟩, .string ⟨to.toArray⟩, .string ⟨al.toArray⟩, .string ⟨nm.toArray⟩, .int .i64 ty, .slice no nn nc, .string ⟨col.name.toArray⟩, .int .i64 col.kind, .bool col.null, .int .i64 col.d.k, .int .i64 col.d.n, .int .u64 col.d.b, .string ⟨col.d.s.toArray⟩, .string ⟨df.name.toArray⟩, .int .i64 df.keys, .slice dO df.cs.length dc]] w fun e w' => ∃ v, e = .returned v ∧ OwS w' w.heap.size v [tb] ∧ Below w.heap.size w w' := by
  go_enter Tryz.func26, Tryz.ntmps26
  go_wp2_with ((refine (?_ : wpList _ _ _ (Oper.mk _ (Op.load 32 _) _ _ _ _ :: _) _ _)); refine wpList_load_mid rfl 32 _ rfl w.heap.size 0 rfl [.int .i64 5, .string ⟨tb.toArray⟩, .string ⟨ot.toArray⟩, .string ⟨to.toArray⟩, .string ⟨al.toArray⟩, .string ⟨nm.toArray⟩, .int .i64 ty, .slice no nn nc, .string ⟨col.name.toArray⟩, .int .i64 col.kind, .bool col.null, .int .i64 col.d.k, .int .i64 col.d.n, .int .u64 col.d.b, .string ⟨col.d.s.toArray⟩, .string ⟨df.name.toArray⟩, .int .i64 df.keys, .slice dO df.cs.length dc] _ (rng (Blk.new w _ _)) Tryz.underlying32 rfl infoCh ?_; go_frame)
  refine (changer_5 tb ot to al nm ty no nn nc col df dO dc _).mono ?_
  rintro e w1 ⟨rfl, hb⟩
  have B := Lib.hid (step1 (Below.refl _ w) hb)
  clear hb
  go_wp2_with fail
  refine (taken_5 tb ot to al nm ty no nn nc col df dO dc _).mono ?_
  rintro e w2 ⟨v, rfl, hO, hb⟩
  obtain ⟨bo, bc, rfl, _⟩ := hO.sl
  have K := Lib.hid (And.intro (hO.base B.out.size) (step0 B.out hb))
  clear hO hb
  go_wp2
  go_ret
  exact ⟨_, rfl, K.out.1, K.out.2⟩

set_option maxHeartbeats 1000000 in
theorem sources_6 (tb ot to al nm : Nm.S) (ty : Int) (no : Option Addr) (nn nc : Nat) (col : C) (df : T) (dO : Option Addr) (dc : Nat) (w : World) :
    Calls Tryz.prog 26 #[.agg #[.int .i64 6, .string ⟨tb.toArray⟩, .string ⟨ot.toArray⟩, .string ⟨to.toArray⟩, .string ⟨al.toArray⟩, .string ⟨nm.toArray⟩, .int .i64 ty, .slice no nn nc, .string ⟨col.name.toArray⟩, .int .i64 col.kind, .bool col.null, .int .i64 col.d.k, .int .i64 col.d.n, .int .u64 col.d.b, .string ⟨col.d.s.toArray⟩, .string ⟨df.name.toArray⟩, .int .i64 df.keys, .slice dO df.cs.length dc]] w fun e w' => ∃ v, e = .returned v ∧ OwS w' w.heap.size v [tb, ot] ∧ Below w.heap.size w w' := by
  go_enter Tryz.func26, Tryz.ntmps26
  go_wp2_with ((refine (?_ : wpList _ _ _ (Oper.mk _ (Op.load 32 _) _ _ _ _ :: _) _ _)); refine wpList_load_mid rfl 32 _ rfl w.heap.size 0 rfl [.int .i64 6, .string ⟨tb.toArray⟩, .string ⟨ot.toArray⟩, .string ⟨to.toArray⟩, .string ⟨al.toArray⟩, .string ⟨nm.toArray⟩, .int .i64 ty, .slice no nn nc, .string ⟨col.name.toArray⟩, .int .i64 col.kind, .bool col.null, .int .i64 col.d.k, .int .i64 col.d.n, .int .u64 col.d.b, .string ⟨col.d.s.toArray⟩, .string ⟨df.name.toArray⟩, .int .i64 df.keys, .slice dO df.cs.length dc] _ (rng (Blk.new w _ _)) Tryz.underlying32 rfl infoCh ?_; go_frame)
  refine (changer_6 tb ot to al nm ty no nn nc col df dO dc _).mono ?_
  rintro e w1 ⟨rfl, hb⟩
  have B := Lib.hid (step1 (Below.refl _ w) hb)
  clear hb
  go_wp2_with fail
  refine (taken_6 tb ot to al nm ty no nn nc col df dO dc _).mono ?_
  rintro e w2 ⟨v, rfl, hO, hb⟩
  obtain ⟨bo, bc, rfl, _⟩ := hO.sl
  have K := Lib.hid (And.intro (hO.base B.out.size) (step0 B.out hb))
  clear hO hb
  go_wp2
  go_ret
  exact ⟨_, rfl, K.out.1, K.out.2⟩

/-- The names of the tables that are no more. -/
theorem sources_is (c : Ch) (no : Option Addr) (nc : Nat) (dO : Option Addr) (dc : Nat) (w : World) :
    Calls Tryz.prog 26 #[.agg #[.int .i64 c.kind, .string ⟨c.table.toArray⟩, .string ⟨c.other.toArray⟩, .string ⟨c.to.toArray⟩, .string ⟨c.also.toArray⟩, .string ⟨c.name.toArray⟩, .int .i64 c.type, .slice no c.names.length nc, .string ⟨c.col.name.toArray⟩, .int .i64 c.col.kind, .bool c.col.null, .int .i64 c.col.d.k, .int .i64 c.col.d.n, .int .u64 c.col.d.b, .string ⟨c.col.d.s.toArray⟩, .string ⟨c.df.name.toArray⟩, .int .i64 c.df.keys, .slice dO c.df.cs.length dc]] w fun e w' => ∃ v, e = .returned v ∧ OwS w' w.heap.size v c.src ∧ Below w.heap.size w w' := by
  obtain ⟨K, tb, ot, to, al, nm, ty, ns, col, df⟩ := c
  by_cases h1 : K = 1
  · subst h1; exact sources_1 tb ot to al nm ty no ns.length nc col df dO dc w
  by_cases h2 : K = 2
  · subst h2; exact sources_2 tb ot to al nm ty no ns.length nc col df dO dc w
  by_cases h3 : K = 3
  · subst h3; exact sources_3 tb ot to al nm ty no ns.length nc col df dO dc w
  by_cases h4 : K = 4
  · subst h4; exact sources_4 tb ot to al nm ty no ns.length nc col df dO dc w
  by_cases h5 : K = 5
  · subst h5; exact sources_5 tb ot to al nm ty no ns.length nc col df dO dc w
  by_cases h6 : K = 6
  · subst h6; exact sources_6 tb ot to al nm ty no ns.length nc col df dO dc w
  have e : (⟨K, tb, ot, to, al, nm, ty, ns, col, df⟩ : Ch).src = [] := by
    unfold Ch.src
    rw [if_neg (show ¬ K = 6 from h6), if_neg (show ¬ (2 ≤ K ∧ K ≤ 5) by omega)]
  rw [e]
  exact sources_0 K tb ot to al nm ty no ns.length nc col df dO dc w (beq_f h1) (beq_f h2) (beq_f h3) (beq_f h4) (beq_f h5) (beq_f h6)

end Go.Proofs.YtdonmbmahcjfbaaGreatDoor
