/-
  Tables as plain mathematics: may a column, a table be; are two the same. Conditions: none.
-/
import Derived.Test.YtfgakoldedpfoaaDoorKcVals
import Derived.Test.YtfgakoldedpfoaaDoorNmCheck
namespace Go.Proofs.YtfgakoldedpfoaaDoor
open Go.RowKit

def V.ck (x : V) : Int := Vl.ck x.k x.n x.b x.s
/-- A column. -/
structure C where
  name : List UInt8
  kind : Int
  null : Bool
  d : V
/-- A table. -/
structure T where
  name : List UInt8
  keys : Int
  cs : List C

/-- Why a column may not be; the first error of columns; why a table may not be. -/
def C.ck (c : C) : Int :=
  if Nm.ck c.name ≠ 0 then Nm.ck c.name else if c.kind < 1 ∨ 5 < c.kind then 5 else if c.d.ck ≠ 0 then c.d.ck
  else if c.d.k ≠ 0 ∧ c.d.k ≠ c.kind then 11 else 0
def cl : List C → Int
  | [] => 0
  | c :: cs => if c.ck = 0 then cl cs else c.ck
def nl (cs : List C) (k : Nat) : Bool := (cs.take k).any C.null
def T.ck (t : T) : Int :=
  if Nm.ck t.name ≠ 0 then Nm.ck t.name else if t.cs.length < 1 ∨ 8 < t.cs.length then 2 else if t.keys < 1 ∨ 3 < t.keys ∨ (t.cs.length : Int) < t.keys then 1
  else if cl t.cs ≠ 0 then cl t.cs else if Nm.un (t.cs.map C.name) = false then 12 else if nl t.cs t.keys.toNat = true then 11 else 0

theorem cl_all {cs : List C} (h : cl cs = 0) : ∀ c ∈ cs, c.ck = 0 := by
  induction cs with
  | nil => simp
  | cons c cs ih =>
    rw [cl] at h
    split at h
    · rename_i g
      intro x hx
      rcases List.mem_cons.1 hx with rfl | hx
      · exact g
      · exact ih h x hx
    · rename_i g; exact absurd h g
theorem cl_of {cs : List C} (h : ∀ c ∈ cs, c.ck = 0) : cl cs = 0 := by
  induction cs with
  | nil => rfl
  | cons c cs ih => rw [cl, if_pos (h c (List.mem_cons_self ..))]; exact ih fun x hx => h x (List.mem_cons_of_mem _ hx)
theorem cl_stop (cs : List C) (j : Nat) (hj : j < cs.length) (h0 : ∀ c ∈ cs.take j, c.ck = 0) (h1 : cs[j].ck ≠ 0) : cl cs = cs[j].ck := by
  induction cs generalizing j with
  | nil => simp at hj
  | cons c cs ih =>
    cases j with
    | zero => rw [cl, if_neg (show ¬ c.ck = 0 from h1)]; rfl
    | succ j =>
      rw [cl, if_pos (h0 c (by simp))]
      exact ih j (by simpa using hj) (fun x hx => h0 x (by simp [hx])) h1
theorem take_all {cs : List C} {j : Nat} (hj : j < cs.length) {p : C → Prop} (h : ∀ c ∈ cs.take j, p c) (h1 : p cs[j]) : ∀ c ∈ cs.take (j + 1), p c := by
  rw [List.take_succ_eq_append_getElem hj]
  intro x hx
  rcases List.mem_append.1 hx with g | g
  · exact h x g
  · obtain rfl := List.mem_singleton.1 g; exact h1

theorem nm_ck_len {s : List UInt8} (h : Nm.ck s = 0) : s.length ≤ 16 := by
  unfold Nm.ck at h
  split at h
  · omega
  · rename_i g; simp only [not_or] at g; omega
theorem C.ck_ok {c : C} (h : c.ck = 0) : Nm.ck c.name = 0 ∧ 1 ≤ c.kind ∧ c.kind ≤ 5 ∧ c.d.ck = 0 ∧ (c.d.k = 0 ∨ c.d.k = c.kind) := by
  unfold C.ck at h
  split at h
  · rename_i g; exact absurd h g
  · rename_i g0
    split at h
    · omega
    · rename_i g1
      split at h
      · rename_i g; exact absurd h g
      · rename_i g2
        split at h
        · omega
        · rename_i g3
          refine ⟨by omega, by omega, by omega, by omega, ?_⟩
          by_cases e : c.d.k = 0
          · exact .inl e
          · by_cases e' : c.d.k = c.kind
            · exact .inr e'
            · exact absurd ⟨e, e'⟩ g3
theorem T.ck_ok {t : T} (h : t.ck = 0) : Nm.ck t.name = 0 ∧ 1 ≤ t.cs.length ∧ t.cs.length ≤ 8 ∧ 1 ≤ t.keys ∧ t.keys ≤ 3 ∧ t.keys ≤ t.cs.length ∧ (∀ c ∈ t.cs, c.ck = 0) := by
  unfold T.ck at h
  split at h
  · rename_i g; exact absurd h g
  · rename_i g0
    split at h
    · omega
    · rename_i g1
      split at h
      · omega
      · rename_i g2
        split at h
        · rename_i g; exact absurd h g
        · rename_i g3
          exact ⟨by omega, by omega, by omega, by omega, by omega, by omega, cl_all (by omega)⟩

/-- May v stand in column c? The first error of values in the first columns. -/
def ft (c : C) (v : V) : Int := if v.ck ≠ 0 then v.ck else if (v.k = 0 ∧ c.null = true) ∨ v.k = c.kind then 0 else 11
def fs : List C → List V → Int
  | c :: cs, v :: vs => if ft c v = 0 then fs cs vs else ft c v
  | _, _ => 0
theorem fs_all : ∀ {cs : List C} {vs : List V}, vs.length ≤ cs.length → fs cs vs = 0 → ∀ (j : Nat) (h : j < vs.length) (h' : j < cs.length), ft cs[j] vs[j] = 0
  | c :: cs, v :: vs, hl, h, 0, _, _ => by rw [fs] at h; split at h; assumption; (rename_i g; exact absurd h g)
  | c :: cs, v :: vs, hl, h, j + 1, h1, h2 => by
    rw [fs] at h
    split at h
    · exact fs_all (by simpa using hl) h j (by simpa using h1) (by simpa using h2)
    · rename_i g; exact absurd h g
  | [], v :: vs, hl, _, _, _, _ => by simp at hl
  | _, [], _, _, _, h1, _ => by simp at h1
theorem fs_of : ∀ {cs : List C} {vs : List V}, vs.length ≤ cs.length → (∀ (j : Nat) (h : j < vs.length) (h' : j < cs.length), ft cs[j] vs[j] = 0) → fs cs vs = 0
  | c :: cs, v :: vs, hl, h => by
    rw [fs, if_pos (show ft c v = 0 from h 0 (by simp) (by simp))]
    exact fs_of (by simpa using hl) fun j h1 h2 => h (j + 1) (by simpa using h1) (by simpa using h2)
  | [], v :: vs, hl, _ => by simp at hl
  | [], [], _, _ => rfl
  | _ :: _, [], _, _ => rfl
theorem fs_stop : ∀ {cs : List C} {vs : List V} (j : Nat) (h : j < vs.length) (h' : j < cs.length), (∀ (i : Nat) (hi : i < j), ft (cs[i]'(by omega)) (vs[i]'(by omega)) = 0) → ft cs[j] vs[j] ≠ 0 → fs cs vs = ft cs[j] vs[j]
  | c :: cs, v :: vs, 0, _, _, _, h1 => by rw [fs, if_neg (show ¬ ft c v = 0 from h1)]; rfl
  | c :: cs, v :: vs, j + 1, h, h', h0, h1 => by
    rw [fs, if_pos (show ft c v = 0 from h0 0 (by omega))]
    exact fs_stop j (by simpa using h) (by simpa using h') (fun i hi => h0 (i + 1) (by omega)) h1
  | [], _, _, _, h', _, _ => by simp at h'
  | _ :: _, [], _, h, _, _, _ => by simp at h
theorem ft_ck {c : C} {v : V} (h : ft c v = 0) : v.ck = 0 := by
  unfold ft at h
  split at h
  · rename_i g; exact absurd h g
  · rename_i g; omega
def T.fit (t : T) (row : List V) : Int := if t.ck ≠ 0 then t.ck else if row.length ≠ t.cs.length then 11 else fs t.cs row
def T.fitk (t : T) (key : List V) (whole : Bool) : Int := if t.ck ≠ 0 then t.ck else if t.keys < key.length ∨ (whole = true ∧ (key.length : Int) < t.keys) then 11 else fs t.cs key
theorem T.fit_ok {t : T} {row : List V} (h : t.fit row = 0) : t.ck = 0 ∧ row.length = t.cs.length ∧ fs t.cs row = 0 := by
  unfold T.fit at h
  split at h
  · rename_i g; exact absurd h g
  · split at h
    · omega
    · exact ⟨by omega, by omega, h⟩
/-- The values of a row that fits may be. -/
theorem fit_fine {t : T} {row : List V} (h : t.fit row = 0) : ∀ v ∈ row, v.ck = 0 := by
  obtain ⟨_, hl, hf⟩ := T.fit_ok h
  intro v hv
  obtain ⟨j, hj, rfl⟩ := List.getElem_of_mem hv
  exact ft_ck (fs_all (by omega) hf j hj (by omega))

theorem fitk_beg {t : T} {row : List V} (h : t.fit row = 0) (i : Nat) (hi : (i : Int) ≤ t.keys) : t.fitk (row.take i) false = 0 := by
  obtain ⟨h0, hl, hf⟩ := T.fit_ok h
  obtain ⟨_, _, _, _, _, hk, _⟩ := T.ck_ok h0
  unfold T.fitk
  rw [if_neg (by simp [h0]), if_neg (by simp; omega)]
  refine fs_of (by simp; omega) fun j h1 h2 => ?_
  have := fs_all (by omega) hf j (by simp at h1; omega) h2
  simpa using this
theorem fitk_whole {t : T} {row : List V} (h : t.fit row = 0) : t.fitk (row.take t.keys.toNat) true = 0 := by
  have h1 := fitk_beg h t.keys.toNat (by obtain ⟨h0, _, _⟩ := T.fit_ok h; obtain ⟨_, _, _, _, _, _, _⟩ := T.ck_ok h0; omega)
  obtain ⟨h0, hl, hf⟩ := T.fit_ok h
  obtain ⟨_, _, _, hk1, _, hk, _⟩ := T.ck_ok h0
  unfold T.fitk at h1 ⊢
  rw [if_neg (by simp [h0]), if_neg (by simp; omega)] at h1
  rw [if_neg (by simp [h0]), if_neg (by simp; omega)]
  exact h1

/-- Are two columns, two lists of them, two tables the same? -/
def C.sm (a b : C) : Bool := decide (a.name = b.name) && decide (a.kind = b.kind) && (a.null == b.null) && Vl.sm a.d.k a.d.n a.d.b a.d.s b.d.k b.d.n b.d.b b.d.s
def csm : List C → List C → Bool
  | [], [] => true
  | a :: x, b :: y => C.sm a b && csm x y
  | _, _ => false
def T.sm (t u : T) : Bool := decide (t.name = u.name) && decide (t.keys = u.keys) && csm t.cs u.cs
theorem C.sm_iff (a b : C) : C.sm a b = true ↔ a = b := by
  obtain ⟨n, k, l, ⟨k1, n1, b1, s1⟩⟩ := a
  obtain ⟨n', k', l', ⟨k2, n2, b2, s2⟩⟩ := b
  unfold C.sm Vl.sm
  simp only [Bool.and_eq_true, decide_eq_true_eq, beq_iff_eq, C.mk.injEq, V.mk.injEq, and_assoc]
theorem csm_iff : ∀ (a b : List C), csm a b = true ↔ a = b
  | [], [] => by simp [csm]
  | [], _ :: _ => by simp [csm]
  | _ :: _, [] => by simp [csm]
  | a :: x, b :: y => by rw [csm, Bool.and_eq_true, C.sm_iff, csm_iff x y, List.cons.injEq]
theorem T.sm_iff (t u : T) : T.sm t u = true ↔ t = u := by
  obtain ⟨n, k, cs⟩ := t
  obtain ⟨n', k', cs'⟩ := u
  unfold T.sm
  simp only [Bool.and_eq_true, decide_eq_true_eq, csm_iff, T.mk.injEq, and_assoc]
theorem csm_len : ∀ (a b : List C), csm a b = true → a.length = b.length := fun a b h => by rw [(csm_iff a b).1 h]
theorem csm_at (a b : List C) (hl : a.length = b.length) : csm a b = true ↔ ∀ (j : Nat) (h : j < a.length) (h' : j < b.length), C.sm a[j] b[j] = true := by
  rw [csm_iff]
  constructor
  · rintro rfl j h h'; rw [C.sm_iff]
  · intro h
    refine List.ext_getElem hl fun j h1 h2 => ?_
    exact (C.sm_iff _ _).1 (h j h1 h2)

def C0 : C := ⟨[], 0, false, ⟨0, 0, 0, []⟩⟩
def T0 : T := ⟨[], 0, []⟩

end Go.Proofs.YtfgakoldedpfoaaDoor
