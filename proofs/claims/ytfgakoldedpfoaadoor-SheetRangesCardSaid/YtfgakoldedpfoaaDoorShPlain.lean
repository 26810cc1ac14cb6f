/-
  Sheets as plain mathematics: lines by rising keys; where a key stands; with a row, without a key; from a key on; two sheets as one. Conditions: none.
-/
import Derived.Test.YtfgakoldedpfoaaDoorScFit
namespace Go.Proofs.YtfgakoldedpfoaaDoor
open Go.RowKit

/-- A line. -/
structure L where
  k : Nm.S
  r : List V
theorem key_or {a b : Nm.S} (h : ¬ a < b) (hne : a ≠ b) : b < a := by
  rcases Classical.em (b < a) with h' | h'
  · exact h'
  · exact absurd (List.le_antisymm (List.not_lt.1 h') (List.not_lt.1 h)) hne
theorem key_irr (a : Nm.S) : ¬ a < a := List.lt_irrefl a
theorem key_asymm {a b : Nm.S} (h : a < b) : ¬ b < a := fun g => key_irr a (List.lt_trans h g)
/-- a < b, b not above c: a < c. -/
theorem key_lt_of {a b c : Nm.S} (h : a < b) (g : ¬ c < b) : a < c := by
  by_cases e : b = c
  · exact e ▸ h
  · exact List.lt_trans h (key_or g (fun x => e x.symm))
theorem key_of_lt {a b c : Nm.S} (g : ¬ b < a) (h : b < c) : a < c := by
  by_cases e : b = a
  · exact e ▸ h
  · exact List.lt_trans (key_or g e) h
/-- Where a key stands, or would stand; is it that? -/
def fnd (ls : List L) (key : Nm.S) : Nat := ls.findIdx fun l => decide (¬ l.k < key)
def isk (ls : List L) (key : Nm.S) : Bool := match ls[fnd ls key]? with | some l => decide (l.k = key) | none => false
/-- By rising keys. -/
def Ris (ls : List L) : Prop := ls.Pairwise fun a b => a.k < b.k
theorem fnd_le (ls : List L) (key : Nm.S) : fnd ls key ≤ ls.length := List.findIdx_le_length
theorem fnd_lo {ls : List L} {key : Nm.S} {i : Nat} (h : i < fnd ls key) : ∃ hi : i < ls.length, ls[i].k < key := by
  have hl : i < ls.length := Nat.lt_of_lt_of_le h (fnd_le ls key)
  refine ⟨hl, ?_⟩
  have := List.not_of_lt_findIdx h
  simpa using this
theorem fnd_at {ls : List L} {key : Nm.S} (h : fnd ls key < ls.length) : ¬ ls[fnd ls key].k < key := by
  exact of_decide_eq_true (List.findIdx_getElem (w := h))
/-- Whoever looks: a place behind lesser keys alone, at a key that is not less. -/
theorem fnd_of {ls : List L} {key : Nm.S} {n : Nat} (hn : n ≤ ls.length) (h : ∀ (i : Nat) (l : L), i < n → ls[i]? = some l → l.k < key) (g : ∀ l, ls[n]? = some l → ¬ l.k < key) : fnd ls key = n := by
  rcases Nat.lt_trichotomy (fnd ls key) n with e | e | e
  · have hl : fnd ls key < ls.length := by omega
    exact absurd (h _ _ e (List.getElem?_eq_getElem hl)) (fnd_at hl)
  · exact e
  · obtain ⟨hl, hk⟩ := fnd_lo e
    exact absurd hk (g _ (List.getElem?_eq_getElem hl))
theorem isk_of {ls : List L} {key : Nm.S} {n : Nat} (hn : fnd ls key = n) (b : Bool) (h : ∀ l, ls[n]? = some l → decide (l.k = key) = b) (h0 : ls.length ≤ n → b = false) : isk ls key = b := by
  unfold isk
  rw [hn]
  cases e : ls[n]? with
  | none => exact (h0 (List.getElem?_eq_none_iff.1 e)).symm
  | some l => exact h l e
theorem isk_at {ls : List L} {key : Nm.S} (h : isk ls key = true) : ∃ hl : fnd ls key < ls.length, ls[fnd ls key].k = key := by
  unfold isk at h
  cases e : ls[fnd ls key]? with
  | none => rw [e] at h; cases h
  | some l =>
    rw [e] at h
    obtain ⟨hl, rfl⟩ := List.getElem?_eq_some_iff.1 e
    exact ⟨hl, by simpa using h⟩
theorem isk_mem {ls : List L} (hr : Ris ls) {key : Nm.S} : isk ls key = true ↔ ∃ l ∈ ls, l.k = key := by
  constructor
  · intro h
    obtain ⟨hl, e⟩ := isk_at h
    exact ⟨_, List.getElem_mem hl, e⟩
  · rintro ⟨l, hm, rfl⟩
    obtain ⟨i, hi, rfl⟩ := List.getElem_of_mem hm
    have e : fnd ls ls[i].k = i := fnd_of (Nat.le_of_lt hi) (fun j x hj hx => by
      obtain ⟨hl, rfl⟩ := List.getElem?_eq_some_iff.1 hx
      exact List.pairwise_iff_getElem.1 hr j i hl hi hj) (fun x hx => by
      obtain ⟨_, rfl⟩ := List.getElem?_eq_some_iff.1 hx
      exact key_irr _)
    exact isk_of e true (fun x hx => by
      obtain ⟨_, rfl⟩ := List.getElem?_eq_some_iff.1 hx
      simp) (fun h => by omega)
/-- Behind the place all keys are above. -/
theorem fnd_hi {ls : List L} (hr : Ris ls) {key : Nm.S} {i : Nat} (hi : fnd ls key < i) (hl : i < ls.length) : key < ls[i].k :=
  key_of_lt (fnd_at (by omega)) (List.pairwise_iff_getElem.1 hr _ i (by omega) hl hi)
theorem fnd_new {ls : List L} (hr : Ris ls) {key : Nm.S} (hn : isk ls key = false) {i : Nat} (hi : fnd ls key ≤ i) (hl : i < ls.length) : key < ls[i].k := by
  rcases Nat.lt_or_ge (fnd ls key) i with h | h
  · exact fnd_hi hr h hl
  · obtain rfl : i = fnd ls key := by omega
    refine key_or (fnd_at hl) (fun e => ?_)
    have := isk_of rfl true (fun l h => by
      obtain ⟨_, rfl⟩ := List.getElem?_eq_some_iff.1 h
      simpa using e) (fun h => by omega)
    rw [this] at hn; cases hn

/-- With a line in its place, or as a new one; without a key's. -/
def putl (ls : List L) (l : L) : List L := ls.take (fnd ls l.k) ++ l :: ls.drop (fnd ls l.k + if isk ls l.k = true then 1 else 0)
def dell (ls : List L) (key : Nm.S) : List L := if isk ls key = true then ls.take (fnd ls key) ++ ls.drop (fnd ls key + 1) else ls
theorem ris_take {ls : List L} (h : Ris ls) (n : Nat) : Ris (ls.take n) := List.Pairwise.sublist (List.take_sublist n ls) h
theorem ris_drop {ls : List L} (h : Ris ls) (n : Nat) : Ris (ls.drop n) := List.Pairwise.sublist (List.drop_sublist n ls) h
theorem take_lo {ls : List L} {key : Nm.S} {x : L} (h : x ∈ ls.take (fnd ls key)) : x.k < key := by
  obtain ⟨i, hi, rfl⟩ := List.getElem_of_mem h
  rw [List.length_take] at hi
  rw [List.getElem_take]
  exact (fnd_lo (by omega)).2
theorem drop_hi {ls : List L} (hr : Ris ls) {key : Nm.S} {x : L} (h : x ∈ ls.drop (fnd ls key + if isk ls key = true then 1 else 0)) : key < x.k := by
  have g : ∀ (j : Nat) (hl : j < ls.length), fnd ls key + (if isk ls key = true then 1 else 0) ≤ j → key < ls[j].k := by
    intro j hl hj
    cases e : isk ls key with
    | true => rw [e, if_pos rfl] at hj; exact fnd_hi hr (by omega) hl
    | false => exact fnd_new hr e (by omega) hl
  obtain ⟨i, hi, rfl⟩ := List.getElem_of_mem h
  rw [List.length_drop] at hi
  rw [List.getElem_drop]
  exact g _ (by omega) (by omega)
theorem put_ris {ls : List L} (hr : Ris ls) (l : L) : Ris (putl ls l) := by
  unfold putl Ris
  rw [List.pairwise_append]
  refine ⟨ris_take hr _, List.pairwise_cons.2 ⟨fun x hx => drop_hi hr hx, ris_drop hr _⟩, fun x hx y hy => ?_⟩
  rcases List.mem_cons.1 hy with rfl | hy
  · exact take_lo hx
  · exact List.lt_trans (take_lo hx) (drop_hi hr hy)
theorem put_mem {ls : List L} {l x : L} (h : x ∈ putl ls l) : x = l ∨ x ∈ ls := by
  unfold putl at h
  rcases List.mem_append.1 h with h | h
  · exact .inr (List.mem_of_mem_take h)
  · rcases List.mem_cons.1 h with rfl | h
    · exact .inl rfl
    · exact .inr (List.mem_of_mem_drop h)
theorem put_at (ls : List L) (l : L) : (putl ls l)[fnd ls l.k]? = some l := by
  unfold putl
  have h : (ls.take (fnd ls l.k)).length = fnd ls l.k := by rw [List.length_take]; have := fnd_le ls l.k; omega
  rw [List.getElem?_append_right (by omega), h, Nat.sub_self]
  rfl
theorem fnd_put {ls : List L} (l : L) : fnd (putl ls l) l.k = fnd ls l.k := by
  have hL : fnd ls l.k ≤ (putl ls l).length := Nat.le_of_lt (List.getElem?_eq_some_iff.1 (put_at ls l)).1
  refine fnd_of hL (fun i x hi hx => ?_) (fun x hx => ?_)
  · unfold putl at hx
    rw [List.getElem?_append_left (by rw [List.length_take]; have := fnd_le ls l.k; omega)] at hx
    exact take_lo (List.mem_of_getElem? hx)
  · rw [put_at] at hx
    obtain rfl := Option.some.inj hx
    exact key_irr _
theorem isk_put (ls : List L) (l : L) : isk (putl ls l) l.k = true := by
  refine isk_of (fnd_put l) true (fun x hx => ?_) (fun h => ?_)
  · rw [put_at] at hx
    obtain rfl := Option.some.inj hx
    simp
  · have := (List.getElem?_eq_some_iff.1 (put_at ls l)).1
    omega
theorem del_put {ls : List L} {l : L} (hn : isk ls l.k = false) : dell (putl ls l) l.k = ls := by
  unfold dell
  rw [if_pos (isk_put ls l), fnd_put]
  unfold putl
  have h : (ls.take (fnd ls l.k)).length = fnd ls l.k := by rw [List.length_take]; have := fnd_le ls l.k; omega
  rw [hn]
  simp only [Bool.false_eq_true, if_false, Nat.add_zero]
  rw [List.take_append_of_le_length (by omega), List.take_of_length_le (by omega), List.drop_append, h, List.drop_of_length_le (by omega)]
  simp
theorem dell_mem {ls : List L} {key : Nm.S} {x : L} (h : x ∈ dell ls key) : x ∈ ls := by
  unfold dell at h
  split at h
  · rcases List.mem_append.1 h with h | h
    · exact List.mem_of_mem_take h
    · exact List.mem_of_mem_drop h
  · exact h

/-- May lines be, behind a line of such a key? May a sheet? -/
def dwn : Option Nm.S → Nm.S → Bool
  | some q, k => decide (¬ q < k)
  | none, _ => false
def ckl (t : T) : Option Nm.S → List L → Int
  | _, [] => 0
  | p, l :: ls => if t.fit l.r ≠ 0 then t.fit l.r else if t.key l.r ≠ l.k then 4 else if dwn p l.k = true then 13 else ckl t (some l.k) ls
def sck (t : T) (ls : List L) : Int := if t.ck ≠ 0 then t.ck else ckl t none ls
theorem ckl_ok {t : T} : ∀ {ls : List L} {p : Option Nm.S}, ckl t p ls = 0 → (∀ l ∈ ls, t.fit l.r = 0 ∧ t.key l.r = l.k) ∧ Ris ls ∧ ∀ q, p = some q → ∀ l ∈ ls, q < l.k
  | [], p, _ => ⟨fun l h => (List.not_mem_nil h).elim, List.Pairwise.nil, fun q _ l h => (List.not_mem_nil h).elim⟩
  | x :: ls, p, h => by
    rw [ckl] at h
    by_cases h1 : t.fit x.r = 0
    case neg => rw [if_pos h1] at h; exact absurd h h1
    rw [if_neg (fun g => g h1)] at h
    by_cases h2 : t.key x.r = x.k
    case neg => rw [if_pos h2] at h; cases h
    rw [if_neg (fun g => g h2)] at h
    split at h
    · cases h
    · rename_i h3
      obtain ⟨a, b, c⟩ := ckl_ok h
      have hp : ∀ q, p = some q → q < x.k := fun q e => by
        subst e
        simpa [dwn] using h3
      refine ⟨fun l hl => ?_, List.pairwise_cons.2 ⟨fun l hl => c _ rfl l hl, b⟩, fun q e l hl => ?_⟩
      · rcases List.mem_cons.1 hl with rfl | hl
        · exact ⟨h1, h2⟩
        · exact a l hl
      · rcases List.mem_cons.1 hl with rfl | hl
        · exact hp q e
        · exact List.lt_trans (hp q e) (c _ rfl l hl)
theorem ckl_of {t : T} : ∀ {ls : List L} {p : Option Nm.S}, (∀ l ∈ ls, t.fit l.r = 0 ∧ t.key l.r = l.k) → Ris ls → (∀ q, p = some q → ∀ l ∈ ls, q < l.k) → ckl t p ls = 0
  | [], p, _, _, _ => rfl
  | x :: ls, p, a, b, c => by
    have hx := a x (List.mem_cons_self ..)
    rw [ckl, if_neg (fun g => g hx.1), if_neg (fun g => g hx.2), if_neg]
    · have hb := List.pairwise_cons.1 b
      exact ckl_of (fun l hl => a l (List.mem_cons_of_mem _ hl)) hb.2 (fun q e l hl => by
        obtain rfl := Option.some.inj e
        exact hb.1 l hl)
    · cases p with
      | none => simp [dwn]
      | some q =>
        have := c q rfl x (List.mem_cons_self ..)
        simpa [dwn] using this
theorem sck_ok {t : T} {ls : List L} (h : sck t ls = 0) : t.ck = 0 ∧ (∀ l ∈ ls, t.fit l.r = 0 ∧ t.key l.r = l.k) ∧ Ris ls := by
  unfold sck at h
  by_cases h1 : t.ck = 0
  · rw [if_neg (fun g => g h1)] at h
    have := ckl_ok h
    exact ⟨h1, this.1, this.2.1⟩
  · rw [if_pos h1] at h; exact absurd h h1
theorem sck_of {t : T} {ls : List L} (h : t.ck = 0) (a : ∀ l ∈ ls, t.fit l.r = 0 ∧ t.key l.r = l.k) (b : Ris ls) : sck t ls = 0 := by
  unfold sck
  rw [if_neg (fun g => g h)]
  exact ckl_of a b (fun q e => by cases e)
/-- A row put into a sheet that may be: the sheet may be. -/
theorem sck_put {t : T} {ls : List L} {r : List V} (h : sck t ls = 0) (hf : t.fit r = 0) : sck t (putl ls ⟨t.key r, r⟩) = 0 := by
  obtain ⟨h1, h2, h3⟩ := sck_ok h
  refine sck_of h1 (fun l hl => ?_) (put_ris h3 _)
  rcases put_mem hl with rfl | hl
  · exact ⟨hf, rfl⟩
  · exact h2 l hl

/-- Is a key from lo on, ahead of hi? The rows of a sheet there, so many at most. -/
def inr (lo hi : Nm.S) (l : L) : Bool := decide (¬ l.k < lo) && (decide (hi = []) || decide (l.k < hi))
def rgl (ls : List L) (lo hi : Nm.S) (most : Int) : List (List V) := ((ls.filter (inr lo hi)).map L.r).take most.toNat

/-- The lines of two sheets. -/
def mcons (x : L) (r : List L × Int) : List L × Int := if r.2 = 0 then (x :: r.1, 0) else ([], 15)
def mrg : List L → List L → List L × Int
  | a, [] => (a, 0)
  | [], y :: b => (y :: b, 0)
  | x :: a, y :: b => if x.k < y.k then mcons x (mrg a (y :: b)) else if x.k = y.k then ([], 15) else mcons y (mrg (x :: a) b)
termination_by a b => a.length + b.length
theorem mrg_nil (b : List L) : mrg [] b = (b, 0) := by cases b <;> rw [mrg]
theorem mrg_nil' (a : List L) : mrg a [] = (a, 0) := by rw [mrg]
theorem mrg_lt {x y : L} {a b : List L} (h : x.k < y.k) : mrg (x :: a) (y :: b) = mcons x (mrg a (y :: b)) := by rw [mrg, if_pos h]
theorem mrg_eq {x y : L} {a b : List L} (h : x.k = y.k) : mrg (x :: a) (y :: b) = ([], 15) := by rw [mrg, if_neg (by rw [h]; exact key_irr _), if_pos h]
theorem mrg_gt {x y : L} {a b : List L} (h : y.k < x.k) : mrg (x :: a) (y :: b) = mcons y (mrg (x :: a) b) := by
  rw [mrg, if_neg (key_asymm h), if_neg (fun e => key_irr y.k (by rw [e] at h; exact h))]
theorem mcons_2 (x : L) (r : List L × Int) : (mcons x r).2 = 0 ↔ r.2 = 0 := by
  unfold mcons
  by_cases h : r.2 = 0
  · rw [if_pos h]; simp [h]
  · rw [if_neg h]; simp [h]
/-- Merged lines are those of both, and rise; or some key is in both. -/
theorem mrg_ok : ∀ (n : Nat) (a b : List L), a.length + b.length ≤ n → Ris a → Ris b → ((mrg a b).2 = 0 ∧ (mrg a b).1.Perm (a ++ b) ∧ Ris (mrg a b).1 ∧ ∀ x ∈ a, ∀ y ∈ b, x.k ≠ y.k) ∨ (mrg a b = ([], 15) ∧ ∃ x ∈ a, ∃ y ∈ b, x.k = y.k)
  | n, a, [], _, ha, _ => .inl ⟨by rw [mrg_nil'], by rw [mrg_nil']; simp, by rw [mrg_nil']; exact ha, fun x _ y hy => (List.not_mem_nil hy).elim⟩
  | n, [], y :: b, _, _, hb => .inl ⟨by rw [mrg_nil], by rw [mrg_nil]; simp, by rw [mrg_nil]; exact hb, fun x hx => (List.not_mem_nil hx).elim⟩
  | 0, x :: a, y :: b, hn, _, _ => by simp at hn
  | n + 1, x :: a, y :: b, hn, ha, hb => by
    have hA := List.pairwise_cons.1 ha
    have hB := List.pairwise_cons.1 hb
    by_cases h : x.k < y.k
    · rw [mrg_lt h]
      rcases mrg_ok n a (y :: b) (by simp at hn ⊢; omega) hA.2 hb with ⟨h1, h2, h3, h4⟩ | ⟨h1, u, hu, v, hv, e⟩
      · left
        unfold mcons
        rw [if_pos h1]
        refine ⟨rfl, (h2.cons x), List.pairwise_cons.2 ⟨fun z hz => ?_, h3⟩, fun u hu v hv => ?_⟩
        · rcases List.mem_append.1 (h2.mem_iff.1 hz) with hz | hz
          · exact hA.1 z hz
          · rcases List.mem_cons.1 hz with rfl | hz
            · exact h
            · exact List.lt_trans h (hB.1 z hz)
        · rcases List.mem_cons.1 hu with rfl | hu
          · rcases List.mem_cons.1 hv with rfl | hv
            · exact fun e => key_irr _ (e ▸ h)
            · exact fun e => key_irr _ (e ▸ List.lt_trans h (hB.1 v hv))
          · exact h4 u hu v hv
      · right
        refine ⟨?_, u, List.mem_cons_of_mem _ hu, v, hv, e⟩
        unfold mcons
        rw [h1]; rfl
    · by_cases e : x.k = y.k
      · exact .inr ⟨mrg_eq e, x, List.mem_cons_self .., y, List.mem_cons_self .., e⟩
      · have h' := key_or h e
        rw [mrg_gt h']
        rcases mrg_ok n (x :: a) b (by simp at hn ⊢; omega) ha hB.2 with ⟨h1, h2, h3, h4⟩ | ⟨h1, u, hu, v, hv, e⟩
        · left
          unfold mcons
          rw [if_pos h1]
          refine ⟨rfl, (h2.cons y).trans List.perm_middle.symm, List.pairwise_cons.2 ⟨fun z hz => ?_, h3⟩, fun u hu v hv => ?_⟩
          · rcases List.mem_append.1 (h2.mem_iff.1 hz) with hz | hz
            · rcases List.mem_cons.1 hz with rfl | hz
              · exact h'
              · exact List.lt_trans h' (hA.1 z hz)
            · exact hB.1 z hz
          · rcases List.mem_cons.1 hv with rfl | hv
            · rcases List.mem_cons.1 hu with rfl | hu
              · exact e
              · exact fun e => key_irr _ (e ▸ List.lt_trans h' (hA.1 u hu))
            · exact h4 u hu v hv
        · right
          refine ⟨?_, u, hu, v, List.mem_cons_of_mem _ hv, e⟩
          unfold mcons
          rw [h1]; rfl
/-- Rising lists with the same lines are the same. -/
theorem ris_perm {a b : List L} (h : a.Perm b) (ha : Ris a) (hb : Ris b) : a = b :=
  List.Perm.eq_of_pairwise (fun _ _ _ _ h1 h2 => absurd h2 (key_asymm h1)) ha hb h

/-! ### A range, by places -/
def upto (ls : List L) (hi : Nm.S) : Nat := if hi = [] then ls.length else fnd ls hi
theorem upto_le (ls : List L) (hi : Nm.S) : upto ls hi ≤ ls.length := by
  unfold upto
  split
  · exact Nat.le_refl _
  · exact fnd_le _ _
theorem fnd_split {ls : List L} (hr : Ris ls) {key : Nm.S} {i : Nat} (hi : i < ls.length) : ls[i].k < key ↔ i < fnd ls key := by
  constructor
  · intro h
    rcases Nat.lt_or_ge i (fnd ls key) with g | g
    · exact g
    · exfalso
      have hl : fnd ls key < ls.length := by omega
      have h1 := fnd_at hl
      rcases Nat.lt_or_ge (fnd ls key) i with e | e
      · exact h1 (List.lt_trans (List.pairwise_iff_getElem.1 hr _ i hl hi e) h)
      · obtain rfl : i = fnd ls key := by omega
        exact h1 h
  · intro h
    exact (fnd_lo h).2
theorem inr_at {ls : List L} (hr : Ris ls) (lo hi : Nm.S) {i : Nat} (hl : i < ls.length) : inr lo hi ls[i] = true ↔ fnd ls lo ≤ i ∧ i < upto ls hi := by
  unfold inr upto
  by_cases h : hi = []
  · rw [if_pos h, ← Nat.not_lt, ← fnd_split hr hl]
    simp [h, hl]
  · rw [if_neg h, ← Nat.not_lt, ← fnd_split hr hl, ← fnd_split hr hl]
    simp [h]
theorem rgl_is {ls : List L} (hr : Ris ls) (lo hi : Nm.S) (most : Int) : rgl ls lo hi most = ((ls.drop (fnd ls lo)).take (min ((upto ls hi : Int) - (fnd ls lo : Int)) most).toNat).map L.r := by
  have e : ls.filter (inr lo hi) = (ls.drop (fnd ls lo)).take (upto ls hi - fnd ls lo) := by
    have hs : ls = ls.take (fnd ls lo) ++ ((ls.drop (fnd ls lo)).take (upto ls hi - fnd ls lo) ++ (ls.drop (fnd ls lo)).drop (upto ls hi - fnd ls lo)) := by rw [List.take_append_drop, List.take_append_drop]
    have f1 : (ls.take (fnd ls lo)).filter (inr lo hi) = [] := by
      rw [List.filter_eq_nil_iff]
      intro x hx
      obtain ⟨i, hi', rfl⟩ := List.getElem_of_mem hx
      rw [List.length_take] at hi'
      rw [List.getElem_take, inr_at hr lo hi (by omega)]
      omega
    have f2 : ((ls.drop (fnd ls lo)).take (upto ls hi - fnd ls lo)).filter (inr lo hi) = (ls.drop (fnd ls lo)).take (upto ls hi - fnd ls lo) := by
      rw [List.filter_eq_self]
      intro x hx
      obtain ⟨i, hi', rfl⟩ := List.getElem_of_mem hx
      rw [List.length_take, List.length_drop] at hi'
      rw [List.getElem_take, List.getElem_drop, inr_at hr lo hi (by omega)]
      omega
    have f3 : ((ls.drop (fnd ls lo)).drop (upto ls hi - fnd ls lo)).filter (inr lo hi) = [] := by
      rw [List.filter_eq_nil_iff]
      intro x hx
      obtain ⟨i, hi', rfl⟩ := List.getElem_of_mem hx
      rw [List.length_drop, List.length_drop] at hi'
      rw [List.getElem_drop, List.getElem_drop, inr_at hr lo hi (by omega)]
      omega
    have h := congrArg (List.filter (inr lo hi)) hs
    rw [List.filter_append, List.filter_append, f1, f2, f3] at h
    simpa using h
  unfold rgl
  rw [e, ← List.map_take, List.take_take]
  congr 2
  omega
/-- So far: the document's range, line by line. -/
def rgf (ls : List L) (lo hi : Nm.S) (i : Nat) : List (List V) := ((ls.take i).filter (inr lo hi)).map L.r
theorem rgl_stop {ls : List L} {lo hi : Nm.S} {most : Int} {i : Nat} (h1 : (rgf ls lo hi i).length ≤ most.toNat) (h2 : ¬ ((rgf ls lo hi i).length : Int) < most ∨ ls.length ≤ i) : rgl ls lo hi most = rgf ls lo hi i := by
  have e : (ls.filter (inr lo hi)).map L.r = rgf ls lo hi i ++ ((ls.drop i).filter (inr lo hi)).map L.r := by
    unfold rgf
    rw [← List.map_append, ← List.filter_append, List.take_append_drop]
  unfold rgl
  rw [e]
  rcases h2 with h2 | h2
  · rw [List.take_append_of_le_length (by omega), List.take_of_length_le (by omega)]
  · rw [List.drop_of_length_le h2]
    simp only [List.filter_nil, List.map_nil, List.append_nil]
    exact List.take_of_length_le h1

/-! ### Merging, step by step -/
def pst (p : List L) (r : List L × Int) : List L × Int := if r.2 = 0 then (p ++ r.1, 0) else ([], 15)
theorem pst_mcons (p : List L) (x : L) (r : List L × Int) : pst p (mcons x r) = pst (p ++ [x]) r := by
  unfold pst mcons
  by_cases h : r.2 = 0
  · simp [h]
  · simp [h]
theorem mrg_shape : ∀ (n : Nat) (a b : List L), a.length + b.length ≤ n → (mrg a b).2 = 0 ∨ mrg a b = ([], 15)
  | n, a, [], _ => .inl (by rw [mrg_nil'])
  | n, [], y :: b, _ => .inl (by rw [mrg_nil])
  | 0, x :: a, y :: b, hn => by simp at hn
  | n + 1, x :: a, y :: b, hn => by
    by_cases h : x.k < y.k
    · rw [mrg_lt h]
      unfold mcons
      split
      · exact .inl rfl
      · exact .inr rfl
    · by_cases e : x.k = y.k
      · exact .inr (mrg_eq e)
      · rw [mrg_gt (key_or h e)]
        unfold mcons
        split
        · exact .inl rfl
        · exact .inr rfl
theorem pst_nil (a b : List L) : pst [] (mrg a b) = mrg a b := by
  unfold pst
  rcases mrg_shape _ a b (Nat.le_refl _) with h | h
  · rw [if_pos h, List.nil_append, ← h]
  · rw [h]; rfl
theorem pst_end (p b : List L) : pst p (mrg [] b) = (p ++ b, 0) := by rw [mrg_nil]; rfl
theorem pst_end' (p a : List L) : pst p (mrg a []) = (p ++ a, 0) := by rw [mrg_nil']; rfl
theorem pst_lt {p a b : List L} {i j : Nat} (hi : i < a.length) (hj : j < b.length) (h : a[i].k < b[j].k) : pst p (mrg (a.drop i) (b.drop j)) = pst (p ++ [a[i]]) (mrg (a.drop (i + 1)) (b.drop j)) := by
  rw [List.drop_eq_getElem_cons hi, List.drop_eq_getElem_cons hj, mrg_lt h, pst_mcons]
theorem pst_gt {p a b : List L} {i j : Nat} (hi : i < a.length) (hj : j < b.length) (h : b[j].k < a[i].k) : pst p (mrg (a.drop i) (b.drop j)) = pst (p ++ [b[j]]) (mrg (a.drop i) (b.drop (j + 1))) := by
  rw [List.drop_eq_getElem_cons hi, List.drop_eq_getElem_cons hj, mrg_gt h, pst_mcons]
theorem pst_eq {p a b : List L} {i j : Nat} (hi : i < a.length) (hj : j < b.length) (h : a[i].k = b[j].k) : pst p (mrg (a.drop i) (b.drop j)) = ([], 15) := by
  rw [List.drop_eq_getElem_cons hi, List.drop_eq_getElem_cons hj, mrg_eq h]; rfl
/-- A key's order, its ends. -/
theorem ris_step {ls : List L} : Ris ls ↔ ∀ i (h : i + 1 < ls.length), ls[i].k < ls[i + 1].k := by
  constructor
  · intro h i hi
    exact List.pairwise_iff_getElem.1 h i (i + 1) (by omega) hi (by omega)
  · intro h
    refine List.pairwise_iff_getElem.2 fun i j hi hj hij => ?_
    obtain ⟨d, rfl⟩ : ∃ d, j = i + 1 + d := ⟨j - (i + 1), by omega⟩
    clear hij
    induction d with
    | zero => exact h i hj
    | succ d ih => exact List.lt_trans (ih (by omega)) (h (i + 1 + d) hj)
theorem ckl_step {t : T} {p : Option Nm.S} {ls : List L} {j : Nat} (hj : j < ls.length) : ckl t p (ls.drop j) = (if t.fit ls[j].r ≠ 0 then t.fit ls[j].r else if t.key ls[j].r ≠ ls[j].k then 4 else if dwn p ls[j].k = true then 13 else ckl t (some ls[j].k) (ls.drop (j + 1))) := by
  rw [List.drop_eq_getElem_cons hj, ckl]

end Go.Proofs.YtfgakoldedpfoaaDoor
