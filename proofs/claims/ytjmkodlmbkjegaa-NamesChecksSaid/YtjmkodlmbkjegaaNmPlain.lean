/-
  Names and lists of names as plain mathematics: what a name is, where one stands in a list, whether all are unlike, those that are not in another list. No condition.
-/
import Derived.Test.YtjmkodlmbkjegaaBase
namespace Go.Proofs.Ytjmkodlmbkjegaa.Nm

abbrev S := List UInt8

/-- A letter; a digit. -/
def let' (b : UInt8) : Bool := decide (97 ≤ b.toNat) && decide (b.toNat ≤ 122)
def dig (b : UInt8) : Bool := decide (48 ≤ b.toNat) && decide (b.toNat ≤ 57)
/-- What may stand behind the first letter. -/
def more (b : UInt8) : Bool := let' b || dig b || decide (b.toNat = 95)
/-- Why a text is no name: 8, or 0. -/
def ck (s : S) : Int := if s = [] ∨ 16 < s.length ∨ let' (s.headD 0) = false ∨ (s.drop 1).all more = false then 8 else 0

/-- Where a name stands first; -1: nowhere. -/
def fi (l : List S) (s : S) : Int := if s ∈ l then (l.idxOf s : Int) else -1
/-- Are no two alike? -/
def un (l : List S) : Bool := decide l.Nodup
/-- Those that are not in m. -/
def wo (l m : List S) : List S := l.filter (fun s => decide (s ∉ m))

theorem idx_at (l : List S) (s : S) (j : Nat) (hj : j < l.length) (he : l[j] = s) (hn : s ∉ l.take j) : l.idxOf s = j := by
  have hm : s ∈ l := he ▸ List.getElem_mem hj
  have h1 : l.idxOf s < l.length := List.idxOf_lt_length_iff.2 hm
  have h2 : l[l.idxOf s] = s := List.getElem_idxOf h1
  rcases Nat.lt_trichotomy (l.idxOf s) j with h | h | h
  · exact absurd (by rw [← h2, ← List.getElem_take (j := j) (h := by simp; omega)]; exact List.getElem_mem _) hn
  · exact h
  · have e : l = l.take j ++ s :: l.drop (j + 1) := by
      rw [← he, List.getElem_cons_drop, List.take_append_drop]
    have : l.idxOf s = j := by
      conv => lhs; rw [e]
      rw [List.idxOf_append, if_neg hn, List.idxOf_cons_self]
      simp; omega
    omega
theorem fi_at (l : List S) (s : S) (j : Nat) (hj : j < l.length) (he : l[j] = s) (hn : s ∉ l.take j) : fi l s = j := by
  have hm : s ∈ l := he ▸ List.getElem_mem hj
  rw [fi, if_pos hm, idx_at l s j hj he hn]
theorem fi_none (l : List S) (s : S) (hn : s ∉ l) : fi l s = -1 := by rw [fi, if_neg hn]
theorem fi_lo (l : List S) (s : S) : fi l s < 0 ↔ s ∉ l := by
  unfold fi
  split <;> simp_all
theorem take_none {l : List S} {s : S} {j : Nat} (hj : j < l.length) (hn : s ∉ l.take j) (he : l[j] ≠ s) : s ∉ l.take (j + 1) := by
  rw [List.take_succ_eq_append_getElem hj]
  intro h
  rcases List.mem_append.1 h with g | g
  · exact hn g
  · exact he (List.mem_singleton.1 g).symm

/-- The first j are unlike what stands ahead of them. -/
theorem un_next {l : List S} {j : Nat} (hj : j < l.length) (h : (l.take j).Nodup) (he : fi l l[j] = j) : (l.take (j + 1)).Nodup := by
  rw [List.take_succ_eq_append_getElem hj, List.nodup_append]
  refine ⟨h, by simp, ?_⟩
  intro a ha b hb
  obtain rfl := List.mem_singleton.1 hb
  rintro rfl
  obtain ⟨i, hi, hx⟩ := List.getElem_of_mem ha
  simp at hi
  rw [List.getElem_take] at hx
  have hm : l[j] ∈ l := List.getElem_mem hj
  rw [fi, if_pos hm] at he
  have h2 : l.idxOf l[j] ≤ i := by
    have : ¬ i < l.idxOf l[j] := fun g => by
      have e := List.not_of_lt_findIdx (p := (· == l[j])) (xs := l) g
      simp [hx] at e
    omega
  omega
theorem un_stop {l : List S} {j : Nat} (hj : j < l.length) (he : fi l l[j] ≠ j) : un l = false := by
  unfold un
  rw [decide_eq_false_iff_not]
  intro hn
  refine he ?_
  refine fi_at l l[j] j hj rfl ?_
  intro hm
  obtain ⟨i, hi, hx⟩ := List.getElem_of_mem hm
  simp at hi
  rw [List.getElem_take] at hx
  have := (List.getElem_inj (h₀ := by omega) (h₁ := hj) hn).1 hx
  omega

theorem filt {p : S → Bool} {l : List S} {j : Nat} (hj : j < l.length) : (l.take (j + 1)).filter p = (l.take j).filter p ++ (if p l[j] then [l[j]] else []) := by
  rw [List.take_succ_eq_append_getElem hj, List.filter_append]
  congr 1
  cases h : p l[j] <;> simp [h]
theorem wo_in {l m : List S} {j : Nat} (hj : j < l.length) (h : l[j] ∈ m) : wo (l.take (j + 1)) m = wo (l.take j) m := by
  unfold wo; rw [filt hj, if_neg (by simp [h])]; simp
theorem wo_out {l m : List S} {j : Nat} (hj : j < l.length) (h : l[j] ∉ m) : wo (l.take (j + 1)) m = wo (l.take j) m ++ [l[j]] := by
  unfold wo; rw [filt hj, if_pos (by simp [h])]
theorem wo_len (l m : List S) (j : Nat) : (wo (l.take j) m).length ≤ j := by
  have := List.length_filter_le (fun s => decide (s ∉ m)) (l.take j)
  simp at this
  unfold wo
  simp
  omega
/-- How many of l are in m. -/
def gone (l m : List S) : Nat := (l.filter (fun s => decide (s ∈ m))).length
theorem gone_all (l m : List S) : (wo l m).length + gone l m = l.length := by
  induction l with
  | nil => rfl
  | cons x l ih =>
    unfold wo gone at ih ⊢
    rw [List.filter_cons, List.filter_cons]
    by_cases h : x ∈ m
    · rw [if_neg (by simp [h]), if_pos (by simp [h]), List.length_cons, List.length_cons]; omega
    · rw [if_pos (by simp [h]), if_neg (by simp [h]), List.length_cons, List.length_cons]; omega
theorem gone_in {l m : List S} {j : Nat} (hj : j < l.length) (h : l[j] ∈ m) : gone (l.take (j + 1)) m = gone (l.take j) m + 1 := by
  unfold gone; rw [filt hj, if_pos (by simp [h])]; simp
theorem gone_out {l m : List S} {j : Nat} (hj : j < l.length) (h : l[j] ∉ m) : gone (l.take (j + 1)) m = gone (l.take j) m := by
  unfold gone; rw [filt hj, if_neg (by simp [h])]; simp
theorem gone_le (l m : List S) : gone l m ≤ l.length := List.length_filter_le _ _

end Go.Proofs.Ytjmkodlmbkjegaa.Nm
