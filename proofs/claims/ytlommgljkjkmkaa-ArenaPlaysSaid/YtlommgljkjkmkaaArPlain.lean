/-
  Plain mathematics of an arena: slots and their tags, as the program keeps them and as the document does. No condition but those named.
-/
import Derived.Test.YtlommgljkjkmkaaRows
namespace Go.Proofs.Ytlommgljkjkmkaa.Gn

structure ASl (β : Type) where
  h : β
  g : Int
  k : Bool
structure Arn (β : Type) where
  most : Nat
  sl : List (ASl β)
  bk : List Nat
section
variable {β : Type} (z : β)
def Arn.room (a : Arn β) : Nat := a.most - a.sl.length + a.bk.length
def Arn.right (a : Arn β) (s g : Int) : Bool := decide (0 ≤ s) && (match a.sl[s.toNat]? with | some x => x.k && x.g == g | none => false)
def Arn.at (a : Arn β) : Nat := match a.bk.getLast? with | some i => i | none => a.sl.length
def Arn.picked (a : Arn β) : Arn β := if a.bk = [] then ⟨a.most, a.sl ++ [⟨z, 0, false⟩], []⟩ else ⟨a.most, a.sl, a.bk.dropLast⟩
def Arn.gen (a : Arn β) : Int := match (a.picked z).sl[a.at]? with | some x => x.g | none => 0
def Arn.take (a : Arn β) (x : β) : Arn β := ⟨a.most, (a.picked z).sl.set a.at ⟨x, a.gen z + 1, true⟩, (a.picked z).bk⟩
def Arn.put (a : Arn β) (s : Nat) (g : Int) (x : β) : Arn β := ⟨a.most, a.sl.set s ⟨x, g, true⟩, a.bk⟩
def Arn.free (a : Arn β) (s : Nat) (g : Int) : Arn β := ⟨a.most, a.sl.set s ⟨z, g, false⟩, a.bk ++ [s]⟩
def Arn.lf (a : Arn β) (i : Nat) : Option (Int × Int) := match a.sl[i]? with | some x => if x.k then some ((i : Int), x.g) else none | none => none
def Arn.lv (a : Arn β) (j : Nat) : List (Int × Int) := (List.range j).filterMap a.lf
def Arn.ok (N : Int) (a : Arn β) : Prop :=
  a.sl.length ≤ a.most ∧ a.most ≤ 4096 ∧ (∀ i ∈ a.bk, ∃ x, a.sl[i]? = some x ∧ x.k = false) ∧ a.bk.Nodup ∧ a.sl.countP (fun x => !x.k) = a.bk.length ∧ ∀ x ∈ a.sl, 0 ≤ x.g ∧ x.g ≤ N
def Arn0 (β : Type) (n : Nat) : Arn β := ⟨n, [], []⟩
variable {z}
theorem Arn.ok_new (n : Nat) (h : n ≤ 4096) : (Arn0 β n).ok 0 := ⟨Nat.zero_le _, h, (fun i hi => by cases hi), List.nodup_nil, rfl, (fun x hx => by cases hx)⟩
theorem Arn.ok.more {a : Arn β} {N M : Int} (h : a.ok N) (hm : N ≤ M) : a.ok M := ⟨h.1, h.2.1, h.2.2.1, h.2.2.2.1, h.2.2.2.2.1, fun x hx => ⟨(h.2.2.2.2.2 x hx).1, by have := (h.2.2.2.2.2 x hx).2; omega⟩⟩
theorem Arn.ok.bk_le {a : Arn β} {N : Int} (h : a.ok N) : a.bk.length ≤ a.sl.length := by rw [← h.2.2.2.2.1]; exact List.countP_le_length
theorem Arn.right_t {a : Arn β} {s g : Int} (h : a.right s g = true) : ∃ (i : Nat) (x : ASl β), s = (i : Int) ∧ a.sl[i]? = some x ∧ x.k = true ∧ x.g = g := by
  unfold Arn.right at h
  rw [Bool.and_eq_true, decide_eq_true_eq] at h
  obtain ⟨h0, h1⟩ := h
  cases hx : a.sl[s.toNat]? with
  | none => rw [hx] at h1; cases h1
  | some x =>
    rw [hx] at h1
    simp only [Bool.and_eq_true, beq_iff_eq] at h1
    exact ⟨s.toNat, x, by omega, hx, h1.1, h1.2⟩
theorem Arn.right_at {a : Arn β} {i : Nat} {x : ASl β} (h : a.sl[i]? = some x) (g : Int) : a.right (i : Int) g = (x.k && x.g == g) := by
  unfold Arn.right
  rw [Int.toNat_natCast, h]
  simp
theorem Arn.right_no {a : Arn β} {s g : Int} (h : s < 0 ∨ (a.sl.length : Int) ≤ s) : a.right s g = false := by
  unfold Arn.right
  rcases h with h | h
  · rw [show decide (0 ≤ s) = false from by rw [decide_eq_false_iff_not]; omega]; rfl
  · rw [List.getElem?_eq_none (by omega)]; simp
/-! ### picking -/
theorem Arn.at_none {a : Arn β} (h : a.bk = []) : a.at = a.sl.length := by unfold Arn.at; rw [h]; rfl
theorem Arn.at_last {a : Arn β} (h : a.bk ≠ []) : a.at = a.bk.getLast h := by unfold Arn.at; rw [List.getLast?_eq_some_getLast h]
theorem Arn.picked_none {a : Arn β} (h : a.bk = []) : a.picked z = ⟨a.most, a.sl ++ [⟨z, 0, false⟩], []⟩ := by unfold Arn.picked; rw [if_pos h]
theorem Arn.picked_last {a : Arn β} (h : a.bk ≠ []) : a.picked z = ⟨a.most, a.sl, a.bk.dropLast⟩ := by unfold Arn.picked; rw [if_neg h]
/-- What the slot to be taken is: not taken, and nothing is ahead of its tag. -/
theorem Arn.ok.slot {a : Arn β} {N : Int} (h : a.ok N) (h0 : 0 ≤ N) : ∃ x, (a.picked z).sl[a.at]? = some x ∧ x.k = false ∧ x.g = a.gen z ∧ 0 ≤ x.g ∧ x.g ≤ N ∧ a.at < 4097 := by
  by_cases hb : a.bk = []
  · refine ⟨⟨z, 0, false⟩, ?_, rfl, ?_, Int.le_refl _, h0, by rw [Arn.at_none hb]; have := h.1; have := h.2.1; omega⟩
    · rw [Arn.at_none hb, Arn.picked_none hb]; simp
    · unfold Arn.gen
      rw [Arn.at_none hb, Arn.picked_none hb]; simp
  · obtain ⟨x, hx, hk⟩ := h.2.2.1 _ (List.getLast_mem hb)
    have hm := List.mem_of_getElem? hx
    refine ⟨x, ?_, hk, ?_, (h.2.2.2.2.2 x hm).1, (h.2.2.2.2.2 x hm).2, ?_⟩
    · rw [Arn.at_last hb, Arn.picked_last hb]; exact hx
    · unfold Arn.gen
      rw [Arn.at_last hb, Arn.picked_last hb, hx]
    · rw [Arn.at_last hb]
      have := (List.getElem?_eq_some_iff.1 hx).1
      have := h.1; have := h.2.1; omega
theorem countP_off {β : Type} {p : β → Bool} {l : List β} {i : Nat} {x y : β} (hi : l[i]? = some x) (hx : p x = false) (hy : p y = true) : (l.set i y).countP p = l.countP p + 1 := by
  obtain ⟨hl, he⟩ := List.getElem?_eq_some_iff.1 hi
  rw [List.countP_set hl, he, hx, hy]
  simp
theorem countP_on {β : Type} {p : β → Bool} {l : List β} {i : Nat} {x y : β} (hi : l[i]? = some x) (hx : p x = true) (hy : p y = false) : (l.set i y).countP p + 1 = l.countP p := by
  obtain ⟨hl, he⟩ := List.getElem?_eq_some_iff.1 hi
  have : 0 < l.countP p := List.countP_pos_iff.2 ⟨x, List.mem_of_getElem? hi, hx⟩
  rw [List.countP_set hl, he, hx, hy]
  simp
  omega
theorem countP_same {β : Type} {p : β → Bool} {l : List β} {i : Nat} {x y : β} (hi : l[i]? = some x) (hx : p x = p y) : (l.set i y).countP p = l.countP p := by
  obtain ⟨hl, he⟩ := List.getElem?_eq_some_iff.1 hi
  cases hp : p x with
  | false => rw [List.countP_set hl, he, ← hx, hp]; simp
  | true =>
    have : 0 < l.countP p := List.countP_pos_iff.2 ⟨x, List.mem_of_getElem? hi, hp⟩
    rw [List.countP_set hl, he, ← hx, hp]; simp; omega
theorem mem_set_of {β : Type} {l : List β} {i : Nat} {y u : β} (h : u ∈ l.set i y) : u = y ∨ u ∈ l := by
  rcases List.mem_or_eq_of_mem_set h with h | h
  · exact .inr h
  · exact .inl h
theorem Arn.ok.picked {a : Arn β} {N : Int} (h : a.ok N) (h0 : 0 ≤ N) (hr : a.room ≠ 0) : (a.picked z).sl.length ≤ a.most ∧ (∀ i ∈ (a.picked z).bk, i ≠ a.at ∧ ∃ x, (a.picked z).sl[i]? = some x ∧ x.k = false) ∧ (a.picked z).bk.Nodup ∧ (a.picked z).sl.countP (fun x => !x.k) = (a.picked z).bk.length + 1 ∧ ∀ x ∈ (a.picked z).sl, 0 ≤ x.g ∧ x.g ≤ N := by
  by_cases hb : a.bk = []
  · rw [Arn.picked_none hb]
    refine ⟨?_, (fun i hi => by cases hi), List.nodup_nil, ?_, ?_⟩
    · unfold Arn.room at hr; rw [hb] at hr; simp at hr ⊢; omega
    · have := h.2.2.2.2.1; rw [hb] at this; simp [List.countP_append, this]
    · intro x hx
      rcases List.mem_append.1 hx with hx | hx
      · exact h.2.2.2.2.2 x hx
      · obtain rfl := List.mem_singleton.1 hx
        exact ⟨Int.le_refl _, h0⟩
  · rw [Arn.picked_last hb]
    have hs : a.bk.dropLast ++ [a.bk.getLast hb] = a.bk := List.dropLast_concat_getLast hb
    have hn : (a.bk.dropLast ++ [a.bk.getLast hb]).Nodup := by rw [hs]; exact h.2.2.2.1
    rw [List.nodup_append] at hn
    refine ⟨h.1, fun i hi => ⟨fun e => ?_, h.2.2.1 i (List.dropLast_subset _ hi)⟩, hn.1, ?_, h.2.2.2.2.2⟩
    · rw [Arn.at_last hb] at e
      exact hn.2.2 i hi _ (List.mem_singleton.2 rfl) e
    · have := h.2.2.2.2.1
      have hl : a.bk.length ≠ 0 := fun e => hb (List.eq_nil_of_length_eq_zero e)
      simp only [List.length_dropLast]
      omega
theorem Arn.ok.take {a : Arn β} {N : Int} (h : a.ok N) (h0 : 0 ≤ N) (hr : a.room ≠ 0) (x : β) : (a.take z x).ok (N + 1) := by
  obtain ⟨y, hy, hk, hg, g0, g1, _⟩ := h.slot (z := z) h0
  obtain ⟨p1, p2, p3, p4, p5⟩ := h.picked (z := z) h0 hr
  unfold Arn.take
  refine ⟨by simp only [List.length_set]; exact p1, h.2.1, ?_, p3, ?_, ?_⟩
  · intro i hi
    obtain ⟨hne, u, hu, hu'⟩ := p2 i hi
    exact ⟨u, by simp only [List.getElem?_set_ne (Ne.symm hne)]; exact hu, hu'⟩
  · have := countP_on (p := fun x : ASl β => !x.k) (y := ⟨x, a.gen z + 1, true⟩) hy (by simp [hk]) (by simp)
    simp only at this ⊢
    omega
  · intro u hu
    rcases mem_set_of hu with rfl | hu
    · exact ⟨by simp only; omega, by simp only; omega⟩
    · have := p5 u hu
      exact ⟨this.1, by omega⟩
theorem Arn.ok.put {a : Arn β} {N : Int} (h : a.ok N) {i : Nat} {y : ASl β} (hi : a.sl[i]? = some y) (hk : y.k = true) (x : β) : (a.put i y.g x).ok N := by
  unfold Arn.put
  refine ⟨by simp only [List.length_set]; exact h.1, h.2.1, ?_, h.2.2.2.1, ?_, ?_⟩
  · intro j hj
    obtain ⟨u, hu, hu'⟩ := h.2.2.1 j hj
    have hne : i ≠ j := fun e => by subst e; rw [hi] at hu; cases hu; rw [hk] at hu'; cases hu'
    exact ⟨u, by simp only [List.getElem?_set_ne hne]; exact hu, hu'⟩
  · rw [← h.2.2.2.2.1]
    exact countP_same hi (by simp [hk])
  · intro u hu
    rcases mem_set_of hu with rfl | hu
    · exact h.2.2.2.2.2 y (List.mem_of_getElem? hi)
    · exact h.2.2.2.2.2 u hu
theorem Arn.ok.free {a : Arn β} {N : Int} (h : a.ok N) {i : Nat} {y : ASl β} (hi : a.sl[i]? = some y) (hk : y.k = true) : (a.free z i y.g).ok N := by
  have hnot : ∀ j ∈ a.bk, i ≠ j := fun j hj e => by
    subst e
    obtain ⟨u, hu, hu'⟩ := h.2.2.1 i hj
    rw [hi] at hu; cases hu; rw [hk] at hu'; cases hu'
  unfold Arn.free
  refine ⟨by simp only [List.length_set]; exact h.1, h.2.1, ?_, ?_, ?_, ?_⟩
  · intro j hj
    rcases List.mem_append.1 hj with hj | hj
    · obtain ⟨u, hu, hu'⟩ := h.2.2.1 j hj
      exact ⟨u, by simp only [List.getElem?_set_ne (hnot j hj)]; exact hu, hu'⟩
    · obtain rfl := List.mem_singleton.1 hj
      exact ⟨_, List.getElem?_set_self (List.getElem?_eq_some_iff.1 hi).1, rfl⟩
  · rw [List.nodup_append]
    exact ⟨h.2.2.2.1, by simp, fun u hu v hv => by obtain rfl := List.mem_singleton.1 hv; exact fun e => hnot u hu e.symm⟩
  · rw [List.length_append]
    have := countP_off (p := fun x : ASl β => !x.k) (y := ⟨z, y.g, false⟩) hi (by simp [hk]) (by simp)
    have h5 := h.2.2.2.2.1
    simp only [List.length_singleton] at this ⊢
    omega
  · intro u hu
    rcases mem_set_of hu with rfl | hu
    · exact h.2.2.2.2.2 y (List.mem_of_getElem? hi)
    · exact h.2.2.2.2.2 u hu
/-! ### Those that are taken -/
theorem Arn.lv_succ (a : Arn β) (j : Nat) : a.lv (j + 1) = a.lv j ++ (match a.lf j with | some r => [r] | none => []) := by
  unfold Arn.lv
  rw [List.range_succ, List.filterMap_append]
  congr 1
  cases h : a.lf j <;> simp [h]
theorem Arn.lv_len (a : Arn β) (j : Nat) : (a.lv j).length ≤ j := by
  unfold Arn.lv
  have := List.length_filterMap_le a.lf (List.range j)
  simpa using this
theorem Arn.lv_more (a : Arn β) (k : Nat) : a.lv (a.sl.length + k) = a.lv a.sl.length := by
  induction k with
  | zero => rfl
  | succ k ih =>
    rw [← Nat.add_assoc, Arn.lv_succ, ih]
    have : a.lf (a.sl.length + k) = none := by unfold Arn.lf; rw [List.getElem?_eq_none (by omega)]
    rw [this]; simp
theorem Arn.lv_count (a : Arn β) : ∀ j, j ≤ a.sl.length → (a.lv j).length = (a.sl.take j).countP (fun x => x.k)
  | 0, _ => rfl
  | j + 1, h => by
    have ih := Arn.lv_count a j (by omega)
    have hj : j < a.sl.length := by omega
    rw [Arn.lv_succ, List.length_append, ih, List.take_succ_eq_append_getElem hj, List.countP_append]
    unfold Arn.lf
    rw [List.getElem?_eq_getElem hj]
    cases hk : a.sl[j].k <;> simp [hk]
theorem count_two {β : Type} (l : List (ASl β)) : l.countP (fun x => x.k) + l.countP (fun x => !x.k) = l.length := by
  induction l with
  | nil => rfl
  | cons x l ih => cases hk : x.k <;> simp [hk] <;> omega
theorem Arn.ok.live_len {a : Arn β} {N : Int} (h : a.ok N) : (a.lv a.sl.length).length + a.bk.length = a.sl.length := by
  rw [Arn.lv_count a _ (Nat.le_refl _), List.take_length]
  have := count_two a.sl
  have := h.2.2.2.2.1
  omega
end

/-! ### The document's -/
structure Dc where
  gens : List Int
  taken : List Bool
  back : List Nat
  ever : Nat
def Dc.room (d : Dc) : Nat := d.taken.countP (fun b => !b)
def Dc.right (d : Dc) (s g : Int) : Bool := decide (0 ≤ s) && (match d.taken[s.toNat]?, d.gens[s.toNat]? with | some k, some x => k && x == g | _, _ => false)
def Dc.at (d : Dc) : Nat := match d.back.getLast? with | some i => i | none => d.ever
def Dc.gen (d : Dc) : Int := match d.gens[d.at]? with | some x => x | none => 0
def Dc.take (d : Dc) : Dc := ⟨d.gens.set d.at (d.gen + 1), d.taken.set d.at true, d.back.dropLast, if d.back = [] then d.ever + 1 else d.ever⟩
def Dc.free (d : Dc) (s : Nat) : Dc := ⟨d.gens, d.taken.set s false, d.back ++ [s], d.ever⟩
def Dc.lf (d : Dc) (i : Nat) : Option (Int × Int) := match d.taken[i]?, d.gens[i]? with | some k, some x => if k then some ((i : Int), x) else none | _, _ => none
def Dc.lv (d : Dc) (j : Nat) : List (Int × Int) := (List.range j).filterMap d.lf
def Dc0 (n : Nat) : Dc := ⟨List.replicate n 0, List.replicate n false, [], 0⟩
theorem Dc.lv_succ (a : Dc) (j : Nat) : a.lv (j + 1) = a.lv j ++ (match a.lf j with | some r => [r] | none => []) := by
  unfold Dc.lv
  rw [List.range_succ, List.filterMap_append]
  congr 1
  cases h : a.lf j <;> simp [h]
theorem Dc.lv_len (a : Dc) (j : Nat) : (a.lv j).length ≤ j := by
  unfold Dc.lv
  have := List.length_filterMap_le a.lf (List.range j)
  simpa using this
section
variable {β : Type} {z : β}
def Arn.doc (a : Arn β) : Dc := ⟨a.sl.map (·.g) ++ List.replicate (a.most - a.sl.length) 0, a.sl.map (·.k) ++ List.replicate (a.most - a.sl.length) false, a.bk, a.sl.length⟩
theorem doc_new (n : Nat) : (Arn0 β n).doc = Dc0 n := by simp [Arn.doc, Arn0, Dc0]
theorem Arn.doc_gens (a : Arn β) {i : Nat} {x : ASl β} (h : a.sl[i]? = some x) : a.doc.gens[i]? = some x.g := by
  have hl := (List.getElem?_eq_some_iff.1 h).1
  show (a.sl.map (·.g) ++ _)[i]? = _
  rw [List.getElem?_append_left (by simpa using hl), List.getElem?_map, h]; rfl
theorem Arn.doc_taken (a : Arn β) {i : Nat} {x : ASl β} (h : a.sl[i]? = some x) : a.doc.taken[i]? = some x.k := by
  have hl := (List.getElem?_eq_some_iff.1 h).1
  show (a.sl.map (·.k) ++ _)[i]? = _
  rw [List.getElem?_append_left (by simpa using hl), List.getElem?_map, h]; rfl
theorem Arn.doc_gens' (a : Arn β) {i : Nat} (h : a.sl.length ≤ i) (hm : i < a.most) : a.doc.gens[i]? = some 0 := by
  show (a.sl.map (·.g) ++ _)[i]? = _
  rw [List.getElem?_append_right (by simpa using h), List.getElem?_replicate]; simp; omega
theorem Arn.doc_taken' (a : Arn β) {i : Nat} (h : a.sl.length ≤ i) : a.doc.taken[i]? = some false ∨ a.doc.taken[i]? = none := by
  show (a.sl.map (·.k) ++ _)[i]? = _ ∨ (a.sl.map (·.k) ++ _)[i]? = _
  rw [List.getElem?_append_right (by simpa using h), List.getElem?_replicate]
  split <;> simp
theorem Arn.doc_len (a : Arn β) (h : a.sl.length ≤ a.most) : a.doc.gens.length = a.most ∧ a.doc.taken.length = a.most := by
  constructor <;> simp [Arn.doc] <;> omega
theorem Arn.ok.doc_room {a : Arn β} {N : Int} (h : a.ok N) : a.doc.room = a.room := by
  unfold Dc.room Arn.doc Arn.room
  simp only [List.countP_append, List.countP_map, List.countP_replicate]
  have := h.2.2.2.2.1
  have e : ((fun b => !b) ∘ fun x : ASl β => x.k) = fun x => !x.k := rfl
  rw [e, this]
  simp
  omega
theorem doc_right {a : Arn β} (s g : Int) : a.doc.right s g = a.right s g := by
  unfold Dc.right Arn.right
  congr 1
  cases h : a.sl[s.toNat]? with
  | some x => rw [Arn.doc_taken a h, Arn.doc_gens a h]
  | none =>
    have hl := List.getElem?_eq_none_iff.1 h
    rcases Arn.doc_taken' a hl with e | e
    · rw [e]; cases a.doc.gens[s.toNat]? <;> rfl
    · rw [e]
theorem doc_lf (a : Arn β) (i : Nat) : a.doc.lf i = a.lf i := by
  unfold Dc.lf Arn.lf
  cases h : a.sl[i]? with
  | some x => rw [Arn.doc_taken a h, Arn.doc_gens a h]
  | none =>
    have hl := List.getElem?_eq_none_iff.1 h
    rcases Arn.doc_taken' a hl with e | e
    · rw [e]; cases a.doc.gens[i]? <;> rfl
    · rw [e]
theorem Arn.ok.doc_live {a : Arn β} {N : Int} (h : a.ok N) : a.doc.lv a.most = a.lv a.sl.length := by
  have e : a.doc.lf = a.lf := funext (doc_lf a)
  unfold Dc.lv
  rw [e]
  have := Arn.lv_more a (a.most - a.sl.length)
  rw [show a.sl.length + (a.most - a.sl.length) = a.most by have := h.1; omega] at this
  exact this
theorem doc_at (a : Arn β) : a.doc.at = a.at := rfl
theorem Arn.ok.doc_gen {a : Arn β} {N : Int} (h : a.ok N) (h0 : 0 ≤ N) (hr : a.room ≠ 0) : a.doc.gen = a.gen z := by
  unfold Dc.gen
  rw [doc_at]
  by_cases hb : a.bk = []
  · rw [Arn.at_none hb, Arn.doc_gens' a (Nat.le_refl _) (by unfold Arn.room at hr; rw [hb] at hr; simp at hr; omega)]
    unfold Arn.gen
    rw [Arn.at_none hb, Arn.picked_none hb]; simp
  · obtain ⟨x, hx, hk, hg, _⟩ := h.slot (z := z) h0
    rw [Arn.picked_last hb] at hx
    rw [Arn.doc_gens a hx, ← hg]
theorem set_map_app {γ δ : Type} (f : γ → δ) (l : List γ) (r : List δ) (i : Nat) (y : γ) (h : i < l.length) : (l.map f ++ r).set i (f y) = (l.set i y).map f ++ r := by
  rw [List.set_append_left _ _ (by simpa using h), List.map_set]
theorem Arn.ok.doc_take {a : Arn β} {N : Int} (h : a.ok N) (h0 : 0 ≤ N) (hr : a.room ≠ 0) (x : β) : (a.take z x).doc = a.doc.take := by
  have hgen := h.doc_gen (z := z) h0 hr
  unfold Dc.take
  rw [hgen, doc_at]
  by_cases hb : a.bk = []
  · have hlt : a.sl.length < a.most := by unfold Arn.room at hr; rw [hb] at hr; simp at hr; omega
    have e1 : (a.sl ++ [(⟨z, 0, false⟩ : ASl β)]).set a.sl.length ⟨x, a.gen z + 1, true⟩ = a.sl ++ [⟨x, a.gen z + 1, true⟩] := by
      rw [List.set_append_right _ _ (Nat.le_refl _)]; simp
    have e2 : a.most - a.sl.length = (a.most - (a.sl.length + 1)) + 1 := by omega
    unfold Arn.take
    rw [Arn.picked_none hb, Arn.at_none hb]
    simp only [e1]
    unfold Arn.doc
    simp only [List.map_append, List.map_cons, List.map_nil, List.length_append, List.length_cons, List.length_nil, Nat.zero_add, hb, List.dropLast_nil, if_true]
    rw [e2, List.replicate_succ, List.replicate_succ, List.set_append_right _ _ (by simp), List.set_append_right _ _ (by simp)]
    simp
  · have hlt : a.at < a.sl.length := by
      obtain ⟨y, hy, _⟩ := h.slot (z := z) h0
      rw [Arn.picked_last hb] at hy
      exact (List.getElem?_eq_some_iff.1 hy).1
    unfold Arn.take
    rw [Arn.picked_last hb]
    unfold Arn.doc
    simp only [List.length_set]
    rw [← set_map_app (fun x : ASl β => x.g) a.sl _ a.at ⟨x, a.gen z + 1, true⟩ hlt, ← set_map_app (fun x : ASl β => x.k) a.sl _ a.at ⟨x, a.gen z + 1, true⟩ hlt, if_neg hb]
theorem doc_free {a : Arn β} {i : Nat} {y : ASl β} (hi : a.sl[i]? = some y) : (a.free z i y.g).doc = a.doc.free i := by
  have hlt := (List.getElem?_eq_some_iff.1 hi).1
  unfold Arn.free Dc.free Arn.doc
  simp only [List.length_set]
  rw [← set_map_app (fun x : ASl β => x.g) a.sl _ i ⟨z, y.g, false⟩ hlt, ← set_map_app (fun x : ASl β => x.k) a.sl _ i ⟨z, y.g, false⟩ hlt]
  have e : (a.sl.map (fun x => x.g) ++ List.replicate (a.most - a.sl.length) (0 : Int)).set i y.g = a.sl.map (fun x => x.g) ++ List.replicate (a.most - a.sl.length) (0 : Int) := by
    apply List.ext_getElem?
    intro j
    by_cases hj : i = j
    · subst hj
      rw [List.getElem?_set_self (by simp; omega)]
      exact (Arn.doc_gens a hi).symm
    · rw [List.getElem?_set_ne hj]
  simp only [e]
theorem doc_put {a : Arn β} {i : Nat} {y : ASl β} (hi : a.sl[i]? = some y) (hk : y.k = true) (x : β) : (a.put i y.g x).doc = a.doc := by
  have hlt := (List.getElem?_eq_some_iff.1 hi).1
  have e : ∀ (γ : Type) (f : ASl β → γ), f ⟨x, y.g, true⟩ = f y → (a.sl.set i ⟨x, y.g, true⟩).map f = a.sl.map f := by
    intro γ f hf
    apply List.ext_getElem?
    intro j
    rw [List.getElem?_map, List.getElem?_map]
    by_cases hj : i = j
    · subst hj
      rw [List.getElem?_set_self hlt, hi]
      simp [hf]
    · rw [List.getElem?_set_ne hj]
  unfold Arn.put Arn.doc
  simp only [List.length_set]
  rw [e _ (·.g) rfl, e _ (·.k) hk.symm]
end

end Go.Proofs.Ytlommgljkjkmkaa.Gn
