/-
  Plain mathematics of the law ArenaOnce: refs that were given, and those that are right. No condition but those named.
-/
import Derived.Test.YtlommgljkjkmkaaArPlain
namespace Go.Proofs.Ytlommgljkjkmkaa.Gn

/-- What was given is of slots that are there, and no tag is ahead of its slot's; those that live are right, each of its own slot, as many as are taken. -/
def OInv (a : Arn Int) (al lv : List (Int × Int)) (n : Nat) : Prop :=
  a.ok (n : Int) ∧ (∀ r ∈ al, ∃ (k : Nat) (x : ASl Int), r.1 = (k : Int) ∧ a.sl[k]? = some x ∧ r.2 ≤ x.g) ∧ (∀ r ∈ lv, a.right r.1 r.2 = true) ∧ (lv.map (·.1)).Nodup ∧ lv.length + a.bk.length = a.sl.length ∧ al.length ≤ n ∧ lv.length ≤ n
theorem OInv.new (m : Nat) (h : m ≤ 4096) : OInv (Arn0 Int m) [] [] 0 := ⟨Arn.ok_new m h, (fun r hr => by cases hr), (fun r hr => by cases hr), List.nodup_nil, rfl, Nat.le_refl _, Nat.le_refl _⟩
theorem OInv.full {a : Arn Int} {al lv : List (Int × Int)} {n : Nat} (h : OInv a al lv n) : OInv a al lv (n + 1) :=
  ⟨h.1.more (by omega), h.2.1, h.2.2.1, h.2.2.2.1, h.2.2.2.2.1, Nat.le_succ_of_le h.2.2.2.2.2.1, Nat.le_succ_of_le h.2.2.2.2.2.2⟩
theorem take_sl {a : Arn Int} {N : Int} (h : a.ok N) (h0 : 0 ≤ N) (x : Int) {k : Nat} {y : ASl Int} (hk : a.sl[k]? = some y) : (k ≠ a.at → (a.take 0 x).sl[k]? = some y) ∧ (k = a.at → y.k = false ∧ y.g = a.gen 0) := by
  obtain ⟨z, hz, zk, zg, _⟩ := h.slot (z := (0 : Int)) h0
  have hp : (a.picked 0).sl[k]? = some y := by
    unfold Arn.picked
    split
    · show (a.sl ++ _)[k]? = _
      rw [List.getElem?_append_left (List.getElem?_eq_some_iff.1 hk).1]; exact hk
    · exact hk
  refine ⟨fun hne => ?_, fun e => ?_⟩
  · unfold Arn.take
    show ((a.picked 0).sl.set a.at _)[k]? = _
    rw [List.getElem?_set_ne (Ne.symm hne)]; exact hp
  · rw [e, hz] at hp
    cases hp
    exact ⟨zk, zg⟩
theorem take_at {a : Arn Int} {N : Int} (h : a.ok N) (h0 : 0 ≤ N) (x : Int) : (a.take 0 x).sl[a.at]? = some ⟨x, a.gen 0 + 1, true⟩ := by
  obtain ⟨z, hz, _⟩ := h.slot (z := (0 : Int)) h0
  unfold Arn.take
  show ((a.picked 0).sl.set a.at _)[a.at]? = _
  rw [List.getElem?_set_self (List.getElem?_eq_some_iff.1 hz).1]
theorem take_len {a : Arn Int} {x : Int} : (a.take 0 x).sl.length + a.bk.length = a.sl.length + (a.take 0 x).bk.length + 1 := by
  unfold Arn.take Arn.picked
  by_cases hb : a.bk = []
  · rw [if_pos hb, hb]; simp
  · rw [if_neg hb]
    have : a.bk.length ≠ 0 := fun e => hb (List.eq_nil_of_length_eq_zero e)
    simp
    omega
theorem OInv.take {a : Arn Int} {al lv : List (Int × Int)} {n : Nat} (h : OInv a al lv n) (hr : a.room ≠ 0) (x : Int) :
    OInv (a.take 0 x) (al ++ [((a.at : Int), a.gen 0 + 1)]) (lv ++ [((a.at : Int), a.gen 0 + 1)]) (n + 1) ∧ ∀ r ∈ al, r ≠ ((a.at : Int), a.gen 0 + 1) := by
  obtain ⟨hok, h1, h2, h3, h4, h5, h6⟩ := h
  have h0 : (0 : Int) ≤ (n : Int) := by omega
  have hat := take_at hok h0 x
  have gpos : ∀ r ∈ lv, ∃ (k : Nat) (y : ASl Int), r.1 = (k : Int) ∧ a.sl[k]? = some y ∧ y.k = true ∧ y.g = r.2 ∧ k ≠ a.at := fun r hr => by
    obtain ⟨k, y, e1, e2, e3, e4⟩ := Arn.right_t (h2 r hr)
    refine ⟨k, y, e1, e2, e3, e4, fun e => ?_⟩
    have := ((take_sl hok h0 x e2).2 e).1
    rw [e3] at this; cases this
  refine ⟨⟨?_, ?_, ?_, ?_, ?_, ?_, ?_⟩, ?_⟩
  · have := hok.take (z := (0 : Int)) h0 hr x
    exact this
  · intro r hr
    rcases List.mem_append.1 hr with hr | hr
    · obtain ⟨k, y, e1, e2, e3⟩ := h1 r hr
      by_cases hk : k = a.at
      · subst hk
        exact ⟨_, _, e1, hat, by have := ((take_sl hok h0 x e2).2 rfl).2; simp only; omega⟩
      · exact ⟨k, y, e1, (take_sl hok h0 x e2).1 hk, e3⟩
    · obtain rfl := List.mem_singleton.1 hr
      exact ⟨_, _, rfl, hat, Int.le_refl _⟩
  · intro r hr
    rcases List.mem_append.1 hr with hr | hr
    · obtain ⟨k, y, e1, e2, e3, e4, e5⟩ := gpos r hr
      rw [e1, Arn.right_at ((take_sl hok h0 x e2).1 e5), e3, e4]; simp
    · obtain rfl := List.mem_singleton.1 hr
      rw [Arn.right_at hat]; simp
  · rw [List.map_append, List.nodup_append]
    refine ⟨h3, by simp, fun u hu v hv => ?_⟩
    obtain rfl := List.mem_singleton.1 hv
    obtain ⟨r, hr, rfl⟩ := List.mem_map.1 hu
    obtain ⟨k, y, e1, _, _, _, e5⟩ := gpos r hr
    simp only [e1]
    intro e
    exact e5 (by omega)
  · rw [List.length_append]
    have := take_len (a := a) (x := x)
    simp only [List.length_singleton]
    omega
  · simp; omega
  · simp; omega
  · intro r hr e
    obtain ⟨k, y, e1, e2, e3⟩ := h1 r hr
    rw [e] at e1 e3
    simp only at e1 e3
    have ek : k = a.at := by omega
    have := ((take_sl hok h0 x e2).2 ek).2
    omega
theorem OInv.free {a : Arn Int} {al lv : List (Int × Int)} {n : Nat} {r : Int × Int} (h : OInv a al (r :: lv) n) :
    ∃ (k : Nat) (y : ASl Int), r.1 = (k : Int) ∧ a.sl[k]? = some y ∧ y.k = true ∧ y.g = r.2 ∧ OInv (a.free 0 k y.g) al lv (n + 1) ∧ (a.free 0 k y.g).right r.1 r.2 = false := by
  obtain ⟨hok, h1, h2, h3, h4, h5, h6⟩ := h
  obtain ⟨k, y, e1, e2, e3, e4⟩ := Arn.right_t (h2 r (List.mem_cons_self ..))
  have hlt := (List.getElem?_eq_some_iff.1 e2).1
  have hself : (a.free 0 k y.g).sl[k]? = some ⟨0, y.g, false⟩ := by
    unfold Arn.free
    show (a.sl.set k _)[k]? = _
    rw [List.getElem?_set_self hlt]
  have hoth : ∀ j, j ≠ k → (a.free 0 k y.g).sl[j]? = a.sl[j]? := fun j hj => by
    unfold Arn.free
    show (a.sl.set k _)[j]? = _
    rw [List.getElem?_set_ne (Ne.symm hj)]
  rw [List.map_cons, List.nodup_cons] at h3
  refine ⟨k, y, e1, e2, e3, e4, ⟨(hok.free (z := (0 : Int)) e2 e3).more (by omega), ?_, ?_, h3.2, ?_, by omega, by simp only [List.length_cons] at h6; omega⟩, ?_⟩
  · intro q hq
    obtain ⟨j, u, q1, q2, q3⟩ := h1 q hq
    by_cases hj : j = k
    · subst hj
      rw [e2] at q2
      cases q2
      exact ⟨_, _, q1, hself, q3⟩
    · exact ⟨j, u, q1, (hoth j hj).trans q2, q3⟩
  · intro q hq
    obtain ⟨j, u, q1, q2, q3, q4⟩ := Arn.right_t (h2 q (List.mem_cons_of_mem _ hq))
    have hj : j ≠ k := fun e => h3.1 (by
      rw [e1, ← e, ← q1]
      exact List.mem_map.2 ⟨q, hq, rfl⟩)
    rw [q1, Arn.right_at ((hoth j hj).trans q2), q3, q4]; simp
  · have hb : (a.free 0 k y.g).bk.length = a.bk.length + 1 := by simp [Arn.free]
    have hs : (a.free 0 k y.g).sl.length = a.sl.length := by simp [Arn.free]
    rw [hb, hs]
    simp only [List.length_cons] at h4
    omega
  · rw [e1, Arn.right_at hself]; rfl
theorem OInv.live {a : Arn Int} {al lv : List (Int × Int)} {n : Nat} (h : OInv a al lv n) : (a.lv a.sl.length).length = lv.length := by
  have := h.1.live_len
  have := h.2.2.2.2.1
  omega

end Go.Proofs.Ytlommgljkjkmkaa.Gn
