/-
  Arguments opened, for any stage: slices of elements of any kind. Conditions: the bounds named in each theorem.
-/
import Derived.Test.YtlommgljkjkmkaaGnMem
import Derived.OpenShut
import Derived.ChangeShapes
import Derived.ChangeArms
import Derived.WideShapes
import Derived.Deep.Slices
import Derived.Deep.Fields
import Derived.Carry
import Derived.ProofKit
namespace Go.Proofs.Ytlommgljkjkmkaa.Gn
open Go.ChangeShapes Go.WideShapes Go.ChangeAt Go.RowKit Go.Deep
set_option linter.unusedVariables false
section
variable {H : Type} {enc : TypeId × Value → H} {W : World} {α : Type}
theorem list_of {P : Nat → α → Prop} : ∀ n, (∀ i, i < n → ∃ x, P i x) → ∃ t : List α, t.length = n ∧ ∀ (i : Nat) (x : α), t[i]? = some x → P i x
  | 0, _ => ⟨[], rfl, fun i x h => by simp at h⟩
  | n + 1, h => by
    obtain ⟨t, ht, hx⟩ := list_of n (fun i hi => h i (by omega))
    obtain ⟨y, hy⟩ := h n (by omega)
    refine ⟨t ++ [y], by simp [ht], fun i x hi => ?_⟩
    by_cases g : i < n
    · rw [List.getElem?_append_left (by omega)] at hi
      exact hx i x hi
    · rw [List.getElem?_append_right (by omega)] at hi
      have e : i = n := by
        have := (List.getElem?_eq_some_iff.1 hi).1
        simp at this
        omega
      subst e
      rw [ht, Nat.sub_self] at hi
      obtain rfl : y = x := by simpa using hi
      exact hy
/-- A slice of elements, as an argument. -/
theorem open_sg (E : El α) (Q : α → Prop) (hc : Try.prog.cellsOf E.T = E.n)
    (of : ∀ (fuel : Nat) (cs : List Value) (y : DataW H × List MemPlace), DataW.trod enc Try.prog W 0 (fun _ => true) true fuel E.T cs = some y → ∃ x, cs = E.c x ∧ Q x)
    {ao : Option Addr} {len cap : Nat} {d : DataW H} {p : List MemPlace} (h : DataW.Trod enc Try.prog W 0 (fun _ => true) true E.L (.slice ao len cap) d p) :
    ∃ t : List α, len = t.length ∧ Sg E W ao t ∧ (∀ x ∈ t, Q x) ∧ t.length ≤ cap ∧ (ao = none → cap = 0) := by
  obtain ⟨fuel, hf⟩ := h
  rcases open_slice E.und hf with ⟨hcs, _⟩ | ⟨a, l, c, m, n, D, Pl, hcs, _, hl, _, hm, _, hi⟩
  · simp [Value.cells] at hcs
    obtain ⟨rfl, rfl, rfl⟩ := hcs
    exact ⟨[], rfl, Sg.nil _ _, (fun x hx => by cases hx), Nat.le_refl _, fun _ => rfl⟩
  · simp [Value.cells] at hcs
    obtain ⟨rfl, rfl, rfl⟩ := hcs
    have hlm : len ≤ m := by rw [hm]; simpa using hl
    obtain ⟨t, ht, hx⟩ := list_of (P := fun i x => AtL W (a.add (i * E.n)) (E.c x) ∧ Q x) len (fun i hil => by
      obtain ⟨cs, hcc, htr⟩ := hi i (by omega)
      rw [hc] at hcc
      obtain ⟨x, rfl, hq⟩ := of n cs _ htr
      refine ⟨x, AtL.of fun j u hj => ?_, hq⟩
      rw [(World.cells?_some hcc).2.2 j (by have := (List.getElem?_eq_some_iff.1 hj).1; rwa [E.len] at this)]
      exact hj)
    refine ⟨t, ht.symm, fun i x hix => ⟨a, rfl, (hx i x hix).1⟩, fun x hm => ?_, by rw [ht]; exact hl, fun e => by cases e⟩
    obtain ⟨i, hi', rfl⟩ := List.getElem_of_mem hm
    exact (hx i _ (List.getElem?_eq_getElem hi')).2
end

end Go.Proofs.Ytlommgljkjkmkaa.Gn
