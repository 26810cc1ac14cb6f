/-
  Tables as an argument, opened. Conditions: none.
-/
import Derived.Test.YtdonmbmahcjfbaaGreatDoorTfOpen
namespace Go.Proofs.YtdonmbmahcjfbaaGreatDoor
open Go.ChangeShapes Go.WideShapes Go.ChangeAt Go.RowKit Go.Joins Go.Deep

theorem tlist_of {P : Nat → TV → Prop} : ∀ (n : Nat), (∀ i, i < n → ∃ x, P i x) → ∃ xs : List TV, xs.length = n ∧ ∀ (i : Nat) (x : TV), xs[i]? = some x → P i x
  | 0, _ => ⟨[], rfl, fun i x h => by simp at h⟩
  | n + 1, h => by
    obtain ⟨xs, hl, hx⟩ := tlist_of n (fun i hi => h i (by omega))
    obtain ⟨y, hy⟩ := h n (by omega)
    refine ⟨xs ++ [y], by simp [hl], fun i x hi => ?_⟩
    by_cases g : i < n
    · rw [List.getElem?_append_left (by omega)] at hi
      exact hx i x hi
    · rw [List.getElem?_append_right (by omega)] at hi
      have e : i = n := by
        have := (List.getElem?_eq_some_iff.1 hi).1
        simp at this
        omega
      subst e
      rw [hl, Nat.sub_self] at hi
      obtain rfl : y = x := by simpa using hi
      exact hy
section
variable {H : Type} {enc : TypeId × Value → H} {W : World}
/-- A slice of tables. -/
theorem open_tables {ao : Option Addr} {len cap : Nat} {d : DataW H} {p : List MemPlace} (h : DataW.Trod enc Tryz.prog W 0 (fun _ => true) true 54 (.slice ao len cap) d p) :
    ∃ l : List TV, len = l.length ∧ SlV W ao l ∧ Fit W l := by
  obtain ⟨fuel, hf⟩ := h
  rcases open_slice Tryz.underlying54 hf with ⟨hcs, _⟩ | ⟨a, l, c, m, n, D, Pl, hcs, _, hl, _, hm, _, hi⟩
  · simp [Value.cells] at hcs
    obtain ⟨rfl, rfl, rfl⟩ := hcs
    exact ⟨[], rfl, SlV.nil _ _, Fit.nil _⟩
  · simp [Value.cells] at hcs
    obtain ⟨rfl, rfl, rfl⟩ := hcs
    have hlm : len ≤ m := by rw [hm]; simpa using hl
    obtain ⟨xs, hx, hp⟩ := tlist_of (P := fun i y => AtT W (a.add (i * 3)) y ∧ At3 W y.t y.ao y.cap) len (fun i hil => by
      obtain ⟨cs, hc, ht⟩ := hi i (by omega)
      rw [show Tryz.prog.cellsOf 24 = 3 from by kernel_rfl] at hc
      obtain ⟨_, hcl, cell⟩ := World.cells?_some hc
      have h0 := cell 0 (by decide)
      have h1 := cell 1 (by decide)
      have h2 := cell 2 (by decide)
      match cs, hcl with
      | [c0, c1, c2], _ =>
        obtain ⟨t, bo, bc, rfl, rfl, rfl, at3⟩ := table_of ht
        refine ⟨⟨t, bo, bc⟩, ⟨?_, ?_, ?_⟩, at3⟩
        · simpa [Addr.add] using h0
        · simpa [Addr.add] using h1
        · simpa [Addr.add] using h2)
    subst hx
    refine ⟨xs, rfl, fun i y hy => ⟨a, rfl, (hp i y hy).1⟩, fun y hy => ?_⟩
    obtain ⟨i, hi', rfl⟩ := List.getElem_of_mem hy
    exact (hp i _ (List.getElem?_eq_getElem hi')).2
end

end Go.Proofs.YtdonmbmahcjfbaaGreatDoor
