/-
  Arguments opened: three booleans, two numbers, a slice of numbers.
-/
import Derived.Test.YtljgnflmomakaaaTdRises
import Derived.OpenShut
import Derived.ChangeShapes
import Derived.ChangeArms
import Derived.WideShapes
import Derived.Deep.Slices
import Derived.Deep.Fields
import Derived.Carry
import Derived.ProofKit
namespace Go.Proofs.Ytljgnflmomakaaa
open Go.ChangeShapes Go.WideShapes Go.ChangeAt Go.RowKit Go.Deep
set_option linter.unusedVariables false
set_option linter.constructorNameAsVariable false

theorem u_of_wf {n : Int} (h : (Lit.int .i64 n).wf = true) : Td.U n := by
  have := bounds_i64 h
  unfold Td.U
  omega
section
variable {H : Type} {enc : TypeId × Value → H} {W : World}
set_option maxRecDepth 100000 in
theorem okw_arr {t e : TypeId} {n : Nat} {r : Reach} {b0 : Nat} {v : Value} (ht : Try.prog.underlying t = some (.array n e)) (h : Value.okWide Try.prog W r b0 t v) : ∃ cs, v = .agg cs ∧ cs.size = Try.prog.cellsOf t := by
  simp only [Value.okWide, ht] at h
  obtain ⟨cs, h1, h2, _⟩ := h
  exact ⟨cs, h1, h2⟩
set_option maxRecDepth 100000 in
theorem open_bools {r : Reach} {b0 : Nat} {v : Value} {d : DataW H} {p : List MemPlace}
    (hv : Value.okWide Try.prog W r b0 29 v) (h : DataW.Trod enc Try.prog W 0 (fun _ => true) true 29 v d p) :
    ∃ l a b : Bool, v = .agg #[.bool l, .bool a, .bool b] := by
  obtain ⟨⟨cs⟩, rfl, hsz⟩ := okw_arr Try.underlying29 hv
  rw [show Try.prog.cellsOf 29 = 3 from by kernel_rfl] at hsz
  obtain ⟨fuel, hf⟩ := h
  obtain ⟨xs, n, _, _, _, hxl, hg⟩ := DataW.trod_array Try.underlying29 hf
  have hl : cs.length = 3 := by simpa using hsz
  clear hsz hv
  rw [show Try.prog.cellsOf 4 = 1 from by kernel_rfl] at hg
  match cs, hl, xs, hxl with
  | [c0, c1, c2], _, [y0, y1, y2], _ =>
    have g0 : DataW.trod enc Try.prog W 0 (fun _ => true) true n 4 [c0] = some y0 := hg 0 (by decide)
    have g1 : DataW.trod enc Try.prog W 0 (fun _ => true) true n 4 [c1] = some y1 := hg 1 (by decide)
    have g2 : DataW.trod enc Try.prog W 0 (fun _ => true) true n 4 [c2] = some y2 := hg 2 (by decide)
    obtain ⟨x0, e0, _⟩ := DataW.trod_bool Try.underlying4 g0
    obtain ⟨x1, e1, _⟩ := DataW.trod_bool Try.underlying4 g1
    obtain ⟨x2, e2, _⟩ := DataW.trod_bool Try.underlying4 g2
    obtain rfl : c0 = .bool x0 := by simpa using e0
    obtain rfl : c1 = .bool x1 := by simpa using e1
    obtain rfl : c2 = .bool x2 := by simpa using e2
    exact ⟨x0, x1, x2, rfl⟩
set_option maxRecDepth 100000 in
theorem open_pair {r : Reach} {b0 : Nat} {v : Value} {d : DataW H} {p : List MemPlace}
    (hv : Value.okWide Try.prog W r b0 35 v) (h : DataW.Trod enc Try.prog W 0 (fun _ => true) true 35 v d p) :
    ∃ l a : Int, v = .agg #[.int .i64 l, .int .i64 a] := by
  obtain ⟨⟨cs⟩, rfl, hsz⟩ := okw_arr Try.underlying35 hv
  rw [show Try.prog.cellsOf 35 = 2 from by kernel_rfl] at hsz
  obtain ⟨fuel, hf⟩ := h
  obtain ⟨xs, n, _, _, _, hxl, hg⟩ := DataW.trod_array Try.underlying35 hf
  have hl : cs.length = 2 := by simpa using hsz
  clear hsz hv
  rw [show Try.prog.cellsOf 3 = 1 from by kernel_rfl] at hg
  match cs, hl, xs, hxl with
  | [c0, c1], _, [y0, y1], _ =>
    have g0 : DataW.trod enc Try.prog W 0 (fun _ => true) true n 3 [c0] = some y0 := hg 0 (by decide)
    have g1 : DataW.trod enc Try.prog W 0 (fun _ => true) true n 3 [c1] = some y1 := hg 1 (by decide)
    obtain ⟨x0, e0, _, _⟩ := DataW.trod_int Try.underlying3 g0
    obtain ⟨x1, e1, _, _⟩ := DataW.trod_int Try.underlying3 g1
    obtain rfl : c0 = .int .i64 x0 := by simpa using e0
    obtain rfl : c1 = .int .i64 x1 := by simpa using e1
    exact ⟨x0, x1, rfl⟩
/-- A slice of numbers. -/
theorem open_ints {ao : Option Addr} {len cap : Nat} {d : DataW H} {p : List MemPlace} (h : DataW.Trod enc Try.prog W 0 (fun _ => true) true 41 (.slice ao len cap) d p) :
    ∃ t : List Int, len = t.length ∧ SlI W ao t := by
  obtain ⟨fuel, hf⟩ := h
  rcases open_slice Try.underlying41 hf with ⟨hcs, _⟩ | ⟨a, l, c, m, n, D, Pl, hcs, _, hl, _, hm, _, hi⟩
  · simp [Value.cells] at hcs
    obtain ⟨rfl, rfl, rfl⟩ := hcs
    exact ⟨[], rfl, fun i x h => by simp at h⟩
  · simp [Value.cells] at hcs
    obtain ⟨rfl, rfl, rfl⟩ := hcs
    have hlm : len ≤ m := by rw [hm]; simpa using hl
    have one : ∀ i, i < len → ∃ x : Int, W.cell? (a.add i) = some (.int .i64 x) := fun i hil => by
      obtain ⟨cs, hc, ht⟩ := hi i (by omega)
      rw [show Try.prog.cellsOf 3 = 1 from by kernel_rfl, Nat.mul_one] at hc
      obtain ⟨x, e0, _, _⟩ := DataW.trod_int Try.underlying3 ht
      subst e0
      have := (World.cells?_some hc).2.2 0 (by decide)
      exact ⟨x, this⟩
    have all : ∀ n, n ≤ len → ∃ t : List Int, t.length = n ∧ ∀ (i : Nat) (x : Int), t[i]? = some x → W.cell? (a.add i) = some (.int .i64 x) := by
      intro n
      induction n with
      | zero => exact fun _ => ⟨[], rfl, fun i x h => by simp at h⟩
      | succ n ih =>
        intro hn
        obtain ⟨t, ht, hx⟩ := ih (by omega)
        obtain ⟨y, hy⟩ := one n (by omega)
        refine ⟨t ++ [y], by simp [ht], fun i x hi => ?_⟩
        by_cases g : i < n
        · rw [List.getElem?_append_left (by omega)] at hi
          exact hx i x hi
        · rw [List.getElem?_append_right (by omega)] at hi
          have e : i = n := by
            have := (List.getElem?_eq_some_iff.1 hi).1
            simp at this
            omega
          subst e
          rw [ht, Nat.sub_self] at hi
          obtain rfl : y = x := by simpa using hi
          exact hy
    obtain ⟨t, ht, hx⟩ := all len (Nat.le_refl _)
    exact ⟨t, ht.symm, fun i x hix => ⟨a, rfl, hx i x hix⟩⟩
end

end Go.Proofs.Ytljgnflmomakaaa
