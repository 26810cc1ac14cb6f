/-
  A slice of values as an argument, opened: what its cells hold.
-/
import Derived.Test.YtakpieiafoappaaDoorVlLaid
import Derived.Test.YtakpieiafoappaaDoorKcVals
import Derived.Deep.Slices
import Derived.Deep.Fields
import Derived.Carry
namespace Go.Proofs.YtakpieiafoappaaDoor
open Go.ChangeShapes Go.WideShapes Go.ChangeAt Go.RowKit Go.Joins Go.Deep

theorem n_of_wf {x : Int} (h : (Lit.int .i64 x).wf = true) : -9223372036854775808 ≤ x ∧ x < 9223372036854775808 := by
  simp [Lit.wf, IntKind.min, IntKind.max, IntKind.signed, IntKind.bits] at h
  omega

theorem list_of {P : Nat → V → Prop} : ∀ (n : Nat), (∀ i, i < n → ∃ x, P i x) → ∃ xs : List V, xs.length = n ∧ ∀ (i : Nat) (x : V), xs[i]? = some x → P i x
  | 0, _ => ⟨[], rfl, fun i x h => by simp at h⟩
  | n + 1, h => by
    obtain ⟨xs, hl, hx⟩ := list_of n (fun i hi => h i (by omega))
    obtain ⟨y, hy⟩ := h n (by omega)
    refine ⟨xs ++ [y], by simp [hl], fun i x hi => ?_⟩
    by_cases g : i < n
    · rw [List.getElem?_append_left (by omega)] at hi
      exact hx i x hi
    · rw [List.getElem?_append_right (by omega)] at hi
      have e : i = n := by
        have := (List.getElem?_eq_some_iff.1 hi).1
        simp at this
        omega
      subst e
      rw [hl, Nat.sub_self] at hi
      obtain rfl : y = x := by simpa using hi
      exact hy

section
variable {H : Type} {enc : TypeId × Value → H} {W : World}

set_option maxRecDepth 100000 in
/-- Four cells that read as a value. -/
theorem open_four {base fuel : Nat} {spare : Nat → Bool} {held : Bool} {cs : List Value} {y : DataW H × List MemPlace} {p : Addr}
    (h : DataW.trod enc Tryd.prog W base spare held fuel 37 cs = some y) (hc : ∀ j, j < 4 → W.cell? (p.add j) = cs[j]?) : ∃ x : V, At W p x ∧ x.ok := by
  obtain ⟨xs, n, _, _, hlen, hxl, hf⟩ := DataW.trod_struct Tryd.underlying37 h
  rw [show Tryd.prog.cellsOf 37 = 4 from by kernel_rfl] at hlen
  have hx4 : xs.length = 4 := by simpa using hxl
  match cs, hlen, xs, hx4 with
  | [c0, c1, c2, c3], _, [y0, y1, y2, y3], _ =>
    have i1 : Tryd.prog.cellsOf 3 = 1 := by kernel_rfl
    have i2 : Tryd.prog.cellsOf 35 = 1 := by kernel_rfl
    have i3 : Tryd.prog.cellsOf 9 = 1 := by kernel_rfl
    have f0 : DataW.trod enc Tryd.prog W base spare held n 3 (List.take (Tryd.prog.cellsOf 3) [c0, c1, c2, c3]) = some y0 := hf 0 _ rfl
    rw [i1] at f0
    have f1 : DataW.trod enc Tryd.prog W base spare held n 3 (List.take (Tryd.prog.cellsOf 3) [c1, c2, c3]) = some y1 := hf 1 _ rfl
    rw [i1] at f1
    have f2 : DataW.trod enc Tryd.prog W base spare held n 35 (List.take (Tryd.prog.cellsOf 35) [c2, c3]) = some y2 := hf 2 _ rfl
    rw [i2] at f2
    have f3 : DataW.trod enc Tryd.prog W base spare held n 9 (List.take (Tryd.prog.cellsOf 9) [c3]) = some y3 := hf 3 _ rfl
    rw [i3] at f3
    obtain ⟨k, e0, _, _⟩ := DataW.trod_int Tryd.underlying3 f0
    obtain ⟨m, e1, _, w1⟩ := DataW.trod_int Tryd.underlying3 f1
    obtain ⟨b, e2, _, w2⟩ := DataW.trod_int Tryd.underlying35 f2
    obtain ⟨s, e3, _, _⟩ := DataW.trod_string Tryd.underlying9 f3
    obtain rfl : c0 = .int .i64 k := by simpa using e0
    obtain rfl : c1 = .int .i64 m := by simpa using e1
    obtain rfl : c2 = .int .u64 b := by simpa using e2
    obtain rfl : c3 = .string s := by simpa using e3
    refine ⟨⟨k, m, b, s.data.toList⟩, ⟨hc 0 (by decide), hc 1 (by decide), hc 2 (by decide), ?_⟩, u_of_wf w2, n_of_wf w1⟩
    have := hc 3 (by decide)
    cases s
    exact this

/-- A slice of values. -/
theorem open_vals {ao : Option Addr} {len cap : Nat} {d : DataW H} {p : List MemPlace} (h : DataW.Trod enc Tryd.prog W 0 (fun _ => true) true 25 (.slice ao len cap) d p) :
    ∃ xs : List V, len = xs.length ∧ Sl W ao xs ∧ ∀ x ∈ xs, x.ok := by
  obtain ⟨fuel, hf⟩ := h
  rcases open_slice Tryd.underlying25 hf with ⟨hcs, _⟩ | ⟨a, l, c, m, n, D, Pl, hcs, _, hl, _, hm, _, hi⟩
  · simp [Value.cells] at hcs
    obtain ⟨rfl, rfl, rfl⟩ := hcs
    exact ⟨[], rfl, fun i x h => by simp at h, by simp⟩
  · simp [Value.cells] at hcs
    obtain ⟨rfl, rfl, rfl⟩ := hcs
    have hlm : len ≤ m := by rw [hm]; simpa using hl
    obtain ⟨xs, hx, hp⟩ := list_of (P := fun i x => At W (a.add (i * 4)) x ∧ x.ok) len (fun i hil => by
      obtain ⟨cs, hc, ht⟩ := hi i (by omega)
      rw [show Tryd.prog.cellsOf 37 = 4 from by kernel_rfl] at hc
      exact open_four ht (World.cells?_some hc).2.2)
    refine ⟨xs, hx.symm, fun i x hix => ⟨a, rfl, (hp i x hix).1⟩, fun x hxm => ?_⟩
    obtain ⟨i, hil, rfl⟩ := List.getElem_of_mem hxm
    exact (hp i _ (List.getElem?_eq_getElem hil)).2
end

end Go.Proofs.YtakpieiafoappaaDoor
