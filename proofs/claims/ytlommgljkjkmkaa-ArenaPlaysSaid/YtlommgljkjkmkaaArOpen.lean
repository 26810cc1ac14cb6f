/-
  Arguments opened: a ref, a deed, truths.
-/
import Derived.Test.YtlommgljkjkmkaaGnOpen
import Derived.Test.YtlommgljkjkmkaaArAwake
namespace Go.Proofs.Ytlommgljkjkmkaa.Gn
open Go.ChangeShapes Go.WideShapes Go.ChangeAt Go.RowKit Go.Deep
set_option linter.unusedVariables false
section
variable {H : Type} {enc : TypeId × Value → H} {W : World}
set_option maxRecDepth 100000 in
theorem ref_of {base fuel : Nat} {spare : Nat → Bool} {held : Bool} {cs : List Value} {y : DataW H × List MemPlace}
    (h : DataW.trod enc Try.prog W base spare held fuel 33 cs = some y) : ∃ (v0 : Int) (v1 : Int), cs = [.int .i64 v0, .int .i64 v1] := by
  obtain ⟨xs, n, _, _, hlen, hxl, hf⟩ := DataW.trod_struct Try.underlying33 h
  rw [show Try.prog.cellsOf 33 = 2 from by kernel_rfl] at hlen
  have hx : xs.length = 2 := by simpa using hxl
  match cs, hlen, xs, hx with
  | [c0, c1], _, [y0, y1], _ =>
    have i0 : Try.prog.cellsOf 3 = 1 := by kernel_rfl
    have f0 : DataW.trod enc Try.prog W base spare held n 3 (List.take (Try.prog.cellsOf 3) [c0, c1]) = some y0 := hf 0 _ rfl
    rw [i0] at f0
    obtain ⟨v0, e0, _, _⟩ := DataW.trod_int Try.underlying3 f0
    obtain rfl : c0 = .int .i64 v0 := by simpa using e0
    have i1 : Try.prog.cellsOf 3 = 1 := by kernel_rfl
    have f1 : DataW.trod enc Try.prog W base spare held n 3 (List.take (Try.prog.cellsOf 3) [c1]) = some y1 := hf 1 _ rfl
    rw [i1] at f1
    obtain ⟨v1, e1, _, _⟩ := DataW.trod_int Try.underlying3 f1
    obtain rfl : c1 = .int .i64 v1 := by simpa using e1
    exact ⟨v0, v1, rfl⟩
set_option maxRecDepth 100000 in
theorem open_ref {r : Reach} {b0 : Nat} {v : Value} {d : DataW H} {p : List MemPlace}
    (hv : Value.okWide Try.prog W r b0 33 v) (h : DataW.Trod enc Try.prog W 0 (fun _ => true) true 33 v d p) : ∃ (v0 : Int) (v1 : Int), v = .agg #[.int .i64 v0, .int .i64 v1] := by
  obtain ⟨⟨cs⟩, rfl, hsz⟩ := okWide_struct Try.underlying33 hv
  obtain ⟨fuel, hf⟩ := h
  obtain ⟨v0, v1, e⟩ := ref_of hf
  have e' : cs = [.int .i64 v0, .int .i64 v1] := by simpa [Value.cells] using e
  subst e'
  exact ⟨v0, v1, rfl⟩
set_option maxRecDepth 100000 in
theorem deed_of {base fuel : Nat} {spare : Nat → Bool} {held : Bool} {cs : List Value} {y : DataW H × List MemPlace}
    (h : DataW.trod enc Try.prog W base spare held fuel 35 cs = some y) : ∃ (v0 : Int) (v1 : Int) (v2 : Int) (v3 : Int) (v4 : Int), cs = [.int .i64 v0, .int .i64 v1, .int .i64 v2, .int .i64 v3, .int .i64 v4] := by
  obtain ⟨xs, n, _, _, hlen, hxl, hf⟩ := DataW.trod_struct Try.underlying35 h
  rw [show Try.prog.cellsOf 35 = 5 from by kernel_rfl] at hlen
  have hx : xs.length = 4 := by simpa using hxl
  match cs, hlen, xs, hx with
  | [c0, c1, c2, c3, c4], _, [y0, y1, y2, y3], _ =>
    have i0 : Try.prog.cellsOf 3 = 1 := by kernel_rfl
    have f0 : DataW.trod enc Try.prog W base spare held n 3 (List.take (Try.prog.cellsOf 3) [c0, c1, c2, c3, c4]) = some y0 := hf 0 _ rfl
    rw [i0] at f0
    obtain ⟨v0, e0, _, _⟩ := DataW.trod_int Try.underlying3 f0
    obtain rfl : c0 = .int .i64 v0 := by simpa using e0
    have i1 : Try.prog.cellsOf 3 = 1 := by kernel_rfl
    have f1 : DataW.trod enc Try.prog W base spare held n 3 (List.take (Try.prog.cellsOf 3) [c1, c2, c3, c4]) = some y1 := hf 1 _ rfl
    rw [i1] at f1
    obtain ⟨v1, e1, _, _⟩ := DataW.trod_int Try.underlying3 f1
    obtain rfl : c1 = .int .i64 v1 := by simpa using e1
    have i2 : Try.prog.cellsOf 3 = 1 := by kernel_rfl
    have f2 : DataW.trod enc Try.prog W base spare held n 3 (List.take (Try.prog.cellsOf 3) [c2, c3, c4]) = some y2 := hf 2 _ rfl
    rw [i2] at f2
    obtain ⟨v2, e2, _, _⟩ := DataW.trod_int Try.underlying3 f2
    obtain rfl : c2 = .int .i64 v2 := by simpa using e2
    have i3 : Try.prog.cellsOf 33 = 2 := by kernel_rfl
    have f3 : DataW.trod enc Try.prog W base spare held n 33 (List.take (Try.prog.cellsOf 33) [c3, c4]) = some y3 := hf 3 _ rfl
    rw [i3] at f3
    obtain ⟨v3, v4, e3⟩ := ref_of f3
    obtain ⟨rfl, rfl⟩ : c3 = .int .i64 v3 ∧ c4 = .int .i64 v4 := by simpa using e3
    exact ⟨v0, v1, v2, v3, v4, rfl⟩
theorem bool_of {base fuel : Nat} {spare : Nat → Bool} {held : Bool} {cs : List Value} {y : DataW H × List MemPlace} (h : DataW.trod enc Try.prog W base spare held fuel 4 cs = some y) : ∃ x : Bool, cs = [.bool x] := by
  obtain ⟨x, e, _⟩ := DataW.trod_bool Try.underlying4 h
  exact ⟨x, e⟩
end

end Go.Proofs.Ytlommgljkjkmkaa.Gn
