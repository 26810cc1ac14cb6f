/-
  A table as an argument, opened; the library's variable errors.errorType as the row lists it, and a world that holds it.
-/
import Derived.Test.YtmgdciihpjifgaaGreatDoorQcScCheck
import Derived.Test.YtmgdciihpjifgaaGreatDoorQcKcVals
import Derived.Test.YtmgdciihpjifgaaGreatDoorRows
import Derived.LaidLaws
import Derived.LaidHandle
import Derived.Lib.SmallJoins
import Derived.Deep.Slices
import Derived.Deep.Fields
import Derived.Carry
namespace Go.Proofs.YtmgdciihpjifgaaGreatDoor
open Go.ChangeShapes Go.WideShapes Go.ChangeAt Go.RowKit Go.Joins Go.Deep
theorem clist_of {P : Nat → C → Prop} : ∀ (n : Nat), (∀ i, i < n → ∃ x, P i x) → ∃ xs : List C, xs.length = n ∧ ∀ (i : Nat) (x : C), xs[i]? = some x → P i x
  | 0, _ => ⟨[], rfl, fun i x h => by simp at h⟩
  | n + 1, h => by
    obtain ⟨xs, hl, hx⟩ := clist_of n (fun i hi => h i (by omega))
    obtain ⟨y, hy⟩ := h n (by omega)
    refine ⟨xs ++ [y], by simp [hl], fun i x hi => ?_⟩
    by_cases g : i < n
    · rw [List.getElem?_append_left (by omega)] at hi
      exact hx i x hi
    · rw [List.getElem?_append_right (by omega)] at hi
      have e : i = n := by
        have := (List.getElem?_eq_some_iff.1 hi).1
        simp at this
        omega
      subst e
      rw [hl, Nat.sub_self] at hi
      obtain rfl : y = x := by simpa using hi
      exact hy
section
variable {H : Type} {enc : TypeId × Value → H} {W : World}
set_option maxRecDepth 100000 in
theorem open_seven {base fuel : Nat} {spare : Nat → Bool} {held : Bool} {cs : List Value} {y : DataW H × List MemPlace} {p : Addr}
    (h : DataW.trod enc Tryz.prog W base spare held fuel 27 cs = some y) (hc : ∀ j, j < 7 → W.cell? (p.add j) = cs[j]?) : ∃ x : C, AtC W p x ∧ x.d.ok := by
  obtain ⟨xs, n, _, _, hlen, hxl, hf⟩ := DataW.trod_struct Tryz.underlying27 h
  rw [show Tryz.prog.cellsOf 27 = 7 from by kernel_rfl] at hlen
  have hx4 : xs.length = 4 := by simpa using hxl
  match cs, hlen, xs, hx4 with
  | [c0, c1, c2, c3, c4, c5, c6], _, [y0, y1, y2, y3], _ =>
    have i1 : Tryz.prog.cellsOf 3 = 1 := by kernel_rfl
    have i2 : Tryz.prog.cellsOf 4 = 1 := by kernel_rfl
    have i3 : Tryz.prog.cellsOf 9 = 1 := by kernel_rfl
    have i4 : Tryz.prog.cellsOf 25 = 4 := by kernel_rfl
    have i5 : Tryz.prog.cellsOf 23 = 1 := by kernel_rfl
    have f0 : DataW.trod enc Tryz.prog W base spare held n 9 (List.take (Tryz.prog.cellsOf 9) [c0, c1, c2, c3, c4, c5, c6]) = some y0 := hf 0 _ rfl
    rw [i3] at f0
    have f1 : DataW.trod enc Tryz.prog W base spare held n 3 (List.take (Tryz.prog.cellsOf 3) [c1, c2, c3, c4, c5, c6]) = some y1 := hf 1 _ rfl
    rw [i1] at f1
    have f2 : DataW.trod enc Tryz.prog W base spare held n 4 (List.take (Tryz.prog.cellsOf 4) [c2, c3, c4, c5, c6]) = some y2 := hf 2 _ rfl
    rw [i2] at f2
    have f3 : DataW.trod enc Tryz.prog W base spare held n 25 (List.take (Tryz.prog.cellsOf 25) [c3, c4, c5, c6]) = some y3 := hf 3 _ rfl
    rw [i4] at f3
    obtain ⟨nm, e0, _, _⟩ := DataW.trod_string Tryz.underlying9 f0
    obtain ⟨kd, e1, _, _⟩ := DataW.trod_int Tryz.underlying3 f1
    obtain ⟨nu, e2, _⟩ := DataW.trod_bool Tryz.underlying4 f2
    obtain rfl : c0 = .string nm := by simpa using e0
    obtain rfl : c1 = .int .i64 kd := by simpa using e1
    obtain rfl : c2 = .bool nu := by simpa using e2
    obtain ⟨zs, m, _, _, hlen', hzl, hg⟩ := DataW.trod_struct Tryz.underlying25 f3
    have hz4 : zs.length = 4 := by simpa using hzl
    match zs, hz4 with
    | [z0, z1, z2, z3], _ =>
      have g0 : DataW.trod enc Tryz.prog W base spare held m 3 (List.take (Tryz.prog.cellsOf 3) [c3, c4, c5, c6]) = some z0 := hg 0 _ rfl
      rw [i1] at g0
      have g1 : DataW.trod enc Tryz.prog W base spare held m 3 (List.take (Tryz.prog.cellsOf 3) [c4, c5, c6]) = some z1 := hg 1 _ rfl
      rw [i1] at g1
      have g2 : DataW.trod enc Tryz.prog W base spare held m 23 (List.take (Tryz.prog.cellsOf 23) [c5, c6]) = some z2 := hg 2 _ rfl
      rw [i5] at g2
      have g3 : DataW.trod enc Tryz.prog W base spare held m 9 (List.take (Tryz.prog.cellsOf 9) [c6]) = some z3 := hg 3 _ rfl
      rw [i3] at g3
      obtain ⟨k, a0, _, _⟩ := DataW.trod_int Tryz.underlying3 g0
      obtain ⟨nn, a1, _, w1⟩ := DataW.trod_int Tryz.underlying3 g1
      obtain ⟨b, a2, _, w2⟩ := DataW.trod_int Tryz.underlying23 g2
      obtain ⟨s, a3, _, _⟩ := DataW.trod_string Tryz.underlying9 g3
      obtain rfl : c3 = .int .i64 k := by simpa using a0
      obtain rfl : c4 = .int .i64 nn := by simpa using a1
      obtain rfl : c5 = .int .u64 b := by simpa using a2
      obtain rfl : c6 = .string s := by simpa using a3
      refine ⟨⟨nm.data.toList, kd, nu, ⟨k, nn, b, s.data.toList⟩⟩, ⟨?_, hc 1 (by decide), hc 2 (by decide), hc 3 (by decide), hc 4 (by decide), hc 5 (by decide), ?_⟩, u_of_wf w2, n_of_wf w1⟩
      · have := hc 0 (by decide)
        cases nm
        exact this
      · have := hc 6 (by decide)
        cases s
        exact this
end
theorem er_et : Tryz.prog.globalNamed "errors.errorType" = some 0 := by kernel_rfl
theorem er_rt : (Tryz.prog.cutTypes.find? (·.1 == "internal/reflectlite.rtype")).map (·.2) = some 215 := by kernel_rfl
theorem er_row : ((List.range Tryz.prog.types.size).filter fun t => Tryz.prog.rowNamed t [101, 114, 114, 111, 114]) = [134] := by kernel_rfl
theorem env_laid {W : World} (h : laidMetH Tryz.prog [("errors.errorType", Rows.laid_errors_errorType)] W) : Env W := by
  have h' : laidMet Tryz.prog [] W ∧ handlesMet Tryz.prog [("errors.errorType", Rows.laid_errors_errorType)] W := h
  obtain ⟨name, u, ty, e1, e2, e3, e4, e5⟩ := h'.2 _ (List.mem_singleton.2 rfl)
  have en : name = [101, 114, 114, 111, 114] := (Option.some.inj e1).symm
  subst en
  obtain rfl := Option.some.inj (er_rt.symm.trans e2)
  have hm : ty ∈ (List.range Tryz.prog.types.size).filter fun t => Tryz.prog.rowNamed t [101, 114, 114, 111, 114] := List.mem_filter.2 ⟨List.mem_range.2 e3, e4⟩
  rw [er_row] at hm
  obtain rfl := List.mem_singleton.1 hm
  have hh : typeHandle Tryz.prog 134 = .pointer (some ⟨1, 134, none⟩) := by kernel_rfl
  rw [hh] at e5
  have := World.var?_cell er_et e5 0
  unfold Env
  simpa using this
noncomputable def laidWorld (os : Os) : World :=
  let w0 := World.holding Tryz.prog os ⟨#[], #[], []⟩
  { w0 with heap := w0.heap.modify 0 fun
      | .cells _ t frozen => .cells #[.iface 215 (.agg #[.pointer (some ⟨1, 134, none⟩)])] t frozen
      | o => o }
end Go.Proofs.YtmgdciihpjifgaaGreatDoor
