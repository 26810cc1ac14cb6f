/-
  A slice of values as an argument, opened: what its cells hold.
  A table as an argument, opened; the library's variable errors.errorType as the row lists it, and a world that holds it.
  A change as an argument, opened; the listed variables as the rows list them, and a world that holds them.
-/
import Derived.Test.YtdonmbmahcjfbaaGreatDoorVlLaid
import Derived.Test.YtdonmbmahcjfbaaGreatDoorKcVals
import Derived.Deep.Slices
import Derived.Deep.Fields
import Derived.Carry
import Derived.Test.YtdonmbmahcjfbaaGreatDoorScCheck
import Derived.Test.YtdonmbmahcjfbaaGreatDoorRows
import Derived.LaidLaws
import Derived.LaidHandle
import Derived.Lib.SmallJoins
import Derived.Test.YtdonmbmahcjfbaaGreatDoorCvLaid
import Derived.Test.YtdonmbmahcjfbaaGreatDoorChSrcs
import Derived.Test.YtdonmbmahcjfbaaGreatDoorNmCheck
namespace Go.Proofs.YtdonmbmahcjfbaaGreatDoor
open Go.ChangeShapes Go.WideShapes Go.ChangeAt Go.RowKit Go.Joins Go.Deep

theorem n_of_wf {x : Int} (h : (Lit.int .i64 x).wf = true) : -9223372036854775808 ≤ x ∧ x < 9223372036854775808 := by
  simp [Lit.wf, IntKind.min, IntKind.max, IntKind.signed, IntKind.bits] at h
  omega

theorem list_of {P : Nat → V → Prop} : ∀ (n : Nat), (∀ i, i < n → ∃ x, P i x) → ∃ xs : List V, xs.length = n ∧ ∀ (i : Nat) (x : V), xs[i]? = some x → P i x
  | 0, _ => ⟨[], rfl, fun i x h => by simp at h⟩
  | n + 1, h => by
    obtain ⟨xs, hl, hx⟩ := list_of n (fun i hi => h i (by omega))
    obtain ⟨y, hy⟩ := h n (by omega)
    refine ⟨xs ++ [y], by simp [hl], fun i x hi => ?_⟩
    by_cases g : i < n
    · rw [List.getElem?_append_left (by omega)] at hi
      exact hx i x hi
    · rw [List.getElem?_append_right (by omega)] at hi
      have e : i = n := by
        have := (List.getElem?_eq_some_iff.1 hi).1
        simp at this
        omega
      subst e
      rw [hl, Nat.sub_self] at hi
      obtain rfl : y = x := by simpa using hi
      exact hy

section
variable {H : Type} {enc : TypeId × Value → H} {W : World}

set_option maxRecDepth 100000 in
/-- Four cells that read as a value. -/
theorem open_four {base fuel : Nat} {spare : Nat → Bool} {held : Bool} {cs : List Value} {y : DataW H × List MemPlace} {p : Addr}
    (h : DataW.trod enc Tryz.prog W base spare held fuel 28 cs = some y) (hc : ∀ j, j < 4 → W.cell? (p.add j) = cs[j]?) : ∃ x : V, At W p x ∧ x.ok := by
  obtain ⟨xs, n, _, _, hlen, hxl, hf⟩ := DataW.trod_struct Tryz.underlying28 h
  rw [show Tryz.prog.cellsOf 28 = 4 from by kernel_rfl] at hlen
  have hx4 : xs.length = 4 := by simpa using hxl
  match cs, hlen, xs, hx4 with
  | [c0, c1, c2, c3], _, [y0, y1, y2, y3], _ =>
    have i1 : Tryz.prog.cellsOf 3 = 1 := by kernel_rfl
    have i2 : Tryz.prog.cellsOf 26 = 1 := by kernel_rfl
    have i3 : Tryz.prog.cellsOf 9 = 1 := by kernel_rfl
    have f0 : DataW.trod enc Tryz.prog W base spare held n 3 (List.take (Tryz.prog.cellsOf 3) [c0, c1, c2, c3]) = some y0 := hf 0 _ rfl
    rw [i1] at f0
    have f1 : DataW.trod enc Tryz.prog W base spare held n 3 (List.take (Tryz.prog.cellsOf 3) [c1, c2, c3]) = some y1 := hf 1 _ rfl
    rw [i1] at f1
    have f2 : DataW.trod enc Tryz.prog W base spare held n 26 (List.take (Tryz.prog.cellsOf 26) [c2, c3]) = some y2 := hf 2 _ rfl
    rw [i2] at f2
    have f3 : DataW.trod enc Tryz.prog W base spare held n 9 (List.take (Tryz.prog.cellsOf 9) [c3]) = some y3 := hf 3 _ rfl
    rw [i3] at f3
    obtain ⟨k, e0, _, _⟩ := DataW.trod_int Tryz.underlying3 f0
    obtain ⟨m, e1, _, w1⟩ := DataW.trod_int Tryz.underlying3 f1
    obtain ⟨b, e2, _, w2⟩ := DataW.trod_int Tryz.underlying26 f2
    obtain ⟨s, e3, _, _⟩ := DataW.trod_string Tryz.underlying9 f3
    obtain rfl : c0 = .int .i64 k := by simpa using e0
    obtain rfl : c1 = .int .i64 m := by simpa using e1
    obtain rfl : c2 = .int .u64 b := by simpa using e2
    obtain rfl : c3 = .string s := by simpa using e3
    refine ⟨⟨k, m, b, s.data.toList⟩, ⟨hc 0 (by decide), hc 1 (by decide), hc 2 (by decide), ?_⟩, u_of_wf w2, n_of_wf w1⟩
    have := hc 3 (by decide)
    cases s
    exact this

/-- A slice of values. -/
theorem open_vals {ao : Option Addr} {len cap : Nat} {d : DataW H} {p : List MemPlace} (h : DataW.Trod enc Tryz.prog W 0 (fun _ => true) true 33 (.slice ao len cap) d p) :
    ∃ xs : List V, len = xs.length ∧ Sl W ao xs ∧ ∀ x ∈ xs, x.ok := by
  obtain ⟨fuel, hf⟩ := h
  rcases open_slice Tryz.underlying33 hf with ⟨hcs, _⟩ | ⟨a, l, c, m, n, D, Pl, hcs, _, hl, _, hm, _, hi⟩
  · simp [Value.cells] at hcs
    obtain ⟨rfl, rfl, rfl⟩ := hcs
    exact ⟨[], rfl, fun i x h => by simp at h, by simp⟩
  · simp [Value.cells] at hcs
    obtain ⟨rfl, rfl, rfl⟩ := hcs
    have hlm : len ≤ m := by rw [hm]; simpa using hl
    obtain ⟨xs, hx, hp⟩ := list_of (P := fun i x => At W (a.add (i * 4)) x ∧ x.ok) len (fun i hil => by
      obtain ⟨cs, hc, ht⟩ := hi i (by omega)
      rw [show Tryz.prog.cellsOf 28 = 4 from by kernel_rfl] at hc
      exact open_four ht (World.cells?_some hc).2.2)
    refine ⟨xs, hx.symm, fun i x hix => ⟨a, rfl, (hp i x hix).1⟩, fun x hxm => ?_⟩
    obtain ⟨i, hil, rfl⟩ := List.getElem_of_mem hxm
    exact (hp i _ (List.getElem?_eq_getElem hil)).2
end

end Go.Proofs.YtdonmbmahcjfbaaGreatDoor

namespace Go.Proofs.YtdonmbmahcjfbaaGreatDoor
open Go.ChangeShapes Go.WideShapes Go.ChangeAt Go.RowKit Go.Joins Go.Deep

theorem clist_of {P : Nat → C → Prop} : ∀ (n : Nat), (∀ i, i < n → ∃ x, P i x) → ∃ xs : List C, xs.length = n ∧ ∀ (i : Nat) (x : C), xs[i]? = some x → P i x
  | 0, _ => ⟨[], rfl, fun i x h => by simp at h⟩
  | n + 1, h => by
    obtain ⟨xs, hl, hx⟩ := clist_of n (fun i hi => h i (by omega))
    obtain ⟨y, hy⟩ := h n (by omega)
    refine ⟨xs ++ [y], by simp [hl], fun i x hi => ?_⟩
    by_cases g : i < n
    · rw [List.getElem?_append_left (by omega)] at hi
      exact hx i x hi
    · rw [List.getElem?_append_right (by omega)] at hi
      have e : i = n := by
        have := (List.getElem?_eq_some_iff.1 hi).1
        simp at this
        omega
      subst e
      rw [hl, Nat.sub_self] at hi
      obtain rfl : y = x := by simpa using hi
      exact hy

section
variable {H : Type} {enc : TypeId × Value → H} {W : World}

set_option maxRecDepth 100000 in
/-- Seven cells that read as a column. -/
theorem open_seven {base fuel : Nat} {spare : Nat → Bool} {held : Bool} {cs : List Value} {y : DataW H × List MemPlace} {p : Addr}
    (h : DataW.trod enc Tryz.prog W base spare held fuel 30 cs = some y) (hc : ∀ j, j < 7 → W.cell? (p.add j) = cs[j]?) : ∃ x : C, AtC W p x ∧ x.d.ok := by
  obtain ⟨xs, n, _, _, hlen, hxl, hf⟩ := DataW.trod_struct Tryz.underlying30 h
  rw [show Tryz.prog.cellsOf 30 = 7 from by kernel_rfl] at hlen
  have hx4 : xs.length = 4 := by simpa using hxl
  match cs, hlen, xs, hx4 with
  | [c0, c1, c2, c3, c4, c5, c6], _, [y0, y1, y2, y3], _ =>
    have i1 : Tryz.prog.cellsOf 3 = 1 := by kernel_rfl
    have i2 : Tryz.prog.cellsOf 4 = 1 := by kernel_rfl
    have i3 : Tryz.prog.cellsOf 9 = 1 := by kernel_rfl
    have i4 : Tryz.prog.cellsOf 28 = 4 := by kernel_rfl
    have i5 : Tryz.prog.cellsOf 26 = 1 := by kernel_rfl
    have f0 : DataW.trod enc Tryz.prog W base spare held n 9 (List.take (Tryz.prog.cellsOf 9) [c0, c1, c2, c3, c4, c5, c6]) = some y0 := hf 0 _ rfl
    rw [i3] at f0
    have f1 : DataW.trod enc Tryz.prog W base spare held n 3 (List.take (Tryz.prog.cellsOf 3) [c1, c2, c3, c4, c5, c6]) = some y1 := hf 1 _ rfl
    rw [i1] at f1
    have f2 : DataW.trod enc Tryz.prog W base spare held n 4 (List.take (Tryz.prog.cellsOf 4) [c2, c3, c4, c5, c6]) = some y2 := hf 2 _ rfl
    rw [i2] at f2
    have f3 : DataW.trod enc Tryz.prog W base spare held n 28 (List.take (Tryz.prog.cellsOf 28) [c3, c4, c5, c6]) = some y3 := hf 3 _ rfl
    rw [i4] at f3
    obtain ⟨nm, e0, _, _⟩ := DataW.trod_string Tryz.underlying9 f0
    obtain ⟨kd, e1, _, _⟩ := DataW.trod_int Tryz.underlying3 f1
    obtain ⟨nu, e2, _⟩ := DataW.trod_bool Tryz.underlying4 f2
    obtain rfl : c0 = .string nm := by simpa using e0
    obtain rfl : c1 = .int .i64 kd := by simpa using e1
    obtain rfl : c2 = .bool nu := by simpa using e2
    obtain ⟨zs, m, _, _, hlen', hzl, hg⟩ := DataW.trod_struct Tryz.underlying28 f3
    have hz4 : zs.length = 4 := by simpa using hzl
    match zs, hz4 with
    | [z0, z1, z2, z3], _ =>
      have g0 : DataW.trod enc Tryz.prog W base spare held m 3 (List.take (Tryz.prog.cellsOf 3) [c3, c4, c5, c6]) = some z0 := hg 0 _ rfl
      rw [i1] at g0
      have g1 : DataW.trod enc Tryz.prog W base spare held m 3 (List.take (Tryz.prog.cellsOf 3) [c4, c5, c6]) = some z1 := hg 1 _ rfl
      rw [i1] at g1
      have g2 : DataW.trod enc Tryz.prog W base spare held m 26 (List.take (Tryz.prog.cellsOf 26) [c5, c6]) = some z2 := hg 2 _ rfl
      rw [i5] at g2
      have g3 : DataW.trod enc Tryz.prog W base spare held m 9 (List.take (Tryz.prog.cellsOf 9) [c6]) = some z3 := hg 3 _ rfl
      rw [i3] at g3
      obtain ⟨k, a0, _, _⟩ := DataW.trod_int Tryz.underlying3 g0
      obtain ⟨nn, a1, _, w1⟩ := DataW.trod_int Tryz.underlying3 g1
      obtain ⟨b, a2, _, w2⟩ := DataW.trod_int Tryz.underlying26 g2
      obtain ⟨s, a3, _, _⟩ := DataW.trod_string Tryz.underlying9 g3
      obtain rfl : c3 = .int .i64 k := by simpa using a0
      obtain rfl : c4 = .int .i64 nn := by simpa using a1
      obtain rfl : c5 = .int .u64 b := by simpa using a2
      obtain rfl : c6 = .string s := by simpa using a3
      refine ⟨⟨nm.data.toList, kd, nu, ⟨k, nn, b, s.data.toList⟩⟩, ⟨?_, hc 1 (by decide), hc 2 (by decide), hc 3 (by decide), hc 4 (by decide), hc 5 (by decide), ?_⟩, u_of_wf w2, n_of_wf w1⟩
      · have := hc 0 (by decide)
        cases nm
        exact this
      · have := hc 6 (by decide)
        cases s
        exact this

/-- A slice has room for its length. -/
theorem cap_of {t e : TypeId} (ht : Tryz.prog.underlying t = some (.slice e)) {ao : Option Addr} {len cap : Nat} {d : DataW H} {p : List MemPlace} (h : DataW.Trod enc Tryz.prog W 0 (fun _ => true) true t (.slice ao len cap) d p) : len ≤ cap := by
  obtain ⟨fuel, hf⟩ := h
  rcases open_slice ht hf with ⟨hcs, _⟩ | ⟨a, l, c, m, n, D, Pl, hcs, _, hl, _⟩
  · simp [Value.cells] at hcs
    obtain ⟨rfl, rfl, rfl⟩ := hcs
    exact Nat.le_refl _
  · simp [Value.cells] at hcs
    obtain ⟨rfl, rfl, rfl⟩ := hcs
    exact hl

end

theorem er_et : Tryz.prog.globalNamed "errors.errorType" = some 0 := by kernel_rfl
theorem er_rt : (Tryz.prog.cutTypes.find? (·.1 == "internal/reflectlite.rtype")).map (·.2) = some 188 := by kernel_rfl
theorem er_row : ((List.range Tryz.prog.types.size).filter fun t => Tryz.prog.rowNamed t [101, 114, 114, 111, 114]) = [120] := by kernel_rfl
theorem env_laid {W : World} (h : laidMetH Tryz.prog [("errors.errorType", Rows.laid_errors_errorType)] W) : Env W := by
  have h' : laidMet Tryz.prog [] W ∧ handlesMet Tryz.prog [("errors.errorType", Rows.laid_errors_errorType)] W := h
  obtain ⟨name, u, ty, e1, e2, e3, e4, e5⟩ := h'.2 _ (List.mem_singleton.2 rfl)
  have en : name = [101, 114, 114, 111, 114] := (Option.some.inj e1).symm
  subst en
  obtain rfl := Option.some.inj (er_rt.symm.trans e2)
  have hm : ty ∈ (List.range Tryz.prog.types.size).filter fun t => Tryz.prog.rowNamed t [101, 114, 114, 111, 114] := List.mem_filter.2 ⟨List.mem_range.2 e3, e4⟩
  rw [er_row] at hm
  obtain rfl := List.mem_singleton.1 hm
  have hh : typeHandle Tryz.prog 120 = .pointer (some ⟨7, 120, none⟩) := by kernel_rfl
  rw [hh] at e5
  have := World.var?_cell er_et e5 0
  unfold Env
  simpa using this
/-- A world that holds it. -/
noncomputable def laidWorld (os : Os) : World :=
  let w0 := World.holding Tryz.prog os ⟨#[], #[], []⟩
  { w0 with heap := w0.heap.modify 0 fun
      | .cells _ t frozen => .cells #[.iface 188 (.agg #[.pointer (some ⟨7, 120, none⟩)])] t frozen
      | o => o }

end Go.Proofs.YtdonmbmahcjfbaaGreatDoor

namespace Go.Proofs.YtdonmbmahcjfbaaGreatDoor
open Go.ChangeShapes Go.WideShapes Go.ChangeAt Go.RowKit Go.Joins Go.Deep

section
variable {H : Type} {enc : TypeId × Value → H} {W : World}
set_option maxRecDepth 100000 in
/-- Seven cells that read as a column, by value. -/
theorem col_of {base fuel : Nat} {spare : Nat → Bool} {held : Bool} {cs : List Value} {y : DataW H × List MemPlace}
    (h : DataW.trod enc Tryz.prog W base spare held fuel 30 cs = some y) : ∃ x : C, cs = x.cells ∧ x.d.ok := by
  obtain ⟨xs, n, _, _, hlen, hxl, hf⟩ := DataW.trod_struct Tryz.underlying30 h
  rw [show Tryz.prog.cellsOf 30 = 7 from by kernel_rfl] at hlen
  have hx4 : xs.length = 4 := by simpa using hxl
  match cs, hlen, xs, hx4 with
  | [c0, c1, c2, c3, c4, c5, c6], _, [y0, y1, y2, y3], _ =>
    have i1 : Tryz.prog.cellsOf 3 = 1 := by kernel_rfl
    have i2 : Tryz.prog.cellsOf 4 = 1 := by kernel_rfl
    have i3 : Tryz.prog.cellsOf 9 = 1 := by kernel_rfl
    have i4 : Tryz.prog.cellsOf 28 = 4 := by kernel_rfl
    have i5 : Tryz.prog.cellsOf 26 = 1 := by kernel_rfl
    have f0 : DataW.trod enc Tryz.prog W base spare held n 9 (List.take (Tryz.prog.cellsOf 9) [c0, c1, c2, c3, c4, c5, c6]) = some y0 := hf 0 _ rfl
    rw [i3] at f0
    have f1 : DataW.trod enc Tryz.prog W base spare held n 3 (List.take (Tryz.prog.cellsOf 3) [c1, c2, c3, c4, c5, c6]) = some y1 := hf 1 _ rfl
    rw [i1] at f1
    have f2 : DataW.trod enc Tryz.prog W base spare held n 4 (List.take (Tryz.prog.cellsOf 4) [c2, c3, c4, c5, c6]) = some y2 := hf 2 _ rfl
    rw [i2] at f2
    have f3 : DataW.trod enc Tryz.prog W base spare held n 28 (List.take (Tryz.prog.cellsOf 28) [c3, c4, c5, c6]) = some y3 := hf 3 _ rfl
    rw [i4] at f3
    obtain ⟨nm, e0, _, _⟩ := DataW.trod_string Tryz.underlying9 f0
    obtain ⟨kd, e1, _, _⟩ := DataW.trod_int Tryz.underlying3 f1
    obtain ⟨nu, e2, _⟩ := DataW.trod_bool Tryz.underlying4 f2
    obtain rfl : c0 = .string nm := by simpa using e0
    obtain rfl : c1 = .int .i64 kd := by simpa using e1
    obtain rfl : c2 = .bool nu := by simpa using e2
    obtain ⟨zs, m, _, _, hlen', hzl, hg⟩ := DataW.trod_struct Tryz.underlying28 f3
    have hz4 : zs.length = 4 := by simpa using hzl
    match zs, hz4 with
    | [z0, z1, z2, z3], _ =>
      have g0 : DataW.trod enc Tryz.prog W base spare held m 3 (List.take (Tryz.prog.cellsOf 3) [c3, c4, c5, c6]) = some z0 := hg 0 _ rfl
      rw [i1] at g0
      have g1 : DataW.trod enc Tryz.prog W base spare held m 3 (List.take (Tryz.prog.cellsOf 3) [c4, c5, c6]) = some z1 := hg 1 _ rfl
      rw [i1] at g1
      have g2 : DataW.trod enc Tryz.prog W base spare held m 26 (List.take (Tryz.prog.cellsOf 26) [c5, c6]) = some z2 := hg 2 _ rfl
      rw [i5] at g2
      have g3 : DataW.trod enc Tryz.prog W base spare held m 9 (List.take (Tryz.prog.cellsOf 9) [c6]) = some z3 := hg 3 _ rfl
      rw [i3] at g3
      obtain ⟨k, a0, _, _⟩ := DataW.trod_int Tryz.underlying3 g0
      obtain ⟨nn, a1, _, w1⟩ := DataW.trod_int Tryz.underlying3 g1
      obtain ⟨b, a2, _, w2⟩ := DataW.trod_int Tryz.underlying26 g2
      obtain ⟨s, a3, _, _⟩ := DataW.trod_string Tryz.underlying9 g3
      obtain rfl : c3 = .int .i64 k := by simpa using a0
      obtain rfl : c4 = .int .i64 nn := by simpa using a1
      obtain rfl : c5 = .int .u64 b := by simpa using a2
      obtain rfl : c6 = .string s := by simpa using a3
      refine ⟨⟨nm.data.toList, kd, nu, ⟨k, nn, b, s.data.toList⟩⟩, ?_, u_of_wf w2, n_of_wf w1⟩
      cases nm
      cases s
      rfl

set_option maxRecDepth 100000 in
/-- Three cells that read as a table, by value. -/
theorem table_of {fuel : Nat} {c0 c1 c2 : Value} {y : DataW H × List MemPlace} (h : DataW.trod enc Tryz.prog W 0 (fun _ => true) true fuel 24 [c0, c1, c2] = some y) :
    ∃ (t : T) (ao : Option Addr) (cap : Nat), c0 = .string ⟨t.name.toArray⟩ ∧ c1 = .int .i64 t.keys ∧ c2 = .slice ao t.cs.length cap ∧ At3 W t ao cap := by
  obtain ⟨xs, n, _, _, _, hxl, hf⟩ := DataW.trod_struct Tryz.underlying24 h
  have hx3 : xs.length = 3 := by simpa using hxl
  match xs, hx3 with
  | [y0, y1, y2], _ =>
    have i1 : Tryz.prog.cellsOf 3 = 1 := by kernel_rfl
    have i3 : Tryz.prog.cellsOf 9 = 1 := by kernel_rfl
    have i4 : Tryz.prog.cellsOf 22 = 1 := by kernel_rfl
    have f0 : DataW.trod enc Tryz.prog W 0 (fun _ => true) true n 9 (List.take (Tryz.prog.cellsOf 9) [c0, c1, c2]) = some y0 := hf 0 _ rfl
    rw [i3] at f0
    have f1 : DataW.trod enc Tryz.prog W 0 (fun _ => true) true n 3 (List.take (Tryz.prog.cellsOf 3) [c1, c2]) = some y1 := hf 1 _ rfl
    rw [i1] at f1
    have f2 : DataW.trod enc Tryz.prog W 0 (fun _ => true) true n 22 (List.take (Tryz.prog.cellsOf 22) [c2]) = some y2 := hf 2 _ rfl
    rw [i4] at f2
    obtain ⟨s, e0, _, _⟩ := DataW.trod_string Tryz.underlying9 f0
    obtain ⟨k, e1, _, _⟩ := DataW.trod_int Tryz.underlying3 f1
    obtain rfl : c0 = .string s := by simpa using e0
    obtain rfl : c1 = .int .i64 k := by simpa using e1
    rcases open_slice Tryz.underlying22 f2 with ⟨hcs, _⟩ | ⟨a, l, c, m, n, D, Pl, hcs, _, hl, _, hm, _, hi⟩
    · obtain rfl : c2 = .slice none 0 0 := by simpa using hcs
      exact ⟨⟨s.data.toList, k, []⟩, none, 0, by cases s; rfl, rfl, rfl, fun i x h => by simp at h, Nat.le_refl _, by simp⟩
    · obtain rfl : c2 = .slice (some a) l c := by simpa using hcs
      have hlm : l ≤ m := by rw [hm]; simpa using hl
      obtain ⟨xs, hx, hp⟩ := clist_of (P := fun i x => AtC W (a.add (i * 7)) x ∧ x.d.ok) l (fun i hil => by
        obtain ⟨cs, hc, ht⟩ := hi i (by omega)
        rw [show Tryz.prog.cellsOf 30 = 7 from by kernel_rfl] at hc
        exact open_seven ht (World.cells?_some hc).2.2)
      subst hx
      refine ⟨⟨s.data.toList, k, xs⟩, some a, c, by cases s; rfl, rfl, rfl, fun i x hix => ⟨a, rfl, (hp i x hix).1⟩, hl, fun x hxm => ?_⟩
      obtain ⟨i, hil, rfl⟩ := List.getElem_of_mem hxm
      exact (hp i _ (List.getElem?_eq_getElem hil)).2

set_option maxRecDepth 100000 in
set_option maxHeartbeats 1000000 in
/-- A change. -/
theorem open_change {r : Reach} {b0 : Nat} {v : Value} {d : DataW H} {p : List MemPlace}
    (hv : Value.okWide Tryz.prog W r b0 32 v) (h : DataW.Trod enc Tryz.prog W 0 (fun _ => true) true 32 v d p) :
    ∃ (c : Ch) (no : Option Addr) (nc : Nat) (dO : Option Addr) (dc : Nat), v = .agg #[.int .i64 c.kind, .string ⟨c.table.toArray⟩, .string ⟨c.other.toArray⟩, .string ⟨c.to.toArray⟩, .string ⟨c.also.toArray⟩, .string ⟨c.name.toArray⟩, .int .i64 c.type, .slice no c.names.length nc, .string ⟨c.col.name.toArray⟩, .int .i64 c.col.kind, .bool c.col.null, .int .i64 c.col.d.k, .int .i64 c.col.d.n, .int .u64 c.col.d.b, .string ⟨c.col.d.s.toArray⟩, .string ⟨c.df.name.toArray⟩, .int .i64 c.df.keys, .slice dO c.df.cs.length dc] ∧ SlS W no c.names ∧ At3 W c.df dO dc ∧ c.col.d.ok := by
  obtain ⟨⟨cs⟩, rfl, hsz⟩ := okWide_struct Tryz.underlying32 hv
  rw [show Tryz.prog.cellsOf 32 = 18 from by kernel_rfl] at hsz
  obtain ⟨fuel, hf⟩ := h
  obtain ⟨xs, n, _, _, _, hxl, hg⟩ := DataW.trod_struct Tryz.underlying32 hf
  have hx10 : xs.length = 10 := by simpa using hxl
  match cs, hsz, xs, hx10 with
  | [c0, c1, c2, c3, c4, c5, c6, c7, c8, c9, c10, c11, c12, c13, c14, c15, c16, c17], _, [y0, y1, y2, y3, y4, y5, y6, y7, y8, y9], _ =>
    have i1 : Tryz.prog.cellsOf 3 = 1 := by kernel_rfl
    have i3 : Tryz.prog.cellsOf 9 = 1 := by kernel_rfl
    have i5 : Tryz.prog.cellsOf 25 = 1 := by kernel_rfl
    have i7 : Tryz.prog.cellsOf 30 = 7 := by kernel_rfl
    have i8 : Tryz.prog.cellsOf 24 = 3 := by kernel_rfl
    have f0 : DataW.trod enc Tryz.prog W 0 (fun _ => true) true n 3 (List.take (Tryz.prog.cellsOf 3) [c0, c1, c2, c3, c4, c5, c6, c7, c8, c9, c10, c11, c12, c13, c14, c15, c16, c17]) = some y0 := hg 0 _ rfl
    rw [i1] at f0
    have f1 : DataW.trod enc Tryz.prog W 0 (fun _ => true) true n 9 (List.take (Tryz.prog.cellsOf 9) [c1, c2, c3, c4, c5, c6, c7, c8, c9, c10, c11, c12, c13, c14, c15, c16, c17]) = some y1 := hg 1 _ rfl
    rw [i3] at f1
    have f2 : DataW.trod enc Tryz.prog W 0 (fun _ => true) true n 9 (List.take (Tryz.prog.cellsOf 9) [c2, c3, c4, c5, c6, c7, c8, c9, c10, c11, c12, c13, c14, c15, c16, c17]) = some y2 := hg 2 _ rfl
    rw [i3] at f2
    have f3 : DataW.trod enc Tryz.prog W 0 (fun _ => true) true n 9 (List.take (Tryz.prog.cellsOf 9) [c3, c4, c5, c6, c7, c8, c9, c10, c11, c12, c13, c14, c15, c16, c17]) = some y3 := hg 3 _ rfl
    rw [i3] at f3
    have f4 : DataW.trod enc Tryz.prog W 0 (fun _ => true) true n 9 (List.take (Tryz.prog.cellsOf 9) [c4, c5, c6, c7, c8, c9, c10, c11, c12, c13, c14, c15, c16, c17]) = some y4 := hg 4 _ rfl
    rw [i3] at f4
    have f5 : DataW.trod enc Tryz.prog W 0 (fun _ => true) true n 9 (List.take (Tryz.prog.cellsOf 9) [c5, c6, c7, c8, c9, c10, c11, c12, c13, c14, c15, c16, c17]) = some y5 := hg 5 _ rfl
    rw [i3] at f5
    have f6 : DataW.trod enc Tryz.prog W 0 (fun _ => true) true n 3 (List.take (Tryz.prog.cellsOf 3) [c6, c7, c8, c9, c10, c11, c12, c13, c14, c15, c16, c17]) = some y6 := hg 6 _ rfl
    rw [i1] at f6
    have f7 : DataW.trod enc Tryz.prog W 0 (fun _ => true) true n 25 (List.take (Tryz.prog.cellsOf 25) [c7, c8, c9, c10, c11, c12, c13, c14, c15, c16, c17]) = some y7 := hg 7 _ rfl
    rw [i5] at f7
    have f8 : DataW.trod enc Tryz.prog W 0 (fun _ => true) true n 30 (List.take (Tryz.prog.cellsOf 30) [c8, c9, c10, c11, c12, c13, c14, c15, c16, c17]) = some y8 := hg 8 _ rfl
    rw [i7] at f8
    have f9 : DataW.trod enc Tryz.prog W 0 (fun _ => true) true n 24 (List.take (Tryz.prog.cellsOf 24) [c15, c16, c17]) = some y9 := hg 9 _ rfl
    rw [i8] at f9
    obtain ⟨kd, e0, _, _⟩ := DataW.trod_int Tryz.underlying3 f0
    obtain rfl : c0 = .int .i64 kd := by simpa using e0
    obtain ⟨ty, e6, _, _⟩ := DataW.trod_int Tryz.underlying3 f6
    obtain rfl : c6 = .int .i64 ty := by simpa using e6
    obtain ⟨⟨⟨tb⟩⟩, e1, _, _⟩ := DataW.trod_string Tryz.underlying9 f1
    obtain rfl : c1 = .string ⟨⟨tb⟩⟩ := by simpa using e1
    obtain ⟨⟨⟨ot⟩⟩, e2, _, _⟩ := DataW.trod_string Tryz.underlying9 f2
    obtain rfl : c2 = .string ⟨⟨ot⟩⟩ := by simpa using e2
    obtain ⟨⟨⟨tn⟩⟩, e3, _, _⟩ := DataW.trod_string Tryz.underlying9 f3
    obtain rfl : c3 = .string ⟨⟨tn⟩⟩ := by simpa using e3
    obtain ⟨⟨⟨al⟩⟩, e4, _, _⟩ := DataW.trod_string Tryz.underlying9 f4
    obtain rfl : c4 = .string ⟨⟨al⟩⟩ := by simpa using e4
    obtain ⟨⟨⟨nm⟩⟩, e5, _, _⟩ := DataW.trod_string Tryz.underlying9 f5
    obtain rfl : c5 = .string ⟨⟨nm⟩⟩ := by simpa using e5
    have f7' : DataW.trod enc Tryz.prog W 0 (fun _ => true) true n 25 [c7] = some y7 := f7
    have hc7 : ∃ no len nc, c7 = .slice no len nc := by
      rcases open_slice Tryz.underlying25 f7' with ⟨hcs, _⟩ | ⟨a, l, c, m, n, D, Pl, hcs, _⟩
      · exact ⟨none, 0, 0, by simpa using hcs⟩
      · exact ⟨some a, l, c, by simpa using hcs⟩
    obtain ⟨no, len, nc, rfl⟩ := hc7
    obtain ⟨ns, rfl, hns⟩ := open_texts (enc := enc) (W := W) (ao := no) (len := len) (cap := nc) (d := y7.1) (p := y7.2) ⟨n, by simpa [Value.cells] using f7'⟩
    obtain ⟨col, hcol, hok⟩ := col_of f8
    have f9' : DataW.trod enc Tryz.prog W 0 (fun _ => true) true n 24 [c15, c16, c17] = some y9 := f9
    obtain ⟨df, dO, dc, rfl, rfl, rfl, hdf⟩ := table_of f9'
    have hcol' : [c8, c9, c10, c11, c12, c13, c14] = col.cells := hcol
    simp only [C.cells, List.cons.injEq, and_true] at hcol'
    obtain ⟨rfl, rfl, rfl, rfl, rfl, rfl, rfl⟩ := hcol'
    exact ⟨⟨kd, tb, ot, tn, al, nm, ty, ns, col, df⟩, no, nc, dO, dc, rfl, hns, hdf, hok⟩
end

theorem env_two {W : World} (h : laidMetH Tryz.prog [("math/bits.deBruijn32tab", Rows.laid_math_bits_deBruijn32tab), ("math/bits.deBruijn64tab", Rows.laid_math_bits_deBruijn64tab), ("internal/strconv.uint64pow10", Rows.laid_internal_strconv_uint64pow10), ("errors.errorType", Rows.laid_errors_errorType), ("strconv.ErrRange", Rows.laid_strconv_ErrRange), ("strconv.ErrSyntax", Rows.laid_strconv_ErrSyntax), ("transom/convert.truths", Rows.laid_transom_convert_truths)] W) : Env W ∧ Km.Env W := by
  have h' : laidMet Tryz.prog [("math/bits.deBruijn32tab", Rows.laid_math_bits_deBruijn32tab), ("math/bits.deBruijn64tab", Rows.laid_math_bits_deBruijn64tab), ("internal/strconv.uint64pow10", Rows.laid_internal_strconv_uint64pow10), ("strconv.ErrRange", Rows.laid_strconv_ErrRange), ("strconv.ErrSyntax", Rows.laid_strconv_ErrSyntax), ("transom/convert.truths", Rows.laid_transom_convert_truths)] W ∧ handlesMet Tryz.prog [("errors.errorType", Rows.laid_errors_errorType)] W := h
  exact ⟨env_laid ⟨laidMet_nil _ _, h'.2⟩, Km.env_laid h'.1⟩
/-- A world that holds all of them. -/
noncomputable def laidAll (os : Os) : World := Km.World.lay (Km.laidWorld os) 0 #[.iface 188 (.agg #[.pointer (some ⟨7, 120, none⟩)])]

end Go.Proofs.YtdonmbmahcjfbaaGreatDoor
