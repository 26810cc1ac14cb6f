/-
  A table as an argument, opened; the library's variable errors.errorType as the row lists it, and a world that holds it.
-/
import Derived.Test.YtakpieiafoappaaDoorScCheck
import Derived.Test.YtakpieiafoappaaDoorKcOpen
import Derived.Test.YtakpieiafoappaaDoorRows
import Derived.LaidLaws
import Derived.LaidHandle
import Derived.Lib.SmallJoins
import Derived.Deep.Slices
import Derived.Deep.Fields
import Derived.Carry
namespace Go.Proofs.YtakpieiafoappaaDoor
open Go.ChangeShapes Go.WideShapes Go.ChangeAt Go.RowKit Go.Joins Go.Deep

theorem clist_of {P : Nat → C → Prop} : ∀ (n : Nat), (∀ i, i < n → ∃ x, P i x) → ∃ xs : List C, xs.length = n ∧ ∀ (i : Nat) (x : C), xs[i]? = some x → P i x
  | 0, _ => ⟨[], rfl, fun i x h => by simp at h⟩
  | n + 1, h => by
    obtain ⟨xs, hl, hx⟩ := clist_of n (fun i hi => h i (by omega))
    obtain ⟨y, hy⟩ := h n (by omega)
    refine ⟨xs ++ [y], by simp [hl], fun i x hi => ?_⟩
    by_cases g : i < n
    · rw [List.getElem?_append_left (by omega)] at hi
      exact hx i x hi
    · rw [List.getElem?_append_right (by omega)] at hi
      have e : i = n := by
        have := (List.getElem?_eq_some_iff.1 hi).1
        simp at this
        omega
      subst e
      rw [hl, Nat.sub_self] at hi
      obtain rfl : y = x := by simpa using hi
      exact hy

section
variable {H : Type} {enc : TypeId × Value → H} {W : World}

set_option maxRecDepth 100000 in
/-- Seven cells that read as a column. -/
theorem open_seven {base fuel : Nat} {spare : Nat → Bool} {held : Bool} {cs : List Value} {y : DataW H × List MemPlace} {p : Addr}
    (h : DataW.trod enc Tryd.prog W base spare held fuel 39 cs = some y) (hc : ∀ j, j < 7 → W.cell? (p.add j) = cs[j]?) : ∃ x : C, AtC W p x ∧ x.d.ok := by
  obtain ⟨xs, n, _, _, hlen, hxl, hf⟩ := DataW.trod_struct Tryd.underlying39 h
  rw [show Tryd.prog.cellsOf 39 = 7 from by kernel_rfl] at hlen
  have hx4 : xs.length = 4 := by simpa using hxl
  match cs, hlen, xs, hx4 with
  | [c0, c1, c2, c3, c4, c5, c6], _, [y0, y1, y2, y3], _ =>
    have i1 : Tryd.prog.cellsOf 3 = 1 := by kernel_rfl
    have i2 : Tryd.prog.cellsOf 4 = 1 := by kernel_rfl
    have i3 : Tryd.prog.cellsOf 9 = 1 := by kernel_rfl
    have i4 : Tryd.prog.cellsOf 37 = 4 := by kernel_rfl
    have i5 : Tryd.prog.cellsOf 35 = 1 := by kernel_rfl
    have f0 : DataW.trod enc Tryd.prog W base spare held n 9 (List.take (Tryd.prog.cellsOf 9) [c0, c1, c2, c3, c4, c5, c6]) = some y0 := hf 0 _ rfl
    rw [i3] at f0
    have f1 : DataW.trod enc Tryd.prog W base spare held n 3 (List.take (Tryd.prog.cellsOf 3) [c1, c2, c3, c4, c5, c6]) = some y1 := hf 1 _ rfl
    rw [i1] at f1
    have f2 : DataW.trod enc Tryd.prog W base spare held n 4 (List.take (Tryd.prog.cellsOf 4) [c2, c3, c4, c5, c6]) = some y2 := hf 2 _ rfl
    rw [i2] at f2
    have f3 : DataW.trod enc Tryd.prog W base spare held n 37 (List.take (Tryd.prog.cellsOf 37) [c3, c4, c5, c6]) = some y3 := hf 3 _ rfl
    rw [i4] at f3
    obtain ⟨nm, e0, _, _⟩ := DataW.trod_string Tryd.underlying9 f0
    obtain ⟨kd, e1, _, _⟩ := DataW.trod_int Tryd.underlying3 f1
    obtain ⟨nu, e2, _⟩ := DataW.trod_bool Tryd.underlying4 f2
    obtain rfl : c0 = .string nm := by simpa using e0
    obtain rfl : c1 = .int .i64 kd := by simpa using e1
    obtain rfl : c2 = .bool nu := by simpa using e2
    obtain ⟨zs, m, _, _, hlen', hzl, hg⟩ := DataW.trod_struct Tryd.underlying37 f3
    have hz4 : zs.length = 4 := by simpa using hzl
    match zs, hz4 with
    | [z0, z1, z2, z3], _ =>
      have g0 : DataW.trod enc Tryd.prog W base spare held m 3 (List.take (Tryd.prog.cellsOf 3) [c3, c4, c5, c6]) = some z0 := hg 0 _ rfl
      rw [i1] at g0
      have g1 : DataW.trod enc Tryd.prog W base spare held m 3 (List.take (Tryd.prog.cellsOf 3) [c4, c5, c6]) = some z1 := hg 1 _ rfl
      rw [i1] at g1
      have g2 : DataW.trod enc Tryd.prog W base spare held m 35 (List.take (Tryd.prog.cellsOf 35) [c5, c6]) = some z2 := hg 2 _ rfl
      rw [i5] at g2
      have g3 : DataW.trod enc Tryd.prog W base spare held m 9 (List.take (Tryd.prog.cellsOf 9) [c6]) = some z3 := hg 3 _ rfl
      rw [i3] at g3
      obtain ⟨k, a0, _, _⟩ := DataW.trod_int Tryd.underlying3 g0
      obtain ⟨nn, a1, _, w1⟩ := DataW.trod_int Tryd.underlying3 g1
      obtain ⟨b, a2, _, w2⟩ := DataW.trod_int Tryd.underlying35 g2
      obtain ⟨s, a3, _, _⟩ := DataW.trod_string Tryd.underlying9 g3
      obtain rfl : c3 = .int .i64 k := by simpa using a0
      obtain rfl : c4 = .int .i64 nn := by simpa using a1
      obtain rfl : c5 = .int .u64 b := by simpa using a2
      obtain rfl : c6 = .string s := by simpa using a3
      refine ⟨⟨nm.data.toList, kd, nu, ⟨k, nn, b, s.data.toList⟩⟩, ⟨?_, hc 1 (by decide), hc 2 (by decide), hc 3 (by decide), hc 4 (by decide), hc 5 (by decide), ?_⟩, u_of_wf w2, n_of_wf w1⟩
      · have := hc 0 (by decide)
        cases nm
        exact this
      · have := hc 6 (by decide)
        cases s
        exact this

/-- A slice has room for its length. -/
theorem cap_of {t e : TypeId} (ht : Tryd.prog.underlying t = some (.slice e)) {ao : Option Addr} {len cap : Nat} {d : DataW H} {p : List MemPlace} (h : DataW.Trod enc Tryd.prog W 0 (fun _ => true) true t (.slice ao len cap) d p) : len ≤ cap := by
  obtain ⟨fuel, hf⟩ := h
  rcases open_slice ht hf with ⟨hcs, _⟩ | ⟨a, l, c, m, n, D, Pl, hcs, _, hl, _⟩
  · simp [Value.cells] at hcs
    obtain ⟨rfl, rfl, rfl⟩ := hcs
    exact Nat.le_refl _
  · simp [Value.cells] at hcs
    obtain ⟨rfl, rfl, rfl⟩ := hcs
    exact hl

set_option maxRecDepth 100000 in
/-- A table. -/
theorem open_table {r : Reach} {b0 : Nat} {v : Value} {d : DataW H} {p : List MemPlace}
    (hv : Value.okWide Tryd.prog W r b0 24 v) (h : DataW.Trod enc Tryd.prog W 0 (fun _ => true) true 24 v d p) :
    ∃ (t : T) (ao : Option Addr) (cap : Nat), v = .agg #[.string ⟨t.name.toArray⟩, .int .i64 t.keys, .slice ao t.cs.length cap] ∧ At3 W t ao cap := by
  obtain ⟨v0, v1, v2, y0, y1, y2, m, rfl, rfl, rfl, h0, h1, h2⟩ := open_agg3 Tryd.underlying24 (by kernel_rfl) (by kernel_rfl) hv h
  obtain ⟨s, e0, _, _⟩ := DataW.trod_string Tryd.underlying9 h0
  obtain ⟨k, e1, _, _⟩ := DataW.trod_int Tryd.underlying3 h1
  obtain rfl : v0 = .string s := by simpa using e0
  obtain rfl : v1 = .int .i64 k := by simpa using e1
  rcases open_slice Tryd.underlying22 h2 with ⟨hcs, _⟩ | ⟨a, l, c, m, n, D, Pl, hcs, _, hl, _, hm, _, hi⟩
  · obtain rfl : v2 = .slice none 0 0 := by simpa using hcs
    refine ⟨⟨s.data.toList, k, []⟩, none, 0, by cases s; rfl, fun i x h => by simp at h, Nat.le_refl _, by simp⟩
  · obtain rfl : v2 = .slice (some a) l c := by simpa using hcs
    have hlm : l ≤ m := by rw [hm]; simpa using hl
    obtain ⟨xs, hx, hp⟩ := clist_of (P := fun i x => AtC W (a.add (i * 7)) x ∧ x.d.ok) l (fun i hil => by
      obtain ⟨cs, hc, ht⟩ := hi i (by omega)
      rw [show Tryd.prog.cellsOf 39 = 7 from by kernel_rfl] at hc
      exact open_seven ht (World.cells?_some hc).2.2)
    subst hx
    refine ⟨⟨s.data.toList, k, xs⟩, some a, c, by cases s; rfl, fun i x hix => ⟨a, rfl, (hp i x hix).1⟩, hl, fun x hxm => ?_⟩
    obtain ⟨i, hil, rfl⟩ := List.getElem_of_mem hxm
    exact (hp i _ (List.getElem?_eq_getElem hil)).2
end

theorem er_et : Tryd.prog.globalNamed "errors.errorType" = some 0 := by kernel_rfl
theorem er_rt : (Tryd.prog.cutTypes.find? (·.1 == "internal/reflectlite.rtype")).map (·.2) = some 131 := by kernel_rfl
theorem er_row : ((List.range Tryd.prog.types.size).filter fun t => Tryd.prog.rowNamed t [101, 114, 114, 111, 114]) = [57] := by kernel_rfl
theorem env_laid {W : World} (h : laidMetH Tryd.prog [("errors.errorType", Rows.laid_errors_errorType)] W) : Env W := by
  have h' : laidMet Tryd.prog [] W ∧ handlesMet Tryd.prog [("errors.errorType", Rows.laid_errors_errorType)] W := h
  obtain ⟨name, u, ty, e1, e2, e3, e4, e5⟩ := h'.2 _ (List.mem_singleton.2 rfl)
  have en : name = [101, 114, 114, 111, 114] := (Option.some.inj e1).symm
  subst en
  obtain rfl := Option.some.inj (er_rt.symm.trans e2)
  have hm : ty ∈ (List.range Tryd.prog.types.size).filter fun t => Tryd.prog.rowNamed t [101, 114, 114, 111, 114] := List.mem_filter.2 ⟨List.mem_range.2 e3, e4⟩
  rw [er_row] at hm
  obtain rfl := List.mem_singleton.1 hm
  have hh : typeHandle Tryd.prog 57 = .pointer (some ⟨1, 57, none⟩) := by kernel_rfl
  rw [hh] at e5
  have := World.var?_cell er_et e5 0
  unfold Env
  simpa using this
/-- A world that holds it. -/
noncomputable def laidWorld (os : Os) : World :=
  let w0 := World.holding Tryd.prog os ⟨#[], #[], []⟩
  { w0 with heap := w0.heap.modify 0 fun
      | .cells _ t frozen => .cells #[.iface 131 (.agg #[.pointer (some ⟨1, 57, none⟩)])] t frozen
      | o => o }

end Go.Proofs.YtakpieiafoappaaDoor
