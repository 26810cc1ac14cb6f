/-
  A change, and what is asked, as arguments, opened.
-/
import Derived.Test.YtmgdciihpjifgaaGreatDoorQcScOpen
import Derived.Test.YtmgdciihpjifgaaGreatDoorQcOpMemO
import Derived.Test.YtmgdciihpjifgaaGreatDoorQcNmCheck
import Derived.Test.YtmgdciihpjifgaaGreatDoorQcKcVals
set_option maxHeartbeats 1000000
namespace Go.Proofs.YtmgdciihpjifgaaGreatDoor
open Go.ChangeShapes Go.WideShapes Go.ChangeAt Go.RowKit Go.Joins Go.Deep
set_option linter.unusedVariables false
section
variable {H : Type} {enc : TypeId × Value → H} {W : World}
set_option maxRecDepth 100000 in
theorem col_of {base fuel : Nat} {spare : Nat → Bool} {held : Bool} {cs : List Value} {y : DataW H × List MemPlace}
    (h : DataW.trod enc Tryz.prog W base spare held fuel 27 cs = some y) : ∃ x : C, cs = x.cells ∧ x.d.ok := by
  obtain ⟨xs, n, _, _, hlen, hxl, hf⟩ := DataW.trod_struct Tryz.underlying27 h
  rw [show Tryz.prog.cellsOf 27 = 7 from by kernel_rfl] at hlen
  have hx4 : xs.length = 4 := by simpa using hxl
  match cs, hlen, xs, hx4 with
  | [c0, c1, c2, c3, c4, c5, c6], _, [y0, y1, y2, y3], _ =>
    have i1 : Tryz.prog.cellsOf 3 = 1 := by kernel_rfl
    have i2 : Tryz.prog.cellsOf 4 = 1 := by kernel_rfl
    have i3 : Tryz.prog.cellsOf 9 = 1 := by kernel_rfl
    have i4 : Tryz.prog.cellsOf 25 = 4 := by kernel_rfl
    have i5 : Tryz.prog.cellsOf 23 = 1 := by kernel_rfl
    have f0 : DataW.trod enc Tryz.prog W base spare held n 9 (List.take (Tryz.prog.cellsOf 9) [c0, c1, c2, c3, c4, c5, c6]) = some y0 := hf 0 _ rfl
    rw [i3] at f0
    have f1 : DataW.trod enc Tryz.prog W base spare held n 3 (List.take (Tryz.prog.cellsOf 3) [c1, c2, c3, c4, c5, c6]) = some y1 := hf 1 _ rfl
    rw [i1] at f1
    have f2 : DataW.trod enc Tryz.prog W base spare held n 4 (List.take (Tryz.prog.cellsOf 4) [c2, c3, c4, c5, c6]) = some y2 := hf 2 _ rfl
    rw [i2] at f2
    have f3 : DataW.trod enc Tryz.prog W base spare held n 25 (List.take (Tryz.prog.cellsOf 25) [c3, c4, c5, c6]) = some y3 := hf 3 _ rfl
    rw [i4] at f3
    obtain ⟨nm, e0, _, _⟩ := DataW.trod_string Tryz.underlying9 f0
    obtain ⟨kd, e1, _, _⟩ := DataW.trod_int Tryz.underlying3 f1
    obtain ⟨nu, e2, _⟩ := DataW.trod_bool Tryz.underlying4 f2
    obtain rfl : c0 = .string nm := by simpa using e0
    obtain rfl : c1 = .int .i64 kd := by simpa using e1
    obtain rfl : c2 = .bool nu := by simpa using e2
    obtain ⟨zs, m, _, _, hlen', hzl, hg⟩ := DataW.trod_struct Tryz.underlying25 f3
    have hz4 : zs.length = 4 := by simpa using hzl
    match zs, hz4 with
    | [z0, z1, z2, z3], _ =>
      have g0 : DataW.trod enc Tryz.prog W base spare held m 3 (List.take (Tryz.prog.cellsOf 3) [c3, c4, c5, c6]) = some z0 := hg 0 _ rfl
      rw [i1] at g0
      have g1 : DataW.trod enc Tryz.prog W base spare held m 3 (List.take (Tryz.prog.cellsOf 3) [c4, c5, c6]) = some z1 := hg 1 _ rfl
      rw [i1] at g1
      have g2 : DataW.trod enc Tryz.prog W base spare held m 23 (List.take (Tryz.prog.cellsOf 23) [c5, c6]) = some z2 := hg 2 _ rfl
      rw [i5] at g2
      have g3 : DataW.trod enc Tryz.prog W base spare held m 9 (List.take (Tryz.prog.cellsOf 9) [c6]) = some z3 := hg 3 _ rfl
      rw [i3] at g3
      obtain ⟨k, a0, _, _⟩ := DataW.trod_int Tryz.underlying3 g0
      obtain ⟨nn, a1, _, w1⟩ := DataW.trod_int Tryz.underlying3 g1
      obtain ⟨b, a2, _, w2⟩ := DataW.trod_int Tryz.underlying23 g2
      obtain ⟨s, a3, _, _⟩ := DataW.trod_string Tryz.underlying9 g3
      obtain rfl : c3 = .int .i64 k := by simpa using a0
      obtain rfl : c4 = .int .i64 nn := by simpa using a1
      obtain rfl : c5 = .int .u64 b := by simpa using a2
      obtain rfl : c6 = .string s := by simpa using a3
      refine ⟨⟨nm.data.toList, kd, nu, ⟨k, nn, b, s.data.toList⟩⟩, ?_, u_of_wf w2, n_of_wf w1⟩
      cases nm
      cases s
      rfl
set_option maxRecDepth 100000 in
theorem table_of {fuel : Nat} {c0 c1 c2 : Value} {y : DataW H × List MemPlace} (h : DataW.trod enc Tryz.prog W 0 (fun _ => true) true fuel 30 [c0, c1, c2] = some y) :
    ∃ (t : T) (ao : Option Addr) (cap : Nat), c0 = .string ⟨t.name.toArray⟩ ∧ c1 = .int .i64 t.keys ∧ c2 = .slice ao t.cs.length cap ∧ At3 W t ao cap := by
  obtain ⟨xs, n, _, _, _, hxl, hf⟩ := DataW.trod_struct Tryz.underlying30 h
  have hx3 : xs.length = 3 := by simpa using hxl
  match xs, hx3 with
  | [y0, y1, y2], _ =>
    have i1 : Tryz.prog.cellsOf 3 = 1 := by kernel_rfl
    have i3 : Tryz.prog.cellsOf 9 = 1 := by kernel_rfl
    have i4 : Tryz.prog.cellsOf 28 = 1 := by kernel_rfl
    have f0 : DataW.trod enc Tryz.prog W 0 (fun _ => true) true n 9 (List.take (Tryz.prog.cellsOf 9) [c0, c1, c2]) = some y0 := hf 0 _ rfl
    rw [i3] at f0
    have f1 : DataW.trod enc Tryz.prog W 0 (fun _ => true) true n 3 (List.take (Tryz.prog.cellsOf 3) [c1, c2]) = some y1 := hf 1 _ rfl
    rw [i1] at f1
    have f2 : DataW.trod enc Tryz.prog W 0 (fun _ => true) true n 28 (List.take (Tryz.prog.cellsOf 28) [c2]) = some y2 := hf 2 _ rfl
    rw [i4] at f2
    obtain ⟨s, e0, _, _⟩ := DataW.trod_string Tryz.underlying9 f0
    obtain ⟨k, e1, _, _⟩ := DataW.trod_int Tryz.underlying3 f1
    obtain rfl : c0 = .string s := by simpa using e0
    obtain rfl : c1 = .int .i64 k := by simpa using e1
    rcases open_slice Tryz.underlying28 f2 with ⟨hcs, _⟩ | ⟨a, l, c, m, n, D, Pl, hcs, _, hl, _, hm, _, hi⟩
    · obtain rfl : c2 = .slice none 0 0 := by simpa using hcs
      exact ⟨⟨s.data.toList, k, []⟩, none, 0, by cases s; rfl, rfl, rfl, fun i x h => by simp at h, Nat.le_refl _, by simp⟩
    · obtain rfl : c2 = .slice (some a) l c := by simpa using hcs
      have hlm : l ≤ m := by rw [hm]; simpa using hl
      obtain ⟨xs, hx, hp⟩ := clist_of (P := fun i x => AtC W (a.add (i * 7)) x ∧ x.d.ok) l (fun i hil => by
        obtain ⟨cs, hc, ht⟩ := hi i (by omega)
        rw [show Tryz.prog.cellsOf 27 = 7 from by kernel_rfl] at hc
        exact open_seven ht (World.cells?_some hc).2.2)
      subst hx
      refine ⟨⟨s.data.toList, k, xs⟩, some a, c, by cases s; rfl, rfl, rfl, fun i x hix => ⟨a, rfl, (hp i x hix).1⟩, hl, fun x hxm => ?_⟩
      obtain ⟨i, hil, rfl⟩ := List.getElem_of_mem hxm
      exact (hp i _ (List.getElem?_eq_getElem hil)).2
set_option maxRecDepth 100000 in
theorem change_of {fuel : Nat} {cs : List Value} {y : DataW H × List MemPlace} (h : DataW.trod enc Tryz.prog W 0 (fun _ => true) true fuel 32 cs = some y) :
    ∃ (c : Ch) (no : Option Addr) (nc : Nat) (dO : Option Addr) (dc : Nat), cs = (c.a no nc dO dc).toList ∧ InC W c no dO dc := by
  obtain ⟨xs, n, _, _, hlen, hxl, hg⟩ := DataW.trod_struct Tryz.underlying32 h
  rw [show Tryz.prog.cellsOf 32 = 18 from by kernel_rfl] at hlen
  have hx10 : xs.length = 10 := by simpa using hxl
  match cs, hlen, xs, hx10 with
  | [c0, c1, c2, c3, c4, c5, c6, c7, c8, c9, c10, c11, c12, c13, c14, c15, c16, c17], _, [y0, y1, y2, y3, y4, y5, y6, y7, y8, y9], _ =>
    have i1 : Tryz.prog.cellsOf 3 = 1 := by kernel_rfl
    have i3 : Tryz.prog.cellsOf 9 = 1 := by kernel_rfl
    have i5 : Tryz.prog.cellsOf 22 = 1 := by kernel_rfl
    have i7 : Tryz.prog.cellsOf 27 = 7 := by kernel_rfl
    have i8 : Tryz.prog.cellsOf 30 = 3 := by kernel_rfl
    have f0 : DataW.trod enc Tryz.prog W 0 (fun _ => true) true n 3 (List.take (Tryz.prog.cellsOf 3) [c0, c1, c2, c3, c4, c5, c6, c7, c8, c9, c10, c11, c12, c13, c14, c15, c16, c17]) = some y0 := hg 0 _ rfl
    rw [i1] at f0
    have f1 : DataW.trod enc Tryz.prog W 0 (fun _ => true) true n 9 (List.take (Tryz.prog.cellsOf 9) [c1, c2, c3, c4, c5, c6, c7, c8, c9, c10, c11, c12, c13, c14, c15, c16, c17]) = some y1 := hg 1 _ rfl
    rw [i3] at f1
    have f2 : DataW.trod enc Tryz.prog W 0 (fun _ => true) true n 9 (List.take (Tryz.prog.cellsOf 9) [c2, c3, c4, c5, c6, c7, c8, c9, c10, c11, c12, c13, c14, c15, c16, c17]) = some y2 := hg 2 _ rfl
    rw [i3] at f2
    have f3 : DataW.trod enc Tryz.prog W 0 (fun _ => true) true n 9 (List.take (Tryz.prog.cellsOf 9) [c3, c4, c5, c6, c7, c8, c9, c10, c11, c12, c13, c14, c15, c16, c17]) = some y3 := hg 3 _ rfl
    rw [i3] at f3
    have f4 : DataW.trod enc Tryz.prog W 0 (fun _ => true) true n 9 (List.take (Tryz.prog.cellsOf 9) [c4, c5, c6, c7, c8, c9, c10, c11, c12, c13, c14, c15, c16, c17]) = some y4 := hg 4 _ rfl
    rw [i3] at f4
    have f5 : DataW.trod enc Tryz.prog W 0 (fun _ => true) true n 9 (List.take (Tryz.prog.cellsOf 9) [c5, c6, c7, c8, c9, c10, c11, c12, c13, c14, c15, c16, c17]) = some y5 := hg 5 _ rfl
    rw [i3] at f5
    have f6 : DataW.trod enc Tryz.prog W 0 (fun _ => true) true n 3 (List.take (Tryz.prog.cellsOf 3) [c6, c7, c8, c9, c10, c11, c12, c13, c14, c15, c16, c17]) = some y6 := hg 6 _ rfl
    rw [i1] at f6
    have f7 : DataW.trod enc Tryz.prog W 0 (fun _ => true) true n 22 (List.take (Tryz.prog.cellsOf 22) [c7, c8, c9, c10, c11, c12, c13, c14, c15, c16, c17]) = some y7 := hg 7 _ rfl
    rw [i5] at f7
    have f8 : DataW.trod enc Tryz.prog W 0 (fun _ => true) true n 27 (List.take (Tryz.prog.cellsOf 27) [c8, c9, c10, c11, c12, c13, c14, c15, c16, c17]) = some y8 := hg 8 _ rfl
    rw [i7] at f8
    have f9 : DataW.trod enc Tryz.prog W 0 (fun _ => true) true n 30 (List.take (Tryz.prog.cellsOf 30) [c15, c16, c17]) = some y9 := hg 9 _ rfl
    rw [i8] at f9
    obtain ⟨kd, e0, _, _⟩ := DataW.trod_int Tryz.underlying3 f0
    obtain rfl : c0 = .int .i64 kd := by simpa using e0
    obtain ⟨ty, e6, _, _⟩ := DataW.trod_int Tryz.underlying3 f6
    obtain rfl : c6 = .int .i64 ty := by simpa using e6
    obtain ⟨⟨⟨tb⟩⟩, e1, _, _⟩ := DataW.trod_string Tryz.underlying9 f1
    obtain rfl : c1 = .string ⟨⟨tb⟩⟩ := by simpa using e1
    obtain ⟨⟨⟨ot⟩⟩, e2, _, _⟩ := DataW.trod_string Tryz.underlying9 f2
    obtain rfl : c2 = .string ⟨⟨ot⟩⟩ := by simpa using e2
    obtain ⟨⟨⟨tn⟩⟩, e3, _, _⟩ := DataW.trod_string Tryz.underlying9 f3
    obtain rfl : c3 = .string ⟨⟨tn⟩⟩ := by simpa using e3
    obtain ⟨⟨⟨al⟩⟩, e4, _, _⟩ := DataW.trod_string Tryz.underlying9 f4
    obtain rfl : c4 = .string ⟨⟨al⟩⟩ := by simpa using e4
    obtain ⟨⟨⟨nm⟩⟩, e5, _, _⟩ := DataW.trod_string Tryz.underlying9 f5
    obtain rfl : c5 = .string ⟨⟨nm⟩⟩ := by simpa using e5
    have f7' : DataW.trod enc Tryz.prog W 0 (fun _ => true) true n 22 [c7] = some y7 := f7
    have hc7 : ∃ no len nc, c7 = .slice no len nc := by
      rcases open_slice Tryz.underlying22 f7' with ⟨hcs, _⟩ | ⟨a, l, c, m, n, D, Pl, hcs, _⟩
      · exact ⟨none, 0, 0, by simpa using hcs⟩
      · exact ⟨some a, l, c, by simpa using hcs⟩
    obtain ⟨no, len, nc, rfl⟩ := hc7
    obtain ⟨ns, rfl, hns⟩ := open_texts (enc := enc) (W := W) (ao := no) (len := len) (cap := nc) (d := y7.1) (p := y7.2) ⟨n, by simpa [Value.cells] using f7'⟩
    obtain ⟨col, hcol, hok⟩ := col_of f8
    have f9' : DataW.trod enc Tryz.prog W 0 (fun _ => true) true n 30 [c15, c16, c17] = some y9 := f9
    obtain ⟨df, dO, dc, rfl, rfl, rfl, hdf⟩ := table_of f9'
    have hcol' : [c8, c9, c10, c11, c12, c13, c14] = col.cells := hcol
    simp only [C.cells, List.cons.injEq, and_true] at hcol'
    obtain ⟨rfl, rfl, rfl, rfl, rfl, rfl, rfl⟩ := hcol'
    exact ⟨⟨kd, tb, ot, tn, al, nm, ty, ns, col, df⟩, no, nc, dO, dc, rfl, hns, hdf, hok⟩
set_option maxRecDepth 100000 in
theorem open_ch {r : Reach} {b0 : Nat} {v : Value} {d : DataW H} {p : List MemPlace}
    (hv : Value.okWide Tryz.prog W r b0 32 v) (h : DataW.Trod enc Tryz.prog W 0 (fun _ => true) true 32 v d p) :
    ∃ (c : Ch) (no : Option Addr) (nc : Nat) (dO : Option Addr) (dc : Nat), v = .agg (c.a no nc dO dc) ∧ InC W c no dO dc := by
  obtain ⟨⟨cs⟩, rfl, hsz⟩ := okWide_struct Tryz.underlying32 hv
  obtain ⟨fuel, hf⟩ := h
  obtain ⟨c, no, nc, dO, dc, e, hc⟩ := change_of hf
  refine ⟨c, no, nc, dO, dc, ?_, hc⟩
  have e' : cs = (c.a no nc dO dc).toList := e
  rw [e']
end
end Go.Proofs.YtmgdciihpjifgaaGreatDoor
