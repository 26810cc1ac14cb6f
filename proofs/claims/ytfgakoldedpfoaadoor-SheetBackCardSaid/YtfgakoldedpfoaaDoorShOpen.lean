/-
  A sheet as an argument, opened. Conditions: none.
-/
import Derived.Test.YtfgakoldedpfoaaDoorScOpen
import Derived.Test.YtfgakoldedpfoaaDoorShMem
namespace Go.Proofs.YtfgakoldedpfoaaDoor
open Go.ChangeShapes Go.WideShapes Go.ChangeAt Go.RowKit Go.Joins Go.Deep

theorem llist_of {P : Nat → LV → Prop} : ∀ (n : Nat), (∀ i, i < n → ∃ x, P i x) → ∃ xs : List LV, xs.length = n ∧ ∀ (i : Nat) (x : LV), xs[i]? = some x → P i x
  | 0, _ => ⟨[], rfl, fun i x h => by simp at h⟩
  | n + 1, h => by
    obtain ⟨xs, hl, hx⟩ := llist_of n (fun i hi => h i (by omega))
    obtain ⟨y, hy⟩ := h n (by omega)
    refine ⟨xs ++ [y], by simp [hl], fun i x hi => ?_⟩
    by_cases g : i < n
    · rw [List.getElem?_append_left (by omega)] at hi
      exact hx i x hi
    · rw [List.getElem?_append_right (by omega)] at hi
      have e : i = n := by
        have := (List.getElem?_eq_some_iff.1 hi).1
        simp at this
        omega
      subst e
      rw [hl, Nat.sub_self] at hi
      obtain rfl : y = x := by simpa using hi
      exact hy
section
variable {H : Type} {enc : TypeId × Value → H} {W : World}
theorem table_of {fuel : Nat} {c0 c1 c2 : Value} {y : DataW H × List MemPlace} (h : DataW.trod enc Tryd.prog W 0 (fun _ => true) true fuel 24 [c0, c1, c2] = some y) :
    ∃ (t : T) (ao : Option Addr) (cap : Nat), c0 = .string ⟨t.name.toArray⟩ ∧ c1 = .int .i64 t.keys ∧ c2 = .slice ao t.cs.length cap ∧ At3 W t ao cap := by
  obtain ⟨xs, n, _, _, _, hxl, hf⟩ := DataW.trod_struct Tryd.underlying24 h
  have hx3 : xs.length = 3 := by simpa using hxl
  match xs, hx3 with
  | [y0, y1, y2], _ =>
    have i1 : Tryd.prog.cellsOf 3 = 1 := by kernel_rfl
    have i3 : Tryd.prog.cellsOf 9 = 1 := by kernel_rfl
    have i4 : Tryd.prog.cellsOf 22 = 1 := by kernel_rfl
    have f0 : DataW.trod enc Tryd.prog W 0 (fun _ => true) true n 9 (List.take (Tryd.prog.cellsOf 9) [c0, c1, c2]) = some y0 := hf 0 _ rfl
    rw [i3] at f0
    have f1 : DataW.trod enc Tryd.prog W 0 (fun _ => true) true n 3 (List.take (Tryd.prog.cellsOf 3) [c1, c2]) = some y1 := hf 1 _ rfl
    rw [i1] at f1
    have f2 : DataW.trod enc Tryd.prog W 0 (fun _ => true) true n 22 (List.take (Tryd.prog.cellsOf 22) [c2]) = some y2 := hf 2 _ rfl
    rw [i4] at f2
    obtain ⟨s, e0, _, _⟩ := DataW.trod_string Tryd.underlying9 f0
    obtain ⟨k, e1, _, _⟩ := DataW.trod_int Tryd.underlying3 f1
    obtain rfl : c0 = .string s := by simpa using e0
    obtain rfl : c1 = .int .i64 k := by simpa using e1
    rcases open_slice Tryd.underlying22 f2 with ⟨hcs, _⟩ | ⟨a, l, c, m, n, D, Pl, hcs, _, hl, _, hm, _, hi⟩
    · obtain rfl : c2 = .slice none 0 0 := by simpa using hcs
      exact ⟨⟨s.data.toList, k, []⟩, none, 0, by cases s; rfl, rfl, rfl, fun i x h => by simp at h, Nat.le_refl _, by simp⟩
    · obtain rfl : c2 = .slice (some a) l c := by simpa using hcs
      have hlm : l ≤ m := by rw [hm]; simpa using hl
      obtain ⟨xs, hx, hp⟩ := clist_of (P := fun i x => AtC W (a.add (i * 7)) x ∧ x.d.ok) l (fun i hil => by
        obtain ⟨cs, hc, ht⟩ := hi i (by omega)
        rw [show Tryd.prog.cellsOf 76 = 7 from by kernel_rfl] at hc
        exact open_seven ht (World.cells?_some hc).2.2)
      subst hx
      refine ⟨⟨s.data.toList, k, xs⟩, some a, c, by cases s; rfl, rfl, rfl, fun i x hix => ⟨a, rfl, (hp i x hix).1⟩, hl, fun x hxm => ?_⟩
      obtain ⟨i, hil, rfl⟩ := List.getElem_of_mem hxm
      exact (hp i _ (List.getElem?_eq_getElem hil)).2

set_option maxRecDepth 100000 in
/-- Two cells that read as a line. -/
theorem open_line {fuel : Nat} {cs : List Value} {y : DataW H × List MemPlace} {p : Addr}
    (h : DataW.trod enc Tryd.prog W 0 (fun _ => true) true fuel 54 cs = some y) (hc : ∀ j, j < 2 → W.cell? (p.add j) = cs[j]?) : ∃ z : LV, AtL W p z ∧ Sl W z.ao z.xs ∧ z.xs.length ≤ z.cap ∧ (z.ao = none → z.cap = 0) ∧ ∀ x ∈ z.xs, x.ok := by
  obtain ⟨xs, n, _, _, hlen, hxl, hf⟩ := DataW.trod_struct Tryd.underlying54 h
  rw [show Tryd.prog.cellsOf 54 = 2 from by kernel_rfl] at hlen
  have hx2 : xs.length = 2 := by simpa using hxl
  match cs, hlen, xs, hx2 with
  | [c0, c1], _, [y0, y1], _ =>
    have i3 : Tryd.prog.cellsOf 9 = 1 := by kernel_rfl
    have i4 : Tryd.prog.cellsOf 43 = 1 := by kernel_rfl
    have f0 : DataW.trod enc Tryd.prog W 0 (fun _ => true) true n 9 (List.take (Tryd.prog.cellsOf 9) [c0, c1]) = some y0 := hf 0 _ rfl
    rw [i3] at f0
    have f1 : DataW.trod enc Tryd.prog W 0 (fun _ => true) true n 43 (List.take (Tryd.prog.cellsOf 43) [c1]) = some y1 := hf 1 _ rfl
    rw [i4] at f1
    obtain ⟨⟨⟨s⟩⟩, e0, _, _⟩ := DataW.trod_string Tryd.underlying9 f0
    obtain rfl : c0 = .string ⟨⟨s⟩⟩ := by simpa using e0
    have f1' : DataW.trod enc Tryd.prog W 0 (fun _ => true) true n 43 [c1] = some y1 := f1
    have hs : ∃ bo bl bc, c1 = .slice bo bl bc ∧ (bo = none → bc = 0) := by
      rcases open_slice Tryd.underlying43 f1' with ⟨hcs, _⟩ | ⟨b, l', c', m', n', D', Pl', hcs, _⟩
      · exact ⟨none, 0, 0, by simpa using hcs, fun _ => rfl⟩
      · exact ⟨some b, l', c', by simpa using hcs, fun h => by cases h⟩
    obtain ⟨bo, bl, bc, rfl, hbn⟩ := hs
    obtain ⟨d1, p1⟩ := y1
    have tr : DataW.Trod enc Tryd.prog W 0 (fun _ => true) true 43 (.slice bo bl bc) d1 p1 := ⟨n, by simpa [Value.cells] using f1'⟩
    have cp := cap_of Tryd.underlying43 tr
    obtain ⟨xs, rfl, sl, ok⟩ := open_vals tr
    exact ⟨⟨s, xs, bo, bc⟩, ⟨hc 0 (by decide), hc 1 (by decide)⟩, sl, cp, hbn, ok⟩

set_option maxRecDepth 100000 in
set_option maxHeartbeats 1000000 in
/-- A sheet. -/
theorem open_sheet {r : Reach} {b0 : Nat} {v : Value} {d : DataW H} {p : List MemPlace}
    (hv : Value.okWide Tryd.prog W r b0 27 v) (h : DataW.Trod enc Tryd.prog W 0 (fun _ => true) true 27 v d p) :
    ∃ (t : T) (ao : Option Addr) (cap : Nat) (zs : List LV) (lo : Option Addr) (lc : Nat), v = .agg #[.string ⟨t.name.toArray⟩, .int .i64 t.keys, .slice ao t.cs.length cap, .slice lo zs.length lc] ∧ At3 W t ao cap ∧ SlL W lo zs ∧ InL W zs ∧ zs.length ≤ lc ∧ (lo = none → lc = 0) := by
  obtain ⟨⟨cs⟩, rfl, hsz⟩ := okWide_struct Tryd.underlying27 hv
  rw [show Tryd.prog.cellsOf 27 = 4 from by kernel_rfl] at hsz
  obtain ⟨fuel, hf⟩ := h
  obtain ⟨xs, n, _, _, _, hxl, hg⟩ := DataW.trod_struct Tryd.underlying27 hf
  have hx2 : xs.length = 2 := by simpa using hxl
  match cs, hsz, xs, hx2 with
  | [c0, c1, c2, c3], _, [y0, y1], _ =>
    have i1 : Tryd.prog.cellsOf 24 = 3 := by kernel_rfl
    have i2 : Tryd.prog.cellsOf 25 = 1 := by kernel_rfl
    have f0 : DataW.trod enc Tryd.prog W 0 (fun _ => true) true n 24 (List.take (Tryd.prog.cellsOf 24) [c0, c1, c2, c3]) = some y0 := hg 0 _ rfl
    rw [i1] at f0
    have f1 : DataW.trod enc Tryd.prog W 0 (fun _ => true) true n 25 (List.take (Tryd.prog.cellsOf 25) [c3]) = some y1 := hg 1 _ rfl
    rw [i2] at f1
    have f1' : DataW.trod enc Tryd.prog W 0 (fun _ => true) true n 25 [c3] = some y1 := f1
    obtain ⟨t, ao, cap, rfl, rfl, rfl, hT⟩ := table_of f0
    rcases open_slice Tryd.underlying25 f1' with ⟨hcs, _⟩ | ⟨a, l, c, m, n, D, Pl, hcs, _, hl, _, hm, _, hi⟩
    · obtain rfl : c3 = .slice none 0 0 := by simpa using hcs
      exact ⟨t, ao, cap, [], none, 0, rfl, hT, SlL.nil _ _, InL.nil _, Nat.le_refl _, fun _ => rfl⟩
    · obtain rfl : c3 = .slice (some a) l c := by simpa using hcs
      have hlm : l ≤ m := by rw [hm]; simpa using hl
      obtain ⟨zs, hx, hp⟩ := llist_of (P := fun i z => AtL W (a.add (i * 2)) z ∧ Sl W z.ao z.xs ∧ z.xs.length ≤ z.cap ∧ (z.ao = none → z.cap = 0) ∧ ∀ x ∈ z.xs, x.ok) l (fun i hil => by
        obtain ⟨cs, hc, ht⟩ := hi i (by omega)
        rw [show Tryd.prog.cellsOf 54 = 2 from by kernel_rfl] at hc
        exact open_line ht (World.cells?_some hc).2.2)
      subst hx
      refine ⟨t, ao, cap, zs, some a, c, rfl, hT, fun i z hz => ⟨a, rfl, (hp i z hz).1⟩, fun z hz => ?_, hl, fun h => by cases h⟩
      obtain ⟨i, hi', rfl⟩ := List.getElem_of_mem hz
      exact (hp i _ (List.getElem?_eq_getElem hi')).2
theorem nil_of {ao : Option Addr} {l c : Nat} {d : DataW H} {p : List MemPlace} (h : DataW.Trod enc Tryd.prog W 0 (fun _ => true) true 43 (.slice ao l c) d p) : ao = none → c = 0 := by
  obtain ⟨m, hm⟩ := h
  have hm' : DataW.trod enc Tryd.prog W 0 (fun _ => true) true m 43 [.slice ao l c] = some (d, p) := by simpa [Value.cells] using hm
  rcases open_slice Tryd.underlying43 hm' with ⟨hcs, _⟩ | ⟨b, l', c', m', n', D', Pl', hcs, _⟩
  · have e : Value.slice ao l c = .slice none 0 0 := by simpa using hcs
    injection e with h1 h2 h3
    exact fun _ => h3
  · have e : Value.slice ao l c = .slice (some b) l' c' := by simpa using hcs
    injection e with h1 h2 h3
    exact fun g => by rw [h1] at g; cases g
set_option maxRecDepth 100000 in
/-- From where, ahead of what, how many at most. -/
theorem open_cut {r : Reach} {b0 : Nat} {v : Value} {d : DataW H} {p : List MemPlace}
    (hv : Value.okWide Tryd.prog W r b0 29 v) (h : DataW.Trod enc Tryd.prog W 0 (fun _ => true) true 29 v d p) :
    ∃ (lo hi : Nm.S) (most : Int), v = .agg #[.string ⟨lo.toArray⟩, .string ⟨hi.toArray⟩, .int .i64 most] := by
  obtain ⟨⟨cs⟩, rfl, hsz⟩ := okWide_struct Tryd.underlying29 hv
  rw [show Tryd.prog.cellsOf 29 = 3 from by kernel_rfl] at hsz
  obtain ⟨fuel, hf⟩ := h
  obtain ⟨xs, n, _, _, _, hxl, hg⟩ := DataW.trod_struct Tryd.underlying29 hf
  have hx3 : xs.length = 3 := by simpa using hxl
  match cs, hsz, xs, hx3 with
  | [c0, c1, c2], _, [y0, y1, y2], _ =>
    have i1 : Tryd.prog.cellsOf 3 = 1 := by kernel_rfl
    have i3 : Tryd.prog.cellsOf 9 = 1 := by kernel_rfl
    have f0 : DataW.trod enc Tryd.prog W 0 (fun _ => true) true n 9 (List.take (Tryd.prog.cellsOf 9) [c0, c1, c2]) = some y0 := hg 0 _ rfl
    rw [i3] at f0
    have f1 : DataW.trod enc Tryd.prog W 0 (fun _ => true) true n 9 (List.take (Tryd.prog.cellsOf 9) [c1, c2]) = some y1 := hg 1 _ rfl
    rw [i3] at f1
    have f2 : DataW.trod enc Tryd.prog W 0 (fun _ => true) true n 3 (List.take (Tryd.prog.cellsOf 3) [c2]) = some y2 := hg 2 _ rfl
    rw [i1] at f2
    obtain ⟨⟨⟨s⟩⟩, e0, _, _⟩ := DataW.trod_string Tryd.underlying9 f0
    obtain ⟨⟨⟨u⟩⟩, e1, _, _⟩ := DataW.trod_string Tryd.underlying9 f1
    obtain ⟨k, e2, _, _⟩ := DataW.trod_int Tryd.underlying3 f2
    obtain rfl : c0 = .string ⟨⟨s⟩⟩ := by simpa using e0
    obtain rfl : c1 = .string ⟨⟨u⟩⟩ := by simpa using e1
    obtain rfl : c2 = .int .i64 k := by simpa using e2
    exact ⟨s, u, k, rfl⟩
end

end Go.Proofs.YtfgakoldedpfoaaDoor
