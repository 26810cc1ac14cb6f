/-
  Rows of rows as an argument, opened; FewRows; lists of rows held against lists of rows. Conditions: the bounds named in each theorem.
  FewRows, and lists of rows held against lists of rows. Conditions: the bounds named in each theorem.
  What the document's Rows tells of any table, change and rows. Conditions: a table and at most 30 rows of at most 30 values in memory that keep a value's bounds.
  Law TransformAll, walked. Conditions: the arguments in memory; the listed variables as they are laid.
-/
import Derived.Test.YtdonmbmahcjfbaaGreatDoorTfOpen
import Derived.Test.YtdonmbmahcjfbaaGreatDoorTfOne
import Derived.Test.YtdonmbmahcjfbaaGreatDoorTfMem
import Derived.Deep.RegionHeld3
import Derived.Test.YtdonmbmahcjfbaaGreatDoorTfRRows
namespace Go.Proofs.YtdonmbmahcjfbaaGreatDoor
open Go.ChangeShapes Go.WideShapes Go.ChangeAt Go.RowKit Go.Joins Go.Deep

theorem rlist_of {P : Nat → RV → Prop} : ∀ (n : Nat), (∀ i, i < n → ∃ x, P i x) → ∃ xs : List RV, xs.length = n ∧ ∀ (i : Nat) (x : RV), xs[i]? = some x → P i x
  | 0, _ => ⟨[], rfl, fun i x h => by simp at h⟩
  | n + 1, h => by
    obtain ⟨xs, hl, hx⟩ := rlist_of n (fun i hi => h i (by omega))
    obtain ⟨y, hy⟩ := h n (by omega)
    refine ⟨xs ++ [y], by simp [hl], fun i x hi => ?_⟩
    by_cases g : i < n
    · rw [List.getElem?_append_left (by omega)] at hi
      exact hx i x hi
    · rw [List.getElem?_append_right (by omega)] at hi
      have e : i = n := by
        have := (List.getElem?_eq_some_iff.1 hi).1
        simp at this
        omega
      subst e
      rw [hl, Nat.sub_self] at hi
      obtain rfl : y = x := by simpa using hi
      exact hy
section
variable {H : Type} {enc : TypeId × Value → H} {W : World}
/-- A slice of slices of values. -/
theorem open_rows {ao : Option Addr} {len cap : Nat} {d : DataW H} {p : List MemPlace} (h : DataW.Trod enc Tryz.prog W 0 (fun _ => true) true 38 (.slice ao len cap) d p) :
    ∃ l : List RV, len = l.length ∧ SlR W ao l ∧ ∀ y ∈ l, Sl W y.ao y.xs ∧ y.xs.length ≤ y.cap ∧ ∀ x ∈ y.xs, x.ok := by
  obtain ⟨fuel, hf⟩ := h
  rcases open_slice Tryz.underlying38 hf with ⟨hcs, _⟩ | ⟨a, l, c, m, n, D, Pl, hcs, _, hl, _, hm, _, hi⟩
  · simp [Value.cells] at hcs
    obtain ⟨rfl, rfl, rfl⟩ := hcs
    exact ⟨[], rfl, SlR.nil _ _, by simp⟩
  · simp [Value.cells] at hcs
    obtain ⟨rfl, rfl, rfl⟩ := hcs
    have hlm : len ≤ m := by rw [hm]; simpa using hl
    obtain ⟨xs, hx, hp⟩ := rlist_of (P := fun i y => W.cell? (a.add i) = some (.slice y.ao y.xs.length y.cap) ∧ Sl W y.ao y.xs ∧ y.xs.length ≤ y.cap ∧ ∀ x ∈ y.xs, x.ok) len (fun i hil => by
      obtain ⟨cs, hc, ht⟩ := hi i (by omega)
      rw [show Tryz.prog.cellsOf 33 = 1 from by kernel_rfl, Nat.mul_one] at hc
      have hs : ∃ bo bl bc, cs = [.slice bo bl bc] := by
        rcases open_slice Tryz.underlying33 ht with ⟨hcs, _⟩ | ⟨b, l', c', m', n', D', Pl', hcs, _⟩
        · exact ⟨none, 0, 0, hcs⟩
        · exact ⟨some b, l', c', hcs⟩
      obtain ⟨bo, bl, bc, rfl⟩ := hs
      have cell := (World.cells?_some hc).2.2 0 (by decide)
      have tr : DataW.Trod enc Tryz.prog W 0 (fun _ => true) true 33 (.slice bo bl bc) (D i) (Pl i) := ⟨n, by simpa [Value.cells] using ht⟩
      have cp := cap_of Tryz.underlying33 tr
      obtain ⟨xs, rfl, sl, ok⟩ := open_vals tr
      exact ⟨⟨xs, bo, bc⟩, cell, sl, cp, ok⟩)
    subst hx
    refine ⟨xs, rfl, fun i y hy => ⟨a, rfl, (hp i y hy).1⟩, fun y hy => ?_⟩
    obtain ⟨i, hi', rfl⟩ := List.getElem_of_mem hy
    exact (hp i _ (List.getElem?_eq_getElem hi')).2
end

end Go.Proofs.YtdonmbmahcjfbaaGreatDoor

namespace Go.Proofs.YtdonmbmahcjfbaaGreatDoor
open Go.RowKit

set_option maxHeartbeats 2000000 in
/-- Lists of rows that are the same, one by one. -/
theorem all_q (xs ys : List QV) (ao bo : Option Addr) (ca cb : Nat) (w : World) (hl : xs.length ≤ 1000000) (ha : SlQ w ao xs) (hb : SlQ w bo ys) (ia : ∀ z ∈ xs, SlR w z.ao z.ys ∧ InR w z.ys) (ib : ∀ z ∈ ys, SlR w z.ao z.ys ∧ InR w z.ys) (h30 : ∀ x ∈ xs, x.ys.length ≤ 1000000 ∧ ∀ y ∈ x.ys, y.xs.length ≤ 1000000) (he : xs.map QV.ls = ys.map QV.ls) :
    Calls Tryz.prog 16 #[.slice ao xs.length ca, .slice bo ys.length cb] w fun e w' => e = .returned (.bool true) ∧ Below w.heap.size w w' := by
  have hmx : Tryz.prog.follows .mixedOrders = true := by kernel_rfl
  have hne : xs.length = ys.length := by have := congrArg List.length he; simpa using this
  have n1 : ((xs.length : Int) == (ys.length : Int)) = true := beq_t (by omega)
  have n2 : ((xs.length : Int) != (ys.length : Int)) = false := by simp [hne]
  have H := Lib.hid (And.intro ha (And.intro hb (And.intro hl (And.intro hne (And.intro ia (And.intro ib (And.intro h30 he)))))))
  clear ha hb hl hne ia ib h30 he
  go_enter Tryz.func16, Tryz.ntmps16
  go_wp2
  go_loopw [5] (fun i wr => ∃ j : Nat, i = .int .i64 j ∧ j ≤ xs.length ∧ Below w.heap.size w wr) (fun i _ => xs.length - (intOf i).toNat)
  case atStart => exact ⟨0, rfl, Nat.zero_le _, Below.refl _ _⟩
  case round =>
    obtain ⟨j, rfl, hj, hbel⟩ := hrel
    have J := Lib.hid hbel
    clear hbel
    by_cases hlt : j < xs.length
    · have hlu : j < ys.length := by have := H.out.2.2.2.1; omega
      have g2 : (j : Int) < (ys.length : Int) := by omega
      obtain ⟨a, rfl, a0⟩ := H.out.1.below J.out j xs[j] (List.getElem?_eq_getElem hlt)
      obtain ⟨b, rfl, b0⟩ := H.out.2.1.below J.out j ys[j] (List.getElem?_eq_getElem hlu)
      have hw : wrap64 ((j : Int) + 1) = (j : Int) + 1 := by have := H.out.2.2.1; exact wrap_in _ (by omega) (by omega)
      have hs : rxs xs[j].ys = rxs ys[j].ys := by
        have h1 := congrArg (fun l => l[j]?) H.out.2.2.2.2.2.2.2
        simp only [List.getElem?_map, List.getElem?_eq_getElem hlt, List.getElem?_eq_getElem hlu, Option.map_some, Option.some.injEq] at h1
        exact h1
      obtain ⟨x, hx⟩ : ∃ x, xs[j] = x := ⟨_, rfl⟩
      obtain ⟨y, hy⟩ : ∃ y, ys[j] = y := ⟨_, rfl⟩
      rw [hx, hy] at hs
      rw [hx] at a0
      rw [hy] at b0
      have HE := Lib.hid (And.intro hs (And.intro (H.out.2.2.2.2.1 x (hx ▸ List.getElem_mem hlt)) (And.intro (H.out.2.2.2.2.2.1 y (hy ▸ List.getElem_mem hlu)) (H.out.2.2.2.2.2.2.1 x (hx ▸ List.getElem_mem hlt)))))
      clear hs hx hy
      go_wp2_with fail
      go_region_held3 (fun v => Below wr.heap.size wr v ∧ v.cell? (a.add j) = some (.slice x.ao x.ys.length x.cap) ∧ v.cell? (b.add j) = some (.slice y.ao y.ys.length y.cap))
        (first | exact ⟨(Below.refl _ _).drew, a0, b0⟩ | exact ⟨step0 ‹Below wr.heap.size wr _ ∧ _›.1 hb1, keep0 a0 (step0 ‹Below wr.heap.size wr _ ∧ _›.1 hb1), keep0 b0 (step0 ‹Below wr.heap.size wr _ ∧ _›.1 hb1)⟩)
        (first | (go_at_call 12; refine (all_same x.ys y.ys x.ao y.ao x.cap y.cap _ HE.out.2.2.2.1 (HE.out.2.1.1.below (step0 J.out ‹Below wr.heap.size wr _ ∧ _›.1)) (HE.out.2.2.1.1.below (step0 J.out ‹Below wr.heap.size wr _ ∧ _›.1)) (HE.out.2.1.2.below (step0 J.out ‹Below wr.heap.size wr _ ∧ _›.1)) (HE.out.2.2.1.2.below (step0 J.out ‹Below wr.heap.size wr _ ∧ _›.1)) HE.out.2.2.2.2 HE.out.1).mono ?_; rintro e w1 ⟨rfl, hb1⟩))
      have Z := Lib.hid (show Below wr.heap.size wr w1 from ‹Below wr.heap.size wr w1 ∧ _›.1)
      go_wp2
      go_roundw
      case rel => exact ⟨j + 1, by go_num, hlt, step0 J.out Z.out⟩
      case measure => rw [hw]; simp [intOf]; omega
    · obtain rfl : j = xs.length := by omega
      go_wp2
      go_ret
      exact ⟨rfl, J.out⟩

/-- A row that is not too great. -/
def Fv (xs : List V) : Prop := xs.length ≤ 30 ∧ ∀ x ∈ xs, x.s.length ≤ 2000
set_option maxHeartbeats 1000000 in
theorem frow_yes (l : List RV) (lo : Option Addr) (lc : Nat) (w : World) (hl : SlR w lo l) (hi : InR w l) (hm : l.length ≤ 30) (hf : ∀ y ∈ l, Fv y.xs) :
    Calls Tryz.prog 13 #[.slice lo l.length lc] w fun e w' => e = .returned (.int .i64 1) ∧ Below w.heap.size w w' := by
  have l1 : decide ((30 : Int) < (l.length : Int)) = false := by rw [decide_eq_false_iff_not]; omega
  have H := Lib.hid (And.intro hl (And.intro hi (And.intro hm hf)))
  clear hl hi hm hf
  go_enter Tryz.func13, Tryz.ntmps13
  go_wp2
  go_loopw [3] (fun i wr => ∃ j : Nat, i = .int .i64 j ∧ j ≤ l.length ∧ Below w.heap.size w wr) (fun i _ => l.length - (intOf i).toNat)
  case atStart => exact ⟨0, rfl, Nat.zero_le _, Below.refl _ _⟩
  case round =>
    obtain ⟨j, rfl, hj, hb⟩ := hrel
    have J := Lib.hid hb
    clear hb
    by_cases hlt : j < l.length
    · obtain ⟨a, rfl, a0⟩ := H.out.1.below J.out j l[j] (List.getElem?_eq_getElem hlt)
      have hw : wrap64 ((j : Int) + 1) = (j : Int) + 1 := by have := H.out.2.2.1; exact wrap_in _ (by omega) (by omega)
      have hmem := List.getElem_mem hlt
      obtain ⟨y, hy⟩ : ∃ y, l[j] = y := ⟨_, rfl⟩
      rw [hy] at a0 hmem
      have Y := Lib.hid (And.intro hmem hy)
      clear hmem hy
      go_wp2_with fail
      refine (few_yes y.xs y.ao y.cap _ ((H.out.2.1 y Y.out.1).below J.out) (H.out.2.2.2 y Y.out.1).1 (H.out.2.2.2 y Y.out.1).2).mono ?_
      rintro e w1 ⟨rfl, hb⟩
      have Z := Lib.hid (step0 J.out hb)
      clear hb
      go_wp2
      go_roundw
      case rel => exact ⟨j + 1, by go_num, hlt, Z.out⟩
      case measure => rw [hw]; simp [intOf]; omega
    · obtain rfl : j = l.length := by omega
      go_wp2
      go_ret
      exact ⟨rfl, J.out⟩

set_option maxHeartbeats 1000000 in
theorem frow_in (l : List RV) (lo : Option Addr) (lc : Nat) (w : World) (hl : SlR w lo l) (hi : InR w l) (hm : l.length ≤ 30) (hf : ¬ ∀ y ∈ l, Fv y.xs) :
    Calls Tryz.prog 13 #[.slice lo l.length lc] w fun e w' => e = .returned (.int .i64 0) ∧ Below w.heap.size w w' := by
  have l1 : decide ((30 : Int) < (l.length : Int)) = false := by rw [decide_eq_false_iff_not]; omega
  have H := Lib.hid (And.intro hl (And.intro hi (And.intro hm hf)))
  clear hl hi hm hf
  go_enter Tryz.func13, Tryz.ntmps13
  go_wp2
  go_loopw [3] (fun i wr => ∃ j : Nat, i = .int .i64 j ∧ j ≤ l.length ∧ Below w.heap.size w wr ∧ ∀ (k : Nat) (y : RV), k < j → l[k]? = some y → Fv y.xs) (fun i _ => l.length - (intOf i).toNat)
  case atStart => exact ⟨0, rfl, Nat.zero_le _, Below.refl _ _, fun k y hk => by omega⟩
  case round =>
    obtain ⟨j, rfl, hj, hb, hd⟩ := hrel
    have J := Lib.hid (And.intro hb hd)
    clear hb hd
    by_cases hlt : j < l.length
    · obtain ⟨a, rfl, a0⟩ := H.out.1.below J.out.1 j l[j] (List.getElem?_eq_getElem hlt)
      have hw : wrap64 ((j : Int) + 1) = (j : Int) + 1 := by have := H.out.2.2.1; exact wrap_in _ (by omega) (by omega)
      have hmem := List.getElem_mem hlt
      obtain ⟨y, hy⟩ : ∃ y, l[j] = y := ⟨_, rfl⟩
      rw [hy] at a0 hmem
      have Y := Lib.hid (And.intro hmem hy)
      clear hmem hy
      by_cases hv : Fv y.xs
      · have V := Lib.hid hv
        clear hv
        go_wp2_with fail
        refine (few_yes y.xs y.ao y.cap _ ((H.out.2.1 y Y.out.1).below J.out.1) V.out.1 V.out.2).mono ?_
        rintro e w1 ⟨rfl, hb⟩
        have Z := Lib.hid (step0 J.out.1 hb)
        clear hb
        go_wp2
        go_roundw
        case rel =>
          refine ⟨j + 1, by go_num, hlt, Z.out, fun k u hk hu => ?_⟩
          by_cases e : k = j
          · subst e
            rw [List.getElem?_eq_getElem hlt, Y.out.2] at hu
            obtain rfl := Option.some.inj hu
            exact V.out
          · exact J.out.2 k u (by omega) hu
        case measure => rw [hw]; simp [intOf]; omega
      · have V := Lib.hid hv
        clear hv
        go_wp2_with fail
        refine (few_no y.xs y.ao y.cap _ ((H.out.2.1 y Y.out.1).below J.out.1) V.out).mono ?_
        rintro e w1 ⟨rfl, hb⟩
        have Z := Lib.hid (step0 J.out.1 hb)
        clear hb
        go_wp2
        go_ret
        exact ⟨rfl, Z.out⟩
    · obtain rfl : j = l.length := by omega
      refine absurd (fun y hy => ?_) H.out.2.2.2
      obtain ⟨k, hk, rfl⟩ := List.getElem_of_mem hy
      exact J.out.2 k _ hk (List.getElem?_eq_getElem hk)

theorem frow_many (l : List RV) (lo : Option Addr) (lc : Nat) (w : World) (hm : 30 < l.length) :
    Calls Tryz.prog 13 #[.slice lo l.length lc] w fun e w' => e = .returned (.int .i64 0) ∧ Below w.heap.size w w' := by
  have l1 : decide ((30 : Int) < (l.length : Int)) = true := by rw [decide_eq_true_iff]; omega
  clear hm
  go_enter Tryz.func13, Tryz.ntmps13
  go_wp2
  go_ret
  exact ⟨rfl, Below.refl _ _⟩
theorem frow_no (l : List RV) (lo : Option Addr) (lc : Nat) (w : World) (hl : SlR w lo l) (hi : InR w l) (hf : ¬ (l.length ≤ 30 ∧ ∀ y ∈ l, Fv y.xs)) :
    Calls Tryz.prog 13 #[.slice lo l.length lc] w fun e w' => e = .returned (.int .i64 0) ∧ Below w.heap.size w w' := by
  by_cases hm : l.length ≤ 30
  · exact frow_in l lo lc w hl hi hm (fun h => hf ⟨hm, h⟩)
  · exact frow_many l lo lc w (by omega)

end Go.Proofs.YtdonmbmahcjfbaaGreatDoor

namespace Go.Proofs.YtdonmbmahcjfbaaGreatDoor
open Go.RowKit
set_option linter.unusedVariables false

set_option maxHeartbeats 2000000 in
theorem rrn_2 (c : Ch) (no : Option Addr) (nc : Nat) (dO : Option Addr) (dc : Nat) (t : T) (ao : Option Addr) (cap : Nat) (lo : Option Addr) (lc : Nat) (w : World) :
    Calls Tryz.prog 15 #[.agg #[.string ⟨t.name.toArray⟩, .int .i64 t.keys, .slice ao t.cs.length cap], .agg #[.int .i64 2, .string ⟨c.table.toArray⟩, .string ⟨c.other.toArray⟩, .string ⟨c.to.toArray⟩, .string ⟨c.also.toArray⟩, .string ⟨c.name.toArray⟩, .int .i64 c.type, .slice no c.names.length nc, .string ⟨c.col.name.toArray⟩, .int .i64 c.col.kind, .bool c.col.null, .int .i64 c.col.d.k, .int .i64 c.col.d.n, .int .u64 c.col.d.b, .string ⟨c.col.d.s.toArray⟩, .string ⟨c.df.name.toArray⟩, .int .i64 c.df.keys, .slice dO c.df.cs.length dc], .slice lo 0 lc] w fun e w' => QQ w' e (List.replicate 1 [], 0, 0) ∧ Below w.heap.size w w' := by
  obtain ⟨Wb, hWb⟩ : ∃ Wb, (w.alloc (.cells #[.string ⟨t.name.toArray⟩, .int .i64 t.keys, .slice ao t.cs.length cap] 24)).alloc (.cells #[.int .i64 2, .string ⟨c.table.toArray⟩, .string ⟨c.other.toArray⟩, .string ⟨c.to.toArray⟩, .string ⟨c.also.toArray⟩, .string ⟨c.name.toArray⟩, .int .i64 c.type, .slice no c.names.length nc, .string ⟨c.col.name.toArray⟩, .int .i64 c.col.kind, .bool c.col.null, .int .i64 c.col.d.k, .int .i64 c.col.d.n, .int .u64 c.col.d.b, .string ⟨c.col.d.s.toArray⟩, .string ⟨c.df.name.toArray⟩, .int .i64 c.df.keys, .slice dO c.df.cs.length dc] 32) = Wb := ⟨_, rfl⟩
  have q1 : Blk Wb (w.heap.size + 1) #[.int .i64 2, .string ⟨c.table.toArray⟩, .string ⟨c.other.toArray⟩, .string ⟨c.to.toArray⟩, .string ⟨c.also.toArray⟩, .string ⟨c.name.toArray⟩, .int .i64 c.type, .slice no c.names.length nc, .string ⟨c.col.name.toArray⟩, .int .i64 c.col.kind, .bool c.col.null, .int .i64 c.col.d.k, .int .i64 c.col.d.n, .int .u64 c.col.d.b, .string ⟨c.col.d.s.toArray⟩, .string ⟨c.df.name.toArray⟩, .int .i64 c.df.keys, .slice dO c.df.cs.length dc] 32 := hWb ▸ Blk.newB (w.alloc (.cells #[.string ⟨t.name.toArray⟩, .int .i64 t.keys, .slice ao t.cs.length cap] 24)) (w.heap.size + 1) _ _ (by simp)
  have K1 := Lib.hid (show Below w.heap.size w Wb from hWb ▸ below2s w _ _)
  have x0 := q1.cell 0
  simp at x0
  clear q1
  go_enter Tryz.func15, Tryz.ntmps15
  go_wp2_with (refine makeQ _ rfl _ _ rfl _ _ _ _ 1 rfl rfl rfl rfl (by decide) ?_; intro g w2 hg hO hb; have M := Lib.hid (And.intro hO (And.intro hb hg)); clear hO hb hg x0; go_frame)
  go_loopw [11] (fun i wr => i = .int .i64 0 ∧ wr = w2) (fun _ _ => 0)
  case atStart => exact ⟨rfl, rfl⟩
  case round =>
    obtain ⟨rfl, rfl⟩ := hrel
    go_wp2
    go_ret3
    refine ⟨⟨some ⟨g, 0, none⟩, 1, List.replicate 1 QV0, ?_, by simp [QV0, QV.ls, rxs], ?_, ?_⟩, step0 K1.out M.out.2.1⟩
    · rw [List.length_replicate]; rfl
    · obtain ⟨ao', cap', e, _, hq⟩ := M.out.1.sl
      injection e with e1 _ _
      rw [e1]
      exact hq
    · intro z hz
      obtain rfl := (List.mem_replicate.1 hz).2
      exact ⟨SlR.nil _ _, fun y hy => by simp [QV0] at hy⟩

set_option maxHeartbeats 2000000 in
theorem rrn_3 (c : Ch) (no : Option Addr) (nc : Nat) (dO : Option Addr) (dc : Nat) (t : T) (ao : Option Addr) (cap : Nat) (lo : Option Addr) (lc : Nat) (w : World) :
    Calls Tryz.prog 15 #[.agg #[.string ⟨t.name.toArray⟩, .int .i64 t.keys, .slice ao t.cs.length cap], .agg #[.int .i64 3, .string ⟨c.table.toArray⟩, .string ⟨c.other.toArray⟩, .string ⟨c.to.toArray⟩, .string ⟨c.also.toArray⟩, .string ⟨c.name.toArray⟩, .int .i64 c.type, .slice no c.names.length nc, .string ⟨c.col.name.toArray⟩, .int .i64 c.col.kind, .bool c.col.null, .int .i64 c.col.d.k, .int .i64 c.col.d.n, .int .u64 c.col.d.b, .string ⟨c.col.d.s.toArray⟩, .string ⟨c.df.name.toArray⟩, .int .i64 c.df.keys, .slice dO c.df.cs.length dc], .slice lo 0 lc] w fun e w' => QQ w' e (List.replicate 1 [], 0, 0) ∧ Below w.heap.size w w' := by
  obtain ⟨Wb, hWb⟩ : ∃ Wb, (w.alloc (.cells #[.string ⟨t.name.toArray⟩, .int .i64 t.keys, .slice ao t.cs.length cap] 24)).alloc (.cells #[.int .i64 3, .string ⟨c.table.toArray⟩, .string ⟨c.other.toArray⟩, .string ⟨c.to.toArray⟩, .string ⟨c.also.toArray⟩, .string ⟨c.name.toArray⟩, .int .i64 c.type, .slice no c.names.length nc, .string ⟨c.col.name.toArray⟩, .int .i64 c.col.kind, .bool c.col.null, .int .i64 c.col.d.k, .int .i64 c.col.d.n, .int .u64 c.col.d.b, .string ⟨c.col.d.s.toArray⟩, .string ⟨c.df.name.toArray⟩, .int .i64 c.df.keys, .slice dO c.df.cs.length dc] 32) = Wb := ⟨_, rfl⟩
  have q1 : Blk Wb (w.heap.size + 1) #[.int .i64 3, .string ⟨c.table.toArray⟩, .string ⟨c.other.toArray⟩, .string ⟨c.to.toArray⟩, .string ⟨c.also.toArray⟩, .string ⟨c.name.toArray⟩, .int .i64 c.type, .slice no c.names.length nc, .string ⟨c.col.name.toArray⟩, .int .i64 c.col.kind, .bool c.col.null, .int .i64 c.col.d.k, .int .i64 c.col.d.n, .int .u64 c.col.d.b, .string ⟨c.col.d.s.toArray⟩, .string ⟨c.df.name.toArray⟩, .int .i64 c.df.keys, .slice dO c.df.cs.length dc] 32 := hWb ▸ Blk.newB (w.alloc (.cells #[.string ⟨t.name.toArray⟩, .int .i64 t.keys, .slice ao t.cs.length cap] 24)) (w.heap.size + 1) _ _ (by simp)
  have K1 := Lib.hid (show Below w.heap.size w Wb from hWb ▸ below2s w _ _)
  have x0 := q1.cell 0
  simp at x0
  clear q1
  go_enter Tryz.func15, Tryz.ntmps15
  go_wp2_with (refine makeQ _ rfl _ _ rfl _ _ _ _ 1 rfl rfl rfl rfl (by decide) ?_; intro g w2 hg hO hb; have M := Lib.hid (And.intro hO (And.intro hb hg)); clear hO hb hg x0; go_frame)
  go_loopw [11] (fun i wr => i = .int .i64 0 ∧ wr = w2) (fun _ _ => 0)
  case atStart => exact ⟨rfl, rfl⟩
  case round =>
    obtain ⟨rfl, rfl⟩ := hrel
    go_wp2
    go_ret3
    refine ⟨⟨some ⟨g, 0, none⟩, 1, List.replicate 1 QV0, ?_, by simp [QV0, QV.ls, rxs], ?_, ?_⟩, step0 K1.out M.out.2.1⟩
    · rw [List.length_replicate]; rfl
    · obtain ⟨ao', cap', e, _, hq⟩ := M.out.1.sl
      injection e with e1 _ _
      rw [e1]
      exact hq
    · intro z hz
      obtain rfl := (List.mem_replicate.1 hz).2
      exact ⟨SlR.nil _ _, fun y hy => by simp [QV0] at hy⟩

set_option maxHeartbeats 2000000 in
theorem rrn_4 (c : Ch) (no : Option Addr) (nc : Nat) (dO : Option Addr) (dc : Nat) (t : T) (ao : Option Addr) (cap : Nat) (lo : Option Addr) (lc : Nat) (w : World) :
    Calls Tryz.prog 15 #[.agg #[.string ⟨t.name.toArray⟩, .int .i64 t.keys, .slice ao t.cs.length cap], .agg #[.int .i64 4, .string ⟨c.table.toArray⟩, .string ⟨c.other.toArray⟩, .string ⟨c.to.toArray⟩, .string ⟨c.also.toArray⟩, .string ⟨c.name.toArray⟩, .int .i64 c.type, .slice no c.names.length nc, .string ⟨c.col.name.toArray⟩, .int .i64 c.col.kind, .bool c.col.null, .int .i64 c.col.d.k, .int .i64 c.col.d.n, .int .u64 c.col.d.b, .string ⟨c.col.d.s.toArray⟩, .string ⟨c.df.name.toArray⟩, .int .i64 c.df.keys, .slice dO c.df.cs.length dc], .slice lo 0 lc] w fun e w' => QQ w' e (List.replicate 1 [], 0, 0) ∧ Below w.heap.size w w' := by
  obtain ⟨Wb, hWb⟩ : ∃ Wb, (w.alloc (.cells #[.string ⟨t.name.toArray⟩, .int .i64 t.keys, .slice ao t.cs.length cap] 24)).alloc (.cells #[.int .i64 4, .string ⟨c.table.toArray⟩, .string ⟨c.other.toArray⟩, .string ⟨c.to.toArray⟩, .string ⟨c.also.toArray⟩, .string ⟨c.name.toArray⟩, .int .i64 c.type, .slice no c.names.length nc, .string ⟨c.col.name.toArray⟩, .int .i64 c.col.kind, .bool c.col.null, .int .i64 c.col.d.k, .int .i64 c.col.d.n, .int .u64 c.col.d.b, .string ⟨c.col.d.s.toArray⟩, .string ⟨c.df.name.toArray⟩, .int .i64 c.df.keys, .slice dO c.df.cs.length dc] 32) = Wb := ⟨_, rfl⟩
  have q1 : Blk Wb (w.heap.size + 1) #[.int .i64 4, .string ⟨c.table.toArray⟩, .string ⟨c.other.toArray⟩, .string ⟨c.to.toArray⟩, .string ⟨c.also.toArray⟩, .string ⟨c.name.toArray⟩, .int .i64 c.type, .slice no c.names.length nc, .string ⟨c.col.name.toArray⟩, .int .i64 c.col.kind, .bool c.col.null, .int .i64 c.col.d.k, .int .i64 c.col.d.n, .int .u64 c.col.d.b, .string ⟨c.col.d.s.toArray⟩, .string ⟨c.df.name.toArray⟩, .int .i64 c.df.keys, .slice dO c.df.cs.length dc] 32 := hWb ▸ Blk.newB (w.alloc (.cells #[.string ⟨t.name.toArray⟩, .int .i64 t.keys, .slice ao t.cs.length cap] 24)) (w.heap.size + 1) _ _ (by simp)
  have K1 := Lib.hid (show Below w.heap.size w Wb from hWb ▸ below2s w _ _)
  have x0 := q1.cell 0
  simp at x0
  clear q1
  go_enter Tryz.func15, Tryz.ntmps15
  go_wp2_with (refine makeQ _ rfl _ _ rfl _ _ _ _ 1 rfl rfl rfl rfl (by decide) ?_; intro g w2 hg hO hb; have M := Lib.hid (And.intro hO (And.intro hb hg)); clear hO hb hg x0; go_frame)
  go_loopw [11] (fun i wr => i = .int .i64 0 ∧ wr = w2) (fun _ _ => 0)
  case atStart => exact ⟨rfl, rfl⟩
  case round =>
    obtain ⟨rfl, rfl⟩ := hrel
    go_wp2
    go_ret3
    refine ⟨⟨some ⟨g, 0, none⟩, 1, List.replicate 1 QV0, ?_, by simp [QV0, QV.ls, rxs], ?_, ?_⟩, step0 K1.out M.out.2.1⟩
    · rw [List.length_replicate]; rfl
    · obtain ⟨ao', cap', e, _, hq⟩ := M.out.1.sl
      injection e with e1 _ _
      rw [e1]
      exact hq
    · intro z hz
      obtain rfl := (List.mem_replicate.1 hz).2
      exact ⟨SlR.nil _ _, fun y hy => by simp [QV0] at hy⟩

set_option maxHeartbeats 2000000 in
theorem rrn_6 (c : Ch) (no : Option Addr) (nc : Nat) (dO : Option Addr) (dc : Nat) (t : T) (ao : Option Addr) (cap : Nat) (lo : Option Addr) (lc : Nat) (w : World) :
    Calls Tryz.prog 15 #[.agg #[.string ⟨t.name.toArray⟩, .int .i64 t.keys, .slice ao t.cs.length cap], .agg #[.int .i64 6, .string ⟨c.table.toArray⟩, .string ⟨c.other.toArray⟩, .string ⟨c.to.toArray⟩, .string ⟨c.also.toArray⟩, .string ⟨c.name.toArray⟩, .int .i64 c.type, .slice no c.names.length nc, .string ⟨c.col.name.toArray⟩, .int .i64 c.col.kind, .bool c.col.null, .int .i64 c.col.d.k, .int .i64 c.col.d.n, .int .u64 c.col.d.b, .string ⟨c.col.d.s.toArray⟩, .string ⟨c.df.name.toArray⟩, .int .i64 c.df.keys, .slice dO c.df.cs.length dc], .slice lo 0 lc] w fun e w' => QQ w' e (List.replicate 1 [], 0, 0) ∧ Below w.heap.size w w' := by
  obtain ⟨Wb, hWb⟩ : ∃ Wb, (w.alloc (.cells #[.string ⟨t.name.toArray⟩, .int .i64 t.keys, .slice ao t.cs.length cap] 24)).alloc (.cells #[.int .i64 6, .string ⟨c.table.toArray⟩, .string ⟨c.other.toArray⟩, .string ⟨c.to.toArray⟩, .string ⟨c.also.toArray⟩, .string ⟨c.name.toArray⟩, .int .i64 c.type, .slice no c.names.length nc, .string ⟨c.col.name.toArray⟩, .int .i64 c.col.kind, .bool c.col.null, .int .i64 c.col.d.k, .int .i64 c.col.d.n, .int .u64 c.col.d.b, .string ⟨c.col.d.s.toArray⟩, .string ⟨c.df.name.toArray⟩, .int .i64 c.df.keys, .slice dO c.df.cs.length dc] 32) = Wb := ⟨_, rfl⟩
  have q1 : Blk Wb (w.heap.size + 1) #[.int .i64 6, .string ⟨c.table.toArray⟩, .string ⟨c.other.toArray⟩, .string ⟨c.to.toArray⟩, .string ⟨c.also.toArray⟩, .string ⟨c.name.toArray⟩, .int .i64 c.type, .slice no c.names.length nc, .string ⟨c.col.name.toArray⟩, .int .i64 c.col.kind, .bool c.col.null, .int .i64 c.col.d.k, .int .i64 c.col.d.n, .int .u64 c.col.d.b, .string ⟨c.col.d.s.toArray⟩, .string ⟨c.df.name.toArray⟩, .int .i64 c.df.keys, .slice dO c.df.cs.length dc] 32 := hWb ▸ Blk.newB (w.alloc (.cells #[.string ⟨t.name.toArray⟩, .int .i64 t.keys, .slice ao t.cs.length cap] 24)) (w.heap.size + 1) _ _ (by simp)
  have K1 := Lib.hid (show Below w.heap.size w Wb from hWb ▸ below2s w _ _)
  have x0 := q1.cell 0
  simp at x0
  clear q1
  go_enter Tryz.func15, Tryz.ntmps15
  go_wp2_with (refine makeQ _ rfl _ _ rfl _ _ _ _ 1 rfl rfl rfl rfl (by decide) ?_; intro g w2 hg hO hb; have M := Lib.hid (And.intro hO (And.intro hb hg)); clear hO hb hg x0; go_frame)
  go_loopw [11] (fun i wr => i = .int .i64 0 ∧ wr = w2) (fun _ _ => 0)
  case atStart => exact ⟨rfl, rfl⟩
  case round =>
    obtain ⟨rfl, rfl⟩ := hrel
    go_wp2
    go_ret3
    refine ⟨⟨some ⟨g, 0, none⟩, 1, List.replicate 1 QV0, ?_, by simp [QV0, QV.ls, rxs], ?_, ?_⟩, step0 K1.out M.out.2.1⟩
    · rw [List.length_replicate]; rfl
    · obtain ⟨ao', cap', e, _, hq⟩ := M.out.1.sl
      injection e with e1 _ _
      rw [e1]
      exact hq
    · intro z hz
      obtain rfl := (List.mem_replicate.1 hz).2
      exact ⟨SlR.nil _ _, fun y hy => by simp [QV0] at hy⟩

set_option maxHeartbeats 2000000 in
theorem rrn_5 (c : Ch) (no : Option Addr) (nc : Nat) (dO : Option Addr) (dc : Nat) (t : T) (ao : Option Addr) (cap : Nat) (lo : Option Addr) (lc : Nat) (w : World) :
    Calls Tryz.prog 15 #[.agg #[.string ⟨t.name.toArray⟩, .int .i64 t.keys, .slice ao t.cs.length cap], .agg #[.int .i64 5, .string ⟨c.table.toArray⟩, .string ⟨c.other.toArray⟩, .string ⟨c.to.toArray⟩, .string ⟨c.also.toArray⟩, .string ⟨c.name.toArray⟩, .int .i64 c.type, .slice no c.names.length nc, .string ⟨c.col.name.toArray⟩, .int .i64 c.col.kind, .bool c.col.null, .int .i64 c.col.d.k, .int .i64 c.col.d.n, .int .u64 c.col.d.b, .string ⟨c.col.d.s.toArray⟩, .string ⟨c.df.name.toArray⟩, .int .i64 c.df.keys, .slice dO c.df.cs.length dc], .slice lo 0 lc] w fun e w' => QQ w' e (List.replicate 2 [], 0, 0) ∧ Below w.heap.size w w' := by
  obtain ⟨Wb, hWb⟩ : ∃ Wb, (w.alloc (.cells #[.string ⟨t.name.toArray⟩, .int .i64 t.keys, .slice ao t.cs.length cap] 24)).alloc (.cells #[.int .i64 5, .string ⟨c.table.toArray⟩, .string ⟨c.other.toArray⟩, .string ⟨c.to.toArray⟩, .string ⟨c.also.toArray⟩, .string ⟨c.name.toArray⟩, .int .i64 c.type, .slice no c.names.length nc, .string ⟨c.col.name.toArray⟩, .int .i64 c.col.kind, .bool c.col.null, .int .i64 c.col.d.k, .int .i64 c.col.d.n, .int .u64 c.col.d.b, .string ⟨c.col.d.s.toArray⟩, .string ⟨c.df.name.toArray⟩, .int .i64 c.df.keys, .slice dO c.df.cs.length dc] 32) = Wb := ⟨_, rfl⟩
  have q1 : Blk Wb (w.heap.size + 1) #[.int .i64 5, .string ⟨c.table.toArray⟩, .string ⟨c.other.toArray⟩, .string ⟨c.to.toArray⟩, .string ⟨c.also.toArray⟩, .string ⟨c.name.toArray⟩, .int .i64 c.type, .slice no c.names.length nc, .string ⟨c.col.name.toArray⟩, .int .i64 c.col.kind, .bool c.col.null, .int .i64 c.col.d.k, .int .i64 c.col.d.n, .int .u64 c.col.d.b, .string ⟨c.col.d.s.toArray⟩, .string ⟨c.df.name.toArray⟩, .int .i64 c.df.keys, .slice dO c.df.cs.length dc] 32 := hWb ▸ Blk.newB (w.alloc (.cells #[.string ⟨t.name.toArray⟩, .int .i64 t.keys, .slice ao t.cs.length cap] 24)) (w.heap.size + 1) _ _ (by simp)
  have K1 := Lib.hid (show Below w.heap.size w Wb from hWb ▸ below2s w _ _)
  have x0 := q1.cell 0
  simp at x0
  clear q1
  go_enter Tryz.func15, Tryz.ntmps15
  go_wp2_with (refine makeQ _ rfl _ _ rfl _ _ _ _ 2 rfl rfl rfl rfl (by decide) ?_; intro g w2 hg hO hb; have M := Lib.hid (And.intro hO (And.intro hb hg)); clear hO hb hg x0; go_frame)
  go_loopw [11] (fun i wr => i = .int .i64 0 ∧ wr = w2) (fun _ _ => 0)
  case atStart => exact ⟨rfl, rfl⟩
  case round =>
    obtain ⟨rfl, rfl⟩ := hrel
    go_wp2
    go_ret3
    refine ⟨⟨some ⟨g, 0, none⟩, 2, List.replicate 2 QV0, ?_, by simp [QV0, QV.ls, rxs], ?_, ?_⟩, step0 K1.out M.out.2.1⟩
    · rw [List.length_replicate]; rfl
    · obtain ⟨ao', cap', e, _, hq⟩ := M.out.1.sl
      injection e with e1 _ _
      rw [e1]
      exact hq
    · intro z hz
      obtain rfl := (List.mem_replicate.1 hz).2
      exact ⟨SlR.nil _ _, fun y hy => by simp [QV0] at hy⟩

set_option maxHeartbeats 2000000 in
theorem rrn_o (c : Ch) (no : Option Addr) (nc : Nat) (dO : Option Addr) (dc : Nat) (t : T) (ao : Option Addr) (cap : Nat) (lo : Option Addr) (lc : Nat) (w : World) (h2 : (c.kind == 2) = false) (h3 : (c.kind == 3) = false) (h4 : (c.kind == 4) = false) (h5 : (c.kind == 5) = false) (h6 : (c.kind == 6) = false) :
    Calls Tryz.prog 15 #[.agg #[.string ⟨t.name.toArray⟩, .int .i64 t.keys, .slice ao t.cs.length cap], .agg #[.int .i64 c.kind, .string ⟨c.table.toArray⟩, .string ⟨c.other.toArray⟩, .string ⟨c.to.toArray⟩, .string ⟨c.also.toArray⟩, .string ⟨c.name.toArray⟩, .int .i64 c.type, .slice no c.names.length nc, .string ⟨c.col.name.toArray⟩, .int .i64 c.col.kind, .bool c.col.null, .int .i64 c.col.d.k, .int .i64 c.col.d.n, .int .u64 c.col.d.b, .string ⟨c.col.d.s.toArray⟩, .string ⟨c.df.name.toArray⟩, .int .i64 c.df.keys, .slice dO c.df.cs.length dc], .slice lo 0 lc] w fun e w' => e = .returned (.tuple #[.slice none 0 0, .int .i64 0, .int .i64 1]) ∧ Below w.heap.size w w' := by
  obtain ⟨Wb, hWb⟩ : ∃ Wb, (w.alloc (.cells #[.string ⟨t.name.toArray⟩, .int .i64 t.keys, .slice ao t.cs.length cap] 24)).alloc (.cells #[.int .i64 c.kind, .string ⟨c.table.toArray⟩, .string ⟨c.other.toArray⟩, .string ⟨c.to.toArray⟩, .string ⟨c.also.toArray⟩, .string ⟨c.name.toArray⟩, .int .i64 c.type, .slice no c.names.length nc, .string ⟨c.col.name.toArray⟩, .int .i64 c.col.kind, .bool c.col.null, .int .i64 c.col.d.k, .int .i64 c.col.d.n, .int .u64 c.col.d.b, .string ⟨c.col.d.s.toArray⟩, .string ⟨c.df.name.toArray⟩, .int .i64 c.df.keys, .slice dO c.df.cs.length dc] 32) = Wb := ⟨_, rfl⟩
  have q1 : Blk Wb (w.heap.size + 1) #[.int .i64 c.kind, .string ⟨c.table.toArray⟩, .string ⟨c.other.toArray⟩, .string ⟨c.to.toArray⟩, .string ⟨c.also.toArray⟩, .string ⟨c.name.toArray⟩, .int .i64 c.type, .slice no c.names.length nc, .string ⟨c.col.name.toArray⟩, .int .i64 c.col.kind, .bool c.col.null, .int .i64 c.col.d.k, .int .i64 c.col.d.n, .int .u64 c.col.d.b, .string ⟨c.col.d.s.toArray⟩, .string ⟨c.df.name.toArray⟩, .int .i64 c.df.keys, .slice dO c.df.cs.length dc] 32 := hWb ▸ Blk.newB (w.alloc (.cells #[.string ⟨t.name.toArray⟩, .int .i64 t.keys, .slice ao t.cs.length cap] 24)) (w.heap.size + 1) _ _ (by simp)
  have K1 := Lib.hid (show Below w.heap.size w Wb from hWb ▸ below2s w _ _)
  have x0 := q1.cell 0
  simp at x0
  clear q1
  go_enter Tryz.func15, Tryz.ntmps15
  go_wp2
  go_ret3
  exact ⟨rfl, K1.out⟩

/-- What the document's Rows tells. -/
theorem rrows_is (c : Ch) (no : Option Addr) (nc : Nat) (dO : Option Addr) (dc : Nat) (t : T) (ao : Option Addr) (cap : Nat) (l : List RV) (lo : Option Addr) (lc : Nat) (w : World) (hT : At3 w t ao cap) (hl : SlR w lo l) (hIn : ∀ y ∈ l, Sl w y.ao y.xs ∧ y.xs.length ≤ 30 ∧ ∀ x ∈ y.xs, x.ok) (hm : l.length ≤ 30) (hns : SlS w no c.names) (hnl : c.names.length ≤ 1000) (R : List (List (List V)) × Int × Int) (hR : c.rows t (rxs l) = R) :
    Calls Tryz.prog 15 #[.agg #[.string ⟨t.name.toArray⟩, .int .i64 t.keys, .slice ao t.cs.length cap], .agg #[.int .i64 c.kind, .string ⟨c.table.toArray⟩, .string ⟨c.other.toArray⟩, .string ⟨c.to.toArray⟩, .string ⟨c.also.toArray⟩, .string ⟨c.name.toArray⟩, .int .i64 c.type, .slice no c.names.length nc, .string ⟨c.col.name.toArray⟩, .int .i64 c.col.kind, .bool c.col.null, .int .i64 c.col.d.k, .int .i64 c.col.d.n, .int .u64 c.col.d.b, .string ⟨c.col.d.s.toArray⟩, .string ⟨c.df.name.toArray⟩, .int .i64 c.df.keys, .slice dO c.df.cs.length dc], .slice lo l.length lc] w fun e w' => QQ w' e R ∧ Below w.heap.size w w' := by
  subst hR
  have hll : (rxs l).length = l.length := by simp [rxs]
  unfold Ch.rows
  rw [hll]
  obtain ⟨K, tb, ot, tn, al, nm, ty, ns, col, df⟩ := c
  simp only at hns hnl
  by_cases h2 : K = 2
  · subst h2
    have e : kn (⟨2, tb, ot, tn, al, nm, ty, ns, col, df⟩ : Ch).kind = 1 := rfl
    rw [e]
    by_cases h0 : l.length = 0
    · obtain rfl := List.eq_nil_of_length_eq_zero h0
      rw [if_neg (by simp)]
      exact rrn_2 ⟨2, tb, ot, tn, al, nm, ty, ns, col, df⟩ no nc dO dc t ao cap lo lc w
    · rw [if_neg (fun h => h0 h.1)]
      exact rrows_1 ⟨2, tb, ot, tn, al, nm, ty, ns, col, df⟩ no nc dO dc t ao cap l lo lc w hT hl hIn hm hns hnl h0 (by simp) rfl
  by_cases h3 : K = 3
  · subst h3
    have e : kn (⟨3, tb, ot, tn, al, nm, ty, ns, col, df⟩ : Ch).kind = 1 := rfl
    rw [e]
    by_cases h0 : l.length = 0
    · obtain rfl := List.eq_nil_of_length_eq_zero h0
      rw [if_neg (by simp)]
      exact rrn_3 ⟨3, tb, ot, tn, al, nm, ty, ns, col, df⟩ no nc dO dc t ao cap lo lc w
    · rw [if_neg (fun h => h0 h.1)]
      exact rrows_1 ⟨3, tb, ot, tn, al, nm, ty, ns, col, df⟩ no nc dO dc t ao cap l lo lc w hT hl hIn hm hns hnl h0 (by simp) rfl
  by_cases h4 : K = 4
  · subst h4
    have e : kn (⟨4, tb, ot, tn, al, nm, ty, ns, col, df⟩ : Ch).kind = 1 := rfl
    rw [e]
    by_cases h0 : l.length = 0
    · obtain rfl := List.eq_nil_of_length_eq_zero h0
      rw [if_neg (by simp)]
      exact rrn_4 ⟨4, tb, ot, tn, al, nm, ty, ns, col, df⟩ no nc dO dc t ao cap lo lc w
    · rw [if_neg (fun h => h0 h.1)]
      exact rrows_1 ⟨4, tb, ot, tn, al, nm, ty, ns, col, df⟩ no nc dO dc t ao cap l lo lc w hT hl hIn hm hns hnl h0 (by simp) rfl
  by_cases h5 : K = 5
  · subst h5
    have e : kn (⟨5, tb, ot, tn, al, nm, ty, ns, col, df⟩ : Ch).kind = 2 := rfl
    rw [e]
    by_cases h0 : l.length = 0
    · obtain rfl := List.eq_nil_of_length_eq_zero h0
      rw [if_neg (by simp)]
      exact rrn_5 ⟨5, tb, ot, tn, al, nm, ty, ns, col, df⟩ no nc dO dc t ao cap lo lc w
    · rw [if_neg (fun h => h0 h.1)]
      exact rrows_5 ⟨5, tb, ot, tn, al, nm, ty, ns, col, df⟩ no nc dO dc t ao cap l lo lc w hT hl hIn hm hns hnl h0
  by_cases h6 : K = 6
  · subst h6
    have e : kn (⟨6, tb, ot, tn, al, nm, ty, ns, col, df⟩ : Ch).kind = 1 := rfl
    rw [e]
    by_cases h0 : l.length = 0
    · obtain rfl := List.eq_nil_of_length_eq_zero h0
      rw [if_neg (by simp)]
      exact rrn_6 ⟨6, tb, ot, tn, al, nm, ty, ns, col, df⟩ no nc dO dc t ao cap lo lc w
    · rw [if_neg (fun h => h0 h.1)]
      exact rrows_1 ⟨6, tb, ot, tn, al, nm, ty, ns, col, df⟩ no nc dO dc t ao cap l lo lc w hT hl hIn hm hns hnl h0 (by simp) rfl
  have e : kn (⟨K, tb, ot, tn, al, nm, ty, ns, col, df⟩ : Ch).kind = 0 := by
    show kn K = 0
    unfold kn
    rw [if_neg h5, if_neg (by omega)]
  rw [e]
  by_cases h0 : l.length = 0
  · obtain rfl := List.eq_nil_of_length_eq_zero h0
    rw [if_pos ⟨rfl, rfl⟩]
    refine (rrn_o ⟨K, tb, ot, tn, al, nm, ty, ns, col, df⟩ no nc dO dc t ao cap lo lc w (beq_f h2) (beq_f h3) (beq_f h4) (beq_f h5) (beq_f h6)).mono ?_
    rintro e w1 ⟨rfl, hb⟩
    exact ⟨QQ.bad rfl, hb⟩
  · rw [if_neg (fun h => h0 h.1)]
    exact rrows_o ⟨K, tb, ot, tn, al, nm, ty, ns, col, df⟩ no nc dO dc t ao cap l lo lc w hT hl hIn hm hns hnl h0 (beq_f h2) (beq_f h3) (beq_f h4) (beq_f h5) (beq_f h6) (by simp only; omega)

end Go.Proofs.YtdonmbmahcjfbaaGreatDoor

namespace Go.Proofs.YtdonmbmahcjfbaaGreatDoor
open Go.RowKit
set_option linter.unusedVariables false
set_option linter.unusedSimpArgs false

theorem rws_small {c : Ch} {t : T} : ∀ (l : List (List V)) (j m : Nat) (out : List (List (List V))), (∀ x ∈ l, x.length ≤ 30) → l.length + m ≤ 100 → out.length ≤ 2 → (∀ z ∈ out, z.length ≤ m ∧ ∀ y ∈ z, y.length ≤ 31) →
    (rws c t l j out).1.length ≤ 2 ∧ ∀ z ∈ (rws c t l j out).1, z.length ≤ 100 ∧ ∀ y ∈ z, y.length ≤ 31
  | [], j, m, out, _, hm, hl, ho => ⟨hl, fun z hz => ⟨by have := (ho z hz).1; simp at hm; omega, (ho z hz).2⟩⟩
  | x :: l, j, m, out, hx, hm, hl, ho => by
    rw [rws]
    split
    · exact ⟨by simp, fun z hz => by simp at hz⟩
    · refine rws_small l (j + 1) (m + 1) _ (fun u hu => hx u (List.mem_cons_of_mem _ hu)) (by simp at hm; omega) (by rw [List.length_zipWith]; omega) ?_
      intro z hz
      obtain ⟨i, hi, rfl⟩ := List.getElem_of_mem hz
      rw [List.getElem_zipWith]
      rw [List.length_zipWith] at hi
      have h1 := ho _ (List.getElem_mem (l := out) (n := i) (by omega))
      have h2 := (row_small (c := c) (t := t) (row := x) (hx x (List.mem_cons_self ..))).2 _ (List.getElem_mem (l := (c.row t x).1) (n := i) (by omega))
      refine ⟨by rw [List.length_append]; simp; exact h1.1, fun y hy => ?_⟩
      rcases List.mem_append.1 hy with hy | hy
      · exact h1.2 y hy
      · obtain rfl := List.mem_singleton.1 hy
        exact h2
theorem rows_small {c : Ch} {t : T} {l : List (List V)} (h : l.length ≤ 30) (hx : ∀ x ∈ l, x.length ≤ 30) : (c.rows t l).1.length ≤ 2 ∧ ∀ z ∈ (c.rows t l).1, z.length ≤ 100 ∧ ∀ y ∈ z, y.length ≤ 31 := by
  unfold Ch.rows
  split
  · exact ⟨by simp, fun z hz => by simp at hz⟩
  · exact rws_small l 0 0 _ hx (by omega) (by rw [List.length_replicate]; exact kn_le _) (fun z hz => by obtain rfl := (List.mem_replicate.1 hz).2; exact ⟨Nat.le_refl _, by simp⟩)

set_option maxHeartbeats 4000000 in
set_option maxRecDepth 100000 in
theorem all_1 (t : T) (c : Ch) (l : List RV) (ao no dO lo : Option Addr) (cap nc dc lc : Nat) (w : World) (hT : At3 w t ao cap) (hns : SlS w no c.names) (hdf : At3 w c.df dO dc) (hcol : c.col.d.ok) (hx : SlR w lo l) (ho : ∀ y ∈ l, Sl w y.ao y.xs ∧ y.xs.length ≤ y.cap ∧ ∀ x ∈ y.xs, x.ok) (hcb : True) (hg : Env w) (hG : Km.Env w) (h1 : ¬ Tb t) :
    Calls Tryz.prog 4 #[.agg #[.string ⟨t.name.toArray⟩, .int .i64 t.keys, .slice ao t.cs.length cap], .agg #[.int .i64 c.kind, .string ⟨c.table.toArray⟩, .string ⟨c.other.toArray⟩, .string ⟨c.to.toArray⟩, .string ⟨c.also.toArray⟩, .string ⟨c.name.toArray⟩, .int .i64 c.type, .slice no c.names.length nc, .string ⟨c.col.name.toArray⟩, .int .i64 c.col.kind, .bool c.col.null, .int .i64 c.col.d.k, .int .i64 c.col.d.n, .int .u64 c.col.d.b, .string ⟨c.col.d.s.toArray⟩, .string ⟨c.df.name.toArray⟩, .int .i64 c.df.keys, .slice dO c.df.cs.length dc], .slice lo l.length lc] w fun e w' => e = .returned (.bool true) ∧ Below w.heap.size w w' := by
  have H := Lib.hid (And.intro hT (And.intro hns (And.intro hdf (And.intro hcol (And.intro hx (And.intro ho (And.intro hcb (And.intro hg (And.intro hG h1)))))))))
  obtain ⟨W2, hW2⟩ : ∃ W2, (w.alloc (.cells #[.string ⟨t.name.toArray⟩, .int .i64 t.keys, .slice ao t.cs.length cap] 24)).alloc (.cells #[.int .i64 c.kind, .string ⟨c.table.toArray⟩, .string ⟨c.other.toArray⟩, .string ⟨c.to.toArray⟩, .string ⟨c.also.toArray⟩, .string ⟨c.name.toArray⟩, .int .i64 c.type, .slice no c.names.length nc, .string ⟨c.col.name.toArray⟩, .int .i64 c.col.kind, .bool c.col.null, .int .i64 c.col.d.k, .int .i64 c.col.d.n, .int .u64 c.col.d.b, .string ⟨c.col.d.s.toArray⟩, .string ⟨c.df.name.toArray⟩, .int .i64 c.df.keys, .slice dO c.df.cs.length dc] 32) = W2 := ⟨_, rfl⟩
  have q0 : Blk W2 w.heap.size #[.string ⟨t.name.toArray⟩, .int .i64 t.keys, .slice ao t.cs.length cap] 24 := hW2 ▸ (Blk.new w _ _).alloc _
  have q1 : Blk W2 (w.heap.size + 1) #[.int .i64 c.kind, .string ⟨c.table.toArray⟩, .string ⟨c.other.toArray⟩, .string ⟨c.to.toArray⟩, .string ⟨c.also.toArray⟩, .string ⟨c.name.toArray⟩, .int .i64 c.type, .slice no c.names.length nc, .string ⟨c.col.name.toArray⟩, .int .i64 c.col.kind, .bool c.col.null, .int .i64 c.col.d.k, .int .i64 c.col.d.n, .int .u64 c.col.d.b, .string ⟨c.col.d.s.toArray⟩, .string ⟨c.df.name.toArray⟩, .int .i64 c.df.keys, .slice dO c.df.cs.length dc] 32 := hW2 ▸ Blk.newB (w.alloc (.cells #[.string ⟨t.name.toArray⟩, .int .i64 t.keys, .slice ao t.cs.length cap] 24)) (w.heap.size + 1) _ _ (by simp)
  have K := Lib.hid (And.intro (show Below w.heap.size w W2 from hW2 ▸ below2s w _ _) (And.intro q0 q1))
  obtain ⟨t0, t1, t2⟩ := q0.t3
  clear q0 q1 hT hns hdf hcol hx ho hcb hg hG h1
  go_enter Tryz.func4, Tryz.ntmps4
  go_wp2_with fail
  refine (few_n t ao cap _ (H.out.1.1.below K.out.1) H.out.2.2.2.2.2.2.2.2.2).mono ?_
  rintro e w1 ⟨rfl, hb⟩
  have K1 := Lib.hid (And.intro (step0 K.out.1 hb) (And.intro (K.out.2.1.below hb) (K.out.2.2.below hb)))
  clear hb t0 t1 t2
  go_wp2_with fail
  refine (awake_any _ (H.out.2.2.2.2.2.2.2.1.keep K1.out.1) (H.out.2.2.2.2.2.2.2.2.1.below K1.out.1)).mono ?_
  rintro e w9 ⟨rfl, hb⟩
  have KZ := Lib.hid (step0 K1.out.1 hb)
  clear hb
  go_wp2
  go_ret
  exact ⟨rfl, KZ.out⟩

set_option maxHeartbeats 4000000 in
set_option maxRecDepth 100000 in
theorem all_2 (t : T) (c : Ch) (l : List RV) (ao no dO lo : Option Addr) (cap nc dc lc : Nat) (w : World) (hT : At3 w t ao cap) (hns : SlS w no c.names) (hdf : At3 w c.df dO dc) (hcol : c.col.d.ok) (hx : SlR w lo l) (ho : ∀ y ∈ l, Sl w y.ao y.xs ∧ y.xs.length ≤ y.cap ∧ ∀ x ∈ y.xs, x.ok) (hcb : True) (hg : Env w) (hG : Km.Env w) (h1 : Tb t) (h2 : ¬ c.few) :
    Calls Tryz.prog 4 #[.agg #[.string ⟨t.name.toArray⟩, .int .i64 t.keys, .slice ao t.cs.length cap], .agg #[.int .i64 c.kind, .string ⟨c.table.toArray⟩, .string ⟨c.other.toArray⟩, .string ⟨c.to.toArray⟩, .string ⟨c.also.toArray⟩, .string ⟨c.name.toArray⟩, .int .i64 c.type, .slice no c.names.length nc, .string ⟨c.col.name.toArray⟩, .int .i64 c.col.kind, .bool c.col.null, .int .i64 c.col.d.k, .int .i64 c.col.d.n, .int .u64 c.col.d.b, .string ⟨c.col.d.s.toArray⟩, .string ⟨c.df.name.toArray⟩, .int .i64 c.df.keys, .slice dO c.df.cs.length dc], .slice lo l.length lc] w fun e w' => e = .returned (.bool true) ∧ Below w.heap.size w w' := by
  have H := Lib.hid (And.intro hT (And.intro hns (And.intro hdf (And.intro hcol (And.intro hx (And.intro ho (And.intro hcb (And.intro hg (And.intro hG (And.intro h1 h2))))))))))
  obtain ⟨W2, hW2⟩ : ∃ W2, (w.alloc (.cells #[.string ⟨t.name.toArray⟩, .int .i64 t.keys, .slice ao t.cs.length cap] 24)).alloc (.cells #[.int .i64 c.kind, .string ⟨c.table.toArray⟩, .string ⟨c.other.toArray⟩, .string ⟨c.to.toArray⟩, .string ⟨c.also.toArray⟩, .string ⟨c.name.toArray⟩, .int .i64 c.type, .slice no c.names.length nc, .string ⟨c.col.name.toArray⟩, .int .i64 c.col.kind, .bool c.col.null, .int .i64 c.col.d.k, .int .i64 c.col.d.n, .int .u64 c.col.d.b, .string ⟨c.col.d.s.toArray⟩, .string ⟨c.df.name.toArray⟩, .int .i64 c.df.keys, .slice dO c.df.cs.length dc] 32) = W2 := ⟨_, rfl⟩
  have q0 : Blk W2 w.heap.size #[.string ⟨t.name.toArray⟩, .int .i64 t.keys, .slice ao t.cs.length cap] 24 := hW2 ▸ (Blk.new w _ _).alloc _
  have q1 : Blk W2 (w.heap.size + 1) #[.int .i64 c.kind, .string ⟨c.table.toArray⟩, .string ⟨c.other.toArray⟩, .string ⟨c.to.toArray⟩, .string ⟨c.also.toArray⟩, .string ⟨c.name.toArray⟩, .int .i64 c.type, .slice no c.names.length nc, .string ⟨c.col.name.toArray⟩, .int .i64 c.col.kind, .bool c.col.null, .int .i64 c.col.d.k, .int .i64 c.col.d.n, .int .u64 c.col.d.b, .string ⟨c.col.d.s.toArray⟩, .string ⟨c.df.name.toArray⟩, .int .i64 c.df.keys, .slice dO c.df.cs.length dc] 32 := hW2 ▸ Blk.newB (w.alloc (.cells #[.string ⟨t.name.toArray⟩, .int .i64 t.keys, .slice ao t.cs.length cap] 24)) (w.heap.size + 1) _ _ (by simp)
  have K := Lib.hid (And.intro (show Below w.heap.size w W2 from hW2 ▸ below2s w _ _) (And.intro q0 q1))
  obtain ⟨t0, t1, t2⟩ := q0.t3
  clear q0 q1 hT hns hdf hcol hx ho hcb hg hG h1 h2
  go_enter Tryz.func4, Tryz.ntmps4
  go_wp2_with fail
  refine (few_t t ao cap _ (H.out.1.1.below K.out.1) H.out.2.2.2.2.2.2.2.2.2.1).mono ?_
  rintro e w1 ⟨rfl, hb⟩
  have K1 := Lib.hid (And.intro (step0 K.out.1 hb) (And.intro (K.out.2.1.below hb) (K.out.2.2.below hb)))
  clear hb t0 t1 t2
  go_wp2_with ((refine (?_ : wpList _ _ _ (Oper.mk _ (Op.load 32 _) _ _ _ _ :: _) _ _)); refine wpList_load_g (by rfl) 32 _ rfl (w.heap.size + 1) 0 rfl [.int .i64 c.kind, .string ⟨c.table.toArray⟩, .string ⟨c.other.toArray⟩, .string ⟨c.to.toArray⟩, .string ⟨c.also.toArray⟩, .string ⟨c.name.toArray⟩, .int .i64 c.type, .slice no c.names.length nc, .string ⟨c.col.name.toArray⟩, .int .i64 c.col.kind, .bool c.col.null, .int .i64 c.col.d.k, .int .i64 c.col.d.n, .int .u64 c.col.d.b, .string ⟨c.col.d.s.toArray⟩, .string ⟨c.df.name.toArray⟩, .int .i64 c.df.keys, .slice dO c.df.cs.length dc] _ (rng K1.out.2.2) Tryz.underlying32 rfl infoCh ?_; go_frame)
  refine (cfew_no c no nc dO dc _ (H.out.2.1.below K1.out.1) (H.out.2.2.1.1.below K1.out.1) H.out.2.2.2.2.2.2.2.2.2.2).mono ?_
  rintro e w2 ⟨rfl, hb⟩
  have K2 := Lib.hid (And.intro (step0 K1.out.1 hb) (And.intro (K1.out.2.1.below hb) (K1.out.2.2.below hb)))
  clear hb
  go_wp2_with fail
  refine (awake_any _ (H.out.2.2.2.2.2.2.2.1.keep K2.out.1) (H.out.2.2.2.2.2.2.2.2.1.below K2.out.1)).mono ?_
  rintro e w9 ⟨rfl, hb⟩
  have KZ := Lib.hid (step0 K2.out.1 hb)
  clear hb
  go_wp2
  go_ret
  exact ⟨rfl, KZ.out⟩

set_option maxHeartbeats 4000000 in
set_option maxRecDepth 100000 in
theorem all_3 (t : T) (c : Ch) (l : List RV) (ao no dO lo : Option Addr) (cap nc dc lc : Nat) (w : World) (hT : At3 w t ao cap) (hns : SlS w no c.names) (hdf : At3 w c.df dO dc) (hcol : c.col.d.ok) (hx : SlR w lo l) (ho : ∀ y ∈ l, Sl w y.ao y.xs ∧ y.xs.length ≤ y.cap ∧ ∀ x ∈ y.xs, x.ok) (hcb : True) (hg : Env w) (hG : Km.Env w) (h1 : Tb t) (h2 : c.few) (h3 : ¬ (l.length ≤ 30 ∧ ∀ y ∈ l, Fv y.xs)) :
    Calls Tryz.prog 4 #[.agg #[.string ⟨t.name.toArray⟩, .int .i64 t.keys, .slice ao t.cs.length cap], .agg #[.int .i64 c.kind, .string ⟨c.table.toArray⟩, .string ⟨c.other.toArray⟩, .string ⟨c.to.toArray⟩, .string ⟨c.also.toArray⟩, .string ⟨c.name.toArray⟩, .int .i64 c.type, .slice no c.names.length nc, .string ⟨c.col.name.toArray⟩, .int .i64 c.col.kind, .bool c.col.null, .int .i64 c.col.d.k, .int .i64 c.col.d.n, .int .u64 c.col.d.b, .string ⟨c.col.d.s.toArray⟩, .string ⟨c.df.name.toArray⟩, .int .i64 c.df.keys, .slice dO c.df.cs.length dc], .slice lo l.length lc] w fun e w' => e = .returned (.bool true) ∧ Below w.heap.size w w' := by
  have H := Lib.hid (And.intro hT (And.intro hns (And.intro hdf (And.intro hcol (And.intro hx (And.intro ho (And.intro hcb (And.intro hg (And.intro hG (And.intro h1 (And.intro h2 h3)))))))))))
  obtain ⟨W2, hW2⟩ : ∃ W2, (w.alloc (.cells #[.string ⟨t.name.toArray⟩, .int .i64 t.keys, .slice ao t.cs.length cap] 24)).alloc (.cells #[.int .i64 c.kind, .string ⟨c.table.toArray⟩, .string ⟨c.other.toArray⟩, .string ⟨c.to.toArray⟩, .string ⟨c.also.toArray⟩, .string ⟨c.name.toArray⟩, .int .i64 c.type, .slice no c.names.length nc, .string ⟨c.col.name.toArray⟩, .int .i64 c.col.kind, .bool c.col.null, .int .i64 c.col.d.k, .int .i64 c.col.d.n, .int .u64 c.col.d.b, .string ⟨c.col.d.s.toArray⟩, .string ⟨c.df.name.toArray⟩, .int .i64 c.df.keys, .slice dO c.df.cs.length dc] 32) = W2 := ⟨_, rfl⟩
  have q0 : Blk W2 w.heap.size #[.string ⟨t.name.toArray⟩, .int .i64 t.keys, .slice ao t.cs.length cap] 24 := hW2 ▸ (Blk.new w _ _).alloc _
  have q1 : Blk W2 (w.heap.size + 1) #[.int .i64 c.kind, .string ⟨c.table.toArray⟩, .string ⟨c.other.toArray⟩, .string ⟨c.to.toArray⟩, .string ⟨c.also.toArray⟩, .string ⟨c.name.toArray⟩, .int .i64 c.type, .slice no c.names.length nc, .string ⟨c.col.name.toArray⟩, .int .i64 c.col.kind, .bool c.col.null, .int .i64 c.col.d.k, .int .i64 c.col.d.n, .int .u64 c.col.d.b, .string ⟨c.col.d.s.toArray⟩, .string ⟨c.df.name.toArray⟩, .int .i64 c.df.keys, .slice dO c.df.cs.length dc] 32 := hW2 ▸ Blk.newB (w.alloc (.cells #[.string ⟨t.name.toArray⟩, .int .i64 t.keys, .slice ao t.cs.length cap] 24)) (w.heap.size + 1) _ _ (by simp)
  have K := Lib.hid (And.intro (show Below w.heap.size w W2 from hW2 ▸ below2s w _ _) (And.intro q0 q1))
  obtain ⟨t0, t1, t2⟩ := q0.t3
  clear q0 q1 hT hns hdf hcol hx ho hcb hg hG h1 h2 h3
  go_enter Tryz.func4, Tryz.ntmps4
  go_wp2_with fail
  refine (few_t t ao cap _ (H.out.1.1.below K.out.1) H.out.2.2.2.2.2.2.2.2.2.1).mono ?_
  rintro e w1 ⟨rfl, hb⟩
  have K1 := Lib.hid (And.intro (step0 K.out.1 hb) (And.intro (K.out.2.1.below hb) (K.out.2.2.below hb)))
  clear hb t0 t1 t2
  go_wp2_with ((refine (?_ : wpList _ _ _ (Oper.mk _ (Op.load 32 _) _ _ _ _ :: _) _ _)); refine wpList_load_g (by rfl) 32 _ rfl (w.heap.size + 1) 0 rfl [.int .i64 c.kind, .string ⟨c.table.toArray⟩, .string ⟨c.other.toArray⟩, .string ⟨c.to.toArray⟩, .string ⟨c.also.toArray⟩, .string ⟨c.name.toArray⟩, .int .i64 c.type, .slice no c.names.length nc, .string ⟨c.col.name.toArray⟩, .int .i64 c.col.kind, .bool c.col.null, .int .i64 c.col.d.k, .int .i64 c.col.d.n, .int .u64 c.col.d.b, .string ⟨c.col.d.s.toArray⟩, .string ⟨c.df.name.toArray⟩, .int .i64 c.df.keys, .slice dO c.df.cs.length dc] _ (rng K1.out.2.2) Tryz.underlying32 rfl infoCh ?_; go_frame)
  refine (cfew_yes c no nc dO dc _ (H.out.2.1.below K1.out.1) (H.out.2.2.1.1.below K1.out.1) H.out.2.2.2.2.2.2.2.2.2.2.1.1 H.out.2.2.2.2.2.2.2.2.2.2.1.2.1 H.out.2.2.2.2.2.2.2.2.2.2.1.2.2.1 H.out.2.2.2.2.2.2.2.2.2.2.1.2.2.2).mono ?_
  rintro e w2 ⟨rfl, hb⟩
  have K2 := Lib.hid (And.intro (step0 K1.out.1 hb) (And.intro (K1.out.2.1.below hb) (K1.out.2.2.below hb)))
  clear hb
  go_wp2_with fail
  refine (frow_no l lo lc _ (H.out.2.2.2.2.1.below K2.out.1) (fun y hy => (H.out.2.2.2.2.2.1 y hy).1.below K2.out.1) H.out.2.2.2.2.2.2.2.2.2.2.2).mono ?_
  rintro e w3 ⟨rfl, hb⟩
  have K3 := Lib.hid (And.intro (step0 K2.out.1 hb) (And.intro (K2.out.2.1.below hb) (K2.out.2.2.below hb)))
  clear hb
  go_wp2_with fail
  refine (awake_any _ (H.out.2.2.2.2.2.2.2.1.keep K3.out.1) (H.out.2.2.2.2.2.2.2.2.1.below K3.out.1)).mono ?_
  rintro e w9 ⟨rfl, hb⟩
  have KZ := Lib.hid (step0 K3.out.1 hb)
  clear hb
  go_wp2
  go_ret
  exact ⟨rfl, KZ.out⟩

set_option maxHeartbeats 4000000 in
set_option maxRecDepth 100000 in
theorem all_4 (t : T) (c : Ch) (l : List RV) (ao no dO lo : Option Addr) (cap nc dc lc : Nat) (w : World) (hT : At3 w t ao cap) (hns : SlS w no c.names) (hdf : At3 w c.df dO dc) (hcol : c.col.d.ok) (hx : SlR w lo l) (ho : ∀ y ∈ l, Sl w y.ao y.xs ∧ y.xs.length ≤ y.cap ∧ ∀ x ∈ y.xs, x.ok) (hcb : True) (hg : Env w) (hG : Km.Env w) (h1 : Tb t) (h2 : c.few) (h3 : (l.length ≤ 30 ∧ ∀ y ∈ l, Fv y.xs)) :
    Calls Tryz.prog 4 #[.agg #[.string ⟨t.name.toArray⟩, .int .i64 t.keys, .slice ao t.cs.length cap], .agg #[.int .i64 c.kind, .string ⟨c.table.toArray⟩, .string ⟨c.other.toArray⟩, .string ⟨c.to.toArray⟩, .string ⟨c.also.toArray⟩, .string ⟨c.name.toArray⟩, .int .i64 c.type, .slice no c.names.length nc, .string ⟨c.col.name.toArray⟩, .int .i64 c.col.kind, .bool c.col.null, .int .i64 c.col.d.k, .int .i64 c.col.d.n, .int .u64 c.col.d.b, .string ⟨c.col.d.s.toArray⟩, .string ⟨c.df.name.toArray⟩, .int .i64 c.df.keys, .slice dO c.df.cs.length dc], .slice lo l.length lc] w fun e w' => e = .returned (.bool true) ∧ Below w.heap.size w w' := by
  have H := Lib.hid (And.intro hT (And.intro hns (And.intro hdf (And.intro hcol (And.intro hx (And.intro ho (And.intro hcb (And.intro hg (And.intro hG (And.intro h1 (And.intro h2 h3)))))))))))
  obtain ⟨W2, hW2⟩ : ∃ W2, (w.alloc (.cells #[.string ⟨t.name.toArray⟩, .int .i64 t.keys, .slice ao t.cs.length cap] 24)).alloc (.cells #[.int .i64 c.kind, .string ⟨c.table.toArray⟩, .string ⟨c.other.toArray⟩, .string ⟨c.to.toArray⟩, .string ⟨c.also.toArray⟩, .string ⟨c.name.toArray⟩, .int .i64 c.type, .slice no c.names.length nc, .string ⟨c.col.name.toArray⟩, .int .i64 c.col.kind, .bool c.col.null, .int .i64 c.col.d.k, .int .i64 c.col.d.n, .int .u64 c.col.d.b, .string ⟨c.col.d.s.toArray⟩, .string ⟨c.df.name.toArray⟩, .int .i64 c.df.keys, .slice dO c.df.cs.length dc] 32) = W2 := ⟨_, rfl⟩
  have q0 : Blk W2 w.heap.size #[.string ⟨t.name.toArray⟩, .int .i64 t.keys, .slice ao t.cs.length cap] 24 := hW2 ▸ (Blk.new w _ _).alloc _
  have q1 : Blk W2 (w.heap.size + 1) #[.int .i64 c.kind, .string ⟨c.table.toArray⟩, .string ⟨c.other.toArray⟩, .string ⟨c.to.toArray⟩, .string ⟨c.also.toArray⟩, .string ⟨c.name.toArray⟩, .int .i64 c.type, .slice no c.names.length nc, .string ⟨c.col.name.toArray⟩, .int .i64 c.col.kind, .bool c.col.null, .int .i64 c.col.d.k, .int .i64 c.col.d.n, .int .u64 c.col.d.b, .string ⟨c.col.d.s.toArray⟩, .string ⟨c.df.name.toArray⟩, .int .i64 c.df.keys, .slice dO c.df.cs.length dc] 32 := hW2 ▸ Blk.newB (w.alloc (.cells #[.string ⟨t.name.toArray⟩, .int .i64 t.keys, .slice ao t.cs.length cap] 24)) (w.heap.size + 1) _ _ (by simp)
  have K := Lib.hid (And.intro (show Below w.heap.size w W2 from hW2 ▸ below2s w _ _) (And.intro q0 q1))
  obtain ⟨t0, t1, t2⟩ := q0.t3
  clear q0 q1 hT hns hdf hcol hx ho hcb hg hG h1 h2 h3
  go_enter Tryz.func4, Tryz.ntmps4
  go_wp2_with fail
  refine (few_t t ao cap _ (H.out.1.1.below K.out.1) H.out.2.2.2.2.2.2.2.2.2.1).mono ?_
  rintro e w1 ⟨rfl, hb⟩
  have K1 := Lib.hid (And.intro (step0 K.out.1 hb) (And.intro (K.out.2.1.below hb) (K.out.2.2.below hb)))
  clear hb t0 t1 t2
  go_wp2_with ((refine (?_ : wpList _ _ _ (Oper.mk _ (Op.load 32 _) _ _ _ _ :: _) _ _)); refine wpList_load_g (by rfl) 32 _ rfl (w.heap.size + 1) 0 rfl [.int .i64 c.kind, .string ⟨c.table.toArray⟩, .string ⟨c.other.toArray⟩, .string ⟨c.to.toArray⟩, .string ⟨c.also.toArray⟩, .string ⟨c.name.toArray⟩, .int .i64 c.type, .slice no c.names.length nc, .string ⟨c.col.name.toArray⟩, .int .i64 c.col.kind, .bool c.col.null, .int .i64 c.col.d.k, .int .i64 c.col.d.n, .int .u64 c.col.d.b, .string ⟨c.col.d.s.toArray⟩, .string ⟨c.df.name.toArray⟩, .int .i64 c.df.keys, .slice dO c.df.cs.length dc] _ (rng K1.out.2.2) Tryz.underlying32 rfl infoCh ?_; go_frame)
  refine (cfew_yes c no nc dO dc _ (H.out.2.1.below K1.out.1) (H.out.2.2.1.1.below K1.out.1) H.out.2.2.2.2.2.2.2.2.2.2.1.1 H.out.2.2.2.2.2.2.2.2.2.2.1.2.1 H.out.2.2.2.2.2.2.2.2.2.2.1.2.2.1 H.out.2.2.2.2.2.2.2.2.2.2.1.2.2.2).mono ?_
  rintro e w2 ⟨rfl, hb⟩
  have K2 := Lib.hid (And.intro (step0 K1.out.1 hb) (And.intro (K1.out.2.1.below hb) (K1.out.2.2.below hb)))
  clear hb
  go_wp2_with fail
  refine (frow_yes l lo lc _ (H.out.2.2.2.2.1.below K2.out.1) (fun y hy => (H.out.2.2.2.2.2.1 y hy).1.below K2.out.1) H.out.2.2.2.2.2.2.2.2.2.2.2.1 H.out.2.2.2.2.2.2.2.2.2.2.2.2).mono ?_
  rintro e w3 ⟨rfl, hb⟩
  have K3 := Lib.hid (And.intro (step0 K2.out.1 hb) (And.intro (K2.out.2.1.below hb) (K2.out.2.2.below hb)))
  clear hb
  obtain ⟨t0, t1, t2⟩ := K3.out.2.1.t3
  obtain ⟨R, hR⟩ : ∃ R, c.rows t (rxs l) = R := ⟨_, rfl⟩
  have HR := Lib.hid hR
  clear hR
  go_wp2_with ((refine (?_ : wpList _ _ _ (Oper.mk _ (Op.load 32 _) _ _ _ _ :: _) _ _)); refine wpList_load_g (by rfl) 32 _ rfl (w.heap.size + 1) 0 rfl [.int .i64 c.kind, .string ⟨c.table.toArray⟩, .string ⟨c.other.toArray⟩, .string ⟨c.to.toArray⟩, .string ⟨c.also.toArray⟩, .string ⟨c.name.toArray⟩, .int .i64 c.type, .slice no c.names.length nc, .string ⟨c.col.name.toArray⟩, .int .i64 c.col.kind, .bool c.col.null, .int .i64 c.col.d.k, .int .i64 c.col.d.n, .int .u64 c.col.d.b, .string ⟨c.col.d.s.toArray⟩, .string ⟨c.df.name.toArray⟩, .int .i64 c.df.keys, .slice dO c.df.cs.length dc] _ (rng K3.out.2.2) Tryz.underlying32 rfl infoCh ?_; go_frame)
  refine (rows_is c no nc dO dc t ao cap l lo lc _ (H.out.2.2.2.2.2.2.2.1.keep K3.out.1) (H.out.2.2.2.2.2.2.2.2.1.below K3.out.1) (H.out.1.keep K3.out.1) (H.out.2.2.2.2.1.below K3.out.1) (fun y hy => ⟨(H.out.2.2.2.2.2.1 y hy).1.below K3.out.1, (H.out.2.2.2.2.2.2.2.2.2.2.2.2 y hy).1, (H.out.2.2.2.2.2.1 y hy).2.1, (H.out.2.2.2.2.2.1 y hy).2.2⟩) H.out.2.2.2.2.2.2.2.2.2.2.2.1 (H.out.2.1.below K3.out.1) (by have := H.out.2.2.2.2.2.2.2.2.2.2.1.1.1; omega) R HR.out).mono ?_
  rintro e w4 ⟨⟨o4, c4, ys, rfl, hx4, hs4, hf4⟩, hb⟩
  have K4 := Lib.hid (And.intro (step0 K3.out.1 hb) (And.intro (K3.out.2.1.below hb) (And.intro (K3.out.2.2.below hb) (And.intro hx4 (And.intro hs4 hf4)))))
  clear hb hx4 hs4 hf4 t0 t1 t2
  obtain ⟨t0, t1, t2⟩ := K4.out.2.1.t3
  go_wp2_with ((refine (?_ : wpList _ _ _ (Oper.mk _ (Op.load 32 _) _ _ _ _ :: _) _ _)); refine wpList_load_g (by rfl) 32 _ rfl (w.heap.size + 1) 0 rfl [.int .i64 c.kind, .string ⟨c.table.toArray⟩, .string ⟨c.other.toArray⟩, .string ⟨c.to.toArray⟩, .string ⟨c.also.toArray⟩, .string ⟨c.name.toArray⟩, .int .i64 c.type, .slice no c.names.length nc, .string ⟨c.col.name.toArray⟩, .int .i64 c.col.kind, .bool c.col.null, .int .i64 c.col.d.k, .int .i64 c.col.d.n, .int .u64 c.col.d.b, .string ⟨c.col.d.s.toArray⟩, .string ⟨c.df.name.toArray⟩, .int .i64 c.df.keys, .slice dO c.df.cs.length dc] _ (rng K4.out.2.2.1) Tryz.underlying32 rfl infoCh ?_; go_frame)
  refine (rrows_is c no nc dO dc t ao cap l lo lc _ (H.out.1.keep K4.out.1) (H.out.2.2.2.2.1.below K4.out.1) (fun y hy => ⟨(H.out.2.2.2.2.2.1 y hy).1.below K4.out.1, (H.out.2.2.2.2.2.2.2.2.2.2.2.2 y hy).1, (H.out.2.2.2.2.2.1 y hy).2.2⟩) H.out.2.2.2.2.2.2.2.2.2.2.2.1 (H.out.2.1.below K4.out.1) (by have := H.out.2.2.2.2.2.2.2.2.2.2.1.1.1; omega) R HR.out).mono ?_
  rintro e w5 ⟨⟨o5, c5, zs, rfl, hx5, hs5, hf5⟩, hb⟩
  have K5 := Lib.hid (And.intro (step0 K4.out.1 hb) (And.intro hx5 (And.intro hs5 (And.intro hf5 (And.intro (K4.out.2.2.2.2.1.below hb) (fun z hz => And.intro ((K4.out.2.2.2.2.2 z hz).1.below hb) ((K4.out.2.2.2.2.2 z hz).2.below hb)))))))
  clear hb hx5 hs5 hf5 t0 t1 t2
  have SM := Lib.hid (rows_small (c := c) (t := t) (l := rxs l) (by simpa [rxs] using H.out.2.2.2.2.2.2.2.2.2.2.2.1) (fun x hx => by obtain ⟨y, hy, rfl⟩ := List.mem_map.1 hx; exact (H.out.2.2.2.2.2.2.2.2.2.2.2.2 y hy).1))
  rw [HR.out, ← K4.out.2.2.2.1] at SM
  go_wp2_with fail
  refine (all_q ys zs o4 o5 c4 c5 _ (by have h := SM.out.1; simp at h; omega) K5.out.2.2.2.2.1 K5.out.2.2.1 K5.out.2.2.2.2.2 K5.out.2.2.2.1 (by
    intro x hx
    have h := SM.out.2 x.ls (List.mem_map_of_mem hx)
    refine ⟨by have := h.1; simp [QV.ls, rxs] at this; omega, fun y hy => ?_⟩
    have := h.2 y.xs (List.mem_map_of_mem hy)
    omega) (K4.out.2.2.2.1.trans K5.out.2.1.symm)).mono ?_
  rintro e w6 ⟨rfl, hb⟩
  have K6 := Lib.hid (step0 K5.out.1 hb)
  clear hb
  go_wp2_with fail
  refine (awake_any _ (H.out.2.2.2.2.2.2.2.1.keep K6.out) (H.out.2.2.2.2.2.2.2.2.1.below K6.out)).mono ?_
  rintro e w9 ⟨rfl, hb⟩
  have KZ := Lib.hid (step0 K6.out hb)
  clear hb
  go_wp2
  go_ret
  exact ⟨rfl, KZ.out⟩

theorem transformAll_walk (t : T) (c : Ch) (l : List RV) (ao no dO lo : Option Addr) (cap nc dc lc : Nat) (w : World) (hT : At3 w t ao cap) (hns : SlS w no c.names) (hdf : At3 w c.df dO dc) (hcol : c.col.d.ok) (hx : SlR w lo l) (ho : ∀ y ∈ l, Sl w y.ao y.xs ∧ y.xs.length ≤ y.cap ∧ ∀ x ∈ y.xs, x.ok) (hg : Env w) (hG : Km.Env w) :
    Calls Tryz.prog 4 #[.agg #[.string ⟨t.name.toArray⟩, .int .i64 t.keys, .slice ao t.cs.length cap], .agg #[.int .i64 c.kind, .string ⟨c.table.toArray⟩, .string ⟨c.other.toArray⟩, .string ⟨c.to.toArray⟩, .string ⟨c.also.toArray⟩, .string ⟨c.name.toArray⟩, .int .i64 c.type, .slice no c.names.length nc, .string ⟨c.col.name.toArray⟩, .int .i64 c.col.kind, .bool c.col.null, .int .i64 c.col.d.k, .int .i64 c.col.d.n, .int .u64 c.col.d.b, .string ⟨c.col.d.s.toArray⟩, .string ⟨c.df.name.toArray⟩, .int .i64 c.df.keys, .slice dO c.df.cs.length dc], .slice lo l.length lc] w fun e w' => e = .returned (.bool true) ∧ Below w.heap.size w w' := by
  by_cases h1 : Tb t
  case neg => exact all_1 t c l ao no dO lo cap nc dc lc w hT hns hdf hcol hx ho trivial hg hG h1
  by_cases h2 : c.few
  case neg => exact all_2 t c l ao no dO lo cap nc dc lc w hT hns hdf hcol hx ho trivial hg hG h1 h2
  by_cases h3 : (l.length ≤ 30 ∧ ∀ y ∈ l, Fv y.xs)
  case neg => exact all_3 t c l ao no dO lo cap nc dc lc w hT hns hdf hcol hx ho trivial hg hG h1 h2 h3
  exact all_4 t c l ao no dO lo cap nc dc lc w hT hns hdf hcol hx ho trivial hg hG h1 h2 h3

end Go.Proofs.YtdonmbmahcjfbaaGreatDoor
