/-
  Rows of rows: All, EqualFunc, both Replies; rows of rows as an argument. Conditions: at most 1000 rows.
  Law OpsTwo, walked. Conditions: what is asked and answered lies in memory.
  Two answers as an argument, opened.
-/
import Derived.Test.YtmgdciihpjifgaaGreatDoorQpOpRefO
import Derived.Test.YtmgdciihpjifgaaGreatDoorQpOpOpen
import Derived.Test.YtmgdciihpjifgaaGreatDoorQpRkTwo
import Derived.Test.YtmgdciihpjifgaaGreatDoorQpOpFew
import Derived.Test.YtmgdciihpjifgaaGreatDoorQpOpAwake
import Derived.Deep.RegionHeld3
namespace Go.Proofs.YtmgdciihpjifgaaGreatDoor
open Go.ChangeShapes Go.WideShapes Go.ChangeAt Go.RowKit Go.Joins Go.Deep
set_option linter.unusedVariables false
set_option linter.unusedSimpArgs false

theorem rlist_of {P : Nat → RV → Prop} : ∀ (n : Nat), (∀ i, i < n → ∃ x, P i x) → ∃ xs : List RV, xs.length = n ∧ ∀ (i : Nat) (x : RV), xs[i]? = some x → P i x
  | 0, _ => ⟨[], rfl, fun i x h => by simp at h⟩
  | n + 1, h => by
    obtain ⟨xs, hl, hx⟩ := rlist_of n (fun i hi => h i (by omega))
    obtain ⟨y, hy⟩ := h n (by omega)
    refine ⟨xs ++ [y], by simp [hl], fun i x hi => ?_⟩
    by_cases g : i < n
    · rw [List.getElem?_append_left (by omega)] at hi
      exact hx i x hi
    · rw [List.getElem?_append_right (by omega)] at hi
      have e : i = n := by
        have := (List.getElem?_eq_some_iff.1 hi).1
        simp at this
        omega
      subst e
      rw [hl, Nat.sub_self] at hi
      obtain rfl : y = x := by simpa using hi
      exact hy
theorem len_max {H : Type} {enc : TypeId × Value → H} {W : World} {t e : TypeId} {ao : Option Addr} {len cap : Nat} {d : DataW H} {p : List MemPlace} (ht : Tryz.prog.underlying t = some (.slice e)) (h : DataW.Trod enc Tryz.prog W 0 (fun _ => true) true t (.slice ao len cap) d p) : len ≤ 9223372036854775807 := by
  obtain ⟨fuel, hf⟩ := h
  rcases DataW.trod_slice ht hf with ⟨hcs, _⟩ | ⟨a, l, c, m, n, D, hcs1, hcs, _, _, hl, hm, _⟩
  · simp [Value.cells] at hcs
    omega
  · simp [Value.cells] at hcs
    unfold maxLen at hm
    omega
section
variable {H : Type} {enc : TypeId × Value → H} {W : World}
/-- A slice of slices of values. -/
theorem open_rows {ao : Option Addr} {len cap : Nat} {d : DataW H} {p : List MemPlace} (h : DataW.Trod enc Tryz.prog W 0 (fun _ => true) true 60 (.slice ao len cap) d p) :
    ∃ l : List RV, len = l.length ∧ SlR W ao l ∧ ∀ y ∈ l, Sl W y.ao y.xs ∧ y.xs.length ≤ 9223372036854775807 ∧ ∀ x ∈ y.xs, x.ok := by
  obtain ⟨fuel, hf⟩ := h
  rcases open_slice Tryz.underlying60 hf with ⟨hcs, _⟩ | ⟨a, l, c, m, n, D, Pl, hcs, _, hl, _, hm, _, hi⟩
  · simp [Value.cells] at hcs
    obtain ⟨rfl, rfl, rfl⟩ := hcs
    exact ⟨[], rfl, SlR.nil _ _, by simp⟩
  · simp [Value.cells] at hcs
    obtain ⟨rfl, rfl, rfl⟩ := hcs
    have hlm : len ≤ m := by rw [hm]; simpa using hl
    obtain ⟨xs, hx, hp⟩ := rlist_of (P := fun i y => W.cell? (a.add i) = some (.slice y.ao y.xs.length y.cap) ∧ Sl W y.ao y.xs ∧ y.xs.length ≤ 9223372036854775807 ∧ ∀ x ∈ y.xs, x.ok) len (fun i hil => by
      obtain ⟨cs, hc, ht⟩ := hi i (by omega)
      rw [show Tryz.prog.cellsOf 46 = 1 from by kernel_rfl, Nat.mul_one] at hc
      have hs : ∃ bo bl bc, cs = [.slice bo bl bc] := by
        rcases open_slice Tryz.underlying46 ht with ⟨hcs, _⟩ | ⟨b, l', c', m', n', D', Pl', hcs, _⟩
        · exact ⟨none, 0, 0, hcs⟩
        · exact ⟨some b, l', c', hcs⟩
      obtain ⟨bo, bl, bc, rfl⟩ := hs
      have cell := (World.cells?_some hc).2.2 0 (by decide)
      have tr : DataW.Trod enc Tryz.prog W 0 (fun _ => true) true 46 (.slice bo bl bc) (D i) (Pl i) := ⟨n, by simpa [Value.cells] using ht⟩
      have cp := len_max Tryz.underlying46 tr
      obtain ⟨xs, rfl, sl, ok⟩ := open_vals tr
      exact ⟨⟨xs, bo, bc⟩, cell, sl, cp, ok⟩)
    subst hx
    refine ⟨xs, rfl, fun i y hy => ⟨a, rfl, (hp i y hy).1⟩, fun y hy => ?_⟩
    obtain ⟨i, hi', rfl⟩ := List.getElem_of_mem hy
    exact (hp i _ (List.getElem?_eq_getElem hi')).2
end

/-- Rows and rows, one by one the same. -/
def ral : List RV → List RV → Bool
  | [], [] => true
  | x :: xs, y :: ys => Rk.rs x.xs y.xs && ral xs ys
  | _, _ => false
theorem ral_len : ∀ (a b : List RV), ral a b = true → a.length = b.length
  | [], [], _ => rfl
  | x :: xs, y :: ys, h => by
    unfold ral at h
    rw [Bool.and_eq_true] at h
    rw [List.length_cons, List.length_cons, ral_len xs ys h.2]
  | [], _ :: _, h => by cases h
  | _ :: _, [], h => by cases h
theorem ral_at : ∀ (a b : List RV), a.length = b.length → (ral a b = true ↔ ∀ (j : Nat) (h1 : j < a.length) (h2 : j < b.length), Rk.rs a[j].xs b[j].xs = true)
  | [], [], _ => ⟨fun _ j h => absurd h (Nat.not_lt_zero _), fun _ => rfl⟩
  | x :: xs, y :: ys, hl => by
    have ih := ral_at xs ys (by simpa using hl)
    unfold ral
    rw [Bool.and_eq_true, ih]
    constructor
    · rintro ⟨h0, hr⟩ j h1 h2
      cases j with
      | zero => exact h0
      | succ j => exact hr j (by simpa using h1) (by simpa using h2)
    · intro h
      exact ⟨h 0 (by simp) (by simp), fun j h1 h2 => h (j + 1) (by simpa using h1) (by simpa using h2)⟩
  | [], _ :: _, h => by cases h
  | _ :: _, [], h => by cases h
theorem ral_no {a b : List RV} (j : Nat) (h : j < a.length) (h' : j < b.length) (hs : Rk.rs a[j].xs b[j].xs = false) : ral a b = false := by
  cases e : ral a b with
  | false => rfl
  | true =>
    have := (ral_at a b (ral_len a b e)).1 e j h h'
    rw [hs] at this
    cases this
theorem ral_yes {a b : List RV} (hl : a.length = b.length) (h : ∀ (i : Nat), i < a.length → ∀ (h1 : i < a.length) (h2 : i < b.length), Rk.rs a[i].xs b[i].xs = true) : ral a b = true := (ral_at a b hl).2 fun j h1 h2 => h j h1 h1 h2
theorem ral_next {a b : List RV} {j : Nat} (h : ∀ (i : Nat), i < j → ∀ (h1 : i < a.length) (h2 : i < b.length), Rk.rs a[i].xs b[i].xs = true) (hj : j < a.length) (hj' : j < b.length) (h0 : Rk.rs a[j].xs b[j].xs = true) :
    ∀ (i : Nat), i < j + 1 → ∀ (h1 : i < a.length) (h2 : i < b.length), Rk.rs a[i].xs b[i].xs = true := by
  intro i hi h1 h2
  by_cases e : i = j
  · subst e; exact h0
  · exact h i (by omega) h1 h2

set_option maxHeartbeats 4000000 in
theorem all06_is (xs ys : List RV) (ao bo : Option Addr) (ca cb : Nat) (w : World) (r : Bool) (hl : xs.length ≤ 1000) (ha : SlR w ao xs) (hb : SlR w bo ys) (ia : InR w xs) (ib : InR w ys) (lx : ∀ x ∈ xs, x.xs.length ≤ 9223372036854775807) (ly : ∀ x ∈ ys, x.xs.length ≤ 9223372036854775807) (hr : ral xs ys = r) :
    Calls Tryz.prog 24 #[.slice ao xs.length ca, .slice bo ys.length cb] w fun e w' => e = .returned (.bool r) ∧ Below w.heap.size w w' := by
  subst hr
  have hmx : Tryz.prog.follows .mixedOrders = true := by kernel_rfl
  by_cases hne : xs.length = ys.length
  · have H := Lib.hid (And.intro ha (And.intro hb (And.intro hl (And.intro hne (And.intro ia (And.intro ib (And.intro lx ly)))))))
    have n1 : ((xs.length : Int) == (ys.length : Int)) = true := beq_t (by omega)
    have n2 : ((xs.length : Int) != (ys.length : Int)) = false := by simp [hne]
    have n3 : (xs.length != ys.length) = false := by simp [hne]
    clear ha hb hl hne ia ib lx ly
    go_enter Tryz.func24, Tryz.ntmps24
    go_wp2
    go_loopw [5] (fun i wr => ∃ j : Nat, i = .int .i64 j ∧ j ≤ xs.length ∧ (∀ (i : Nat), i < j → ∀ (h1 : i < xs.length) (h2 : i < ys.length), Rk.rs xs[i].xs ys[i].xs = true) ∧ Below w.heap.size w wr) (fun i _ => xs.length - (intOf i).toNat)
    case atStart => exact ⟨0, rfl, Nat.zero_le _, fun _ h => by omega, Below.refl _ _⟩
    case round =>
      obtain ⟨j, rfl, hj, hall, hbel⟩ := hrel
      have J := Lib.hid (And.intro hall hbel)
      clear hall hbel
      by_cases hlt : j < xs.length
      · have hlu : j < ys.length := by have := H.out.2.2.2.1; omega
        have g2 : (j : Int) < (ys.length : Int) := by omega
        obtain ⟨a, rfl, a0⟩ := H.out.1.below J.out.2 j xs[j] (List.getElem?_eq_getElem hlt)
        obtain ⟨b, rfl, b0⟩ := H.out.2.1.below J.out.2 j ys[j] (List.getElem?_eq_getElem hlu)
        have hw : wrap64 ((j : Int) + 1) = (j : Int) + 1 := by have := H.out.2.2.1; exact wrap_in _ (by omega) (by omega)
        obtain ⟨s, hs⟩ : ∃ s, Rk.rs xs[j].xs ys[j].xs = s := ⟨_, rfl⟩
        have hs0 := hs
        obtain ⟨x, hx⟩ : ∃ x, xs[j] = x := ⟨_, rfl⟩
        obtain ⟨y, hy⟩ : ∃ y, ys[j] = y := ⟨_, rfl⟩
        rw [hx, hy] at hs
        rw [hx] at a0
        rw [hy] at b0
        have HE := Lib.hid (And.intro hs (And.intro (H.out.2.2.2.2.1 x (hx ▸ List.getElem_mem hlt)) (And.intro (H.out.2.2.2.2.2.1 y (hy ▸ List.getElem_mem hlu)) (And.intro (H.out.2.2.2.2.2.2.1 x (hx ▸ List.getElem_mem hlt)) (And.intro (H.out.2.2.2.2.2.2.2 y (hy ▸ List.getElem_mem hlu)) hs0)))))
        clear hs hx hy hs0
        go_wp2_with fail
        go_region_held3 (fun v => Below wr.heap.size wr v ∧ v.cell? (a.add j) = some (.slice x.ao x.xs.length x.cap) ∧ v.cell? (b.add j) = some (.slice y.ao y.xs.length y.cap))
          (first | exact ⟨(Below.refl _ _).drew, a0, b0⟩ | exact ⟨step0 ‹Below wr.heap.size wr _ ∧ _›.1 hb1, keep0 a0 (step0 ‹Below wr.heap.size wr _ ∧ _›.1 hb1), keep0 b0 (step0 ‹Below wr.heap.size wr _ ∧ _›.1 hb1)⟩)
          (first | (go_at_call 53; refine (Rk.same06 x.xs y.xs s x.ao y.ao x.cap y.cap _ HE.out.2.2.2.1 (HE.out.2.1.below (step0 J.out.2 ‹Below wr.heap.size wr _ ∧ _›.1)) (HE.out.2.2.1.below (step0 J.out.2 ‹Below wr.heap.size wr _ ∧ _›.1)) HE.out.1).mono ?_; rintro e w1 ⟨rfl, hb1⟩))
        have Z := Lib.hid (show Below wr.heap.size wr w1 from ‹Below wr.heap.size wr w1 ∧ _›.1)
        cases s with
        | true =>
          go_wp2
          go_roundw
          case rel => exact ⟨j + 1, by go_num, hlt, ral_next J.out.1 hlt hlu HE.out.2.2.2.2.2, step0 J.out.2 Z.out⟩
          case measure => rw [hw]; simp [intOf]; omega
        | false =>
          go_wp2
          go_ret
          exact ⟨ret_b (ral_no j hlt hlu HE.out.2.2.2.2.2).symm, step0 J.out.2 Z.out⟩
      · obtain rfl : j = xs.length := by omega
        have HN := Lib.hid (ral_yes H.out.2.2.2.1 J.out.1)
        go_wp2
        go_ret
        exact ⟨ret_b HN.out.symm, J.out.2⟩
  · have n2 : ((xs.length : Int) != (ys.length : Int)) = true := bne_t (by omega)
    have n3 : (xs.length != ys.length) = true := by simpa using hne
    have HN := Lib.hid (show ral xs ys = false from by
      cases e : ral xs ys with
      | false => rfl
      | true => exact absurd (ral_len _ _ e) hne)
    clear ha hb hl hne ia ib lx ly
    go_enter Tryz.func24, Tryz.ntmps24
    go_wp2
    go_ret
    exact ⟨ret_b HN.out.symm, Below.refl _ _⟩

set_option maxHeartbeats 4000000 in
theorem eqRows_is (xs ys : List RV) (ao bo : Option Addr) (ca cb : Nat) (w : World) (r : Bool) (hl : xs.length ≤ 1000) (ha : SlR w ao xs) (hb : SlR w bo ys) (ia : InR w xs) (ib : InR w ys) (lx : ∀ x ∈ xs, x.xs.length ≤ 9223372036854775807) (ly : ∀ x ∈ ys, x.xs.length ≤ 9223372036854775807) (hr : ral xs ys = r) :
    Calls Tryz.prog 56 #[.slice ao xs.length ca, .slice bo ys.length cb, .func (.func 54) #[] #[]] w fun e w' => e = .returned (.bool r) ∧ Below w.heap.size w w' := by
  subst hr
  have hmx : Tryz.prog.follows .mixedOrders = true := by kernel_rfl
  by_cases hne : xs.length = ys.length
  · have H := Lib.hid (And.intro ha (And.intro hb (And.intro hl (And.intro hne (And.intro ia (And.intro ib (And.intro lx ly)))))))
    have n1 : ((xs.length : Int) == (ys.length : Int)) = true := beq_t (by omega)
    have n2 : ((xs.length : Int) != (ys.length : Int)) = false := by simp [hne]
    have n3 : (xs.length != ys.length) = false := by simp [hne]
    clear ha hb hl hne ia ib lx ly
    go_enter Tryz.func56, Tryz.ntmps56
    go_wp2
    go_loopw [17] (fun i wr => ∃ j : Nat, i = .int .i64 j ∧ j ≤ xs.length ∧ (∀ (i : Nat), i < j → ∀ (h1 : i < xs.length) (h2 : i < ys.length), Rk.rs xs[i].xs ys[i].xs = true) ∧ Below w.heap.size w wr) (fun i _ => xs.length - (intOf i).toNat)
    case atStart => exact ⟨0, rfl, Nat.zero_le _, fun _ h => by omega, Below.refl _ _⟩
    case round =>
      obtain ⟨j, rfl, hj, hall, hbel⟩ := hrel
      have J := Lib.hid (And.intro hall hbel)
      clear hall hbel
      by_cases hlt : j < xs.length
      · have hlu : j < ys.length := by have := H.out.2.2.2.1; omega
        have g2 : (j : Int) < (ys.length : Int) := by omega
        obtain ⟨a, rfl, a0⟩ := H.out.1.below J.out.2 j xs[j] (List.getElem?_eq_getElem hlt)
        obtain ⟨b, rfl, b0⟩ := H.out.2.1.below J.out.2 j ys[j] (List.getElem?_eq_getElem hlu)
        have hw : wrap64 ((j : Int) + 1) = (j : Int) + 1 := by have := H.out.2.2.1; exact wrap_in _ (by omega) (by omega)
        obtain ⟨s, hs⟩ : ∃ s, Rk.rs xs[j].xs ys[j].xs = s := ⟨_, rfl⟩
        have hs0 := hs
        obtain ⟨x, hx⟩ : ∃ x, xs[j] = x := ⟨_, rfl⟩
        obtain ⟨y, hy⟩ : ∃ y, ys[j] = y := ⟨_, rfl⟩
        rw [hx, hy] at hs
        rw [hx] at a0
        rw [hy] at b0
        have HE := Lib.hid (And.intro hs (And.intro (H.out.2.2.2.2.1 x (hx ▸ List.getElem_mem hlt)) (And.intro (H.out.2.2.2.2.2.1 y (hy ▸ List.getElem_mem hlu)) (And.intro (H.out.2.2.2.2.2.2.1 x (hx ▸ List.getElem_mem hlt)) (And.intro (H.out.2.2.2.2.2.2.2 y (hy ▸ List.getElem_mem hlu)) hs0)))))
        clear hs hx hy hs0
        go_wp2_with fail
        refine (Rk.rowsSame_is x.xs y.xs s x.ao y.ao x.cap y.cap _ HE.out.2.2.2.1 HE.out.2.2.2.2.1 (HE.out.2.1.below J.out.2) (HE.out.2.2.1.below J.out.2) HE.out.1).mono ?_
        rintro e w1 ⟨rfl, hb1⟩
        have Z := Lib.hid hb1
        clear hb1
        cases s with
        | true =>
          go_wp2
          go_roundw
          case rel => exact ⟨j + 1, by go_num, hlt, ral_next J.out.1 hlt hlu HE.out.2.2.2.2.2, step0 J.out.2 Z.out⟩
          case measure => rw [hw]; simp [intOf]; omega
        | false =>
          go_wp2
          go_ret
          exact ⟨ret_b (ral_no j hlt hlu HE.out.2.2.2.2.2).symm, step0 J.out.2 Z.out⟩
      · obtain rfl : j = xs.length := by omega
        have HN := Lib.hid (ral_yes H.out.2.2.2.1 J.out.1)
        go_wp2
        go_ret
        exact ⟨ret_b HN.out.symm, J.out.2⟩
  · have n2 : ((xs.length : Int) != (ys.length : Int)) = true := bne_t (by omega)
    have n3 : (xs.length != ys.length) = true := by simpa using hne
    have HN := Lib.hid (show ral xs ys = false from by
      cases e : ral xs ys with
      | false => rfl
      | true => exact absurd (ral_len _ _ e) hne)
    clear ha hb hl hne ia ib lx ly
    go_enter Tryz.func56, Tryz.ntmps56
    go_wp2
    go_ret
    exact ⟨ret_b HN.out.symm, Below.refl _ _⟩

/-- An answer. -/
structure RP2 where
  err : Int
  ys : List RV
  ao : Option Addr
  cap : Nat
def RP2.sm (x y : RP2) : Bool := decide (x.err = y.err) && ral x.ys y.ys
def RP2.in (W : World) (x : RP2) : Prop := SlR W x.ao x.ys ∧ InR W x.ys ∧ (∀ y ∈ x.ys, y.xs.length ≤ 9223372036854775807) ∧ x.ys.length ≤ 1000
theorem RP2.in.below {W W' : World} {x : RP2} (h : RP2.in W x) (hb : Below W.heap.size W W') : RP2.in W' x := ⟨h.1.below hb, h.2.1.below hb, h.2.2⟩
def RP2.v (x : RP2) : Value := .agg #[.int .i64 x.err, .slice x.ao x.ys.length x.cap]

set_option maxHeartbeats 2000000 in
theorem rep_is (x y : RP2) (w : World) (r : Bool) (hx : RP2.in w x) (hy : RP2.in w y) (hr : x.sm y = r) :
    Calls Tryz.prog 22 #[x.v, y.v] w fun e w' => e = .returned (.bool r) ∧ Below w.heap.size w w' := by
  obtain ⟨x0, xs, ao, ca⟩ := x
  obtain ⟨y0, ys, bo, cb⟩ := y
  unfold RP2.v
  have H := Lib.hid (And.intro hx (And.intro hy hr))
  clear hx hy hr
  by_cases h0 : x0 = y0
  · subst h0
    have HR := Lib.hid (show ral xs ys = r from by rw [← H.out.2.2]; simp [RP2.sm])
    go_enter Tryz.func22, Tryz.ntmps22
    go_wp2_with fail
    refine (eqRows_is xs ys ao bo ca cb _ r H.out.1.2.2.2 (H.out.1.1.below (below2s w _ _)) (H.out.2.1.1.below (below2s w _ _)) (H.out.1.2.1.below (below2s w _ _)) (H.out.2.1.2.1.below (below2s w _ _)) H.out.1.2.2.1 H.out.2.1.2.2.1 HR.out).mono ?_
    rintro e w1 ⟨rfl, hb⟩
    have K1 := Lib.hid ((below2s w _ _).trans (hb.mono (by simp; omega)))
    clear hb
    go_wp2
    go_ret
    exact ⟨rfl, K1.out⟩
  · have e0 : (x0 == y0) = false := by simpa using h0
    have HR := Lib.hid (show r = false from by rw [← H.out.2.2]; simp [RP2.sm, h0])
    clear h0
    go_enter Tryz.func22, Tryz.ntmps22
    go_wp2
    go_ret
    rw [HR.out]
    exact ⟨rfl, below2s _ _ _⟩

set_option maxHeartbeats 2000000 in
theorem rrep_is (x y : RP2) (w : World) (r : Bool) (hx : RP2.in w x) (hy : RP2.in w y) (hr : x.sm y = r) :
    Calls Tryz.prog 23 #[x.v, y.v] w fun e w' => e = .returned (.bool r) ∧ Below w.heap.size w w' := by
  obtain ⟨x0, xs, ao, ca⟩ := x
  obtain ⟨y0, ys, bo, cb⟩ := y
  unfold RP2.v
  have H := Lib.hid (And.intro hx (And.intro hy hr))
  clear hx hy hr
  by_cases h0 : x0 = y0
  · subst h0
    have HR := Lib.hid (show ral xs ys = r from by rw [← H.out.2.2]; simp [RP2.sm])
    go_enter Tryz.func23, Tryz.ntmps23
    go_wp2_with fail
    refine (all06_is xs ys ao bo ca cb _ r H.out.1.2.2.2 (H.out.1.1.below (below2s w _ _)) (H.out.2.1.1.below (below2s w _ _)) (H.out.1.2.1.below (below2s w _ _)) (H.out.2.1.2.1.below (below2s w _ _)) H.out.1.2.2.1 H.out.2.1.2.2.1 HR.out).mono ?_
    rintro e w1 ⟨rfl, hb⟩
    have K1 := Lib.hid ((below2s w _ _).trans (hb.mono (by simp; omega)))
    clear hb
    go_wp2
    go_ret
    exact ⟨rfl, K1.out⟩
  · have e0 : (x0 == y0) = false := by simpa using h0
    have HR := Lib.hid (show r = false from by rw [← H.out.2.2]; simp [RP2.sm, h0])
    clear h0
    go_enter Tryz.func23, Tryz.ntmps23
    go_wp2
    go_ret
    rw [HR.out]
    exact ⟨rfl, below2s _ _ _⟩

end Go.Proofs.YtmgdciihpjifgaaGreatDoor

namespace Go.Proofs.YtmgdciihpjifgaaGreatDoor
open Go.RowKit Go.Deep
set_option linter.unusedVariables false
set_option linter.unusedSimpArgs false

theorem rv_few {o : O} (h : o.few) (p : Ps) : ∀ y ∈ o.rv p, y.xs.length ≤ 1000000 := by
  intro y hy
  have h1 := h.2.1.1
  have h2 := h.2.2.1.1
  have h3 := h.2.2.2.1.1
  simp only [O.rv, List.mem_cons, List.not_mem_nil, or_false] at hy
  rcases hy with rfl | rfl | rfl <;> simp only <;> omega
theorem infoRp : (Tryz.prog.info? 62).map (·.size) = some [(default : Value), default].length := by kernel_rfl
theorem rng0 {v : World} {B : Nat} {c0 c1 c2 c3 : Value} (h : Blk v B #[c0, c1, c2, c3] 63) : v.rangeAt B 0 [c0, c1] := fun j u hj => by
  rw [h.cell]
  match j, hj with
  | 0, hj => exact hj
  | 1, hj => exact hj
theorem rng2 {v : World} {B : Nat} {c0 c1 c2 c3 : Value} (h : Blk v B #[c0, c1, c2, c3] 63) : v.rangeAt B 2 [c2, c3] := fun j u hj => by
  rw [h.cell]
  match j, hj with
  | 0, hj => exact hj
  | 1, hj => exact hj
def RP2.m (W : World) (x : RP2) : Prop := SlR W x.ao x.ys ∧ InR W x.ys ∧ ∀ y ∈ x.ys, y.xs.length ≤ 9223372036854775807
set_option maxHeartbeats 8000000 in
set_option maxRecDepth 1000000 in
theorem two_1 (a b : O) (x y : RP2) (p q : Ps) (w : World) (hg : Env w) (ia : InO w a p) (ib : InO w b q) (hx : RP2.m w x) (hy : RP2.m w y) (h1 : ¬ a.few) :
    Calls Tryz.prog 7 #[.agg (a.a p), .agg (b.a q), .agg #[.int .i64 x.err, .slice x.ao x.ys.length x.cap, .int .i64 y.err, .slice y.ao y.ys.length y.cap]] w fun e w' => e = .returned (.bool true) ∧ Below w.heap.size w w' := by
  have hmx : Tryz.prog.follows .mixedOrders = true := by kernel_rfl
  have H := Lib.hid (And.intro hg (And.intro ia (And.intro ib (And.intro hx hy))))
  clear hg ia ib hx hy
  have K0 := Lib.hid (show Below w.heap.size w (((w.alloc (.cells (a.a p) 48)).alloc (.cells (b.a q) 48)).alloc (.cells #[.int .i64 x.err, .slice x.ao x.ys.length x.cap, .int .i64 y.err, .slice y.ao y.ys.length y.cap] 63)) ∧ Blk (((w.alloc (.cells (a.a p) 48)).alloc (.cells (b.a q) 48)).alloc (.cells #[.int .i64 x.err, .slice x.ao x.ys.length x.cap, .int .i64 y.err, .slice y.ao y.ys.length y.cap] 63)) (w.heap.size) (a.a p) 48 ∧ Blk (((w.alloc (.cells (a.a p) 48)).alloc (.cells (b.a q) 48)).alloc (.cells #[.int .i64 x.err, .slice x.ao x.ys.length x.cap, .int .i64 y.err, .slice y.ao y.ys.length y.cap] 63)) (w.heap.size + 1) (b.a q) 48 ∧ Blk (((w.alloc (.cells (a.a p) 48)).alloc (.cells (b.a q) 48)).alloc (.cells #[.int .i64 x.err, .slice x.ao x.ys.length x.cap, .int .i64 y.err, .slice y.ao y.ys.length y.cap] 63)) (w.heap.size + 2) #[.int .i64 x.err, .slice x.ao x.ys.length x.cap, .int .i64 y.err, .slice y.ao y.ys.length y.cap] 63 from ⟨(below2s w _ _).alloc (below2s w _ _).size _, ((Blk.new w _ _).alloc _).alloc _, (Blk.new' _ _ _ _ (by simp)).alloc _, Blk.new' _ _ _ _ (by simp)⟩)
  go_enter Tryz.func7, Tryz.ntmps7
  go_wp2_with ((refine (?_ : wpList _ _ _ (Oper.mk _ (Op.load 48 _) _ _ _ _ :: _) _ _)); refine wpList_load_blk rfl 48 _ rfl (w.heap.size) rfl (a.a p) _ (K0.out.2.1) Tryz.underlying48 rfl (infoO) ?_; go_frame)
  refine (fewop_n a p _ (H.out.2.1.below K0.out.1) h1).mono ?_
  rintro e w1 ⟨rfl, hb⟩
  have K1 := Lib.hid (show Below w.heap.size w w1 ∧ Blk w1 (w.heap.size) (a.a p) 48 ∧ Blk w1 (w.heap.size + 1) (b.a q) 48 ∧ Blk w1 (w.heap.size + 2) #[.int .i64 x.err, .slice x.ao x.ys.length x.cap, .int .i64 y.err, .slice y.ao y.ys.length y.cap] 63 from ⟨step0 K0.out.1 hb, K0.out.2.1.below hb, K0.out.2.2.1.below hb, K0.out.2.2.2.below hb⟩)
  clear hb
  go_wp2_with fail
  refine (awake_any _ (H.out.1.keep K1.out.1)).mono ?_
  rintro e wa ⟨rfl, hb⟩
  have KA := Lib.hid (step0 K1.out.1 hb)
  clear hb
  go_wp2
  go_ret
  exact ⟨rfl, KA.out⟩

set_option maxHeartbeats 8000000 in
set_option maxRecDepth 1000000 in
theorem two_2 (a b : O) (x y : RP2) (p q : Ps) (w : World) (hg : Env w) (ia : InO w a p) (ib : InO w b q) (hx : RP2.m w x) (hy : RP2.m w y) (h1 : a.few) (h2 : ¬ b.few) :
    Calls Tryz.prog 7 #[.agg (a.a p), .agg (b.a q), .agg #[.int .i64 x.err, .slice x.ao x.ys.length x.cap, .int .i64 y.err, .slice y.ao y.ys.length y.cap]] w fun e w' => e = .returned (.bool true) ∧ Below w.heap.size w w' := by
  have hmx : Tryz.prog.follows .mixedOrders = true := by kernel_rfl
  have H := Lib.hid (And.intro hg (And.intro ia (And.intro ib (And.intro hx hy))))
  clear hg ia ib hx hy
  have K0 := Lib.hid (show Below w.heap.size w (((w.alloc (.cells (a.a p) 48)).alloc (.cells (b.a q) 48)).alloc (.cells #[.int .i64 x.err, .slice x.ao x.ys.length x.cap, .int .i64 y.err, .slice y.ao y.ys.length y.cap] 63)) ∧ Blk (((w.alloc (.cells (a.a p) 48)).alloc (.cells (b.a q) 48)).alloc (.cells #[.int .i64 x.err, .slice x.ao x.ys.length x.cap, .int .i64 y.err, .slice y.ao y.ys.length y.cap] 63)) (w.heap.size) (a.a p) 48 ∧ Blk (((w.alloc (.cells (a.a p) 48)).alloc (.cells (b.a q) 48)).alloc (.cells #[.int .i64 x.err, .slice x.ao x.ys.length x.cap, .int .i64 y.err, .slice y.ao y.ys.length y.cap] 63)) (w.heap.size + 1) (b.a q) 48 ∧ Blk (((w.alloc (.cells (a.a p) 48)).alloc (.cells (b.a q) 48)).alloc (.cells #[.int .i64 x.err, .slice x.ao x.ys.length x.cap, .int .i64 y.err, .slice y.ao y.ys.length y.cap] 63)) (w.heap.size + 2) #[.int .i64 x.err, .slice x.ao x.ys.length x.cap, .int .i64 y.err, .slice y.ao y.ys.length y.cap] 63 from ⟨(below2s w _ _).alloc (below2s w _ _).size _, ((Blk.new w _ _).alloc _).alloc _, (Blk.new' _ _ _ _ (by simp)).alloc _, Blk.new' _ _ _ _ (by simp)⟩)
  go_enter Tryz.func7, Tryz.ntmps7
  go_wp2_with ((refine (?_ : wpList _ _ _ (Oper.mk _ (Op.load 48 _) _ _ _ _ :: _) _ _)); refine wpList_load_blk rfl 48 _ rfl (w.heap.size) rfl (a.a p) _ (K0.out.2.1) Tryz.underlying48 rfl (infoO) ?_; go_frame)
  refine (fewop_y a p _ (H.out.2.1.below K0.out.1) h1).mono ?_
  rintro e w1 ⟨rfl, hb⟩
  have K1 := Lib.hid (show Below w.heap.size w w1 ∧ Blk w1 (w.heap.size) (a.a p) 48 ∧ Blk w1 (w.heap.size + 1) (b.a q) 48 ∧ Blk w1 (w.heap.size + 2) #[.int .i64 x.err, .slice x.ao x.ys.length x.cap, .int .i64 y.err, .slice y.ao y.ys.length y.cap] 63 from ⟨step0 K0.out.1 hb, K0.out.2.1.below hb, K0.out.2.2.1.below hb, K0.out.2.2.2.below hb⟩)
  clear hb
  go_wp2_with ((refine (?_ : wpList _ _ _ (Oper.mk _ (Op.load 48 _) _ _ _ _ :: _) _ _)); refine wpList_load_blkg (by rfl) 48 _ rfl (w.heap.size + 1) rfl (b.a q) _ (K1.out.2.2.1) Tryz.underlying48 rfl infoO ?_; go_frame)
  refine (fewop_n b q _ (H.out.2.2.1.below K1.out.1) h2).mono ?_
  rintro e w2 ⟨rfl, hb⟩
  have K2 := Lib.hid (show Below w.heap.size w w2 ∧ Blk w2 (w.heap.size) (a.a p) 48 ∧ Blk w2 (w.heap.size + 1) (b.a q) 48 ∧ Blk w2 (w.heap.size + 2) #[.int .i64 x.err, .slice x.ao x.ys.length x.cap, .int .i64 y.err, .slice y.ao y.ys.length y.cap] 63 from ⟨step0 K1.out.1 hb, K1.out.2.1.below hb, K1.out.2.2.1.below hb, K1.out.2.2.2.below hb⟩)
  clear hb
  have qx := K2.out.2.2.2.cell
  clear qx
  go_wp2_with fail
  refine (awake_any _ (H.out.1.keep K2.out.1)).mono ?_
  rintro e wa ⟨rfl, hb⟩
  have KA := Lib.hid (step0 K2.out.1 hb)
  clear hb
  go_wp2
  go_ret
  exact ⟨rfl, KA.out⟩

set_option maxHeartbeats 8000000 in
set_option maxRecDepth 1000000 in
theorem two_3 (a b : O) (x y : RP2) (p q : Ps) (w : World) (hg : Env w) (ia : InO w a p) (ib : InO w b q) (hx : RP2.m w x) (hy : RP2.m w y) (h1 : a.few) (h2 : b.few) (h3 : (10 : Int) < (x.ys.length : Int)) :
    Calls Tryz.prog 7 #[.agg (a.a p), .agg (b.a q), .agg #[.int .i64 x.err, .slice x.ao x.ys.length x.cap, .int .i64 y.err, .slice y.ao y.ys.length y.cap]] w fun e w' => e = .returned (.bool true) ∧ Below w.heap.size w w' := by
  have hmx : Tryz.prog.follows .mixedOrders = true := by kernel_rfl
  have H := Lib.hid (And.intro hg (And.intro ia (And.intro ib (And.intro hx hy))))
  clear hg ia ib hx hy
  have K0 := Lib.hid (show Below w.heap.size w (((w.alloc (.cells (a.a p) 48)).alloc (.cells (b.a q) 48)).alloc (.cells #[.int .i64 x.err, .slice x.ao x.ys.length x.cap, .int .i64 y.err, .slice y.ao y.ys.length y.cap] 63)) ∧ Blk (((w.alloc (.cells (a.a p) 48)).alloc (.cells (b.a q) 48)).alloc (.cells #[.int .i64 x.err, .slice x.ao x.ys.length x.cap, .int .i64 y.err, .slice y.ao y.ys.length y.cap] 63)) (w.heap.size) (a.a p) 48 ∧ Blk (((w.alloc (.cells (a.a p) 48)).alloc (.cells (b.a q) 48)).alloc (.cells #[.int .i64 x.err, .slice x.ao x.ys.length x.cap, .int .i64 y.err, .slice y.ao y.ys.length y.cap] 63)) (w.heap.size + 1) (b.a q) 48 ∧ Blk (((w.alloc (.cells (a.a p) 48)).alloc (.cells (b.a q) 48)).alloc (.cells #[.int .i64 x.err, .slice x.ao x.ys.length x.cap, .int .i64 y.err, .slice y.ao y.ys.length y.cap] 63)) (w.heap.size + 2) #[.int .i64 x.err, .slice x.ao x.ys.length x.cap, .int .i64 y.err, .slice y.ao y.ys.length y.cap] 63 from ⟨(below2s w _ _).alloc (below2s w _ _).size _, ((Blk.new w _ _).alloc _).alloc _, (Blk.new' _ _ _ _ (by simp)).alloc _, Blk.new' _ _ _ _ (by simp)⟩)
  go_enter Tryz.func7, Tryz.ntmps7
  go_wp2_with ((refine (?_ : wpList _ _ _ (Oper.mk _ (Op.load 48 _) _ _ _ _ :: _) _ _)); refine wpList_load_blk rfl 48 _ rfl (w.heap.size) rfl (a.a p) _ (K0.out.2.1) Tryz.underlying48 rfl (infoO) ?_; go_frame)
  refine (fewop_y a p _ (H.out.2.1.below K0.out.1) h1).mono ?_
  rintro e w1 ⟨rfl, hb⟩
  have K1 := Lib.hid (show Below w.heap.size w w1 ∧ Blk w1 (w.heap.size) (a.a p) 48 ∧ Blk w1 (w.heap.size + 1) (b.a q) 48 ∧ Blk w1 (w.heap.size + 2) #[.int .i64 x.err, .slice x.ao x.ys.length x.cap, .int .i64 y.err, .slice y.ao y.ys.length y.cap] 63 from ⟨step0 K0.out.1 hb, K0.out.2.1.below hb, K0.out.2.2.1.below hb, K0.out.2.2.2.below hb⟩)
  clear hb
  go_wp2_with ((refine (?_ : wpList _ _ _ (Oper.mk _ (Op.load 48 _) _ _ _ _ :: _) _ _)); refine wpList_load_blkg (by rfl) 48 _ rfl (w.heap.size + 1) rfl (b.a q) _ (K1.out.2.2.1) Tryz.underlying48 rfl infoO ?_; go_frame)
  refine (fewop_y b q _ (H.out.2.2.1.below K1.out.1) h2).mono ?_
  rintro e w2 ⟨rfl, hb⟩
  have K2 := Lib.hid (show Below w.heap.size w w2 ∧ Blk w2 (w.heap.size) (a.a p) 48 ∧ Blk w2 (w.heap.size + 1) (b.a q) 48 ∧ Blk w2 (w.heap.size + 2) #[.int .i64 x.err, .slice x.ao x.ys.length x.cap, .int .i64 y.err, .slice y.ao y.ys.length y.cap] 63 from ⟨step0 K1.out.1 hb, K1.out.2.1.below hb, K1.out.2.2.1.below hb, K1.out.2.2.2.below hb⟩)
  clear hb
  have qx := K2.out.2.2.2.cell
  go_wp2_with fail
  refine (awake_any _ (H.out.1.keep K2.out.1)).mono ?_
  rintro e wa ⟨rfl, hb⟩
  have KA := Lib.hid (step0 K2.out.1 hb)
  clear hb
  go_wp2
  go_ret
  exact ⟨rfl, KA.out⟩

set_option maxHeartbeats 8000000 in
set_option maxRecDepth 1000000 in
theorem two_4 (a b : O) (x y : RP2) (p q : Ps) (w : World) (hg : Env w) (ia : InO w a p) (ib : InO w b q) (hx : RP2.m w x) (hy : RP2.m w y) (h1 : a.few) (h2 : b.few) (h3 : decide ((10 : Int) < (x.ys.length : Int)) = false) (h4 : (10 : Int) < (y.ys.length : Int)) :
    Calls Tryz.prog 7 #[.agg (a.a p), .agg (b.a q), .agg #[.int .i64 x.err, .slice x.ao x.ys.length x.cap, .int .i64 y.err, .slice y.ao y.ys.length y.cap]] w fun e w' => e = .returned (.bool true) ∧ Below w.heap.size w w' := by
  have hmx : Tryz.prog.follows .mixedOrders = true := by kernel_rfl
  have H := Lib.hid (And.intro hg (And.intro ia (And.intro ib (And.intro hx hy))))
  clear hg ia ib hx hy
  have K0 := Lib.hid (show Below w.heap.size w (((w.alloc (.cells (a.a p) 48)).alloc (.cells (b.a q) 48)).alloc (.cells #[.int .i64 x.err, .slice x.ao x.ys.length x.cap, .int .i64 y.err, .slice y.ao y.ys.length y.cap] 63)) ∧ Blk (((w.alloc (.cells (a.a p) 48)).alloc (.cells (b.a q) 48)).alloc (.cells #[.int .i64 x.err, .slice x.ao x.ys.length x.cap, .int .i64 y.err, .slice y.ao y.ys.length y.cap] 63)) (w.heap.size) (a.a p) 48 ∧ Blk (((w.alloc (.cells (a.a p) 48)).alloc (.cells (b.a q) 48)).alloc (.cells #[.int .i64 x.err, .slice x.ao x.ys.length x.cap, .int .i64 y.err, .slice y.ao y.ys.length y.cap] 63)) (w.heap.size + 1) (b.a q) 48 ∧ Blk (((w.alloc (.cells (a.a p) 48)).alloc (.cells (b.a q) 48)).alloc (.cells #[.int .i64 x.err, .slice x.ao x.ys.length x.cap, .int .i64 y.err, .slice y.ao y.ys.length y.cap] 63)) (w.heap.size + 2) #[.int .i64 x.err, .slice x.ao x.ys.length x.cap, .int .i64 y.err, .slice y.ao y.ys.length y.cap] 63 from ⟨(below2s w _ _).alloc (below2s w _ _).size _, ((Blk.new w _ _).alloc _).alloc _, (Blk.new' _ _ _ _ (by simp)).alloc _, Blk.new' _ _ _ _ (by simp)⟩)
  go_enter Tryz.func7, Tryz.ntmps7
  go_wp2_with ((refine (?_ : wpList _ _ _ (Oper.mk _ (Op.load 48 _) _ _ _ _ :: _) _ _)); refine wpList_load_blk rfl 48 _ rfl (w.heap.size) rfl (a.a p) _ (K0.out.2.1) Tryz.underlying48 rfl (infoO) ?_; go_frame)
  refine (fewop_y a p _ (H.out.2.1.below K0.out.1) h1).mono ?_
  rintro e w1 ⟨rfl, hb⟩
  have K1 := Lib.hid (show Below w.heap.size w w1 ∧ Blk w1 (w.heap.size) (a.a p) 48 ∧ Blk w1 (w.heap.size + 1) (b.a q) 48 ∧ Blk w1 (w.heap.size + 2) #[.int .i64 x.err, .slice x.ao x.ys.length x.cap, .int .i64 y.err, .slice y.ao y.ys.length y.cap] 63 from ⟨step0 K0.out.1 hb, K0.out.2.1.below hb, K0.out.2.2.1.below hb, K0.out.2.2.2.below hb⟩)
  clear hb
  go_wp2_with ((refine (?_ : wpList _ _ _ (Oper.mk _ (Op.load 48 _) _ _ _ _ :: _) _ _)); refine wpList_load_blkg (by rfl) 48 _ rfl (w.heap.size + 1) rfl (b.a q) _ (K1.out.2.2.1) Tryz.underlying48 rfl infoO ?_; go_frame)
  refine (fewop_y b q _ (H.out.2.2.1.below K1.out.1) h2).mono ?_
  rintro e w2 ⟨rfl, hb⟩
  have K2 := Lib.hid (show Below w.heap.size w w2 ∧ Blk w2 (w.heap.size) (a.a p) 48 ∧ Blk w2 (w.heap.size + 1) (b.a q) 48 ∧ Blk w2 (w.heap.size + 2) #[.int .i64 x.err, .slice x.ao x.ys.length x.cap, .int .i64 y.err, .slice y.ao y.ys.length y.cap] 63 from ⟨step0 K1.out.1 hb, K1.out.2.1.below hb, K1.out.2.2.1.below hb, K1.out.2.2.2.below hb⟩)
  clear hb
  have qx := K2.out.2.2.2.cell
  go_wp2_with fail
  refine (awake_any _ (H.out.1.keep K2.out.1)).mono ?_
  rintro e wa ⟨rfl, hb⟩
  have KA := Lib.hid (step0 K2.out.1 hb)
  clear hb
  go_wp2
  go_ret
  exact ⟨rfl, KA.out⟩

set_option maxHeartbeats 8000000 in
set_option maxRecDepth 1000000 in
theorem two_5 (a b : O) (x y : RP2) (p q : Ps) (w : World) (hg : Env w) (ia : InO w a p) (ib : InO w b q) (hx : RP2.m w x) (hy : RP2.m w y) (h1 : a.few) (h2 : b.few) (h3 : decide ((10 : Int) < (x.ys.length : Int)) = false) (h4 : decide ((10 : Int) < (y.ys.length : Int)) = false) (he : x.err = y.err) :
    Calls Tryz.prog 7 #[.agg (a.a p), .agg (b.a q), .agg #[.int .i64 x.err, .slice x.ao x.ys.length x.cap, .int .i64 y.err, .slice y.ao y.ys.length y.cap]] w fun e w' => e = .returned (.bool true) ∧ Below w.heap.size w w' := by
  have hmx : Tryz.prog.follows .mixedOrders = true := by kernel_rfl
  have H := Lib.hid (And.intro hg (And.intro ia (And.intro ib (And.intro hx hy))))
  clear hg ia ib hx hy
  have HE := Lib.hid he
  clear he
  have K0 := Lib.hid (show Below w.heap.size w (((w.alloc (.cells (a.a p) 48)).alloc (.cells (b.a q) 48)).alloc (.cells #[.int .i64 x.err, .slice x.ao x.ys.length x.cap, .int .i64 y.err, .slice y.ao y.ys.length y.cap] 63)) ∧ Blk (((w.alloc (.cells (a.a p) 48)).alloc (.cells (b.a q) 48)).alloc (.cells #[.int .i64 x.err, .slice x.ao x.ys.length x.cap, .int .i64 y.err, .slice y.ao y.ys.length y.cap] 63)) (w.heap.size) (a.a p) 48 ∧ Blk (((w.alloc (.cells (a.a p) 48)).alloc (.cells (b.a q) 48)).alloc (.cells #[.int .i64 x.err, .slice x.ao x.ys.length x.cap, .int .i64 y.err, .slice y.ao y.ys.length y.cap] 63)) (w.heap.size + 1) (b.a q) 48 ∧ Blk (((w.alloc (.cells (a.a p) 48)).alloc (.cells (b.a q) 48)).alloc (.cells #[.int .i64 x.err, .slice x.ao x.ys.length x.cap, .int .i64 y.err, .slice y.ao y.ys.length y.cap] 63)) (w.heap.size + 2) #[.int .i64 x.err, .slice x.ao x.ys.length x.cap, .int .i64 y.err, .slice y.ao y.ys.length y.cap] 63 from ⟨(below2s w _ _).alloc (below2s w _ _).size _, ((Blk.new w _ _).alloc _).alloc _, (Blk.new' _ _ _ _ (by simp)).alloc _, Blk.new' _ _ _ _ (by simp)⟩)
  go_enter Tryz.func7, Tryz.ntmps7
  go_wp2_with ((refine (?_ : wpList _ _ _ (Oper.mk _ (Op.load 48 _) _ _ _ _ :: _) _ _)); refine wpList_load_blk rfl 48 _ rfl (w.heap.size) rfl (a.a p) _ (K0.out.2.1) Tryz.underlying48 rfl (infoO) ?_; go_frame)
  refine (fewop_y a p _ (H.out.2.1.below K0.out.1) h1).mono ?_
  rintro e w1 ⟨rfl, hb⟩
  have K1 := Lib.hid (show Below w.heap.size w w1 ∧ Blk w1 (w.heap.size) (a.a p) 48 ∧ Blk w1 (w.heap.size + 1) (b.a q) 48 ∧ Blk w1 (w.heap.size + 2) #[.int .i64 x.err, .slice x.ao x.ys.length x.cap, .int .i64 y.err, .slice y.ao y.ys.length y.cap] 63 from ⟨step0 K0.out.1 hb, K0.out.2.1.below hb, K0.out.2.2.1.below hb, K0.out.2.2.2.below hb⟩)
  clear hb
  go_wp2_with ((refine (?_ : wpList _ _ _ (Oper.mk _ (Op.load 48 _) _ _ _ _ :: _) _ _)); refine wpList_load_blkg (by rfl) 48 _ rfl (w.heap.size + 1) rfl (b.a q) _ (K1.out.2.2.1) Tryz.underlying48 rfl infoO ?_; go_frame)
  refine (fewop_y b q _ (H.out.2.2.1.below K1.out.1) h2).mono ?_
  rintro e w2 ⟨rfl, hb⟩
  have K2 := Lib.hid (show Below w.heap.size w w2 ∧ Blk w2 (w.heap.size) (a.a p) 48 ∧ Blk w2 (w.heap.size + 1) (b.a q) 48 ∧ Blk w2 (w.heap.size + 2) #[.int .i64 x.err, .slice x.ao x.ys.length x.cap, .int .i64 y.err, .slice y.ao y.ys.length y.cap] 63 from ⟨step0 K1.out.1 hb, K1.out.2.1.below hb, K1.out.2.2.1.below hb, K1.out.2.2.2.below hb⟩)
  clear hb
  have qx := K2.out.2.2.2.cell
  have X := Lib.hid (show RP2.in w x ∧ RP2.in w y from ⟨⟨H.out.2.2.2.1.1, H.out.2.2.2.1.2.1, H.out.2.2.2.1.2.2, by rw [decide_eq_false_iff_not] at h3; omega⟩, ⟨H.out.2.2.2.2.1, H.out.2.2.2.2.2.1, H.out.2.2.2.2.2.2, by rw [decide_eq_false_iff_not] at h4; omega⟩⟩)
  have G := Lib.hid (And.intro h1 (And.intro h2 trivial))
  obtain ⟨r, hr⟩ : ∃ r, a.sm b = r := ⟨_, rfl⟩
  obtain ⟨t, ht⟩ : ∃ t, x.sm y = t := ⟨_, rfl⟩
  have R := Lib.hid (And.intro hr (And.intro ht (show x.err = y.err → ral x.ys y.ys = t from fun h => by rw [← ht]; simp [RP2.sm, h])))
  clear h1 h2 hr ht
  go_wp2
  clear qx
  refine wp_region_held_drew (S := fun v => Blk v (w.heap.size) (a.a p) 48 ∧ Blk v (w.heap.size + 1) (b.a q) 48 ∧ Blk v (w.heap.size + 2) #[.int .i64 x.err, .slice x.ao x.ys.length x.cap, .int .i64 y.err, .slice y.ao y.ys.length y.cap] 63) (by kernel_rfl) K2.out.2 (fun hH => ?_)
  obtain ⟨v0, hv0⟩ : ∃ v, World.drew w2 = v := ⟨_, rfl⟩
  rw [hv0] at hH ⊢
  have K3 := Lib.hid (show Below w.heap.size w v0 ∧ Blk v0 (w.heap.size) (a.a p) 48 ∧ Blk v0 (w.heap.size + 1) (b.a q) 48 ∧ Blk v0 (w.heap.size + 2) #[.int .i64 x.err, .slice x.ao x.ys.length x.cap, .int .i64 y.err, .slice y.ao y.ys.length y.cap] 63 from hv0 ▸ ⟨K2.out.1.drew, K2.out.2.1.drew, K2.out.2.2.1.drew, K2.out.2.2.2.drew⟩)
  clear hv0
  refine wpAnyH_take (i := 0) (oi := _) (v := .agg (a.a p)) rfl (by kernel_rfl) (by kernel_rfl) (by kernel_rfl) (fun _ _ _ h => h) (yieldsIf_load_mid (by rfl) 48 _ rfl (w.heap.size) 0 rfl (a.a p).toList _ (fun v hv => (hv.1).rng) Tryz.underlying48 rfl infoO) hH ?_
  try simp only [Act.put, List.getElem_toArray, List.getElem_cons_succ, List.getElem_cons_zero, List.setIfInBounds_toArray, List.set_cons_zero, List.set_cons_succ]
  refine wpAnyH_take (i := 1) (oi := _) (v := .agg (b.a q)) rfl (by kernel_rfl) (by kernel_rfl) (by kernel_rfl) (fun _ _ _ h => h) (yieldsIf_load_mid (by rfl) 48 _ rfl (w.heap.size + 1) 0 rfl (b.a q).toList _ (fun v hv => (hv.2.1).rng) Tryz.underlying48 rfl infoO) hH ?_
  try simp only [Act.put, List.getElem_toArray, List.getElem_cons_succ, List.getElem_cons_zero, List.setIfInBounds_toArray, List.set_cons_zero, List.set_cons_succ]
  refine wpAnyH_take (i := 3) (oi := _) (v := .agg (a.a p)) rfl (by kernel_rfl) (by kernel_rfl) (by kernel_rfl) (fun _ _ _ h => h) (yieldsIf_load_mid (by rfl) 48 _ rfl (w.heap.size) 0 rfl (a.a p).toList _ (fun v hv => (hv.1).rng) Tryz.underlying48 rfl infoO) hH ?_
  try simp only [Act.put, List.getElem_toArray, List.getElem_cons_succ, List.getElem_cons_zero, List.setIfInBounds_toArray, List.set_cons_zero, List.set_cons_succ]
  refine wpAnyH_take (i := 4) (oi := _) (v := .agg (b.a q)) rfl (by kernel_rfl) (by kernel_rfl) (by kernel_rfl) (fun _ _ _ h => h) (yieldsIf_load_mid (by rfl) 48 _ rfl (w.heap.size + 1) 0 rfl (b.a q).toList _ (fun v hv => (hv.2.1).rng) Tryz.underlying48 rfl infoO) hH ?_
  try simp only [Act.put, List.getElem_toArray, List.getElem_cons_succ, List.getElem_cons_zero, List.setIfInBounds_toArray, List.set_cons_zero, List.set_cons_succ]
  refine wpAnyH_ready (rs := [2]) (by kernel_rfl) (by simp) ?_
  refine AllReadyH.cons (o := _) rfl (fun K' hK => ?_) AllReadyH.nil
  go_simp
  refine (same_o a b p q r _ (H.out.1.keep K3.out.1) (H.out.2.1.below K3.out.1) (H.out.2.2.1.below K3.out.1) (rv_few G.out.1 p) (rv_few G.out.2.1 q) R.out.1).mono ?_
  rintro e v1 ⟨rfl, hb⟩
  have K4 := Lib.hid (show Below w.heap.size w v1 ∧ Blk v1 (w.heap.size) (a.a p) 48 ∧ Blk v1 (w.heap.size + 1) (b.a q) 48 ∧ Blk v1 (w.heap.size + 2) #[.int .i64 x.err, .slice x.ao x.ys.length x.cap, .int .i64 y.err, .slice y.ao y.ys.length y.cap] 63 from ⟨step0 K3.out.1 hb, K3.out.2.1.below hb, K3.out.2.2.1.below hb, K3.out.2.2.2.below hb⟩)
  clear hb
  go_wp2_with fail
  refine hK.out _ _ ⟨K4.out.2.1, K4.out.2.2.1, K4.out.2.2.2⟩ (fun hH => ?_)
  clear hK K'
  try simp only [Act.put, List.getElem_toArray, List.getElem_cons_succ, List.getElem_cons_zero, List.setIfInBounds_toArray, List.set_cons_zero, List.set_cons_succ]
  refine wpAnyH_ready (rs := [5]) (by kernel_rfl) (by simp) ?_
  refine AllReadyH.cons (o := _) rfl (fun K' hK => ?_) AllReadyH.nil
  go_simp
  refine (same_ro a b p q r _ (H.out.2.1.below K4.out.1) (H.out.2.2.1.below K4.out.1) (rv_few G.out.1 p) R.out.1).mono ?_
  rintro e v2 ⟨rfl, hb⟩
  have K5 := Lib.hid (show Below w.heap.size w v2 ∧ Blk v2 (w.heap.size) (a.a p) 48 ∧ Blk v2 (w.heap.size + 1) (b.a q) 48 ∧ Blk v2 (w.heap.size + 2) #[.int .i64 x.err, .slice x.ao x.ys.length x.cap, .int .i64 y.err, .slice y.ao y.ys.length y.cap] 63 from ⟨step0 K4.out.1 hb, K4.out.2.1.below hb, K4.out.2.2.1.below hb, K4.out.2.2.2.below hb⟩)
  clear hb
  go_wp2_with fail
  refine hK.out _ _ ⟨K5.out.2.1, K5.out.2.2.1, K5.out.2.2.2⟩ (fun hH => ?_)
  clear hK K'
  try simp only [Act.put, List.getElem_toArray, List.getElem_cons_succ, List.getElem_cons_zero, List.setIfInBounds_toArray, List.set_cons_zero, List.set_cons_succ]
  refine wpAnyH_take (i := 6) (oi := _) (v := .bool true) rfl (by kernel_rfl) (by kernel_rfl) (by kernel_rfl) (fun _ _ _ h => h) (Or.inl ⟨by rfl, by intro v hv; go_simp⟩) hH ?_
  try simp only [Act.put, List.getElem_toArray, List.getElem_cons_succ, List.getElem_cons_zero, List.setIfInBounds_toArray, List.set_cons_zero, List.set_cons_succ]
  refine wpAnyH_take (i := 7) (oi := _) (v := .bool true) rfl (by kernel_rfl) (by kernel_rfl) (by kernel_rfl) (fun _ _ _ h => h) (Or.inl ⟨by rfl, by intro v hv; go_simp⟩) hH ?_
  try simp only [Act.put, List.getElem_toArray, List.getElem_cons_succ, List.getElem_cons_zero, List.setIfInBounds_toArray, List.set_cons_zero, List.set_cons_succ]
  refine wpAnyH_take (i := 8) (oi := _) (v := .pointer (some ⟨w.heap.size + 2, 0, none⟩)) rfl (by kernel_rfl) (by kernel_rfl) (by kernel_rfl) (fun _ _ _ h => h) (Or.inl ⟨by rfl, by intro v hv; go_simp⟩) hH ?_
  try simp only [Act.put, List.getElem_toArray, List.getElem_cons_succ, List.getElem_cons_zero, List.setIfInBounds_toArray, List.set_cons_zero, List.set_cons_succ]
  refine wpAnyH_take (i := 9) (oi := _) (v := .agg #[.int .i64 x.err, .slice x.ao x.ys.length x.cap]) rfl (by kernel_rfl) (by kernel_rfl) (by kernel_rfl) (fun _ _ _ h => h) (yieldsIf_load_mid (by rfl) 62 _ rfl (w.heap.size + 2) 0 rfl [.int .i64 x.err, .slice x.ao x.ys.length x.cap] _ (fun v hv => rng0 hv.2.2) Tryz.underlying62 rfl infoRp) hH ?_
  try simp only [Act.put, List.getElem_toArray, List.getElem_cons_succ, List.getElem_cons_zero, List.setIfInBounds_toArray, List.set_cons_zero, List.set_cons_succ]
  refine wpAnyH_take (i := 10) (oi := _) (v := .pointer (some ⟨w.heap.size + 2, 2, none⟩)) rfl (by kernel_rfl) (by kernel_rfl) (by kernel_rfl) (fun _ _ _ h => h) (Or.inl ⟨by rfl, by intro v hv; go_simp⟩) hH ?_
  try simp only [Act.put, List.getElem_toArray, List.getElem_cons_succ, List.getElem_cons_zero, List.setIfInBounds_toArray, List.set_cons_zero, List.set_cons_succ]
  refine wpAnyH_take (i := 11) (oi := _) (v := .agg #[.int .i64 y.err, .slice y.ao y.ys.length y.cap]) rfl (by kernel_rfl) (by kernel_rfl) (by kernel_rfl) (fun _ _ _ h => h) (yieldsIf_load_mid (by rfl) 62 _ rfl (w.heap.size + 2) 2 rfl [.int .i64 y.err, .slice y.ao y.ys.length y.cap] _ (fun v hv => rng2 hv.2.2) Tryz.underlying62 rfl infoRp) hH ?_
  try simp only [Act.put, List.getElem_toArray, List.getElem_cons_succ, List.getElem_cons_zero, List.setIfInBounds_toArray, List.set_cons_zero, List.set_cons_succ]
  refine wpAnyH_take (i := 13) (oi := _) (v := .pointer (some ⟨w.heap.size + 2, 0, none⟩)) rfl (by kernel_rfl) (by kernel_rfl) (by kernel_rfl) (fun _ _ _ h => h) (Or.inl ⟨by rfl, by intro v hv; go_simp⟩) hH ?_
  try simp only [Act.put, List.getElem_toArray, List.getElem_cons_succ, List.getElem_cons_zero, List.setIfInBounds_toArray, List.set_cons_zero, List.set_cons_succ]
  refine wpAnyH_take (i := 14) (oi := _) (v := .agg #[.int .i64 x.err, .slice x.ao x.ys.length x.cap]) rfl (by kernel_rfl) (by kernel_rfl) (by kernel_rfl) (fun _ _ _ h => h) (yieldsIf_load_mid (by rfl) 62 _ rfl (w.heap.size + 2) 0 rfl [.int .i64 x.err, .slice x.ao x.ys.length x.cap] _ (fun v hv => rng0 hv.2.2) Tryz.underlying62 rfl infoRp) hH ?_
  try simp only [Act.put, List.getElem_toArray, List.getElem_cons_succ, List.getElem_cons_zero, List.setIfInBounds_toArray, List.set_cons_zero, List.set_cons_succ]
  refine wpAnyH_take (i := 15) (oi := _) (v := .pointer (some ⟨w.heap.size + 2, 2, none⟩)) rfl (by kernel_rfl) (by kernel_rfl) (by kernel_rfl) (fun _ _ _ h => h) (Or.inl ⟨by rfl, by intro v hv; go_simp⟩) hH ?_
  try simp only [Act.put, List.getElem_toArray, List.getElem_cons_succ, List.getElem_cons_zero, List.setIfInBounds_toArray, List.set_cons_zero, List.set_cons_succ]
  refine wpAnyH_take (i := 16) (oi := _) (v := .agg #[.int .i64 y.err, .slice y.ao y.ys.length y.cap]) rfl (by kernel_rfl) (by kernel_rfl) (by kernel_rfl) (fun _ _ _ h => h) (yieldsIf_load_mid (by rfl) 62 _ rfl (w.heap.size + 2) 2 rfl [.int .i64 y.err, .slice y.ao y.ys.length y.cap] _ (fun v hv => rng2 hv.2.2) Tryz.underlying62 rfl infoRp) hH ?_
  try simp only [Act.put, List.getElem_toArray, List.getElem_cons_succ, List.getElem_cons_zero, List.setIfInBounds_toArray, List.set_cons_zero, List.set_cons_succ]
  refine wpAnyH_ready (rs := [12]) (by kernel_rfl) (by simp) ?_
  refine AllReadyH.cons (o := _) rfl (fun K' hK => ?_) AllReadyH.nil
  go_simp
  refine (rep_is x y _ t (X.out.1.below K5.out.1) (X.out.2.below K5.out.1) R.out.2.1).mono ?_
  rintro e v3 ⟨rfl, hb⟩
  have K6 := Lib.hid (show Below w.heap.size w v3 ∧ Blk v3 (w.heap.size) (a.a p) 48 ∧ Blk v3 (w.heap.size + 1) (b.a q) 48 ∧ Blk v3 (w.heap.size + 2) #[.int .i64 x.err, .slice x.ao x.ys.length x.cap, .int .i64 y.err, .slice y.ao y.ys.length y.cap] 63 from ⟨step0 K5.out.1 hb, K5.out.2.1.below hb, K5.out.2.2.1.below hb, K5.out.2.2.2.below hb⟩)
  clear hb
  go_wp2_with fail
  refine hK.out _ _ ⟨K6.out.2.1, K6.out.2.2.1, K6.out.2.2.2⟩ (fun hH => ?_)
  clear hK K'
  try simp only [Act.put, List.getElem_toArray, List.getElem_cons_succ, List.getElem_cons_zero, List.setIfInBounds_toArray, List.set_cons_zero, List.set_cons_succ]
  refine wpAnyH_ready (rs := [17]) (by kernel_rfl) (by simp) ?_
  refine AllReadyH.cons (o := _) rfl (fun K' hK => ?_) AllReadyH.nil
  go_simp
  refine (rrep_is x y _ t (X.out.1.below K6.out.1) (X.out.2.below K6.out.1) R.out.2.1).mono ?_
  rintro e v4 ⟨rfl, hb⟩
  have K7 := Lib.hid (show Below w.heap.size w v4 ∧ Blk v4 (w.heap.size) (a.a p) 48 ∧ Blk v4 (w.heap.size + 1) (b.a q) 48 ∧ Blk v4 (w.heap.size + 2) #[.int .i64 x.err, .slice x.ao x.ys.length x.cap, .int .i64 y.err, .slice y.ao y.ys.length y.cap] 63 from ⟨step0 K6.out.1 hb, K6.out.2.1.below hb, K6.out.2.2.1.below hb, K6.out.2.2.2.below hb⟩)
  clear hb
  go_wp2_with fail
  refine hK.out _ _ ⟨K7.out.2.1, K7.out.2.2.1, K7.out.2.2.2⟩ (fun hH => ?_)
  clear hK K'
  try simp only [Act.put, List.getElem_toArray, List.getElem_cons_succ, List.getElem_cons_zero, List.setIfInBounds_toArray, List.set_cons_zero, List.set_cons_succ]
  refine wpAnyH_take (i := 18) (oi := _) (v := .bool true) rfl (by kernel_rfl) (by kernel_rfl) (by kernel_rfl) (fun _ _ _ h => h) (Or.inl ⟨by rfl, by intro v hv; go_simp⟩) hH ?_
  try simp only [Act.put, List.getElem_toArray, List.getElem_cons_succ, List.getElem_cons_zero, List.setIfInBounds_toArray, List.set_cons_zero, List.set_cons_succ]
  refine wpAnyH_take (i := 19) (oi := _) (v := .bool true) rfl (by kernel_rfl) (by kernel_rfl) (by kernel_rfl) (fun _ _ _ h => h) (Or.inl ⟨by rfl, by intro v hv; go_simp⟩) hH ?_
  try simp only [Act.put, List.getElem_toArray, List.getElem_cons_succ, List.getElem_cons_zero, List.setIfInBounds_toArray, List.set_cons_zero, List.set_cons_succ]
  refine wpAnyH_take (i := 20) (oi := _) (v := .bool true) rfl (by kernel_rfl) (by kernel_rfl) (by kernel_rfl) (fun _ _ _ h => h) (Or.inl ⟨by rfl, by intro v hv; go_simp⟩) hH ?_
  try simp only [Act.put, List.getElem_toArray, List.getElem_cons_succ, List.getElem_cons_zero, List.setIfInBounds_toArray, List.set_cons_zero, List.set_cons_succ]
  refine wpAnyH_take (i := 21) (oi := _) (v := .pointer (some ⟨w.heap.size + 2, 0, none⟩)) rfl (by kernel_rfl) (by kernel_rfl) (by kernel_rfl) (fun _ _ _ h => h) (Or.inl ⟨by rfl, by intro v hv; go_simp⟩) hH ?_
  try simp only [Act.put, List.getElem_toArray, List.getElem_cons_succ, List.getElem_cons_zero, List.setIfInBounds_toArray, List.set_cons_zero, List.set_cons_succ]
  refine wpAnyH_take (i := 22) (oi := _) (v := .pointer (some ⟨w.heap.size + 2, 0, none⟩)) rfl (by kernel_rfl) (by kernel_rfl) (by kernel_rfl) (fun _ _ _ h => h) (Or.inl ⟨by rfl, by intro v hv; go_simp⟩) hH ?_
  try simp only [Act.put, List.getElem_toArray, List.getElem_cons_succ, List.getElem_cons_zero, List.setIfInBounds_toArray, List.set_cons_zero, List.set_cons_succ]
  refine wpAnyH_take (i := 23) (oi := _) (v := .int .i64 x.err) rfl (by kernel_rfl) (by kernel_rfl) (by kernel_rfl) (fun _ _ _ h => h) (Or.inl ⟨by rfl, by intro v hv; have := hv.2.2.cell 0; go_simp⟩) hH ?_
  try simp only [Act.put, List.getElem_toArray, List.getElem_cons_succ, List.getElem_cons_zero, List.setIfInBounds_toArray, List.set_cons_zero, List.set_cons_succ]
  refine wpAnyH_take (i := 24) (oi := _) (v := .pointer (some ⟨w.heap.size + 2, 2, none⟩)) rfl (by kernel_rfl) (by kernel_rfl) (by kernel_rfl) (fun _ _ _ h => h) (Or.inl ⟨by rfl, by intro v hv; go_simp⟩) hH ?_
  try simp only [Act.put, List.getElem_toArray, List.getElem_cons_succ, List.getElem_cons_zero, List.setIfInBounds_toArray, List.set_cons_zero, List.set_cons_succ]
  refine wpAnyH_take (i := 25) (oi := _) (v := .pointer (some ⟨w.heap.size + 2, 2, none⟩)) rfl (by kernel_rfl) (by kernel_rfl) (by kernel_rfl) (fun _ _ _ h => h) (Or.inl ⟨by rfl, by intro v hv; go_simp⟩) hH ?_
  try simp only [Act.put, List.getElem_toArray, List.getElem_cons_succ, List.getElem_cons_zero, List.setIfInBounds_toArray, List.set_cons_zero, List.set_cons_succ]
  refine wpAnyH_take (i := 26) (oi := _) (v := .int .i64 y.err) rfl (by kernel_rfl) (by kernel_rfl) (by kernel_rfl) (fun _ _ _ h => h) (Or.inl ⟨by rfl, by intro v hv; have := hv.2.2.cell 2; go_simp⟩) hH ?_
  try simp only [Act.put, List.getElem_toArray, List.getElem_cons_succ, List.getElem_cons_zero, List.setIfInBounds_toArray, List.set_cons_zero, List.set_cons_succ]
  refine wpAnyH_take (i := 27) (oi := _) (v := .bool false) rfl (by kernel_rfl) (by kernel_rfl) (by kernel_rfl) (fun _ _ _ h => h) (Or.inl ⟨by rfl, by intro v hv; have := HE.out; go_simp⟩) hH ?_
  try simp only [Act.put, List.getElem_toArray, List.getElem_cons_succ, List.getElem_cons_zero, List.setIfInBounds_toArray, List.set_cons_zero, List.set_cons_succ]
  refine wpAnyH_take (i := 28) (oi := _) (v := .bool false) rfl (by kernel_rfl) (by kernel_rfl) (by kernel_rfl) (fun _ _ _ h => h) (Or.inl ⟨by rfl, by intro v hv; go_simp⟩) hH ?_
  try simp only [Act.put, List.getElem_toArray, List.getElem_cons_succ, List.getElem_cons_zero, List.setIfInBounds_toArray, List.set_cons_zero, List.set_cons_succ]
  refine wpAnyH_take (i := 29) (oi := _) (v := .pointer (some ⟨w.heap.size + 2, 0, none⟩)) rfl (by kernel_rfl) (by kernel_rfl) (by kernel_rfl) (fun _ _ _ h => h) (Or.inl ⟨by rfl, by intro v hv; go_simp⟩) hH ?_
  try simp only [Act.put, List.getElem_toArray, List.getElem_cons_succ, List.getElem_cons_zero, List.setIfInBounds_toArray, List.set_cons_zero, List.set_cons_succ]
  refine wpAnyH_take (i := 30) (oi := _) (v := .agg #[.int .i64 x.err, .slice x.ao x.ys.length x.cap]) rfl (by kernel_rfl) (by kernel_rfl) (by kernel_rfl) (fun _ _ _ h => h) (yieldsIf_load_mid (by rfl) 62 _ rfl (w.heap.size + 2) 0 rfl [.int .i64 x.err, .slice x.ao x.ys.length x.cap] _ (fun v hv => rng0 hv.2.2) Tryz.underlying62 rfl infoRp) hH ?_
  try simp only [Act.put, List.getElem_toArray, List.getElem_cons_succ, List.getElem_cons_zero, List.setIfInBounds_toArray, List.set_cons_zero, List.set_cons_succ]
  refine wpAnyH_take (i := 31) (oi := _) (v := .pointer (some ⟨w.heap.size + 2, 2, none⟩)) rfl (by kernel_rfl) (by kernel_rfl) (by kernel_rfl) (fun _ _ _ h => h) (Or.inl ⟨by rfl, by intro v hv; go_simp⟩) hH ?_
  try simp only [Act.put, List.getElem_toArray, List.getElem_cons_succ, List.getElem_cons_zero, List.setIfInBounds_toArray, List.set_cons_zero, List.set_cons_succ]
  refine wpAnyH_take (i := 32) (oi := _) (v := .agg #[.int .i64 y.err, .slice y.ao y.ys.length y.cap]) rfl (by kernel_rfl) (by kernel_rfl) (by kernel_rfl) (fun _ _ _ h => h) (yieldsIf_load_mid (by rfl) 62 _ rfl (w.heap.size + 2) 2 rfl [.int .i64 y.err, .slice y.ao y.ys.length y.cap] _ (fun v hv => rng2 hv.2.2) Tryz.underlying62 rfl infoRp) hH ?_
  try simp only [Act.put, List.getElem_toArray, List.getElem_cons_succ, List.getElem_cons_zero, List.setIfInBounds_toArray, List.set_cons_zero, List.set_cons_succ]
  refine wpAnyH_take (i := 34) (oi := _) (v := .pointer (some ⟨w.heap.size + 2, 0, none⟩)) rfl (by kernel_rfl) (by kernel_rfl) (by kernel_rfl) (fun _ _ _ h => h) (Or.inl ⟨by rfl, by intro v hv; go_simp⟩) hH ?_
  try simp only [Act.put, List.getElem_toArray, List.getElem_cons_succ, List.getElem_cons_zero, List.setIfInBounds_toArray, List.set_cons_zero, List.set_cons_succ]
  refine wpAnyH_take (i := 35) (oi := _) (v := .pointer (some ⟨w.heap.size + 2, 1, none⟩)) rfl (by kernel_rfl) (by kernel_rfl) (by kernel_rfl) (fun _ _ _ h => h) (Or.inl ⟨by rfl, by intro v hv; go_simp⟩) hH ?_
  try simp only [Act.put, List.getElem_toArray, List.getElem_cons_succ, List.getElem_cons_zero, List.setIfInBounds_toArray, List.set_cons_zero, List.set_cons_succ]
  refine wpAnyH_take (i := 36) (oi := _) (v := .slice x.ao x.ys.length x.cap) rfl (by kernel_rfl) (by kernel_rfl) (by kernel_rfl) (fun _ _ _ h => h) (Or.inl ⟨by rfl, by intro v hv; have := hv.2.2.cell 1; go_simp⟩) hH ?_
  try simp only [Act.put, List.getElem_toArray, List.getElem_cons_succ, List.getElem_cons_zero, List.setIfInBounds_toArray, List.set_cons_zero, List.set_cons_succ]
  refine wpAnyH_take (i := 37) (oi := _) (v := .pointer (some ⟨w.heap.size + 2, 2, none⟩)) rfl (by kernel_rfl) (by kernel_rfl) (by kernel_rfl) (fun _ _ _ h => h) (Or.inl ⟨by rfl, by intro v hv; go_simp⟩) hH ?_
  try simp only [Act.put, List.getElem_toArray, List.getElem_cons_succ, List.getElem_cons_zero, List.setIfInBounds_toArray, List.set_cons_zero, List.set_cons_succ]
  refine wpAnyH_take (i := 38) (oi := _) (v := .pointer (some ⟨w.heap.size + 2, 3, none⟩)) rfl (by kernel_rfl) (by kernel_rfl) (by kernel_rfl) (fun _ _ _ h => h) (Or.inl ⟨by rfl, by intro v hv; go_simp⟩) hH ?_
  try simp only [Act.put, List.getElem_toArray, List.getElem_cons_succ, List.getElem_cons_zero, List.setIfInBounds_toArray, List.set_cons_zero, List.set_cons_succ]
  refine wpAnyH_take (i := 39) (oi := _) (v := .slice y.ao y.ys.length y.cap) rfl (by kernel_rfl) (by kernel_rfl) (by kernel_rfl) (fun _ _ _ h => h) (Or.inl ⟨by rfl, by intro v hv; have := hv.2.2.cell 3; go_simp⟩) hH ?_
  try simp only [Act.put, List.getElem_toArray, List.getElem_cons_succ, List.getElem_cons_zero, List.setIfInBounds_toArray, List.set_cons_zero, List.set_cons_succ]
  refine wpAnyH_ready (rs := [33]) (by kernel_rfl) (by simp) ?_
  refine AllReadyH.cons (o := _) rfl (fun K' hK => ?_) AllReadyH.nil
  go_simp
  refine (rep_is x y _ t (X.out.1.below K7.out.1) (X.out.2.below K7.out.1) R.out.2.1).mono ?_
  rintro e v5 ⟨rfl, hb⟩
  have K8 := Lib.hid (show Below w.heap.size w v5 ∧ Blk v5 (w.heap.size) (a.a p) 48 ∧ Blk v5 (w.heap.size + 1) (b.a q) 48 ∧ Blk v5 (w.heap.size + 2) #[.int .i64 x.err, .slice x.ao x.ys.length x.cap, .int .i64 y.err, .slice y.ao y.ys.length y.cap] 63 from ⟨step0 K7.out.1 hb, K7.out.2.1.below hb, K7.out.2.2.1.below hb, K7.out.2.2.2.below hb⟩)
  clear hb
  go_wp2_with fail
  refine hK.out _ _ ⟨K8.out.2.1, K8.out.2.2.1, K8.out.2.2.2⟩ (fun hH => ?_)
  clear hK K'
  try simp only [Act.put, List.getElem_toArray, List.getElem_cons_succ, List.getElem_cons_zero, List.setIfInBounds_toArray, List.set_cons_zero, List.set_cons_succ]
  refine wpAnyH_ready (rs := [40]) (by kernel_rfl) (by simp) ?_
  refine AllReadyH.cons (o := _) rfl (fun K' hK => ?_) AllReadyH.nil
  go_simp
  refine (all06_is x.ys y.ys x.ao y.ao x.cap y.cap _ t X.out.1.2.2.2 (X.out.1.below K8.out.1).1 (X.out.2.below K8.out.1).1 (X.out.1.below K8.out.1).2.1 (X.out.2.below K8.out.1).2.1 X.out.1.2.2.1 X.out.2.2.2.1 (R.out.2.2 HE.out)).mono ?_
  rintro e v6 ⟨rfl, hb⟩
  have K9 := Lib.hid (show Below w.heap.size w v6 ∧ Blk v6 (w.heap.size) (a.a p) 48 ∧ Blk v6 (w.heap.size + 1) (b.a q) 48 ∧ Blk v6 (w.heap.size + 2) #[.int .i64 x.err, .slice x.ao x.ys.length x.cap, .int .i64 y.err, .slice y.ao y.ys.length y.cap] 63 from ⟨step0 K8.out.1 hb, K8.out.2.1.below hb, K8.out.2.2.1.below hb, K8.out.2.2.2.below hb⟩)
  clear hb
  go_wp2_with fail
  refine hK.out _ _ ⟨K9.out.2.1, K9.out.2.2.1, K9.out.2.2.2⟩ (fun hH => ?_)
  clear hK K'
  try simp only [Act.put, List.getElem_toArray, List.getElem_cons_succ, List.getElem_cons_zero, List.setIfInBounds_toArray, List.set_cons_zero, List.set_cons_succ]
  refine wpAnyH_take (i := 41) (oi := _) (v := .bool true) rfl (by kernel_rfl) (by kernel_rfl) (by kernel_rfl) (fun _ _ _ h => h) (Or.inl ⟨by rfl, by intro v hv; go_simp⟩) hH ?_
  try simp only [Act.put, List.getElem_toArray, List.getElem_cons_succ, List.getElem_cons_zero, List.setIfInBounds_toArray, List.set_cons_zero, List.set_cons_succ]
  refine wpAnyH_take (i := 42) (oi := _) (v := .bool true) rfl (by kernel_rfl) (by kernel_rfl) (by kernel_rfl) (fun _ _ _ h => h) (Or.inl ⟨by rfl, by intro v hv; go_simp⟩) hH ?_
  try simp only [Act.put, List.getElem_toArray, List.getElem_cons_succ, List.getElem_cons_zero, List.setIfInBounds_toArray, List.set_cons_zero, List.set_cons_succ]
  refine wpAnyH_take (i := 43) (oi := _) (v := .bool true) rfl (by kernel_rfl) (by kernel_rfl) (by kernel_rfl) (fun _ _ _ h => h) (Or.inl ⟨by rfl, by intro v hv; go_simp⟩) hH ?_
  try simp only [Act.put, List.getElem_toArray, List.getElem_cons_succ, List.getElem_cons_zero, List.setIfInBounds_toArray, List.set_cons_zero, List.set_cons_succ]
  refine wpAnyH_take (i := 44) (oi := _) (v := .bool true) rfl (by kernel_rfl) (by kernel_rfl) (by kernel_rfl) (fun _ _ _ h => h) (Or.inl ⟨by rfl, by intro v hv; go_simp⟩) hH ?_
  try simp only [Act.put, List.getElem_toArray, List.getElem_cons_succ, List.getElem_cons_zero, List.setIfInBounds_toArray, List.set_cons_zero, List.set_cons_succ]
  refine wpAnyH_ready (rs := [45]) (by kernel_rfl) (by simp) ?_
  refine AllReadyH.cons (o := _) rfl (fun K' hK => ?_) AllReadyH.nil
  go_simp
  refine (awake_any _ (H.out.1.keep K9.out.1)).mono ?_
  rintro e v9 ⟨rfl, hb⟩
  have KE := Lib.hid (show Below w.heap.size w v9 ∧ Blk v9 (w.heap.size) (a.a p) 48 ∧ Blk v9 (w.heap.size + 1) (b.a q) 48 ∧ Blk v9 (w.heap.size + 2) #[.int .i64 x.err, .slice x.ao x.ys.length x.cap, .int .i64 y.err, .slice y.ao y.ys.length y.cap] 63 from ⟨step0 K9.out.1 hb, K9.out.2.1.below hb, K9.out.2.2.1.below hb, K9.out.2.2.2.below hb⟩)
  clear hb
  go_wp2_with fail
  refine hK.out _ _ ⟨KE.out.2.1, KE.out.2.2.1, KE.out.2.2.2⟩ (fun hH => ?_)
  clear hK K'
  try simp only [Act.put, List.getElem_toArray, List.getElem_cons_succ, List.getElem_cons_zero, List.setIfInBounds_toArray, List.set_cons_zero, List.set_cons_succ]
  refine wpAnyH_take (i := 46) (oi := _) (v := .bool true) rfl (by kernel_rfl) (by kernel_rfl) (by kernel_rfl) (fun _ _ _ h => h) (Or.inl ⟨by rfl, by intro v hv; go_simp⟩) hH ?_
  try simp only [Act.put, List.getElem_toArray, List.getElem_cons_succ, List.getElem_cons_zero, List.setIfInBounds_toArray, List.set_cons_zero, List.set_cons_succ]
  refine wpAnyH_take (i := 47) (oi := _) (v := .bool true) rfl (by kernel_rfl) (by kernel_rfl) (by kernel_rfl) (fun _ _ _ h => h) (Or.inl ⟨by rfl, by intro v hv; go_simp⟩) hH ?_
  try simp only [Act.put, List.getElem_toArray, List.getElem_cons_succ, List.getElem_cons_zero, List.setIfInBounds_toArray, List.set_cons_zero, List.set_cons_succ]
  refine wpAnyH_done (by kernel_rfl) ?_ _
  go_wp2
  go_ret
  exact ⟨rfl, KE.out.1⟩

set_option maxHeartbeats 8000000 in
set_option maxRecDepth 1000000 in
theorem two_6 (a b : O) (x y : RP2) (p q : Ps) (w : World) (hg : Env w) (ia : InO w a p) (ib : InO w b q) (hx : RP2.m w x) (hy : RP2.m w y) (h1 : a.few) (h2 : b.few) (h3 : decide ((10 : Int) < (x.ys.length : Int)) = false) (h4 : decide ((10 : Int) < (y.ys.length : Int)) = false) (he : (x.err != y.err) = true) :
    Calls Tryz.prog 7 #[.agg (a.a p), .agg (b.a q), .agg #[.int .i64 x.err, .slice x.ao x.ys.length x.cap, .int .i64 y.err, .slice y.ao y.ys.length y.cap]] w fun e w' => e = .returned (.bool true) ∧ Below w.heap.size w w' := by
  have hmx : Tryz.prog.follows .mixedOrders = true := by kernel_rfl
  have H := Lib.hid (And.intro hg (And.intro ia (And.intro ib (And.intro hx hy))))
  clear hg ia ib hx hy
  have K0 := Lib.hid (show Below w.heap.size w (((w.alloc (.cells (a.a p) 48)).alloc (.cells (b.a q) 48)).alloc (.cells #[.int .i64 x.err, .slice x.ao x.ys.length x.cap, .int .i64 y.err, .slice y.ao y.ys.length y.cap] 63)) ∧ Blk (((w.alloc (.cells (a.a p) 48)).alloc (.cells (b.a q) 48)).alloc (.cells #[.int .i64 x.err, .slice x.ao x.ys.length x.cap, .int .i64 y.err, .slice y.ao y.ys.length y.cap] 63)) (w.heap.size) (a.a p) 48 ∧ Blk (((w.alloc (.cells (a.a p) 48)).alloc (.cells (b.a q) 48)).alloc (.cells #[.int .i64 x.err, .slice x.ao x.ys.length x.cap, .int .i64 y.err, .slice y.ao y.ys.length y.cap] 63)) (w.heap.size + 1) (b.a q) 48 ∧ Blk (((w.alloc (.cells (a.a p) 48)).alloc (.cells (b.a q) 48)).alloc (.cells #[.int .i64 x.err, .slice x.ao x.ys.length x.cap, .int .i64 y.err, .slice y.ao y.ys.length y.cap] 63)) (w.heap.size + 2) #[.int .i64 x.err, .slice x.ao x.ys.length x.cap, .int .i64 y.err, .slice y.ao y.ys.length y.cap] 63 from ⟨(below2s w _ _).alloc (below2s w _ _).size _, ((Blk.new w _ _).alloc _).alloc _, (Blk.new' _ _ _ _ (by simp)).alloc _, Blk.new' _ _ _ _ (by simp)⟩)
  go_enter Tryz.func7, Tryz.ntmps7
  go_wp2_with ((refine (?_ : wpList _ _ _ (Oper.mk _ (Op.load 48 _) _ _ _ _ :: _) _ _)); refine wpList_load_blk rfl 48 _ rfl (w.heap.size) rfl (a.a p) _ (K0.out.2.1) Tryz.underlying48 rfl (infoO) ?_; go_frame)
  refine (fewop_y a p _ (H.out.2.1.below K0.out.1) h1).mono ?_
  rintro e w1 ⟨rfl, hb⟩
  have K1 := Lib.hid (show Below w.heap.size w w1 ∧ Blk w1 (w.heap.size) (a.a p) 48 ∧ Blk w1 (w.heap.size + 1) (b.a q) 48 ∧ Blk w1 (w.heap.size + 2) #[.int .i64 x.err, .slice x.ao x.ys.length x.cap, .int .i64 y.err, .slice y.ao y.ys.length y.cap] 63 from ⟨step0 K0.out.1 hb, K0.out.2.1.below hb, K0.out.2.2.1.below hb, K0.out.2.2.2.below hb⟩)
  clear hb
  go_wp2_with ((refine (?_ : wpList _ _ _ (Oper.mk _ (Op.load 48 _) _ _ _ _ :: _) _ _)); refine wpList_load_blkg (by rfl) 48 _ rfl (w.heap.size + 1) rfl (b.a q) _ (K1.out.2.2.1) Tryz.underlying48 rfl infoO ?_; go_frame)
  refine (fewop_y b q _ (H.out.2.2.1.below K1.out.1) h2).mono ?_
  rintro e w2 ⟨rfl, hb⟩
  have K2 := Lib.hid (show Below w.heap.size w w2 ∧ Blk w2 (w.heap.size) (a.a p) 48 ∧ Blk w2 (w.heap.size + 1) (b.a q) 48 ∧ Blk w2 (w.heap.size + 2) #[.int .i64 x.err, .slice x.ao x.ys.length x.cap, .int .i64 y.err, .slice y.ao y.ys.length y.cap] 63 from ⟨step0 K1.out.1 hb, K1.out.2.1.below hb, K1.out.2.2.1.below hb, K1.out.2.2.2.below hb⟩)
  clear hb
  have qx := K2.out.2.2.2.cell
  have X := Lib.hid (show RP2.in w x ∧ RP2.in w y from ⟨⟨H.out.2.2.2.1.1, H.out.2.2.2.1.2.1, H.out.2.2.2.1.2.2, by rw [decide_eq_false_iff_not] at h3; omega⟩, ⟨H.out.2.2.2.2.1, H.out.2.2.2.2.2.1, H.out.2.2.2.2.2.2, by rw [decide_eq_false_iff_not] at h4; omega⟩⟩)
  have G := Lib.hid (And.intro h1 (And.intro h2 trivial))
  obtain ⟨r, hr⟩ : ∃ r, a.sm b = r := ⟨_, rfl⟩
  obtain ⟨t, ht⟩ : ∃ t, x.sm y = t := ⟨_, rfl⟩
  have R := Lib.hid (And.intro hr (And.intro ht (show x.err = y.err → ral x.ys y.ys = t from fun h => by rw [← ht]; simp [RP2.sm, h])))
  clear h1 h2 hr ht
  go_wp2
  clear qx
  refine wp_region_held_drew (S := fun v => Blk v (w.heap.size) (a.a p) 48 ∧ Blk v (w.heap.size + 1) (b.a q) 48 ∧ Blk v (w.heap.size + 2) #[.int .i64 x.err, .slice x.ao x.ys.length x.cap, .int .i64 y.err, .slice y.ao y.ys.length y.cap] 63) (by kernel_rfl) K2.out.2 (fun hH => ?_)
  obtain ⟨v0, hv0⟩ : ∃ v, World.drew w2 = v := ⟨_, rfl⟩
  rw [hv0] at hH ⊢
  have K3 := Lib.hid (show Below w.heap.size w v0 ∧ Blk v0 (w.heap.size) (a.a p) 48 ∧ Blk v0 (w.heap.size + 1) (b.a q) 48 ∧ Blk v0 (w.heap.size + 2) #[.int .i64 x.err, .slice x.ao x.ys.length x.cap, .int .i64 y.err, .slice y.ao y.ys.length y.cap] 63 from hv0 ▸ ⟨K2.out.1.drew, K2.out.2.1.drew, K2.out.2.2.1.drew, K2.out.2.2.2.drew⟩)
  clear hv0
  refine wpAnyH_take (i := 0) (oi := _) (v := .agg (a.a p)) rfl (by kernel_rfl) (by kernel_rfl) (by kernel_rfl) (fun _ _ _ h => h) (yieldsIf_load_mid (by rfl) 48 _ rfl (w.heap.size) 0 rfl (a.a p).toList _ (fun v hv => (hv.1).rng) Tryz.underlying48 rfl infoO) hH ?_
  try simp only [Act.put, List.getElem_toArray, List.getElem_cons_succ, List.getElem_cons_zero, List.setIfInBounds_toArray, List.set_cons_zero, List.set_cons_succ]
  refine wpAnyH_take (i := 1) (oi := _) (v := .agg (b.a q)) rfl (by kernel_rfl) (by kernel_rfl) (by kernel_rfl) (fun _ _ _ h => h) (yieldsIf_load_mid (by rfl) 48 _ rfl (w.heap.size + 1) 0 rfl (b.a q).toList _ (fun v hv => (hv.2.1).rng) Tryz.underlying48 rfl infoO) hH ?_
  try simp only [Act.put, List.getElem_toArray, List.getElem_cons_succ, List.getElem_cons_zero, List.setIfInBounds_toArray, List.set_cons_zero, List.set_cons_succ]
  refine wpAnyH_take (i := 3) (oi := _) (v := .agg (a.a p)) rfl (by kernel_rfl) (by kernel_rfl) (by kernel_rfl) (fun _ _ _ h => h) (yieldsIf_load_mid (by rfl) 48 _ rfl (w.heap.size) 0 rfl (a.a p).toList _ (fun v hv => (hv.1).rng) Tryz.underlying48 rfl infoO) hH ?_
  try simp only [Act.put, List.getElem_toArray, List.getElem_cons_succ, List.getElem_cons_zero, List.setIfInBounds_toArray, List.set_cons_zero, List.set_cons_succ]
  refine wpAnyH_take (i := 4) (oi := _) (v := .agg (b.a q)) rfl (by kernel_rfl) (by kernel_rfl) (by kernel_rfl) (fun _ _ _ h => h) (yieldsIf_load_mid (by rfl) 48 _ rfl (w.heap.size + 1) 0 rfl (b.a q).toList _ (fun v hv => (hv.2.1).rng) Tryz.underlying48 rfl infoO) hH ?_
  try simp only [Act.put, List.getElem_toArray, List.getElem_cons_succ, List.getElem_cons_zero, List.setIfInBounds_toArray, List.set_cons_zero, List.set_cons_succ]
  refine wpAnyH_ready (rs := [2]) (by kernel_rfl) (by simp) ?_
  refine AllReadyH.cons (o := _) rfl (fun K' hK => ?_) AllReadyH.nil
  go_simp
  refine (same_o a b p q r _ (H.out.1.keep K3.out.1) (H.out.2.1.below K3.out.1) (H.out.2.2.1.below K3.out.1) (rv_few G.out.1 p) (rv_few G.out.2.1 q) R.out.1).mono ?_
  rintro e v1 ⟨rfl, hb⟩
  have K4 := Lib.hid (show Below w.heap.size w v1 ∧ Blk v1 (w.heap.size) (a.a p) 48 ∧ Blk v1 (w.heap.size + 1) (b.a q) 48 ∧ Blk v1 (w.heap.size + 2) #[.int .i64 x.err, .slice x.ao x.ys.length x.cap, .int .i64 y.err, .slice y.ao y.ys.length y.cap] 63 from ⟨step0 K3.out.1 hb, K3.out.2.1.below hb, K3.out.2.2.1.below hb, K3.out.2.2.2.below hb⟩)
  clear hb
  go_wp2_with fail
  refine hK.out _ _ ⟨K4.out.2.1, K4.out.2.2.1, K4.out.2.2.2⟩ (fun hH => ?_)
  clear hK K'
  try simp only [Act.put, List.getElem_toArray, List.getElem_cons_succ, List.getElem_cons_zero, List.setIfInBounds_toArray, List.set_cons_zero, List.set_cons_succ]
  refine wpAnyH_ready (rs := [5]) (by kernel_rfl) (by simp) ?_
  refine AllReadyH.cons (o := _) rfl (fun K' hK => ?_) AllReadyH.nil
  go_simp
  refine (same_ro a b p q r _ (H.out.2.1.below K4.out.1) (H.out.2.2.1.below K4.out.1) (rv_few G.out.1 p) R.out.1).mono ?_
  rintro e v2 ⟨rfl, hb⟩
  have K5 := Lib.hid (show Below w.heap.size w v2 ∧ Blk v2 (w.heap.size) (a.a p) 48 ∧ Blk v2 (w.heap.size + 1) (b.a q) 48 ∧ Blk v2 (w.heap.size + 2) #[.int .i64 x.err, .slice x.ao x.ys.length x.cap, .int .i64 y.err, .slice y.ao y.ys.length y.cap] 63 from ⟨step0 K4.out.1 hb, K4.out.2.1.below hb, K4.out.2.2.1.below hb, K4.out.2.2.2.below hb⟩)
  clear hb
  go_wp2_with fail
  refine hK.out _ _ ⟨K5.out.2.1, K5.out.2.2.1, K5.out.2.2.2⟩ (fun hH => ?_)
  clear hK K'
  try simp only [Act.put, List.getElem_toArray, List.getElem_cons_succ, List.getElem_cons_zero, List.setIfInBounds_toArray, List.set_cons_zero, List.set_cons_succ]
  refine wpAnyH_take (i := 6) (oi := _) (v := .bool true) rfl (by kernel_rfl) (by kernel_rfl) (by kernel_rfl) (fun _ _ _ h => h) (Or.inl ⟨by rfl, by intro v hv; go_simp⟩) hH ?_
  try simp only [Act.put, List.getElem_toArray, List.getElem_cons_succ, List.getElem_cons_zero, List.setIfInBounds_toArray, List.set_cons_zero, List.set_cons_succ]
  refine wpAnyH_take (i := 7) (oi := _) (v := .bool true) rfl (by kernel_rfl) (by kernel_rfl) (by kernel_rfl) (fun _ _ _ h => h) (Or.inl ⟨by rfl, by intro v hv; go_simp⟩) hH ?_
  try simp only [Act.put, List.getElem_toArray, List.getElem_cons_succ, List.getElem_cons_zero, List.setIfInBounds_toArray, List.set_cons_zero, List.set_cons_succ]
  refine wpAnyH_take (i := 8) (oi := _) (v := .pointer (some ⟨w.heap.size + 2, 0, none⟩)) rfl (by kernel_rfl) (by kernel_rfl) (by kernel_rfl) (fun _ _ _ h => h) (Or.inl ⟨by rfl, by intro v hv; go_simp⟩) hH ?_
  try simp only [Act.put, List.getElem_toArray, List.getElem_cons_succ, List.getElem_cons_zero, List.setIfInBounds_toArray, List.set_cons_zero, List.set_cons_succ]
  refine wpAnyH_take (i := 9) (oi := _) (v := .agg #[.int .i64 x.err, .slice x.ao x.ys.length x.cap]) rfl (by kernel_rfl) (by kernel_rfl) (by kernel_rfl) (fun _ _ _ h => h) (yieldsIf_load_mid (by rfl) 62 _ rfl (w.heap.size + 2) 0 rfl [.int .i64 x.err, .slice x.ao x.ys.length x.cap] _ (fun v hv => rng0 hv.2.2) Tryz.underlying62 rfl infoRp) hH ?_
  try simp only [Act.put, List.getElem_toArray, List.getElem_cons_succ, List.getElem_cons_zero, List.setIfInBounds_toArray, List.set_cons_zero, List.set_cons_succ]
  refine wpAnyH_take (i := 10) (oi := _) (v := .pointer (some ⟨w.heap.size + 2, 2, none⟩)) rfl (by kernel_rfl) (by kernel_rfl) (by kernel_rfl) (fun _ _ _ h => h) (Or.inl ⟨by rfl, by intro v hv; go_simp⟩) hH ?_
  try simp only [Act.put, List.getElem_toArray, List.getElem_cons_succ, List.getElem_cons_zero, List.setIfInBounds_toArray, List.set_cons_zero, List.set_cons_succ]
  refine wpAnyH_take (i := 11) (oi := _) (v := .agg #[.int .i64 y.err, .slice y.ao y.ys.length y.cap]) rfl (by kernel_rfl) (by kernel_rfl) (by kernel_rfl) (fun _ _ _ h => h) (yieldsIf_load_mid (by rfl) 62 _ rfl (w.heap.size + 2) 2 rfl [.int .i64 y.err, .slice y.ao y.ys.length y.cap] _ (fun v hv => rng2 hv.2.2) Tryz.underlying62 rfl infoRp) hH ?_
  try simp only [Act.put, List.getElem_toArray, List.getElem_cons_succ, List.getElem_cons_zero, List.setIfInBounds_toArray, List.set_cons_zero, List.set_cons_succ]
  refine wpAnyH_take (i := 13) (oi := _) (v := .pointer (some ⟨w.heap.size + 2, 0, none⟩)) rfl (by kernel_rfl) (by kernel_rfl) (by kernel_rfl) (fun _ _ _ h => h) (Or.inl ⟨by rfl, by intro v hv; go_simp⟩) hH ?_
  try simp only [Act.put, List.getElem_toArray, List.getElem_cons_succ, List.getElem_cons_zero, List.setIfInBounds_toArray, List.set_cons_zero, List.set_cons_succ]
  refine wpAnyH_take (i := 14) (oi := _) (v := .agg #[.int .i64 x.err, .slice x.ao x.ys.length x.cap]) rfl (by kernel_rfl) (by kernel_rfl) (by kernel_rfl) (fun _ _ _ h => h) (yieldsIf_load_mid (by rfl) 62 _ rfl (w.heap.size + 2) 0 rfl [.int .i64 x.err, .slice x.ao x.ys.length x.cap] _ (fun v hv => rng0 hv.2.2) Tryz.underlying62 rfl infoRp) hH ?_
  try simp only [Act.put, List.getElem_toArray, List.getElem_cons_succ, List.getElem_cons_zero, List.setIfInBounds_toArray, List.set_cons_zero, List.set_cons_succ]
  refine wpAnyH_take (i := 15) (oi := _) (v := .pointer (some ⟨w.heap.size + 2, 2, none⟩)) rfl (by kernel_rfl) (by kernel_rfl) (by kernel_rfl) (fun _ _ _ h => h) (Or.inl ⟨by rfl, by intro v hv; go_simp⟩) hH ?_
  try simp only [Act.put, List.getElem_toArray, List.getElem_cons_succ, List.getElem_cons_zero, List.setIfInBounds_toArray, List.set_cons_zero, List.set_cons_succ]
  refine wpAnyH_take (i := 16) (oi := _) (v := .agg #[.int .i64 y.err, .slice y.ao y.ys.length y.cap]) rfl (by kernel_rfl) (by kernel_rfl) (by kernel_rfl) (fun _ _ _ h => h) (yieldsIf_load_mid (by rfl) 62 _ rfl (w.heap.size + 2) 2 rfl [.int .i64 y.err, .slice y.ao y.ys.length y.cap] _ (fun v hv => rng2 hv.2.2) Tryz.underlying62 rfl infoRp) hH ?_
  try simp only [Act.put, List.getElem_toArray, List.getElem_cons_succ, List.getElem_cons_zero, List.setIfInBounds_toArray, List.set_cons_zero, List.set_cons_succ]
  refine wpAnyH_ready (rs := [12]) (by kernel_rfl) (by simp) ?_
  refine AllReadyH.cons (o := _) rfl (fun K' hK => ?_) AllReadyH.nil
  go_simp
  refine (rep_is x y _ t (X.out.1.below K5.out.1) (X.out.2.below K5.out.1) R.out.2.1).mono ?_
  rintro e v3 ⟨rfl, hb⟩
  have K6 := Lib.hid (show Below w.heap.size w v3 ∧ Blk v3 (w.heap.size) (a.a p) 48 ∧ Blk v3 (w.heap.size + 1) (b.a q) 48 ∧ Blk v3 (w.heap.size + 2) #[.int .i64 x.err, .slice x.ao x.ys.length x.cap, .int .i64 y.err, .slice y.ao y.ys.length y.cap] 63 from ⟨step0 K5.out.1 hb, K5.out.2.1.below hb, K5.out.2.2.1.below hb, K5.out.2.2.2.below hb⟩)
  clear hb
  go_wp2_with fail
  refine hK.out _ _ ⟨K6.out.2.1, K6.out.2.2.1, K6.out.2.2.2⟩ (fun hH => ?_)
  clear hK K'
  try simp only [Act.put, List.getElem_toArray, List.getElem_cons_succ, List.getElem_cons_zero, List.setIfInBounds_toArray, List.set_cons_zero, List.set_cons_succ]
  refine wpAnyH_ready (rs := [17]) (by kernel_rfl) (by simp) ?_
  refine AllReadyH.cons (o := _) rfl (fun K' hK => ?_) AllReadyH.nil
  go_simp
  refine (rrep_is x y _ t (X.out.1.below K6.out.1) (X.out.2.below K6.out.1) R.out.2.1).mono ?_
  rintro e v4 ⟨rfl, hb⟩
  have K7 := Lib.hid (show Below w.heap.size w v4 ∧ Blk v4 (w.heap.size) (a.a p) 48 ∧ Blk v4 (w.heap.size + 1) (b.a q) 48 ∧ Blk v4 (w.heap.size + 2) #[.int .i64 x.err, .slice x.ao x.ys.length x.cap, .int .i64 y.err, .slice y.ao y.ys.length y.cap] 63 from ⟨step0 K6.out.1 hb, K6.out.2.1.below hb, K6.out.2.2.1.below hb, K6.out.2.2.2.below hb⟩)
  clear hb
  go_wp2_with fail
  refine hK.out _ _ ⟨K7.out.2.1, K7.out.2.2.1, K7.out.2.2.2⟩ (fun hH => ?_)
  clear hK K'
  try simp only [Act.put, List.getElem_toArray, List.getElem_cons_succ, List.getElem_cons_zero, List.setIfInBounds_toArray, List.set_cons_zero, List.set_cons_succ]
  refine wpAnyH_take (i := 18) (oi := _) (v := .bool true) rfl (by kernel_rfl) (by kernel_rfl) (by kernel_rfl) (fun _ _ _ h => h) (Or.inl ⟨by rfl, by intro v hv; go_simp⟩) hH ?_
  try simp only [Act.put, List.getElem_toArray, List.getElem_cons_succ, List.getElem_cons_zero, List.setIfInBounds_toArray, List.set_cons_zero, List.set_cons_succ]
  refine wpAnyH_take (i := 19) (oi := _) (v := .bool true) rfl (by kernel_rfl) (by kernel_rfl) (by kernel_rfl) (fun _ _ _ h => h) (Or.inl ⟨by rfl, by intro v hv; go_simp⟩) hH ?_
  try simp only [Act.put, List.getElem_toArray, List.getElem_cons_succ, List.getElem_cons_zero, List.setIfInBounds_toArray, List.set_cons_zero, List.set_cons_succ]
  refine wpAnyH_take (i := 20) (oi := _) (v := .bool true) rfl (by kernel_rfl) (by kernel_rfl) (by kernel_rfl) (fun _ _ _ h => h) (Or.inl ⟨by rfl, by intro v hv; go_simp⟩) hH ?_
  try simp only [Act.put, List.getElem_toArray, List.getElem_cons_succ, List.getElem_cons_zero, List.setIfInBounds_toArray, List.set_cons_zero, List.set_cons_succ]
  refine wpAnyH_take (i := 21) (oi := _) (v := .pointer (some ⟨w.heap.size + 2, 0, none⟩)) rfl (by kernel_rfl) (by kernel_rfl) (by kernel_rfl) (fun _ _ _ h => h) (Or.inl ⟨by rfl, by intro v hv; go_simp⟩) hH ?_
  try simp only [Act.put, List.getElem_toArray, List.getElem_cons_succ, List.getElem_cons_zero, List.setIfInBounds_toArray, List.set_cons_zero, List.set_cons_succ]
  refine wpAnyH_take (i := 22) (oi := _) (v := .pointer (some ⟨w.heap.size + 2, 0, none⟩)) rfl (by kernel_rfl) (by kernel_rfl) (by kernel_rfl) (fun _ _ _ h => h) (Or.inl ⟨by rfl, by intro v hv; go_simp⟩) hH ?_
  try simp only [Act.put, List.getElem_toArray, List.getElem_cons_succ, List.getElem_cons_zero, List.setIfInBounds_toArray, List.set_cons_zero, List.set_cons_succ]
  refine wpAnyH_take (i := 23) (oi := _) (v := .int .i64 x.err) rfl (by kernel_rfl) (by kernel_rfl) (by kernel_rfl) (fun _ _ _ h => h) (Or.inl ⟨by rfl, by intro v hv; have := hv.2.2.cell 0; go_simp⟩) hH ?_
  try simp only [Act.put, List.getElem_toArray, List.getElem_cons_succ, List.getElem_cons_zero, List.setIfInBounds_toArray, List.set_cons_zero, List.set_cons_succ]
  refine wpAnyH_take (i := 24) (oi := _) (v := .pointer (some ⟨w.heap.size + 2, 2, none⟩)) rfl (by kernel_rfl) (by kernel_rfl) (by kernel_rfl) (fun _ _ _ h => h) (Or.inl ⟨by rfl, by intro v hv; go_simp⟩) hH ?_
  try simp only [Act.put, List.getElem_toArray, List.getElem_cons_succ, List.getElem_cons_zero, List.setIfInBounds_toArray, List.set_cons_zero, List.set_cons_succ]
  refine wpAnyH_take (i := 25) (oi := _) (v := .pointer (some ⟨w.heap.size + 2, 2, none⟩)) rfl (by kernel_rfl) (by kernel_rfl) (by kernel_rfl) (fun _ _ _ h => h) (Or.inl ⟨by rfl, by intro v hv; go_simp⟩) hH ?_
  try simp only [Act.put, List.getElem_toArray, List.getElem_cons_succ, List.getElem_cons_zero, List.setIfInBounds_toArray, List.set_cons_zero, List.set_cons_succ]
  refine wpAnyH_take (i := 26) (oi := _) (v := .int .i64 y.err) rfl (by kernel_rfl) (by kernel_rfl) (by kernel_rfl) (fun _ _ _ h => h) (Or.inl ⟨by rfl, by intro v hv; have := hv.2.2.cell 2; go_simp⟩) hH ?_
  try simp only [Act.put, List.getElem_toArray, List.getElem_cons_succ, List.getElem_cons_zero, List.setIfInBounds_toArray, List.set_cons_zero, List.set_cons_succ]
  refine wpAnyH_take (i := 27) (oi := _) (v := .bool true) rfl (by kernel_rfl) (by kernel_rfl) (by kernel_rfl) (fun _ _ _ h => h) (Or.inl ⟨by rfl, by intro v hv; go_simp⟩) hH ?_
  try simp only [Act.put, List.getElem_toArray, List.getElem_cons_succ, List.getElem_cons_zero, List.setIfInBounds_toArray, List.set_cons_zero, List.set_cons_succ]
  refine wpAnyH_take (i := 28) (oi := _) (v := .bool true) rfl (by kernel_rfl) (by kernel_rfl) (by kernel_rfl) (fun _ _ _ h => h) (Or.inl ⟨by rfl, by intro v hv; go_simp⟩) hH ?_
  try simp only [Act.put, List.getElem_toArray, List.getElem_cons_succ, List.getElem_cons_zero, List.setIfInBounds_toArray, List.set_cons_zero, List.set_cons_succ]
  refine wpAnyH_take (i := 29) (oi := _) (v := undef) rfl (by kernel_rfl) (by kernel_rfl) (by kernel_rfl) (fun _ _ _ h => h) (Or.inr ⟨by rfl, by rfl⟩) hH ?_
  try simp only [Act.put, List.getElem_toArray, List.getElem_cons_succ, List.getElem_cons_zero, List.setIfInBounds_toArray, List.set_cons_zero, List.set_cons_succ]
  refine wpAnyH_take (i := 30) (oi := _) (v := undef) rfl (by kernel_rfl) (by kernel_rfl) (by kernel_rfl) (fun _ _ _ h => h) (Or.inr ⟨by rfl, by rfl⟩) hH ?_
  try simp only [Act.put, List.getElem_toArray, List.getElem_cons_succ, List.getElem_cons_zero, List.setIfInBounds_toArray, List.set_cons_zero, List.set_cons_succ]
  refine wpAnyH_take (i := 31) (oi := _) (v := undef) rfl (by kernel_rfl) (by kernel_rfl) (by kernel_rfl) (fun _ _ _ h => h) (Or.inr ⟨by rfl, by rfl⟩) hH ?_
  try simp only [Act.put, List.getElem_toArray, List.getElem_cons_succ, List.getElem_cons_zero, List.setIfInBounds_toArray, List.set_cons_zero, List.set_cons_succ]
  refine wpAnyH_take (i := 32) (oi := _) (v := undef) rfl (by kernel_rfl) (by kernel_rfl) (by kernel_rfl) (fun _ _ _ h => h) (Or.inr ⟨by rfl, by rfl⟩) hH ?_
  try simp only [Act.put, List.getElem_toArray, List.getElem_cons_succ, List.getElem_cons_zero, List.setIfInBounds_toArray, List.set_cons_zero, List.set_cons_succ]
  refine wpAnyH_take (i := 33) (oi := _) (v := undef) rfl (by kernel_rfl) (by kernel_rfl) (by kernel_rfl) (fun _ _ _ h => h) (Or.inr ⟨by rfl, by rfl⟩) hH ?_
  try simp only [Act.put, List.getElem_toArray, List.getElem_cons_succ, List.getElem_cons_zero, List.setIfInBounds_toArray, List.set_cons_zero, List.set_cons_succ]
  refine wpAnyH_take (i := 34) (oi := _) (v := undef) rfl (by kernel_rfl) (by kernel_rfl) (by kernel_rfl) (fun _ _ _ h => h) (Or.inr ⟨by rfl, by rfl⟩) hH ?_
  try simp only [Act.put, List.getElem_toArray, List.getElem_cons_succ, List.getElem_cons_zero, List.setIfInBounds_toArray, List.set_cons_zero, List.set_cons_succ]
  refine wpAnyH_take (i := 35) (oi := _) (v := undef) rfl (by kernel_rfl) (by kernel_rfl) (by kernel_rfl) (fun _ _ _ h => h) (Or.inr ⟨by rfl, by rfl⟩) hH ?_
  try simp only [Act.put, List.getElem_toArray, List.getElem_cons_succ, List.getElem_cons_zero, List.setIfInBounds_toArray, List.set_cons_zero, List.set_cons_succ]
  refine wpAnyH_take (i := 36) (oi := _) (v := undef) rfl (by kernel_rfl) (by kernel_rfl) (by kernel_rfl) (fun _ _ _ h => h) (Or.inr ⟨by rfl, by rfl⟩) hH ?_
  try simp only [Act.put, List.getElem_toArray, List.getElem_cons_succ, List.getElem_cons_zero, List.setIfInBounds_toArray, List.set_cons_zero, List.set_cons_succ]
  refine wpAnyH_take (i := 37) (oi := _) (v := undef) rfl (by kernel_rfl) (by kernel_rfl) (by kernel_rfl) (fun _ _ _ h => h) (Or.inr ⟨by rfl, by rfl⟩) hH ?_
  try simp only [Act.put, List.getElem_toArray, List.getElem_cons_succ, List.getElem_cons_zero, List.setIfInBounds_toArray, List.set_cons_zero, List.set_cons_succ]
  refine wpAnyH_take (i := 38) (oi := _) (v := undef) rfl (by kernel_rfl) (by kernel_rfl) (by kernel_rfl) (fun _ _ _ h => h) (Or.inr ⟨by rfl, by rfl⟩) hH ?_
  try simp only [Act.put, List.getElem_toArray, List.getElem_cons_succ, List.getElem_cons_zero, List.setIfInBounds_toArray, List.set_cons_zero, List.set_cons_succ]
  refine wpAnyH_take (i := 39) (oi := _) (v := undef) rfl (by kernel_rfl) (by kernel_rfl) (by kernel_rfl) (fun _ _ _ h => h) (Or.inr ⟨by rfl, by rfl⟩) hH ?_
  try simp only [Act.put, List.getElem_toArray, List.getElem_cons_succ, List.getElem_cons_zero, List.setIfInBounds_toArray, List.set_cons_zero, List.set_cons_succ]
  refine wpAnyH_take (i := 40) (oi := _) (v := undef) rfl (by kernel_rfl) (by kernel_rfl) (by kernel_rfl) (fun _ _ _ h => h) (Or.inr ⟨by rfl, by rfl⟩) hH ?_
  try simp only [Act.put, List.getElem_toArray, List.getElem_cons_succ, List.getElem_cons_zero, List.setIfInBounds_toArray, List.set_cons_zero, List.set_cons_succ]
  refine wpAnyH_take (i := 41) (oi := _) (v := undef) rfl (by kernel_rfl) (by kernel_rfl) (by kernel_rfl) (fun _ _ _ h => h) (Or.inr ⟨by rfl, by rfl⟩) hH ?_
  try simp only [Act.put, List.getElem_toArray, List.getElem_cons_succ, List.getElem_cons_zero, List.setIfInBounds_toArray, List.set_cons_zero, List.set_cons_succ]
  refine wpAnyH_take (i := 42) (oi := _) (v := .bool true) rfl (by kernel_rfl) (by kernel_rfl) (by kernel_rfl) (fun _ _ _ h => h) (Or.inl ⟨by rfl, by intro v hv; go_simp⟩) hH ?_
  try simp only [Act.put, List.getElem_toArray, List.getElem_cons_succ, List.getElem_cons_zero, List.setIfInBounds_toArray, List.set_cons_zero, List.set_cons_succ]
  refine wpAnyH_take (i := 43) (oi := _) (v := .bool true) rfl (by kernel_rfl) (by kernel_rfl) (by kernel_rfl) (fun _ _ _ h => h) (Or.inl ⟨by rfl, by intro v hv; go_simp⟩) hH ?_
  try simp only [Act.put, List.getElem_toArray, List.getElem_cons_succ, List.getElem_cons_zero, List.setIfInBounds_toArray, List.set_cons_zero, List.set_cons_succ]
  refine wpAnyH_take (i := 44) (oi := _) (v := .bool true) rfl (by kernel_rfl) (by kernel_rfl) (by kernel_rfl) (fun _ _ _ h => h) (Or.inl ⟨by rfl, by intro v hv; go_simp⟩) hH ?_
  try simp only [Act.put, List.getElem_toArray, List.getElem_cons_succ, List.getElem_cons_zero, List.setIfInBounds_toArray, List.set_cons_zero, List.set_cons_succ]
  refine wpAnyH_ready (rs := [45]) (by kernel_rfl) (by simp) ?_
  refine AllReadyH.cons (o := _) rfl (fun K' hK => ?_) AllReadyH.nil
  go_simp
  refine (awake_any _ (H.out.1.keep K7.out.1)).mono ?_
  rintro e v9 ⟨rfl, hb⟩
  have KE := Lib.hid (show Below w.heap.size w v9 ∧ Blk v9 (w.heap.size) (a.a p) 48 ∧ Blk v9 (w.heap.size + 1) (b.a q) 48 ∧ Blk v9 (w.heap.size + 2) #[.int .i64 x.err, .slice x.ao x.ys.length x.cap, .int .i64 y.err, .slice y.ao y.ys.length y.cap] 63 from ⟨step0 K7.out.1 hb, K7.out.2.1.below hb, K7.out.2.2.1.below hb, K7.out.2.2.2.below hb⟩)
  clear hb
  go_wp2_with fail
  refine hK.out _ _ ⟨KE.out.2.1, KE.out.2.2.1, KE.out.2.2.2⟩ (fun hH => ?_)
  clear hK K'
  try simp only [Act.put, List.getElem_toArray, List.getElem_cons_succ, List.getElem_cons_zero, List.setIfInBounds_toArray, List.set_cons_zero, List.set_cons_succ]
  refine wpAnyH_take (i := 46) (oi := _) (v := .bool true) rfl (by kernel_rfl) (by kernel_rfl) (by kernel_rfl) (fun _ _ _ h => h) (Or.inl ⟨by rfl, by intro v hv; go_simp⟩) hH ?_
  try simp only [Act.put, List.getElem_toArray, List.getElem_cons_succ, List.getElem_cons_zero, List.setIfInBounds_toArray, List.set_cons_zero, List.set_cons_succ]
  refine wpAnyH_take (i := 47) (oi := _) (v := .bool true) rfl (by kernel_rfl) (by kernel_rfl) (by kernel_rfl) (fun _ _ _ h => h) (Or.inl ⟨by rfl, by intro v hv; go_simp⟩) hH ?_
  try simp only [Act.put, List.getElem_toArray, List.getElem_cons_succ, List.getElem_cons_zero, List.setIfInBounds_toArray, List.set_cons_zero, List.set_cons_succ]
  refine wpAnyH_done (by kernel_rfl) ?_ _
  go_wp2
  go_ret
  exact ⟨rfl, KE.out.1⟩

theorem opsTwo_walk (a b : O) (x y : RP2) (p q : Ps) (w : World) (hg : Env w) (ia : InO w a p) (ib : InO w b q) (hx : RP2.m w x) (hy : RP2.m w y) :
    Calls Tryz.prog 7 #[.agg (a.a p), .agg (b.a q), .agg #[.int .i64 x.err, .slice x.ao x.ys.length x.cap, .int .i64 y.err, .slice y.ao y.ys.length y.cap]] w fun e w' => e = .returned (.bool true) ∧ Below w.heap.size w w' := by
  by_cases h1 : a.few
  case neg => exact two_1 a b x y p q w hg ia ib hx hy h1
  by_cases h2 : b.few
  case neg => exact two_2 a b x y p q w hg ia ib hx hy h1 h2
  by_cases h3 : (10 : Int) < (x.ys.length : Int)
  · exact two_3 a b x y p q w hg ia ib hx hy h1 h2 h3
  by_cases h4 : (10 : Int) < (y.ys.length : Int)
  · exact two_4 a b x y p q w hg ia ib hx hy h1 h2 (by simpa using h3) h4
  by_cases he : x.err = y.err
  · exact two_5 a b x y p q w hg ia ib hx hy h1 h2 (by simpa using h3) (by simpa using h4) he
  · exact two_6 a b x y p q w hg ia ib hx hy h1 h2 (by simpa using h3) (by simpa using h4) (by simpa using he)

end Go.Proofs.YtmgdciihpjifgaaGreatDoor

namespace Go.Proofs.YtmgdciihpjifgaaGreatDoor
open Go.ChangeShapes Go.WideShapes Go.ChangeAt Go.RowKit Go.Joins Go.Deep
set_option linter.unusedVariables false
set_option linter.constructorNameAsVariable false

section
variable {H : Type} {enc : TypeId × Value → H} {W : World}
set_option maxRecDepth 100000 in
theorem okw_arr {t e : TypeId} {n : Nat} {r : Reach} {b0 : Nat} {v : Value} (ht : Tryz.prog.underlying t = some (.array n e)) (h : Value.okWide Tryz.prog W r b0 t v) : ∃ cs, v = .agg cs ∧ cs.size = Tryz.prog.cellsOf t := by
  simp only [Value.okWide, ht] at h
  obtain ⟨cs, h1, h2, _⟩ := h
  exact ⟨cs, h1, h2⟩
-- A cell that reads as a slice of rows.
set_option maxRecDepth 100000 in
theorem rows_of {fuel : Nat} {c : Value} {y : DataW H × List MemPlace} (h : DataW.trod enc Tryz.prog W 0 (fun _ => true) true fuel 60 [c] = some y) :
    ∃ (l : List RV) (ao : Option Addr) (cap : Nat), c = .slice ao l.length cap ∧ SlR W ao l ∧ ∀ y ∈ l, Sl W y.ao y.xs ∧ y.xs.length ≤ 9223372036854775807 ∧ ∀ x ∈ y.xs, x.ok := by
  have hs : ∃ ao len cap, c = .slice ao len cap := by
    rcases open_slice Tryz.underlying60 h with ⟨hcs, _⟩ | ⟨a, l, c', m, n, D, Pl, hcs, _⟩
    · exact ⟨none, 0, 0, by simpa using hcs⟩
    · exact ⟨some a, l, c', by simpa using hcs⟩
  obtain ⟨ao, len, cap, rfl⟩ := hs
  obtain ⟨l, rfl, sl, ok⟩ := open_rows (enc := enc) (W := W) (ao := ao) (cap := cap) (d := y.1) (p := y.2) ⟨fuel, by simpa [Value.cells] using h⟩
  exact ⟨l, ao, cap, rfl, sl, ok⟩
-- Two cells that read as an answer.
set_option maxRecDepth 100000 in
theorem reply_of {fuel : Nat} {c0 c1 : Value} {y : DataW H × List MemPlace} (h : DataW.trod enc Tryz.prog W 0 (fun _ => true) true fuel 62 [c0, c1] = some y) :
    ∃ x : RP2, c0 = .int .i64 x.err ∧ c1 = .slice x.ao x.ys.length x.cap ∧ RP2.m W x := by
  obtain ⟨xs, n, _, _, _, hxl, hf⟩ := DataW.trod_struct Tryz.underlying62 h
  have hx2 : xs.length = 2 := by simpa using hxl
  match xs, hx2 with
  | [y0, y1], _ =>
    have i0 : Tryz.prog.cellsOf 35 = 1 := by kernel_rfl
    have i1 : Tryz.prog.cellsOf 60 = 1 := by kernel_rfl
    have f0 : DataW.trod enc Tryz.prog W 0 (fun _ => true) true n 35 (List.take (Tryz.prog.cellsOf 35) [c0, c1]) = some y0 := hf 0 _ rfl
    rw [i0] at f0
    have f1 : DataW.trod enc Tryz.prog W 0 (fun _ => true) true n 60 (List.take (Tryz.prog.cellsOf 60) [c1]) = some y1 := hf 1 _ rfl
    rw [i1] at f1
    obtain ⟨k, e0, _, _⟩ := DataW.trod_int Tryz.underlying35 f0
    obtain rfl : c0 = .int .i64 k := by simpa using e0
    obtain ⟨l, ao, cap, rfl, sl, ok⟩ := rows_of (show DataW.trod enc Tryz.prog W 0 (fun _ => true) true n 60 [c1] = some y1 from f1)
    exact ⟨⟨k, l, ao, cap⟩, rfl, rfl, sl, fun y hy => (ok y hy).1, fun y hy => (ok y hy).2.1⟩
set_option maxRecDepth 100000 in
theorem open_two {r : Reach} {b0 : Nat} {v : Value} {d : DataW H} {p : List MemPlace}
    (hv : Value.okWide Tryz.prog W r b0 63 v) (h : DataW.Trod enc Tryz.prog W 0 (fun _ => true) true 63 v d p) :
    ∃ x y : RP2, v = .agg #[.int .i64 x.err, .slice x.ao x.ys.length x.cap, .int .i64 y.err, .slice y.ao y.ys.length y.cap] ∧ RP2.m W x ∧ RP2.m W y := by
  obtain ⟨⟨cs⟩, rfl, hsz⟩ := okw_arr Tryz.underlying63 hv
  rw [show Tryz.prog.cellsOf 63 = 4 from by kernel_rfl] at hsz
  obtain ⟨fuel, hf⟩ := h
  obtain ⟨xs, n, _, _, _, hxl, hg⟩ := DataW.trod_array Tryz.underlying63 hf
  have hl : cs.length = 4 := by simpa using hsz
  clear hsz hv
  rw [show Tryz.prog.cellsOf 62 = 2 from by kernel_rfl] at hg
  match cs, hl, xs, hxl with
  | [c0, c1, c2, c3], _, [y0, y1], _ =>
    have g0 : DataW.trod enc Tryz.prog W 0 (fun _ => true) true n 62 [c0, c1] = some y0 := hg 0 (by decide)
    have g1 : DataW.trod enc Tryz.prog W 0 (fun _ => true) true n 62 [c2, c3] = some y1 := hg 1 (by decide)
    obtain ⟨x, rfl, rfl, mx⟩ := reply_of g0
    obtain ⟨y, rfl, rfl, my⟩ := reply_of g1
    exact ⟨x, y, rfl, mx, my⟩
end

end Go.Proofs.YtmgdciihpjifgaaGreatDoor
