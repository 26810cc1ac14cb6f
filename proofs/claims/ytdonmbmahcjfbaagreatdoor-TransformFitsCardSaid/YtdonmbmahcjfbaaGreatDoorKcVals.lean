/-
  The plain mathematics of a value's bytes: what Put writes, what Read reads, and that the bytes keep the order. Conditions: the bounds named in each theorem.
  Rows of values in memory: what a slice of values holds. What Few answers.
-/
import Derived.Test.YtdonmbmahcjfbaaGreatDoorVlSame
import Derived.Test.YtdonmbmahcjfbaaGreatDoorKcPutNum
import Derived.Test.YtdonmbmahcjfbaaGreatDoorVlWorld
import Derived.LoopN
namespace Go.Proofs.YtdonmbmahcjfbaaGreatDoor

/-- What bytes begin with: the value, what is behind, the error. -/
structure Rd where
  k : Int
  n : Int
  b : Int
  s : List UInt8
  r : List UInt8
  e : Int
def Rd.bad (e : Int) : Rd := ⟨0, 0, 0, [], [], e⟩
end Go.Proofs.YtdonmbmahcjfbaaGreatDoor

namespace Go.Proofs.YtdonmbmahcjfbaaGreatDoor
open Go.RowKit

/-- A value. -/
structure V where
  k : Int
  n : Int
  b : Int
  s : List UInt8

def V.val (x : V) : Value := .agg #[.int .i64 x.k, .int .i64 x.n, .int .u64 x.b, .string ⟨x.s.toArray⟩]
def V.cells (x : V) : List Value := [.int .i64 x.k, .int .i64 x.n, .int .u64 x.b, .string ⟨x.s.toArray⟩]

/-- The bounds of a value's fields. -/
def V.ok (x : V) : Prop := Rl.U x.b ∧ -9223372036854775808 ≤ x.n ∧ x.n < 9223372036854775808

/-- Cell by cell. -/
def At (W : World) (p : Addr) (x : V) : Prop :=
  W.cell? p = some (.int .i64 x.k) ∧ W.cell? ⟨p.block, p.off + 1, none⟩ = some (.int .i64 x.n) ∧ W.cell? ⟨p.block, p.off + 2, none⟩ = some (.int .u64 x.b) ∧ W.cell? ⟨p.block, p.off + 3, none⟩ = some (.string ⟨x.s.toArray⟩)

/-- A slice of values. -/
def Sl (W : World) (ao : Option Addr) (xs : List V) : Prop := ∀ (i : Nat) (x : V), xs[i]? = some x → ∃ a, ao = some a ∧ At W (a.add (i * 4)) x

theorem Sl.below {W W' : World} {ao : Option Addr} {xs : List V} (h : Sl W ao xs) (hb : Below W.heap.size W W') : Sl W' ao xs := by
  intro i x hi
  obtain ⟨a, ha, h0, h1, h2, h3⟩ := h i x hi
  exact ⟨a, ha, keep0 h0 hb, keep0 h1 hb, keep0 h2 hb, keep0 h3 hb⟩

set_option maxHeartbeats 1000000 in
theorem few_yes (xs : List V) (ao : Option Addr) (cap : Nat) (w : World) (h : Sl w ao xs) (hl : xs.length ≤ 30) (hs : ∀ x ∈ xs, x.s.length ≤ 2000) :
    Calls Tryz.prog 8 #[.slice ao xs.length cap] w fun e w' => e = .returned (.int .i64 1) ∧ Below w.heap.size w w' := by
  have l1 : decide ((30 : Int) < (xs.length : Int)) = false := by rw [decide_eq_false_iff_not]; omega
  have H := Lib.hid (And.intro h (And.intro hl hs))
  clear h hl hs
  go_enter Tryz.func8, Tryz.ntmps8
  go_wp2
  go_loopw [3] (fun i wr => ∃ j : Nat, i = .int .i64 j ∧ j ≤ xs.length ∧ Below w.heap.size w wr) (fun i _ => xs.length - (intOf i).toNat)
  case atStart => exact ⟨0, rfl, Nat.zero_le _, Below.refl _ _⟩
  case round =>
    obtain ⟨j, rfl, hj, hb⟩ := hrel
    have HB := Lib.hid hb
    clear hb
    by_cases hlt : j < xs.length
    · obtain ⟨a, rfl, h0, h1, h2, h3⟩ := H.out.1.below HB.out j xs[j] (List.getElem?_eq_getElem hlt)
      have hw : wrap64 ((j : Int) + 1) = (j : Int) + 1 := by have := H.out.2.1; exact wrap_in _ (by omega) (by omega)
      go_wp2_with fail
      refine (few_1 _ _ _ _ _ (H.out.2.2 _ (List.getElem_mem hlt))).mono ?_
      rintro e w1 ⟨rfl, hb1⟩
      have HB1 := Lib.hid (HB.out.trans (hb1.mono HB.out.size))
      clear hb1
      go_wp2
      go_roundw
      case rel => exact ⟨j + 1, by go_num, hlt, HB1.out⟩
      case measure => rw [hw]; simp [intOf]; omega
    · obtain rfl : j = xs.length := by omega
      go_wp2
      go_ret
      exact ⟨rfl, HB.out⟩

set_option maxHeartbeats 1000000 in
theorem few_no (xs : List V) (ao : Option Addr) (cap : Nat) (w : World) (h : Sl w ao xs) (hn : ¬ (xs.length ≤ 30 ∧ ∀ x ∈ xs, x.s.length ≤ 2000)) :
    Calls Tryz.prog 8 #[.slice ao xs.length cap] w fun e w' => e = .returned (.int .i64 0) ∧ Below w.heap.size w w' := by
  by_cases hl : xs.length ≤ 30
  · have l1 : decide ((30 : Int) < (xs.length : Int)) = false := by rw [decide_eq_false_iff_not]; omega
    have H := Lib.hid (And.intro h (And.intro hl hn))
    clear h hl hn
    go_enter Tryz.func8, Tryz.ntmps8
    go_wp2
    go_loopw [3] (fun i wr => ∃ j : Nat, i = .int .i64 j ∧ j ≤ xs.length ∧ Below w.heap.size w wr ∧ ∀ x ∈ xs.take j, x.s.length ≤ 2000) (fun i _ => xs.length - (intOf i).toNat)
    case atStart => exact ⟨0, rfl, Nat.zero_le _, Below.refl _ _, by simp⟩
    case round =>
      obtain ⟨j, rfl, hj, hb, ha⟩ := hrel
      have HB := Lib.hid (And.intro hb ha)
      clear hb ha
      by_cases hlt : j < xs.length
      · obtain ⟨a, rfl, h0, h1, h2, h3⟩ := H.out.1.below HB.out.1 j xs[j] (List.getElem?_eq_getElem hlt)
        have hw : wrap64 ((j : Int) + 1) = (j : Int) + 1 := by have := H.out.2.1; exact wrap_in _ (by omega) (by omega)
        by_cases hs : xs[j].s.length ≤ 2000
        · have HB2 := Lib.hid (show ∀ x ∈ xs.take (j + 1), x.s.length ≤ 2000 from by
            rw [List.take_succ_eq_append_getElem hlt]
            intro x hx
            rcases List.mem_append.1 hx with g | g
            · exact HB.out.2 x g
            · obtain rfl := List.mem_singleton.1 g; exact hs)
          have HS := Lib.hid hs
          clear hs
          go_wp2_with fail
          refine (few_1 _ _ _ _ _ HS.out).mono ?_
          rintro e w1 ⟨rfl, hb1⟩
          have HB1 := Lib.hid (HB.out.1.trans (hb1.mono HB.out.1.size))
          clear hb1
          go_wp2
          go_roundw
          case rel => exact ⟨j + 1, by go_num, hlt, HB1.out, HB2.out⟩
          case measure => rw [hw]; simp [intOf]; omega
        · have HS := Lib.hid hs
          clear hs
          go_wp2_with fail
          refine (few_0 _ _ _ _ _ (Nat.lt_of_not_le HS.out)).mono ?_
          rintro e w1 ⟨rfl, hb1⟩
          have HB1 := Lib.hid (HB.out.1.trans (hb1.mono HB.out.1.size))
          clear hb1
          go_wp2
          go_ret
          exact ⟨rfl, HB1.out⟩
      · exfalso
        refine H.out.2.2 ⟨H.out.2.1, ?_⟩
        have := HB.out.2
        rwa [List.take_of_length_le (by omega)] at this
  · have l1 : (30 : Int) < (xs.length : Int) := by omega
    clear h hn hl
    go_enter Tryz.func8, Tryz.ntmps8
    go_wp2
    go_ret
    exact ⟨rfl, Below.refl _ _⟩

end Go.Proofs.YtdonmbmahcjfbaaGreatDoor
