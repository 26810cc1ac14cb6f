/-
  The walk of the law TidRises. Condition: the slice of numbers lies in memory.
-/
import Derived.Test.YtljgnflmomakaaaTdAwake
namespace Go.Proofs.Ytljgnflmomakaaa
open Go.RowKit

theorem keep0 {w w' : World} {p : Addr} {v : Value} (h : w.cell? p = some v) (hb : Below w.heap.size w w') : w'.cell? p = some v := by
  have hlt : p.block < w.heap.size := by
    unfold World.cell? at h
    rcases Nat.lt_or_ge p.block w.heap.size with hl | hl
    · exact hl
    · have hn : w.heap[p.block]? = none := Array.getElem?_eq_none hl
      simp [hn] at h
  exact (hb.cell hlt).trans h
def SlI (W : World) (ao : Option Addr) (t : List Int) : Prop := ∀ (i : Nat) (x : Int), t[i]? = some x → ∃ a, ao = some a ∧ W.cell? (a.add i) = some (.int .i64 x)
theorem SlI.below {W W' : World} {ao : Option Addr} {t : List Int} (h : SlI W ao t) (hb : Below W.heap.size W W') : SlI W' ao t := by
  intro i x hi
  obtain ⟨a, ha, h0⟩ := h i x hi
  exact ⟨a, ha, keep0 h0 hb⟩
theorem step1 {B : Nat} {w0 w1 w2 : World} (h : Below B w0 w1) (hb : Below w1.heap.size w1 w2) (hB : B ≤ w1.heap.size) : Below B w0 w2 := h.trans (hb.mono hB)
theorem wrap_in (x : Int) (h0 : -9223372036854775808 ≤ x) (h1 : x ≤ 9223372036854775807) : wrap64 x = x := by unfold wrap64; omega

/-- Where the words are: the last one told, or none yet. -/
def Td.at (p s la : Int) : Prop := Td.ins p = true ∧ Td.ins s = true ∧ (la = -1 ∨ la = p * 8388608 + s * 8)
/-- What Next tells behind (p, s), and its word. -/
theorem Td.rise {x p s la m a b : Int} (h : Td.at p s la) (hx : p ≤ x) (hn : Td.nx x p s m = (a, b, 0)) :
    a = x ∧ 1 ≤ b ∧ b ≤ m ∧ Td.at a b (a * 8388608 + b * 8) ∧ Td.mkw a b = a * 8388608 + b * 8 ∧ Td.mke a b = 0 ∧ (la = -1 ∨ 0 ≤ la ∧ Td.cm la (a * 8388608 + b * 8) = -1) := by
  obtain ⟨hp, hs, hl⟩ := h
  unfold Td.nx at hn
  split at hn
  · rename_i hh
    split at hn
    · cases hn
    · rename_i hm
      cases hn
      have bx := Td.ins_t hh.1
      have bm := Td.ins_t hh.2.2.2.1
      have bs := Td.ins_t hs
      have bp := Td.ins_t hp
      have hq : 1 ≤ Td.nq x p s := by unfold Td.nq; split <;> omega
      have ib : Td.ins (Td.nq x p s) = true := Td.ins_of (by omega) (by omega)
      have bq := Td.ins_t ib
      refine ⟨rfl, hq, by omega, ⟨hh.1, ib, Or.inr rfl⟩, ?_, ?_, ?_⟩
      · unfold Td.mkw; rw [if_pos ⟨hh.1, ib⟩]
      · unfold Td.mke; rw [if_pos ⟨hh.1, ib⟩]
      · rcases hl with h | h
        · exact Or.inl h
        · refine Or.inr ⟨by omega, ?_⟩
          obtain ⟨e1, e2, _⟩ := Td.of_mkw bp.1 bp.2 bs.1 bs.2
          obtain ⟨f1, f2, _⟩ := Td.of_mkw bx.1 bx.2 bq.1 bq.2
          rw [Td.cm_is, h, e1, e2, f1, f2, if_pos (by
            unfold Td.nq
            split <;> omega)]
  · cases hn

set_option maxHeartbeats 4000000 in
theorem rises_long (t : List Int) (m : Int) (ao : Option Addr) (ca : Nat) (w : World) (hl : 60 < t.length) :
    Calls Try.prog 7 #[.slice ao t.length ca, .int .i64 m] w fun e w' => e = .returned (.bool true) ∧ Below w.heap.size w w' := by
  have l1 : (60 : Int) < (t.length : Int) := by omega
  clear hl
  go_enter Try.func7, Try.ntmps7
  go_wp2_with fail
  refine (awake_any _).mono ?_
  rintro _ v ⟨rfl, hb⟩
  have B := Lib.hid hb
  clear hb
  go_wp2
  go_ret
  exact ⟨rfl, B.out⟩

set_option maxHeartbeats 8000000 in
theorem rises_short (t : List Int) (m : Int) (ao : Option Addr) (ca : Nat) (w : World) (hl : t.length ≤ 60) (ha : SlI w ao t) :
    Calls Try.prog 7 #[.slice ao t.length ca, .int .i64 m] w fun e w' => e = .returned (.bool true) ∧ Below w.heap.size w w' := by
  have l1 : decide ((60 : Int) < (t.length : Int)) = false := by rw [decide_eq_false_iff_not]; omega
  have H := Lib.hid (And.intro ha hl)
  clear ha hl
  go_enter Try.func7, Try.ntmps7
  go_wp2
  go_loopw [5, 6, 7, 8] (fun o5 o6 o7 o8 wr => ∃ (j : Nat) (p s la : Int), o5 = .int .i64 p ∧ o6 = .int .i64 s ∧ o7 = .int .i64 la ∧ o8 = .int .i64 j ∧ j ≤ t.length ∧ Td.at p s la ∧ Below w.heap.size w wr) (fun _ _ _ i _ => t.length - (intOf i).toNat)
  case atStart => exact ⟨0, 0, 0, -1, rfl, rfl, rfl, rfl, Nat.zero_le _, ⟨by decide, by decide, Or.inl rfl⟩, Below.refl _ _⟩
  case round =>
    obtain ⟨j, p, s, la, rfl, rfl, rfl, rfl, hj, hat, hbel⟩ := hrel
    have J := Lib.hid (And.intro hat hbel)
    clear hat hbel
    by_cases hlt : j < t.length
    · obtain ⟨q, rfl, q0⟩ := H.out.1.below J.out.2 j t[j] (List.getElem?_eq_getElem hlt)
      have hw : wrap64 ((j : Int) + 1) = (j : Int) + 1 := by have := H.out.2; exact wrap_in _ (by omega) (by omega)
      obtain ⟨x, hx⟩ : ∃ x, t[j] = x := ⟨_, rfl⟩
      rw [hx] at q0
      clear hx
      by_cases hneg : x < p
      · go_wp2
        go_roundw
        case rel => exact ⟨j + 1, p, s, la, rfl, rfl, rfl, by go_num, hlt, J.out.1, J.out.2⟩
        case measure => rw [hw]; simp [intOf]; omega
      · have n1 : decide (x < p) = false := by rw [decide_eq_false_iff_not]; exact hneg
        have G := Lib.hid (show p ≤ x by omega)
        clear hneg
        obtain ⟨⟨a, b, E⟩, hn⟩ : ∃ y, Td.nx x p s m = y := ⟨_, rfl⟩
        by_cases hE : E = 0
        · subst hE
          have R := Lib.hid (Td.rise J.out.1 G.out hn)
          have HN := Lib.hid hn
          clear hn
          obtain ⟨W1, hW1⟩ : ∃ W1, a * 8388608 + b * 8 = W1 := ⟨_, rfl⟩
          rw [hW1] at R
          clear hW1
          go_wp2_with fail
          refine (next_is x p s m a b 0 _ HN.out).mono ?_
          rintro _ w' ⟨rfl, rfl⟩
          go_wp2_with fail
          refine (make_is a b W1 0 _ R.out.2.2.2.2.1 R.out.2.2.2.2.2.1).mono ?_
          rintro _ w' ⟨rfl, rfl⟩
          obtain ⟨ra, rb0, rb1, rat, _, _, rla⟩ := R.out
          have RA := Lib.hid rat
          subst ra
          have n2 : decide (m < b) = false := by rw [decide_eq_false_iff_not]; omega
          have n3 : decide (b < 1) = false := by rw [decide_eq_false_iff_not]; omega
          clear rat R HN rb0 rb1
          rcases rla with hla | ⟨hl0, hcm⟩
          · subst hla
            go_wp2
            go_roundw
            case rel => exact ⟨j + 1, a, b, W1, rfl, rfl, rfl, by go_num, hlt, RA.out, J.out.2⟩
            case measure => rw [hw]; simp [intOf]; omega
          · have C := Lib.hid hcm
            have n4 : decide (0 ≤ la) = true := by rw [decide_eq_true_iff]; exact hl0
            clear hcm hl0
            go_wp2_with fail
            refine (cmp_is la W1 (-1) _ C.out).mono ?_
            rintro _ w2 ⟨rfl, hb⟩
            have q1 := keep0 q0 hb
            have K := Lib.hid (step1 J.out.2 hb J.out.2.size)
            clear hb q0
            go_wp2
            go_roundw
            case rel => exact ⟨j + 1, a, b, W1, rfl, rfl, rfl, by go_num, hlt, RA.out, K.out⟩
            case measure => rw [hw]; simp [intOf]; omega
        · have e1 : (E != 0) = true := by simp [hE]
          have e2 : (E == 0) = false := by simp [hE]
          have HN := Lib.hid hn
          clear hn hE
          go_wp2_with fail
          refine (next_is x p s m a b E _ HN.out).mono ?_
          rintro _ w' ⟨rfl, rfl⟩
          go_wp2
          go_roundw
          case rel => exact ⟨j + 1, p, s, la, rfl, rfl, rfl, by go_num, hlt, J.out.1, J.out.2⟩
          case measure => rw [hw]; simp [intOf]; omega
    · obtain rfl : j = t.length := by omega
      go_wp2_with fail
      refine (awake_any _).mono ?_
      rintro _ v ⟨rfl, hb⟩
      have B := Lib.hid (step1 J.out.2 hb J.out.2.size)
      clear hb
      go_wp2
      go_ret
      exact ⟨rfl, B.out⟩

theorem tidRises_walk (t : List Int) (m : Int) (ao : Option Addr) (ca : Nat) (w : World) (ha : SlI w ao t) :
    Calls Try.prog 7 #[.slice ao t.length ca, .int .i64 m] w fun e w' => e = .returned (.bool true) ∧ Below w.heap.size w w' := by
  by_cases hl : t.length ≤ 60
  · exact rises_short t m ao ca w hl ha
  · exact rises_long t m ao ca w (by omega)

end Go.Proofs.Ytljgnflmomakaaa
