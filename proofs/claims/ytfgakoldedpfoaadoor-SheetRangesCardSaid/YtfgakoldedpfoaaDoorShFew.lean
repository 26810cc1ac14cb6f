/-
  A sheet that is not too great; lines that rise: the law's Few and Rises. Conditions: a sheet in memory.
-/
import Derived.Test.YtfgakoldedpfoaaDoorShCheck
import Derived.Test.YtfgakoldedpfoaaDoorTbFew
import Derived.BigQuiet
namespace Go.Proofs.YtfgakoldedpfoaaDoor
open Go.RowKit
set_option linter.unusedVariables false
set_option linter.unusedSimpArgs false

def Vf (xs : List V) : Prop := xs.length ≤ 30 ∧ ∀ x ∈ xs, x.s.length ≤ 2000
def Lf (z : LV) : Prop := z.k.length ≤ 2000 ∧ Vf z.xs
def Sf (t : T) (zs : List LV) : Prop := Tb t ∧ zs.length ≤ 40 ∧ ∀ z ∈ zs, Lf z
theorem ltake_all {zs : List LV} {j : Nat} (hj : j < zs.length) {p : LV → Prop} (h : ∀ c ∈ zs.take j, p c) (h1 : p zs[j]) : ∀ c ∈ zs.take (j + 1), p c := by
  intro c hc
  rw [List.take_succ_eq_append_getElem hj] at hc
  rcases List.mem_append.1 hc with hc | hc
  · exact h c hc
  · rw [List.mem_singleton] at hc
    subst hc; exact h1

set_option maxRecDepth 1000000 in
set_option maxHeartbeats 2000000 in
theorem sfew_yes (nm : Nm.S) (ks : Int) (cs : List C) (zs : List LV) (ao lo : Option Addr) (cap lc : Nat) (w : World) (hT : SlC w ao cs) (hL : LS w zs lo lc) (hf : Sf ⟨nm, ks, cs⟩ zs) :
    Calls Tryd.prog 6 #[.agg #[.string ⟨nm.toArray⟩, .int .i64 ks, .slice ao cs.length cap, .slice lo zs.length lc]] w fun e w' => e = .returned (.int .i64 1) ∧ Below w.heap.size w w' := by
  have hsz : zs.length < 4611686018427387904 := by have := hf.2.1; omega
  have l1 : decide ((40 : Int) < (zs.length : Int)) = false := by rw [decide_eq_false_iff_not]; have := hf.2.1; omega
  have H := Lib.hid (And.intro hT (And.intro hL hf))
  clear hT hL hf
  go_enter Tryd.func6, Tryd.ntmps6
  go_wp2_with fail
  refine (few_t ⟨nm, ks, cs⟩ ao cap _ (H.out.1.below (below1 _ _)) H.out.2.2.1).mono ?_
  rintro e w1 ⟨rfl, hb⟩
  have K1 := Lib.hid (Blk.sh hb)
  clear hb
  obtain ⟨⟨c0, c1, c2, c3⟩, _⟩ := K1.out.2.s4
  go_wp2
  clear c0 c1 c2 c3
  go_loopw [3] (fun i wr => ∃ j : Nat, i = .int .i64 j ∧ j ≤ zs.length ∧ Below w.heap.size w wr ∧ Blk wr w.heap.size #[.string ⟨nm.toArray⟩, .int .i64 ks, .slice ao cs.length cap, .slice lo zs.length lc] 27) (fun i _ => zs.length - (intOf i).toNat)
  case atStart => exact ⟨0, rfl, Nat.zero_le _, K1.out.1, K1.out.2⟩
  case round =>
    obtain ⟨j, rfl, hj, hb, hB⟩ := hrel
    have J := Lib.hid (And.intro hb hB)
    clear hb hB
    obtain ⟨⟨c0, c1, c2, c3⟩, _⟩ := J.out.2.s4
    by_cases hlt : j < zs.length
    · obtain ⟨a, ha, y0, y1⟩ := (H.out.2.1.1.below J.out.1) j zs[j] (List.getElem?_eq_getElem hlt)
      subst ha
      have hrow := H.out.2.1.2.1.at hlt
      have hlf := H.out.2.2.2.2 _ (List.getElem_mem hlt)
      obtain ⟨x, hx⟩ : ∃ x, zs[j] = x := ⟨_, rfl⟩
      rw [hx] at y0 y1 hrow hlf
      have j0 : (0 : Int) ≤ (j : Int) := by omega
      have j1 : (j : Int) < (zs.length : Int) := by omega
      have q1 : decide ((2000 : Int) < (x.k.length : Int)) = false := by rw [decide_eq_false_iff_not]; have := hlf.1; omega
      have X := Lib.hid (And.intro hrow.1 hlf.2)
      clear hrow hlf hx
      go_wp2_with fail
      refine (few_yes x.xs x.ao x.cap _ (X.out.1.below J.out.1) X.out.2.1 X.out.2.2).mono ?_
      rintro e w2 ⟨rfl, hb⟩
      have K := Lib.hid (And.intro (step0 J.out.1 hb) (J.out.2.below hb))
      clear hb
      go_wp2
      go_roundw
      case rel => exact ⟨j + 1, rfl, hlt, K.out.1, K.out.2⟩
      case measure => simp [intOf]; omega
    · obtain rfl : j = zs.length := by omega
      go_wp2
      go_ret
      exact ⟨rfl, J.out.1⟩

set_option maxRecDepth 1000000 in
set_option maxHeartbeats 2000000 in
theorem sfew_no (nm : Nm.S) (ks : Int) (cs : List C) (zs : List LV) (ao lo : Option Addr) (cap lc : Nat) (w : World) (hT : SlC w ao cs) (hL : LS w zs lo lc) (hf : ¬ Sf ⟨nm, ks, cs⟩ zs) :
    Calls Tryd.prog 6 #[.agg #[.string ⟨nm.toArray⟩, .int .i64 ks, .slice ao cs.length cap, .slice lo zs.length lc]] w fun e w' => e = .returned (.int .i64 0) ∧ Below w.heap.size w w' := by
  by_cases ht : Tb ⟨nm, ks, cs⟩
  case neg =>
    have H := Lib.hid (And.intro hT ht)
    clear hT hL hf ht
    go_enter Tryd.func6, Tryd.ntmps6
    go_wp2_with fail
    refine (few_n ⟨nm, ks, cs⟩ ao cap _ (H.out.1.below (below1 _ _)) H.out.2).mono ?_
    rintro e w1 ⟨rfl, hb⟩
    have K := Lib.hid (step1 (Below.refl _ w) hb)
    clear hb
    go_wp2
    go_ret
    exact ⟨rfl, K.out⟩
  by_cases hl : zs.length ≤ 40
  case neg =>
    have l1 : (40 : Int) < (zs.length : Int) := by omega
    have H := Lib.hid (And.intro hT ht)
    clear hT hL hf ht hl
    go_enter Tryd.func6, Tryd.ntmps6
    go_wp2_with fail
    refine (few_t ⟨nm, ks, cs⟩ ao cap _ (H.out.1.below (below1 _ _)) H.out.2).mono ?_
    rintro e w1 ⟨rfl, hb⟩
    have K1 := Lib.hid (Blk.sh hb)
    clear hb
    obtain ⟨⟨c0, c1, c2, c3⟩, _⟩ := K1.out.2.s4
    go_wp2
    go_ret
    exact ⟨rfl, K1.out.1⟩
  have hsz : zs.length < 4611686018427387904 := by omega
  have l1 : decide ((40 : Int) < (zs.length : Int)) = false := by rw [decide_eq_false_iff_not]; omega
  have H := Lib.hid (And.intro hT (And.intro hL (And.intro ht (show ¬ ∀ z ∈ zs, Lf z from fun h => hf ⟨ht, hl, h⟩))))
  clear hT hL hf ht hl
  go_enter Tryd.func6, Tryd.ntmps6
  go_wp2_with fail
  refine (few_t ⟨nm, ks, cs⟩ ao cap _ (H.out.1.below (below1 _ _)) H.out.2.2.1).mono ?_
  rintro e w1 ⟨rfl, hb⟩
  have K1 := Lib.hid (Blk.sh hb)
  clear hb
  obtain ⟨⟨c0, c1, c2, c3⟩, _⟩ := K1.out.2.s4
  go_wp2
  clear c0 c1 c2 c3
  go_loopw [3] (fun i wr => ∃ j : Nat, i = .int .i64 j ∧ j ≤ zs.length ∧ Below w.heap.size w wr ∧ Blk wr w.heap.size #[.string ⟨nm.toArray⟩, .int .i64 ks, .slice ao cs.length cap, .slice lo zs.length lc] 27 ∧ ∀ z ∈ zs.take j, Lf z) (fun i _ => zs.length - (intOf i).toNat)
  case atStart => exact ⟨0, rfl, Nat.zero_le _, K1.out.1, K1.out.2, by simp⟩
  case round =>
    obtain ⟨j, rfl, hj, hb, hB, hall⟩ := hrel
    have J := Lib.hid (And.intro hb (And.intro hB hall))
    clear hb hB hall
    obtain ⟨⟨c0, c1, c2, c3⟩, _⟩ := J.out.2.1.s4
    by_cases hlt : j < zs.length
    · obtain ⟨a, ha, y0, y1⟩ := (H.out.2.1.1.below J.out.1) j zs[j] (List.getElem?_eq_getElem hlt)
      subst ha
      have hrow := H.out.2.1.2.1.at hlt
      have hnx := fun h => ltake_all hlt J.out.2.2 h
      obtain ⟨x, hx⟩ : ∃ x, zs[j] = x := ⟨_, rfl⟩
      rw [hx] at y0 y1 hrow hnx
      have j0 : (0 : Int) ≤ (j : Int) := by omega
      have j1 : (j : Int) < (zs.length : Int) := by omega
      by_cases hk : x.k.length ≤ 2000
      · have q1 : decide ((2000 : Int) < (x.k.length : Int)) = false := by rw [decide_eq_false_iff_not]; omega
        by_cases hv : Vf x.xs
        · have X := Lib.hid (And.intro hrow.1 (And.intro hv (hnx ⟨hk, hv⟩)))
          clear hrow hnx hv hk hx
          go_wp2_with fail
          refine (few_yes x.xs x.ao x.cap _ (X.out.1.below J.out.1) X.out.2.1.1 X.out.2.1.2).mono ?_
          rintro e w2 ⟨rfl, hb⟩
          have K := Lib.hid (And.intro (step0 J.out.1 hb) (J.out.2.1.below hb))
          clear hb
          go_wp2
          go_roundw
          case rel => exact ⟨j + 1, rfl, hlt, K.out.1, K.out.2, X.out.2.2⟩
          case measure => simp [intOf]; omega
        · have X := Lib.hid (And.intro hrow.1 hv)
          clear hrow hnx hv hk hx
          go_wp2_with fail
          refine (few_no x.xs x.ao x.cap _ (X.out.1.below J.out.1) X.out.2).mono ?_
          rintro e w2 ⟨rfl, hb⟩
          have K := Lib.hid (step0 J.out.1 hb)
          clear hb
          go_wp2
          go_ret
          exact ⟨rfl, K.out⟩
      · have q1 : (2000 : Int) < (x.k.length : Int) := by omega
        clear hrow hnx hk hx
        go_wp2
        go_ret
        exact ⟨rfl, J.out.1⟩
    · exfalso
      refine H.out.2.2.2 ?_
      have := J.out.2.2
      rwa [List.take_of_length_le (by omega)] at this

def rup (zs : List LV) (j : Nat) : Prop := ∀ i (h : i + 1 < (lls zs).length), i + 1 < j → (lls zs)[i].k < (lls zs)[i + 1].k
theorem rup_next {zs : List LV} {j : Nat} (h : rup zs j) (h1 : 1 ≤ j) (hj : j < zs.length) (g : zs[j - 1].k < zs[j].k) : rup zs (j + 1) := by
  intro i hi hij
  rcases Nat.lt_or_ge (i + 1) j with e | e
  · exact h i hi e
  · obtain rfl : j = i + 1 := by omega
    rw [lls_at hj, lls_at (show i < zs.length by omega)]
    exact g
theorem rup_at {zs : List LV} (h : Ris (lls zs)) {j : Nat} (h1 : 1 ≤ j) (hj : j < zs.length) : zs[j - 1].k < zs[j].k := by
  have := List.pairwise_iff_getElem.1 h (j - 1) j (by rw [lls_len]; omega) (by rw [lls_len]; exact hj) (by omega)
  rw [lls_at hj, lls_at (show j - 1 < zs.length by omega)] at this
  exact this

set_option maxRecDepth 1000000 in
set_option maxHeartbeats 2000000 in
theorem rises_yes (nm : Nm.S) (ks : Int) (cs : List C) (zs : List LV) (ao lo : Option Addr) (cap lc : Nat) (w : World) (hL : SlL w lo zs) (hl : zs.length ≤ 1000) (hr : Ris (lls zs)) :
    Calls Tryd.prog 7 #[.agg #[.string ⟨nm.toArray⟩, .int .i64 ks, .slice ao cs.length cap, .slice lo zs.length lc]] w fun e w' => e = .returned (.int .i64 1) ∧ Below w.heap.size w w' := by
  have hsz : zs.length < 4611686018427387904 := by omega
  have H := Lib.hid (And.intro hL (And.intro hl hr))
  clear hL hl hr
  go_enter Tryd.func7, Tryd.ntmps7
  go_wp2
  go_loopw [3] (fun i wr => ∃ j : Nat, i = .int .i64 j ∧ 1 ≤ j ∧ j ≤ zs.length + 1 ∧ Below w.heap.size w wr ∧ Blk wr w.heap.size #[.string ⟨nm.toArray⟩, .int .i64 ks, .slice ao cs.length cap, .slice lo zs.length lc] 27 ∧ rup zs j) (fun i _ => zs.length - (intOf i).toNat)
  case atStart => exact ⟨1, rfl, Nat.le_refl _, by omega, below1 _ _, Blk.new _ _ _, fun i h g => by omega⟩
  case round =>
    obtain ⟨j, rfl, hj1, hj, hb, hB, hup⟩ := hrel
    have J := Lib.hid (And.intro hb (And.intro hB hup))
    clear hb hB hup
    obtain ⟨⟨c0, c1, c2, c3⟩, _⟩ := J.out.2.1.s4
    by_cases hlt : j < zs.length
    · obtain ⟨a, ha, y0, y1⟩ := (H.out.1.below J.out.1) j zs[j] (List.getElem?_eq_getElem hlt)
      subst ha
      have hlp : j - 1 < zs.length := by omega
      obtain ⟨a', ha', u0, u1⟩ := (H.out.1.below J.out.1) (j - 1) zs[j - 1] (List.getElem?_eq_getElem hlp)
      cases ha'
      have hnx := fun g => rup_next J.out.2.2 hj1 hlt g
      have h4 := rup_at H.out.2.2 hj1 hlt
      obtain ⟨x, hx⟩ : ∃ x, zs[j] = x := ⟨_, rfl⟩
      obtain ⟨y, hy⟩ : ∃ y, zs[j - 1] = y := ⟨_, rfl⟩
      rw [hx] at y0 y1 hnx h4
      rw [hy] at u0 u1 hnx h4
      clear hx hy
      have j0 : (0 : Int) ≤ (j : Int) := by omega
      have j1 : (j : Int) < (zs.length : Int) := by omega
      have j3 : (0 : Int) ≤ (j : Int) - 1 := by omega
      have j4 : (j : Int) - 1 < (zs.length : Int) := by omega
      have j5 : ((j : Int) - 1).toNat = j - 1 := by omega
      have j6 : (-9223372036854775808 : Int) ≤ (j : Int) - 1 := by omega
      have z9 : Op.bytesLess x.k y.k = false := by rw [Vl.less_eq]; simpa using List.le_of_lt h4
      have z8 : (x.k == y.k) = false := by rw [beq_eq_false_iff_ne]; exact fun e => key_irr y.k (by rw [e] at h4; exact h4)
      have Y := Lib.hid (hnx h4)
      clear hnx h4
      go_wp2_with fail
      go_quiet (fail)
      go_wp2
      go_roundw
      case rel => exact ⟨j + 1, rfl, by omega, by omega, below_drewV _ J.out.1, J.out.2.1, Y.out⟩
      case measure => simp [intOf]; omega
    · have X := Lib.hid (show True from trivial)
      have j7 : ¬ (j : Int) < (zs.length : Int) := by omega
      go_wp2
      go_ret
      exact ⟨rfl, J.out.1⟩

set_option maxRecDepth 1000000 in
set_option maxHeartbeats 2000000 in
theorem rises_no (nm : Nm.S) (ks : Int) (cs : List C) (zs : List LV) (ao lo : Option Addr) (cap lc : Nat) (w : World) (hL : SlL w lo zs) (hl : zs.length ≤ 1000) (hr : ¬ Ris (lls zs)) :
    Calls Tryd.prog 7 #[.agg #[.string ⟨nm.toArray⟩, .int .i64 ks, .slice ao cs.length cap, .slice lo zs.length lc]] w fun e w' => e = .returned (.int .i64 0) ∧ Below w.heap.size w w' := by
  have hsz : zs.length < 4611686018427387904 := by omega
  have H := Lib.hid (And.intro hL (And.intro hl hr))
  clear hL hl hr
  go_enter Tryd.func7, Tryd.ntmps7
  go_wp2
  go_loopw [3] (fun i wr => ∃ j : Nat, i = .int .i64 j ∧ 1 ≤ j ∧ j ≤ zs.length + 1 ∧ Below w.heap.size w wr ∧ Blk wr w.heap.size #[.string ⟨nm.toArray⟩, .int .i64 ks, .slice ao cs.length cap, .slice lo zs.length lc] 27 ∧ rup zs j) (fun i _ => zs.length - (intOf i).toNat)
  case atStart => exact ⟨1, rfl, Nat.le_refl _, by omega, below1 _ _, Blk.new _ _ _, fun i h g => by omega⟩
  case round =>
    obtain ⟨j, rfl, hj1, hj, hb, hB, hup⟩ := hrel
    have J := Lib.hid (And.intro hb (And.intro hB hup))
    clear hb hB hup
    obtain ⟨⟨c0, c1, c2, c3⟩, _⟩ := J.out.2.1.s4
    by_cases hlt : j < zs.length
    · obtain ⟨a, ha, y0, y1⟩ := (H.out.1.below J.out.1) j zs[j] (List.getElem?_eq_getElem hlt)
      subst ha
      have hlp : j - 1 < zs.length := by omega
      obtain ⟨a', ha', u0, u1⟩ := (H.out.1.below J.out.1) (j - 1) zs[j - 1] (List.getElem?_eq_getElem hlp)
      cases ha'
      have hnx := fun g => rup_next J.out.2.2 hj1 hlt g
      obtain ⟨x, hx⟩ : ∃ x, zs[j] = x := ⟨_, rfl⟩
      obtain ⟨y, hy⟩ : ∃ y, zs[j - 1] = y := ⟨_, rfl⟩
      rw [hx] at y0 y1 hnx
      rw [hy] at u0 u1 hnx
      clear hx hy
      have j0 : (0 : Int) ≤ (j : Int) := by omega
      have j1 : (j : Int) < (zs.length : Int) := by omega
      have j3 : (0 : Int) ≤ (j : Int) - 1 := by omega
      have j4 : (j : Int) - 1 < (zs.length : Int) := by omega
      have j5 : ((j : Int) - 1).toNat = j - 1 := by omega
      have j6 : (-9223372036854775808 : Int) ≤ (j : Int) - 1 := by omega
      by_cases h4 : y.k < x.k
      · have z9 : Op.bytesLess x.k y.k = false := by rw [Vl.less_eq]; simpa using List.le_of_lt h4
        have z8 : (x.k == y.k) = false := by rw [beq_eq_false_iff_ne]; exact fun e => key_irr y.k (by rw [e] at h4; exact h4)
        have Y := Lib.hid (hnx h4)
        clear hnx h4
        go_wp2_with fail
        go_quiet (fail)
        go_wp2
        go_roundw
        case rel => exact ⟨j + 1, rfl, by omega, by omega, below_drewV _ J.out.1, J.out.2.1, Y.out⟩
        case measure => simp [intOf]; omega
      · by_cases h5 : x.k = y.k
        · have z9 : Op.bytesLess x.k y.k = false := by rw [Vl.less_eq, h5]; simp
          have z8 : (x.k == y.k) = true := by simp [h5]
          clear hnx h4
          go_wp2_with fail
          go_quiet (fail)
          go_wp2
          go_ret
          exact ⟨rfl, below_drewV _ J.out.1⟩
        · have z9 : Op.bytesLess x.k y.k = true := by rw [Vl.less_eq]; simpa using key_or h4 (fun e => h5 e.symm)
          clear hnx h4
          go_wp2_with fail
          go_quiet (fail)
          go_wp2
          go_ret
          exact ⟨rfl, below_drewV _ J.out.1⟩
    · have X := Lib.hid (show False from H.out.2.2 (ris_step.2 fun i hi => J.out.2.2 i hi (by rw [lls_len] at hi; omega)))
      have j7 : ¬ (j : Int) < (zs.length : Int) := by omega
      exact X.out.elim

end Go.Proofs.YtfgakoldedpfoaaDoor
