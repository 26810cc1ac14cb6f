/-
  The walks of the laws RowsPuts, RowsReads, RowsBack, RowsTwo and RowsPicks. Condition: the bounds of the values' fields.
-/
import Derived.Test.YtcpcbnlgmhkdkaaRwAwake
namespace Go.Proofs.Ytcpcbnlgmhkdkaa
open Go.RowKit

/-- Few enough. -/
def Fw (xs : List V) : Prop := xs.length ≤ 30 ∧ ∀ x ∈ xs, x.s.length ≤ 2000
theorem ra_shape (l : List UInt8) : (ra l).2 = 0 ∨ (ra l).1 = [] := by
  unfold ra rf
  (repeat' split) <;> simp
theorem ra_len (l : List UInt8) : (ra l).1.length ≤ 8 := by
  rcases ra_shape l with h | h
  · exact (ra_back (Prod.ext rfl h : ra l = ((ra l).1, 0))).2.2.1
  · rw [h]; simp

set_option maxHeartbeats 2000000 in
theorem puts_no (xs : List V) (ao : Option Addr) (cap : Nat) (w : World) (h : Sl w ao xs) (hf : ¬ Fw xs) :
    Calls Try.prog 3 #[.slice ao xs.length cap] w fun e w' => e = .returned (.bool true) ∧ Below w.heap.size w w' := by
  have H := Lib.hid (And.intro h hf)
  clear h hf
  go_enter Try.func3, Try.ntmps3
  go_wp2_with fail
  refine (few_no xs ao cap _ H.out.1 H.out.2).mono ?_
  rintro e w1 ⟨rfl, hb⟩
  have A1 := Lib.hid hb
  clear hb
  go_wp2_with fail
  refine (awake_any _).mono ?_
  rintro e w2 ⟨rfl, hb⟩
  have A2 := Lib.hid (step0 A1.out hb)
  clear hb
  go_wp2
  go_ret
  exact ⟨rfl, A2.out⟩

set_option maxHeartbeats 2000000 in
theorem puts_yes (xs : List V) (ao : Option Addr) (cap : Nat) (T : List UInt8) (E : Int) (w : World) (h : Sl w ao xs) (hf : Fw xs) (ho : ∀ x ∈ xs, x.ok) (hT : pw xs = T) (hE : pe xs = E) :
    Calls Try.prog 3 #[.slice ao xs.length cap] w fun e w' => e = .returned (.bool true) ∧ Below w.heap.size w w' := by
  have H := Lib.hid (And.intro h (And.intro hf (And.intro ho (And.intro hT hE))))
  clear h hf ho hT hE
  go_enter Try.func3, Try.ntmps3
  go_wp2_with fail
  refine (few_yes xs ao cap _ H.out.1 H.out.2.1.1 H.out.2.1.2).mono ?_
  rintro e w1 ⟨rfl, hb⟩
  have A1 := Lib.hid hb
  clear hb
  go_wp2_with fail
  refine (put_x xs T E xs.length ao cap _ rfl (H.out.1.below A1.out) H.out.2.2.1 H.out.2.2.2.1 H.out.2.2.2.2).mono ?_
  rintro e w2 ⟨rfl, hb⟩
  have A2 := Lib.hid (step0 A1.out hb)
  clear hb
  go_wp2_with fail
  refine (dput_x xs T E xs.length ao cap _ rfl (H.out.1.below A2.out) H.out.2.2.1 H.out.2.2.2.1 H.out.2.2.2.2).mono ?_
  rintro e w3 ⟨rfl, hb⟩
  have A3 := Lib.hid (step0 A2.out hb)
  clear hb
  go_wp2_with fail
  refine (awake_any _).mono ?_
  rintro e w4 ⟨rfl, hb⟩
  have A4 := Lib.hid (step0 A3.out hb)
  clear hb
  go_wp2
  go_ret
  exact ⟨rfl, A4.out⟩

theorem rowsPuts_walk (xs : List V) (ao : Option Addr) (cap : Nat) (w : World) (h : Sl w ao xs) (ho : ∀ x ∈ xs, x.ok) :
    Calls Try.prog 3 #[.slice ao xs.length cap] w fun e w' => e = .returned (.bool true) ∧ Below w.heap.size w w' := by
  by_cases hf : Fw xs
  · exact puts_yes xs ao cap _ _ w h hf ho rfl rfl
  · exact puts_no xs ao cap w h hf

set_option maxHeartbeats 2000000 in
theorem reads_long (l : List UInt8) (w : World) (hl : 2000 < l.length) :
    Calls Try.prog 4 #[.string ⟨l.toArray⟩] w fun e w' => e = .returned (.bool true) ∧ Below w.heap.size w w' := by
  have l1 : (2000 : Int) < (l.length : Int) := by omega
  clear hl
  go_enter Try.func4, Try.ntmps4
  go_wp2_with fail
  refine (awake_any _).mono ?_
  rintro e w1 ⟨rfl, hb⟩
  have A1 := Lib.hid hb
  clear hb
  go_wp2
  go_ret
  exact ⟨rfl, A1.out⟩

set_option maxHeartbeats 2000000 in
theorem reads_bad (l : List UInt8) (xs : List V) (E : Int) (w : World) (hl : l.length ≤ 2000) (hr : ra l = (xs, E)) (hE : E ≠ 0) :
    Calls Try.prog 4 #[.string ⟨l.toArray⟩] w fun e w' => e = .returned (.bool true) ∧ Below w.heap.size w w' := by
  have e1 := bne_t hE
  have e2 := beq_f hE
  have l1 : decide ((2000 : Int) < (l.length : Int)) = false := by rw [decide_eq_false_iff_not]; omega
  have hxl : xs.length ≤ 1000000 := by have := ra_len l; rw [hr] at this; simp at this; omega
  have H := Lib.hid (And.intro (show l.length ≤ 1000000 by omega) (And.intro hr hxl))
  clear hl hr hxl
  go_enter Try.func4, Try.ntmps4
  go_wp2_with fail
  refine (read_x l xs E _ H.out.1 H.out.2.1).mono ?_
  rintro e w1 ⟨ao, ca, rfl, hs, hb⟩
  have A1 := Lib.hid hb
  have S1 := Lib.hid hs
  clear hs
  clear hb
  go_wp2_with fail
  refine (dread_x l xs E _ H.out.1 H.out.2.1).mono ?_
  rintro e w2 ⟨bo, cb, rfl, hs, hb⟩
  have A2 := Lib.hid (step0 A1.out hb)
  have S2 := Lib.hid (And.intro (S1.out.below hb) hs)
  clear hs
  clear hb
  go_wp2_with fail
  refine (same06 xs xs true ao bo ca cb _ H.out.2.2 S2.out.1 S2.out.2 (rs_self xs)).mono ?_
  rintro e w3 ⟨rfl, hb⟩
  have A3 := Lib.hid (step0 A2.out hb)
  have S3 := Lib.hid (S2.out.1.below hb)
  clear hb
  go_wp2_with fail
  refine (awake_any _).mono ?_
  rintro e w4 ⟨rfl, hb⟩
  have A4 := Lib.hid (step0 A3.out hb)
  clear hb
  go_wp2
  go_ret
  exact ⟨rfl, A4.out⟩

set_option maxHeartbeats 2000000 in
theorem reads_ok (l : List UInt8) (xs : List V) (w : World) (hl : l.length ≤ 2000) (hr : ra l = (xs, 0)) :
    Calls Try.prog 4 #[.string ⟨l.toArray⟩] w fun e w' => e = .returned (.bool true) ∧ Below w.heap.size w w' := by
  have HB := Lib.hid (ra_back hr)
  have l1 : decide ((2000 : Int) < (l.length : Int)) = false := by rw [decide_eq_false_iff_not]; omega
  have hxl : xs.length ≤ 1000000 := by have := ra_len l; rw [hr] at this; simp at this; omega
  have H := Lib.hid (And.intro (show l.length ≤ 1000000 by omega) (And.intro hr hxl))
  clear hl hr hxl
  go_enter Try.func4, Try.ntmps4
  go_wp2_with fail
  refine (read_x l xs 0 _ H.out.1 H.out.2.1).mono ?_
  rintro e w1 ⟨ao, ca, rfl, hs, hb⟩
  have A1 := Lib.hid hb
  have S1 := Lib.hid hs
  clear hs
  clear hb
  go_wp2_with fail
  refine (dread_x l xs 0 _ H.out.1 H.out.2.1).mono ?_
  rintro e w2 ⟨bo, cb, rfl, hs, hb⟩
  have A2 := Lib.hid (step0 A1.out hb)
  have S2 := Lib.hid (And.intro (S1.out.below hb) hs)
  clear hs
  clear hb
  go_wp2_with fail
  refine (same06 xs xs true ao bo ca cb _ H.out.2.2 S2.out.1 S2.out.2 (rs_self xs)).mono ?_
  rintro e w3 ⟨rfl, hb⟩
  have A3 := Lib.hid (step0 A2.out hb)
  have S3 := Lib.hid (S2.out.1.below hb)
  clear hb
  go_wp2_with fail
  refine (put_x xs l 0 xs.length ao ca _ rfl S3.out HB.out.2.2.2 HB.out.2.1 HB.out.1).mono ?_
  rintro e w4 ⟨rfl, hb⟩
  have A4 := Lib.hid (step0 A3.out hb)
  clear hb
  go_wp2_with fail
  refine (awake_any _).mono ?_
  rintro e w5 ⟨rfl, hb⟩
  have A5 := Lib.hid (step0 A4.out hb)
  clear hb
  go_wp2
  go_ret
  exact ⟨rfl, A5.out⟩

theorem rowsReads_walk (l : List UInt8) (w : World) :
    Calls Try.prog 4 #[.string ⟨l.toArray⟩] w fun e w' => e = .returned (.bool true) ∧ Below w.heap.size w w' := by
  by_cases hl : l.length ≤ 2000
  · obtain ⟨⟨xs, E⟩, hr⟩ : ∃ R, ra l = R := ⟨_, rfl⟩
    by_cases hE : E = 0
    · subst hE; exact reads_ok l xs w hl hr
    · exact reads_bad l xs E w hl hr hE
  · exact reads_long l w (by omega)

set_option maxHeartbeats 2000000 in
theorem back_no (xs : List V) (ao : Option Addr) (cap : Nat) (w : World) (h : Sl w ao xs) (hf : ¬ Fw xs) :
    Calls Try.prog 5 #[.slice ao xs.length cap] w fun e w' => e = .returned (.bool true) ∧ Below w.heap.size w w' := by
  have H := Lib.hid (And.intro h hf)
  clear h hf
  go_enter Try.func5, Try.ntmps5
  go_wp2_with fail
  refine (few_no xs ao cap _ H.out.1 H.out.2).mono ?_
  rintro e w1 ⟨rfl, hb⟩
  have A1 := Lib.hid hb
  clear hb
  go_wp2_with fail
  refine (awake_any _).mono ?_
  rintro e w2 ⟨rfl, hb⟩
  have A2 := Lib.hid (step0 A1.out hb)
  clear hb
  go_wp2
  go_ret
  exact ⟨rfl, A2.out⟩

set_option maxHeartbeats 2000000 in
theorem back_bad (xs : List V) (ao : Option Addr) (cap : Nat) (E : Int) (w : World) (h : Sl w ao xs) (hf : Fw xs) (ho : ∀ x ∈ xs, x.ok) (hE : pe xs = E) (h0 : E ≠ 0) :
    Calls Try.prog 5 #[.slice ao xs.length cap] w fun e w' => e = .returned (.bool true) ∧ Below w.heap.size w w' := by
  have e1 := bne_t h0
  have e2 := beq_f h0
  have H := Lib.hid (And.intro h (And.intro hf (And.intro ho (And.intro (pw_bad (by rw [hE]; exact h0)) hE))))
  clear h hf ho hE
  go_enter Try.func5, Try.ntmps5
  go_wp2_with fail
  refine (few_yes xs ao cap _ H.out.1 H.out.2.1.1 H.out.2.1.2).mono ?_
  rintro e w1 ⟨rfl, hb⟩
  have A1 := Lib.hid hb
  clear hb
  go_wp2_with fail
  refine (put_x xs [] E xs.length ao cap _ rfl (H.out.1.below A1.out) H.out.2.2.1 H.out.2.2.2.1 H.out.2.2.2.2).mono ?_
  rintro e w2 ⟨rfl, hb⟩
  have A2 := Lib.hid (step0 A1.out hb)
  clear hb
  go_wp2_with fail
  refine (awake_any _).mono ?_
  rintro e w3 ⟨rfl, hb⟩
  have A3 := Lib.hid (step0 A2.out hb)
  clear hb
  go_wp2
  go_ret
  exact ⟨rfl, A3.out⟩

set_option maxHeartbeats 2000000 in
theorem back_ok (xs : List V) (ao : Option Addr) (cap : Nat) (T : List UInt8) (w : World) (h : Sl w ao xs) (hf : Fw xs) (ho : ∀ x ∈ xs, x.ok) (hE : pe xs = 0) (hT : pw xs = T) :
    Calls Try.prog 5 #[.slice ao xs.length cap] w fun e w' => e = .returned (.bool true) ∧ Below w.heap.size w w' := by
  have HB := Lib.hid (And.intro (show T.length ≤ 1000000 from by rw [← hT]; have := pw_len xs; omega) (show ra T = (xs, 0) from by rw [← hT]; exact ra_pw hE ho))
  have H := Lib.hid (And.intro h (And.intro hf (And.intro ho (And.intro hT hE))))
  clear h hf ho hE hT
  go_enter Try.func5, Try.ntmps5
  go_wp2_with fail
  refine (few_yes xs ao cap _ H.out.1 H.out.2.1.1 H.out.2.1.2).mono ?_
  rintro e w1 ⟨rfl, hb⟩
  have A1 := Lib.hid hb
  clear hb
  go_wp2_with fail
  refine (put_x xs T 0 xs.length ao cap _ rfl (H.out.1.below A1.out) H.out.2.2.1 H.out.2.2.2.1 H.out.2.2.2.2).mono ?_
  rintro e w2 ⟨rfl, hb⟩
  have A2 := Lib.hid (step0 A1.out hb)
  clear hb
  go_wp2_with fail
  refine (read_x T xs 0 _ HB.out.1 HB.out.2).mono ?_
  rintro e w3 ⟨bo, cb, rfl, hs, hb⟩
  have A3 := Lib.hid (step0 A2.out hb)
  have S1 := Lib.hid hs
  clear hs
  clear hb
  go_wp2_with fail
  refine (same06 xs xs true ao bo cap cb _ (by have := H.out.2.1.1; omega) (H.out.1.below A3.out) S1.out (rs_self xs)).mono ?_
  rintro e w4 ⟨rfl, hb⟩
  have A4 := Lib.hid (step0 A3.out hb)
  clear hb
  go_wp2_with fail
  refine (awake_any _).mono ?_
  rintro e w5 ⟨rfl, hb⟩
  have A5 := Lib.hid (step0 A4.out hb)
  clear hb
  go_wp2
  go_ret
  exact ⟨rfl, A5.out⟩

theorem rowsBack_walk (xs : List V) (ao : Option Addr) (cap : Nat) (w : World) (h : Sl w ao xs) (ho : ∀ x ∈ xs, x.ok) :
    Calls Try.prog 5 #[.slice ao xs.length cap] w fun e w' => e = .returned (.bool true) ∧ Below w.heap.size w w' := by
  by_cases hf : Fw xs
  · by_cases hE : pe xs = 0
    · exact back_ok xs ao cap _ w h hf ho hE rfl
    · exact back_bad xs ao cap _ w h hf ho rfl hE
  · exact back_no xs ao cap w h hf

set_option maxHeartbeats 2000000 in
theorem two_no1 (xs ys : List V) (ao bo : Option Addr) (ca cb : Nat) (w : World) (h : Sl w ao xs) (hf : ¬ Fw xs) :
    Calls Try.prog 6 #[.slice ao xs.length ca, .slice bo ys.length cb] w fun e w' => e = .returned (.bool true) ∧ Below w.heap.size w w' := by
  have H := Lib.hid (And.intro h hf)
  clear h hf
  go_enter Try.func6, Try.ntmps6
  go_wp2_with fail
  refine (few_no xs ao ca _ H.out.1 H.out.2).mono ?_
  rintro e w1 ⟨rfl, hb⟩
  have A1 := Lib.hid hb
  clear hb
  go_wp2_with fail
  refine (awake_any _).mono ?_
  rintro e w2 ⟨rfl, hb⟩
  have A2 := Lib.hid (step0 A1.out hb)
  clear hb
  go_wp2
  go_ret
  exact ⟨rfl, A2.out⟩

set_option maxHeartbeats 2000000 in
theorem two_no2 (xs ys : List V) (ao bo : Option Addr) (ca cb : Nat) (w : World) (h : Sl w ao xs) (g : Sl w bo ys) (hf : Fw xs) (hg : ¬ Fw ys) :
    Calls Try.prog 6 #[.slice ao xs.length ca, .slice bo ys.length cb] w fun e w' => e = .returned (.bool true) ∧ Below w.heap.size w w' := by
  have H := Lib.hid (And.intro h (And.intro g (And.intro hf hg)))
  clear h g hf hg
  go_enter Try.func6, Try.ntmps6
  go_wp2_with fail
  refine (few_yes xs ao ca _ H.out.1 H.out.2.2.1.1 H.out.2.2.1.2).mono ?_
  rintro e w1 ⟨rfl, hb⟩
  have A1 := Lib.hid hb
  clear hb
  go_wp2_with fail
  refine (few_no ys bo cb _ (H.out.2.1.below A1.out) H.out.2.2.2).mono ?_
  rintro e w2 ⟨rfl, hb⟩
  have A2 := Lib.hid (step0 A1.out hb)
  clear hb
  go_wp2_with fail
  refine (awake_any _).mono ?_
  rintro e w3 ⟨rfl, hb⟩
  have A3 := Lib.hid (step0 A2.out hb)
  clear hb
  go_wp2
  go_ret
  exact ⟨rfl, A3.out⟩

set_option maxHeartbeats 2000000 in
theorem two_yes (xs ys : List V) (ao bo : Option Addr) (ca cb : Nat) (B : Bool) (C : Int) (w : World) (h : Sl w ao xs) (g : Sl w bo ys) (hf : Fw xs) (hg : Fw ys) (ho : ∀ x ∈ xs, x.ok) (hp : ∀ x ∈ ys, x.ok) (hB : rs xs ys = B) (hC : rc xs ys = C) :
    Calls Try.prog 6 #[.slice ao xs.length ca, .slice bo ys.length cb] w fun e w' => e = .returned (.bool true) ∧ Below w.heap.size w w' := by
  have H := Lib.hid (And.intro h (And.intro g (And.intro hf hg)))
  have O := Lib.hid (And.intro ho (And.intro hp (And.intro hB hC)))
  clear h g hf hg ho hp hB hC
  go_enter Try.func6, Try.ntmps6
  go_wp2_with fail
  refine (few_yes xs ao ca _ H.out.1 H.out.2.2.1.1 H.out.2.2.1.2).mono ?_
  rintro e w1 ⟨rfl, hb⟩
  have A1 := Lib.hid hb
  clear hb
  go_wp2_with fail
  refine (few_yes ys bo cb _ (H.out.2.1.below A1.out) H.out.2.2.2.1 H.out.2.2.2.2).mono ?_
  rintro e w2 ⟨rfl, hb⟩
  have A2 := Lib.hid (step0 A1.out hb)
  clear hb
  go_wp2_with fail
  refine (rowsSame_is xs ys B ao bo ca cb _ H.out.2.2.1.1 H.out.2.2.2.1 (H.out.1.below A2.out) (H.out.2.1.below A2.out) O.out.1 O.out.2.1 O.out.2.2.1).mono ?_
  rintro e w3 ⟨rfl, hb⟩
  have A3 := Lib.hid (step0 A2.out hb)
  clear hb
  go_wp2_with fail
  refine (same06 xs ys B ao bo ca cb _ (by have := H.out.2.2.1.1; omega) (H.out.1.below A3.out) (H.out.2.1.below A3.out) O.out.2.2.1).mono ?_
  rintro e w4 ⟨rfl, hb⟩
  have A4 := Lib.hid (step0 A3.out hb)
  clear hb
  go_wp2_with fail
  refine (rowsCmp_is xs ys C ao bo ca cb _ H.out.2.2.1.1 H.out.2.2.2.1 (H.out.1.below A4.out) (H.out.2.1.below A4.out) O.out.1 O.out.2.1 O.out.2.2.2).mono ?_
  rintro e w5 ⟨rfl, hb⟩
  have A5 := Lib.hid (step0 A4.out hb)
  clear hb
  go_wp2_with fail
  refine (cmp06 xs ys C ao bo ca cb _ H.out.2.2.1.1 H.out.2.2.2.1 (H.out.1.below A5.out) (H.out.2.1.below A5.out) O.out.1 O.out.2.1 O.out.2.2.2).mono ?_
  rintro e w6 ⟨rfl, hb⟩
  have A6 := Lib.hid (step0 A5.out hb)
  clear hb
  go_wp2_with fail
  refine (awake_any _).mono ?_
  rintro e w7 ⟨rfl, hb⟩
  have A7 := Lib.hid (step0 A6.out hb)
  clear hb
  go_wp2
  go_ret
  exact ⟨rfl, A7.out⟩

theorem rowsTwo_walk (xs ys : List V) (ao bo : Option Addr) (ca cb : Nat) (w : World) (h : Sl w ao xs) (g : Sl w bo ys) (ho : ∀ x ∈ xs, x.ok) (hp : ∀ x ∈ ys, x.ok) :
    Calls Try.prog 6 #[.slice ao xs.length ca, .slice bo ys.length cb] w fun e w' => e = .returned (.bool true) ∧ Below w.heap.size w w' := by
  by_cases hf : Fw xs
  · by_cases hg : Fw ys
    · exact two_yes xs ys ao bo ca cb _ _ w h g hf hg ho hp rfl rfl
    · exact two_no2 xs ys ao bo ca cb w h g hf hg
  · exact two_no1 xs ys ao bo ca cb w h hf

set_option maxHeartbeats 2000000 in
theorem picks_no (xs : List V) (t : List Int) (ao bo : Option Addr) (ca cb : Nat) (w : World) (h : Sl w ao xs) (hf : ¬ Fw xs) :
    Calls Try.prog 7 #[.slice ao xs.length ca, .slice bo t.length cb] w fun e w' => e = .returned (.bool true) ∧ Below w.heap.size w w' := by
  have H := Lib.hid (And.intro h hf)
  clear h hf
  go_enter Try.func7, Try.ntmps7
  go_wp2_with fail
  refine (few_no xs ao ca _ H.out.1 H.out.2).mono ?_
  rintro e w1 ⟨rfl, hb⟩
  have A1 := Lib.hid hb
  clear hb
  go_wp2_with fail
  refine (awake_any _).mono ?_
  rintro e w2 ⟨rfl, hb⟩
  have A2 := Lib.hid (step0 A1.out hb)
  clear hb
  go_wp2
  go_ret
  exact ⟨rfl, A2.out⟩

set_option maxHeartbeats 2000000 in
theorem picks_many (xs : List V) (t : List Int) (ao bo : Option Addr) (ca cb : Nat) (w : World) (h : Sl w ao xs) (hf : Fw xs) (hm : 50 < t.length) :
    Calls Try.prog 7 #[.slice ao xs.length ca, .slice bo t.length cb] w fun e w' => e = .returned (.bool true) ∧ Below w.heap.size w w' := by
  have l1 : (50 : Int) < (t.length : Int) := by omega
  have H := Lib.hid (And.intro h hf)
  clear h hf hm
  go_enter Try.func7, Try.ntmps7
  go_wp2_with fail
  refine (few_yes xs ao ca _ H.out.1 H.out.2.1 H.out.2.2).mono ?_
  rintro e w1 ⟨rfl, hb⟩
  have A1 := Lib.hid hb
  clear hb
  go_wp2_with fail
  refine (awake_any _).mono ?_
  rintro e w2 ⟨rfl, hb⟩
  have A2 := Lib.hid (step0 A1.out hb)
  clear hb
  go_wp2
  go_ret
  exact ⟨rfl, A2.out⟩

set_option maxHeartbeats 2000000 in
theorem picks_yes (xs : List V) (t : List Int) (ao bo : Option Addr) (ca cb : Nat) (ys : List V) (E : Int) (w : World) (h : Sl w ao xs) (g : SlI w bo t) (hf : Fw xs) (hm : t.length ≤ 50) (hr : pk xs t = (ys, E)) :
    Calls Try.prog 7 #[.slice ao xs.length ca, .slice bo t.length cb] w fun e w' => e = .returned (.bool true) ∧ Below w.heap.size w w' := by
  have l1 : decide ((50 : Int) < (t.length : Int)) = false := by rw [decide_eq_false_iff_not]; omega
  have hyl : ys.length ≤ 1000000 := by
    have e : (pk xs t).1.length ≤ t.length := by unfold pk ps; split <;> simp
    rw [hr] at e
    simp at e
    omega
  have H := Lib.hid (And.intro h (And.intro g (And.intro hf (And.intro hm (And.intro hr hyl)))))
  clear h g hf hm hr hyl
  go_enter Try.func7, Try.ntmps7
  go_wp2_with fail
  refine (few_yes xs ao ca _ H.out.1 H.out.2.2.1.1 H.out.2.2.1.2).mono ?_
  rintro e w1 ⟨rfl, hb⟩
  have A1 := Lib.hid hb
  clear hb
  go_wp2_with fail
  refine (pick_x xs t ys E xs.length t.length ao bo ca cb _ rfl rfl H.out.2.2.1.1 H.out.2.2.2.1 (H.out.1.below A1.out) (H.out.2.1.below A1.out) H.out.2.2.2.2.1).mono ?_
  rintro e w2 ⟨co, cc, rfl, hs, hb⟩
  have A2 := Lib.hid (step0 A1.out hb)
  have S1 := Lib.hid hs
  clear hs
  clear hb
  go_wp2_with fail
  refine (dpick_x xs t ys E xs.length t.length ao bo ca cb _ rfl rfl H.out.2.2.1.1 H.out.2.2.2.1 (H.out.1.below A2.out) (H.out.2.1.below A2.out) H.out.2.2.2.2.1).mono ?_
  rintro e w3 ⟨po, cd, rfl, hs, hb⟩
  have A3 := Lib.hid (step0 A2.out hb)
  have S2 := Lib.hid (And.intro (S1.out.below hb) hs)
  clear hs
  clear hb
  go_wp2_with fail
  refine (same06 ys ys true co po cc cd _ H.out.2.2.2.2.2 S2.out.1 S2.out.2 (rs_self ys)).mono ?_
  rintro e w4 ⟨rfl, hb⟩
  have A4 := Lib.hid (step0 A3.out hb)
  clear hb
  go_wp2_with fail
  refine (awake_any _).mono ?_
  rintro e w5 ⟨rfl, hb⟩
  have A5 := Lib.hid (step0 A4.out hb)
  clear hb
  go_wp2
  go_ret
  exact ⟨rfl, A5.out⟩

theorem rowsPicks_walk (xs : List V) (t : List Int) (ao bo : Option Addr) (ca cb : Nat) (w : World) (h : Sl w ao xs) (g : SlI w bo t) :
    Calls Try.prog 7 #[.slice ao xs.length ca, .slice bo t.length cb] w fun e w' => e = .returned (.bool true) ∧ Below w.heap.size w w' := by
  by_cases hf : Fw xs
  · by_cases hm : t.length ≤ 50
    · exact picks_yes xs t ao bo ca cb _ _ w h g hf hm rfl
    · exact picks_many xs t ao bo ca cb w h hf (by omega)
  · exact picks_no xs t ao bo ca cb w h hf

end Go.Proofs.Ytcpcbnlgmhkdkaa
