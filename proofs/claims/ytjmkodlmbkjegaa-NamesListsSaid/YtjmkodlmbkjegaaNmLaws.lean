/-
  The walks of the laws NamesChecks, NamesLists and NamesGone. No condition.
-/
import Derived.Test.YtjmkodlmbkjegaaNmAwake
namespace Go.Proofs.Ytjmkodlmbkjegaa
open Go.RowKit Nm

set_option maxHeartbeats 4000000 in
theorem checks_long (s : S) (w : World) (hl : 5000 < s.length) :
    Calls Try.prog 3 #[.string ⟨s.toArray⟩] w fun e w' => e = .returned (.bool true) ∧ Below w.heap.size w w' := by
  have l1 : (5000 : Int) < (s.length : Int) := by omega
  clear hl
  go_enter Try.func3, Try.ntmps3
  go_wp2_with fail
  refine (awake_any _).mono ?_
  rintro e v ⟨rfl, hb⟩
  have B := Lib.hid hb
  clear hb
  go_wp2
  go_ret
  exact ⟨rfl, B.out⟩
set_option maxHeartbeats 4000000 in
theorem checks_short (s : S) (E : Int) (w : World) (hl : s.length ≤ 5000) (hE : ck s = E) :
    Calls Try.prog 3 #[.string ⟨s.toArray⟩] w fun e w' => e = .returned (.bool true) ∧ Below w.heap.size w w' := by
  have l1 : decide ((5000 : Int) < (s.length : Int)) = false := by rw [decide_eq_false_iff_not]; omega
  have H := Lib.hid hE
  clear hl hE
  go_enter Try.func3, Try.ntmps3
  go_wp2_with fail
  refine (check_is s E _ H.out).mono ?_
  rintro e w' ⟨rfl, rfl⟩
  go_wp2_with fail
  refine (rcheck_is s E _ H.out).mono ?_
  rintro e w' ⟨rfl, rfl⟩
  go_wp2_with fail
  refine (awake_any _).mono ?_
  rintro e v ⟨rfl, hb⟩
  have B := Lib.hid hb
  clear hb
  go_wp2
  go_ret
  exact ⟨rfl, B.out⟩
theorem namesChecks_walk (s : S) (w : World) :
    Calls Try.prog 3 #[.string ⟨s.toArray⟩] w fun e w' => e = .returned (.bool true) ∧ Below w.heap.size w w' := by
  by_cases hl : s.length ≤ 5000
  · exact checks_short s _ w hl rfl
  · exact checks_long s w (by omega)

set_option maxHeartbeats 4000000 in
theorem lists_no1 (l m : List S) (s : S) (ao bo : Option Addr) (ca cb : Nat) (w : World) (h : SlS w ao l) (hf : ¬ Fw l) :
    Calls Try.prog 4 #[.slice ao l.length ca, .slice bo m.length cb, .string ⟨s.toArray⟩] w fun e w' => e = .returned (.bool true) ∧ Below w.heap.size w w' := by
  have H := Lib.hid (And.intro h hf)
  clear h hf
  go_enter Try.func4, Try.ntmps4
  go_wp2_with fail
  refine (few_no l ao ca _ H.out.1 H.out.2).mono ?_
  rintro e w' ⟨rfl, rfl⟩
  go_wp2_with fail
  refine (awake_any _).mono ?_
  rintro e v ⟨rfl, hb⟩
  have B := Lib.hid hb
  clear hb
  go_wp2
  go_ret
  exact ⟨rfl, B.out⟩
set_option maxHeartbeats 4000000 in
theorem lists_no2 (l m : List S) (s : S) (ao bo : Option Addr) (ca cb : Nat) (w : World) (h : SlS w ao l) (h1 : SlS w bo m) (hf : Fw l) (hg : ¬ Fw m) :
    Calls Try.prog 4 #[.slice ao l.length ca, .slice bo m.length cb, .string ⟨s.toArray⟩] w fun e w' => e = .returned (.bool true) ∧ Below w.heap.size w w' := by
  have H := Lib.hid (And.intro h (And.intro h1 (And.intro hf hg)))
  clear h h1 hf hg
  go_enter Try.func4, Try.ntmps4
  go_wp2_with fail
  refine (few_yes l ao ca _ H.out.1 H.out.2.2.1).mono ?_
  rintro e w' ⟨rfl, rfl⟩
  go_wp2_with fail
  refine (few_no m bo cb _ H.out.2.1 H.out.2.2.2).mono ?_
  rintro e w' ⟨rfl, rfl⟩
  go_wp2_with fail
  refine (awake_any _).mono ?_
  rintro e v ⟨rfl, hb⟩
  have B := Lib.hid hb
  clear hb
  go_wp2
  go_ret
  exact ⟨rfl, B.out⟩
set_option maxHeartbeats 4000000 in
theorem lists_long (l m : List S) (s : S) (ao bo : Option Addr) (ca cb : Nat) (w : World) (h : SlS w ao l) (h1 : SlS w bo m) (hf : Fw l) (hg : Fw m) (hl : 500 < s.length) :
    Calls Try.prog 4 #[.slice ao l.length ca, .slice bo m.length cb, .string ⟨s.toArray⟩] w fun e w' => e = .returned (.bool true) ∧ Below w.heap.size w w' := by
  have l1 : (500 : Int) < (s.length : Int) := by omega
  have H := Lib.hid (And.intro h (And.intro h1 (And.intro hf hg)))
  clear h h1 hf hg hl
  go_enter Try.func4, Try.ntmps4
  go_wp2_with fail
  refine (few_yes l ao ca _ H.out.1 H.out.2.2.1).mono ?_
  rintro e w' ⟨rfl, rfl⟩
  go_wp2_with fail
  refine (few_yes m bo cb _ H.out.2.1 H.out.2.2.2).mono ?_
  rintro e w' ⟨rfl, rfl⟩
  go_wp2_with fail
  refine (awake_any _).mono ?_
  rintro e v ⟨rfl, hb⟩
  have B := Lib.hid hb
  clear hb
  go_wp2
  go_ret
  exact ⟨rfl, B.out⟩
set_option maxHeartbeats 4000000 in
theorem lists_yes (l m : List S) (s : S) (ao bo : Option Addr) (ca cb : Nat) (F : Int) (B : Bool) (r : List S) (w : World) (h : SlS w ao l) (h1 : SlS w bo m) (hf : Fw l) (hg : Fw m) (hl : s.length ≤ 500) (hF : fi l s = F) (hB : un l = B) (hr : wo l m = r) :
    Calls Try.prog 4 #[.slice ao l.length ca, .slice bo m.length cb, .string ⟨s.toArray⟩] w fun e w' => e = .returned (.bool true) ∧ Below w.heap.size w w' := by
  have l1 : decide ((500 : Int) < (s.length : Int)) = false := by rw [decide_eq_false_iff_not]; omega
  have H := Lib.hid (And.intro h (And.intro h1 (And.intro hf hg)))
  have R := Lib.hid (And.intro hF (And.intro hB (And.intro hr (show r.length ≤ 1000000 from by
    have := wo_len l m l.length
    rw [List.take_length, hr] at this
    have := hf.1
    omega))))
  have hl60 := Lib.hid (show l.length ≤ 1000000 from by have := hf.1; omega)
  clear h h1 hf hg hl hF hB hr
  go_enter Try.func4, Try.ntmps4
  go_wp2_with fail
  refine (few_yes l ao ca _ H.out.1 H.out.2.2.1).mono ?_
  rintro e w' ⟨rfl, rfl⟩
  go_wp2_with fail
  refine (few_yes m bo cb _ H.out.2.1 H.out.2.2.2).mono ?_
  rintro e w' ⟨rfl, rfl⟩
  go_wp2_with fail
  refine (find_is l s _ F ao ca _ rfl H.out.1 hl60.out R.out.1).mono ?_
  rintro e w' ⟨rfl, rfl⟩
  go_wp2_with fail
  refine (rfind_is l s _ F ao ca _ rfl H.out.1 hl60.out R.out.1).mono ?_
  rintro e w' ⟨rfl, rfl⟩
  go_wp2_with fail
  refine (unlike_is l _ B ao ca _ rfl H.out.1 H.out.2.2.1 R.out.2.1).mono ?_
  rintro e w1 ⟨rfl, hb⟩
  have A1 := Lib.hid hb
  clear hb
  go_wp2_with fail
  refine (runlike_is l _ B ao ca _ rfl (H.out.1.below A1.out) H.out.2.2.1 R.out.2.1).mono ?_
  rintro e w' ⟨rfl, rfl⟩
  go_wp2_with fail
  refine (without_x l m r _ _ ao bo ca cb _ rfl rfl (H.out.1.below A1.out) (H.out.2.1.below A1.out) H.out.2.2.1 H.out.2.2.2 R.out.2.2.1).mono ?_
  rintro e w2 ⟨po, cp, rfl, hs, hb⟩
  have A2 := Lib.hid (And.intro (step0 A1.out hb) hs)
  clear hb hs
  go_wp2_with fail
  refine (rwithout_x l m r _ _ ao bo ca cb _ rfl rfl (H.out.1.below A2.out.1) (H.out.2.1.below A2.out.1) H.out.2.2.1 H.out.2.2.2 R.out.2.2.1).mono ?_
  rintro e w3 ⟨qo, cq, rfl, hs, hb⟩
  have A3 := Lib.hid (And.intro (step0 A2.out.1 hb) (And.intro (A2.out.2.below hb) hs))
  clear hb hs
  go_wp2_with fail
  refine (texts_same r po qo cp cq _ A3.out.2.1 A3.out.2.2 R.out.2.2.2).mono ?_
  rintro e w4 ⟨rfl, hb⟩
  have A4 := Lib.hid (step0 A3.out.1 hb)
  clear hb
  go_wp2_with fail
  refine (awake_any _).mono ?_
  rintro e v ⟨rfl, hb⟩
  have B := Lib.hid (step0 A4.out hb)
  clear hb
  go_wp2
  go_ret
  exact ⟨rfl, B.out⟩
theorem namesLists_walk (l m : List S) (s : S) (ao bo : Option Addr) (ca cb : Nat) (w : World) (h : SlS w ao l) (h1 : SlS w bo m) :
    Calls Try.prog 4 #[.slice ao l.length ca, .slice bo m.length cb, .string ⟨s.toArray⟩] w fun e w' => e = .returned (.bool true) ∧ Below w.heap.size w w' := by
  by_cases hf : Fw l
  · by_cases hg : Fw m
    · by_cases hl : s.length ≤ 500
      · exact lists_yes l m s ao bo ca cb _ _ _ w h h1 hf hg hl rfl rfl rfl
      · exact lists_long l m s ao bo ca cb w h h1 hf hg (by omega)
    · exact lists_no2 l m s ao bo ca cb w h h1 hf hg
  · exact lists_no1 l m s ao bo ca cb w h hf

set_option maxHeartbeats 4000000 in
theorem gone_no1 (l m : List S) (ao bo : Option Addr) (ca cb : Nat) (w : World) (h : SlS w ao l) (hf : ¬ Fw l) :
    Calls Try.prog 5 #[.slice ao l.length ca, .slice bo m.length cb] w fun e w' => e = .returned (.bool true) ∧ Below w.heap.size w w' := by
  have H := Lib.hid (And.intro h hf)
  clear h hf
  go_enter Try.func5, Try.ntmps5
  go_wp2_with fail
  refine (few_no l ao ca _ H.out.1 H.out.2).mono ?_
  rintro e w' ⟨rfl, rfl⟩
  go_wp2_with fail
  refine (awake_any _).mono ?_
  rintro e v ⟨rfl, hb⟩
  have B := Lib.hid hb
  clear hb
  go_wp2
  go_ret
  exact ⟨rfl, B.out⟩
set_option maxHeartbeats 4000000 in
theorem gone_no2 (l m : List S) (ao bo : Option Addr) (ca cb : Nat) (w : World) (h : SlS w ao l) (h1 : SlS w bo m) (hf : Fw l) (hg : ¬ Fw m) :
    Calls Try.prog 5 #[.slice ao l.length ca, .slice bo m.length cb] w fun e w' => e = .returned (.bool true) ∧ Below w.heap.size w w' := by
  have H := Lib.hid (And.intro h (And.intro h1 (And.intro hf hg)))
  clear h h1 hf hg
  go_enter Try.func5, Try.ntmps5
  go_wp2_with fail
  refine (few_yes l ao ca _ H.out.1 H.out.2.2.1).mono ?_
  rintro e w' ⟨rfl, rfl⟩
  go_wp2_with fail
  refine (few_no m bo cb _ H.out.2.1 H.out.2.2.2).mono ?_
  rintro e w' ⟨rfl, rfl⟩
  go_wp2_with fail
  refine (awake_any _).mono ?_
  rintro e v ⟨rfl, hb⟩
  have B := Lib.hid hb
  clear hb
  go_wp2
  go_ret
  exact ⟨rfl, B.out⟩
set_option maxHeartbeats 4000000 in
theorem gone_yes (l m : List S) (ao bo : Option Addr) (ca cb : Nat) (r : List S) (w : World) (h : SlS w ao l) (h1 : SlS w bo m) (hf : Fw l) (hg : Fw m) (hr : wo l m = r) :
    Calls Try.prog 5 #[.slice ao l.length ca, .slice bo m.length cb] w fun e w' => e = .returned (.bool true) ∧ Below w.heap.size w w' := by
  have H := Lib.hid (And.intro h (And.intro h1 (And.intro hf hg)))
  have R := Lib.hid (And.intro hr (And.intro (show r.length ≤ 60 from by
    have := wo_len l m l.length
    rw [List.take_length, hr] at this
    have := hf.1
    omega) (show ∀ x ∈ r, x ∉ m ∧ x ∈ l from fun x hx => by
    rw [← hr] at hx
    have := List.mem_filter.1 hx
    exact ⟨by simpa using this.2, this.1⟩)))
  have Z := Lib.hid (show (r.length : Int) + (gone l m : Int) = (l.length : Int) from by have := gone_all l m; rw [hr] at this; omega)
  have hl60 := Lib.hid (show l.length ≤ 60 ∧ m.length ≤ 60 from ⟨hf.1, hg.1⟩)
  clear h h1 hf hg hr
  go_enter Try.func5, Try.ntmps5
  go_wp2_with fail
  refine (few_yes l ao ca _ H.out.1 H.out.2.2.1).mono ?_
  rintro e w' ⟨rfl, rfl⟩
  go_wp2_with fail
  refine (few_yes m bo cb _ H.out.2.1 H.out.2.2.2).mono ?_
  rintro e w' ⟨rfl, rfl⟩
  go_wp2_with fail
  refine (without_x l m r _ _ ao bo ca cb _ rfl rfl H.out.1 H.out.2.1 H.out.2.2.1 H.out.2.2.2 R.out.1).mono ?_
  rintro e w1 ⟨po, cp, rfl, hs, hb⟩
  have A1 := Lib.hid (And.intro hb hs)
  clear hb hs
  go_wp2
  go_loop [6] (fun i => ∃ j : Nat, i = .int .i64 j ∧ j ≤ r.length) (fun i => r.length - (intOf i).toNat)
  case atStart => exact ⟨0, rfl, Nat.zero_le _⟩
  case round =>
    obtain ⟨j, rfl, hj⟩ := hrel
    by_cases hlt : j < r.length
    · obtain ⟨a, rfl, h0⟩ := A1.out.2 j r[j] (List.getElem?_eq_getElem hlt)
      have hw : wrap64 ((j : Int) + 1) = (j : Int) + 1 := by have := R.out.2.1; exact wrap_in _ (by omega) (by omega)
      have hin := R.out.2.2 _ (List.getElem_mem hlt)
      obtain ⟨x, hx⟩ : ∃ x, r[j] = x := ⟨_, rfl⟩
      rw [hx] at h0 hin
      obtain ⟨F, hF⟩ : ∃ F, fi m x = F := ⟨_, rfl⟩
      obtain ⟨G, hG⟩ : ∃ G, fi l x = G := ⟨_, rfl⟩
      have e1 : decide (0 ≤ F) = false := by
        rw [decide_eq_false_iff_not]
        have := (fi_lo m x).2 hin.1
        omega
      have e2 : decide (G < 0) = false := by
        rw [decide_eq_false_iff_not]
        intro g
        rw [← hG] at g
        exact (fi_lo l x).1 g hin.2
      have X := Lib.hid (And.intro hF hG)
      clear hx hF hG hin
      go_wp2_with fail
      refine (find_is m x _ F bo cb _ rfl (H.out.2.1.below A1.out.1) (by have := hl60.out.2; omega) X.out.1).mono ?_
      rintro e w' ⟨rfl, rfl⟩
      go_wp2_with fail
      refine (find_is l x _ G ao ca _ rfl (H.out.1.below A1.out.1) (by have := hl60.out.1; omega) X.out.2).mono ?_
      rintro e w' ⟨rfl, rfl⟩
      go_wp2
      go_round
      case rel => exact ⟨j + 1, by go_num, hlt⟩
      case measure => rw [hw]; simp [intOf]; omega
    · obtain rfl : j = r.length := by omega
      go_wp2
      go_loop [7, 8] (fun c i => ∃ j : Nat, i = .int .i64 j ∧ j ≤ l.length ∧ c = .int .i64 (gone (l.take j) m : Nat)) (fun _ i => l.length - (intOf i).toNat)
      case atStart => exact ⟨0, rfl, Nat.zero_le _, rfl⟩
      case round =>
        obtain ⟨j, rfl, hj, rfl⟩ := hrel
        by_cases hlt : j < l.length
        · obtain ⟨a, rfl, h0⟩ := H.out.1.below A1.out.1 j l[j] (List.getElem?_eq_getElem hlt)
          have hw : wrap64 ((j : Int) + 1) = (j : Int) + 1 := by have := hl60.out.1; exact wrap_in _ (by omega) (by omega)
          obtain ⟨x, hx⟩ : ∃ x, l[j] = x := ⟨_, rfl⟩
          rw [hx] at h0
          obtain ⟨F, hF⟩ : ∃ F, fi m x = F := ⟨_, rfl⟩
          have X := Lib.hid hF
          have lo := fi_lo m x
          rw [hF] at lo
          clear hF
          by_cases hm : x ∈ m
          · have e1 : decide (0 ≤ F) = true := by
              rw [decide_eq_true_iff]
              have : ¬ F < 0 := fun g => (lo.1 g) hm
              omega
            have N := Lib.hid (gone_in hlt (hx ▸ hm))
            have C := Lib.hid (show gone (l.take j) m ≤ 60 from by have := gone_le (l.take j) m; have := hl60.out.1; simp at *; omega)
            obtain ⟨c, hc⟩ : ∃ c, gone (l.take j) m = c := ⟨_, rfl⟩
            rw [hc] at N C ⊢
            have hw2 : wrap64 ((c : Int) + 1) = (c : Int) + 1 := by have := C.out; exact wrap_in _ (by omega) (by omega)
            clear hx hm lo hc
            go_wp2_with fail
            refine (find_is m x _ F bo cb _ rfl (H.out.2.1.below A1.out.1) (by have := hl60.out.2; omega) X.out).mono ?_
            rintro e w' ⟨rfl, rfl⟩
            go_wp2
            go_round
            case rel => exact ⟨j + 1, by go_num, hlt, by rw [N.out]; go_num⟩
            case measure => rw [hw]; simp [intOf]; omega
          · have e1 : decide (0 ≤ F) = false := by
              rw [decide_eq_false_iff_not]
              have := lo.2 hm
              omega
            have N := Lib.hid (gone_out hlt (hx ▸ hm))
            clear hx hm lo
            go_wp2_with fail
            refine (find_is m x _ F bo cb _ rfl (H.out.2.1.below A1.out.1) (by have := hl60.out.2; omega) X.out).mono ?_
            rintro e w' ⟨rfl, rfl⟩
            go_wp2
            go_round
            case rel => exact ⟨j + 1, by go_num, hlt, by rw [N.out]⟩
            case measure => rw [hw]; simp [intOf]; omega
        · obtain rfl : j = l.length := by omega
          rw [List.take_length]
          have z := Z.out
          have hz : wrap64 ((r.length : Int) + (gone l m : Int)) = (l.length : Int) := by rw [z]; have := hl60.out.1; exact wrap_in _ (by omega) (by omega)
          generalize gone l m = c at *
          clear z
          go_wp2_with fail
          refine (awake_any _).mono ?_
          rintro e v ⟨rfl, hb⟩
          have B := Lib.hid (step0 A1.out.1 hb)
          clear hb
          go_wp2
          go_ret
          exact ⟨rfl, B.out⟩
theorem namesGone_walk (l m : List S) (ao bo : Option Addr) (ca cb : Nat) (w : World) (h : SlS w ao l) (h1 : SlS w bo m) :
    Calls Try.prog 5 #[.slice ao l.length ca, .slice bo m.length cb] w fun e w' => e = .returned (.bool true) ∧ Below w.heap.size w w' := by
  by_cases hf : Fw l
  · by_cases hg : Fw m
    · exact gone_yes l m ao bo ca cb _ w h h1 hf hg rfl
    · exact gone_no2 l m ao bo ca cb w h h1 hf hg
  · exact gone_no1 l m ao bo ca cb w h hf

end Go.Proofs.Ytjmkodlmbkjegaa
