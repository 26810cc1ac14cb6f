/-
  What Find answers, the program's (by slices.Index) and the document's; what Few answers. Conditions: the bounds named in each theorem.
-/
import Derived.Test.YtjmkodlmbkjegaaNmRow
namespace Go.Proofs.Ytjmkodlmbkjegaa
open Go.RowKit Nm

theorem leq_f {s t : S} (h : s ≠ t) : (s == t) = false := by simp [h]
theorem leq_t {s t : S} (h : s = t) : (s == t) = true := by simp [h]

set_option maxHeartbeats 1000000 in
theorem index_is (l : List S) (s : S) (ao : Option Addr) (cap : Nat) (w : World) (h : SlS w ao l) (hl : l.length ≤ 1000000) :
    Calls Try.prog 20 #[.slice ao l.length cap, .string ⟨s.toArray⟩] w fun e w' => e = .returned (.int .i64 (fi l s)) ∧ w = w' := by
  have H := Lib.hid (And.intro h hl)
  clear h hl
  go_enter Try.func20, Try.ntmps20
  go_wp2
  go_loop [8] (fun i => ∃ j : Nat, i = .int .i64 j ∧ j ≤ l.length ∧ s ∉ l.take j) (fun i => l.length - (intOf i).toNat)
  case atStart => exact ⟨0, rfl, Nat.zero_le _, by simp⟩
  case round =>
    obtain ⟨j, rfl, hj, hn⟩ := hrel
    have J := Lib.hid hn
    clear hn
    by_cases hlt : j < l.length
    · obtain ⟨a, rfl, h0⟩ := H.out.1 j l[j] (List.getElem?_eq_getElem hlt)
      have hw : wrap64 ((j : Int) + 1) = (j : Int) + 1 := by have := H.out.2; exact wrap_in _ (by omega) (by omega)
      obtain ⟨x, hx⟩ : ∃ x, l[j] = x := ⟨_, rfl⟩
      rw [hx] at h0
      by_cases he : s = x
      · have X := Lib.hid (fi_at l s j hlt (hx.trans he.symm) J.out)
        have e := leq_t he
        clear hx he
        go_wp2
        go_ret
        exact ⟨ret_int X.out.symm, rfl⟩
      · have X := Lib.hid (take_none hlt J.out (by rw [hx]; exact fun g => he g.symm))
        have e := leq_f he
        clear hx he
        go_wp2
        go_round
        case rel => exact ⟨j + 1, by go_num, hlt, X.out⟩
        case measure => rw [hw]; simp [intOf]; omega
    · obtain rfl : j = l.length := by omega
      have X := Lib.hid (fi_none l s (by have := J.out; rwa [List.take_length] at this))
      go_wp2
      go_ret
      exact ⟨ret_int X.out.symm, rfl⟩

theorem find_is (l : List S) (s : S) (n : Nat) (F : Int) (ao : Option Addr) (cap : Nat) (w : World) (hn : l.length = n) (h : SlS w ao l) (hl : l.length ≤ 1000000) (hF : fi l s = F) :
    Calls Try.prog 10 #[.slice ao n cap, .string ⟨s.toArray⟩] w fun e w' => e = .returned (.int .i64 F) ∧ w = w' := by
  subst hn hF
  have H := Lib.hid (And.intro h hl)
  clear h hl
  go_enter Try.func10, Try.ntmps10
  go_wp2_with fail
  refine (index_is l s ao cap _ H.out.1 H.out.2).mono ?_
  rintro e w' ⟨rfl, rfl⟩
  go_wp2
  go_ret
  exact ⟨rfl, rfl⟩

set_option maxHeartbeats 1000000 in
theorem rfind_any (l : List S) (s : S) (ao : Option Addr) (cap : Nat) (w : World) (h : SlS w ao l) (hl : l.length ≤ 1000000) :
    Calls Try.prog 11 #[.slice ao l.length cap, .string ⟨s.toArray⟩] w fun e w' => e = .returned (.int .i64 (fi l s)) ∧ w = w' := by
  have H := Lib.hid (And.intro h hl)
  clear h hl
  go_enter Try.func11, Try.ntmps11
  go_wp2
  go_loop [5] (fun i => ∃ j : Nat, i = .int .i64 j ∧ j ≤ l.length ∧ s ∉ l.take j) (fun i => l.length - (intOf i).toNat)
  case atStart => exact ⟨0, rfl, Nat.zero_le _, by simp⟩
  case round =>
    obtain ⟨j, rfl, hj, hn⟩ := hrel
    have J := Lib.hid hn
    clear hn
    by_cases hlt : j < l.length
    · obtain ⟨a, rfl, h0⟩ := H.out.1 j l[j] (List.getElem?_eq_getElem hlt)
      have hw : wrap64 ((j : Int) + 1) = (j : Int) + 1 := by have := H.out.2; exact wrap_in _ (by omega) (by omega)
      obtain ⟨x, hx⟩ : ∃ x, l[j] = x := ⟨_, rfl⟩
      rw [hx] at h0
      by_cases he : s = x
      · have X := Lib.hid (fi_at l s j hlt (hx.trans he.symm) J.out)
        have e := leq_t he.symm
        clear hx he
        go_wp2
        go_ret
        exact ⟨ret_int X.out.symm, rfl⟩
      · have X := Lib.hid (take_none hlt J.out (by rw [hx]; exact fun g => he g.symm))
        have e := leq_f (fun g => he g.symm)
        clear hx he
        go_wp2
        go_round
        case rel => exact ⟨j + 1, by go_num, hlt, X.out⟩
        case measure => rw [hw]; simp [intOf]; omega
    · obtain rfl : j = l.length := by omega
      have X := Lib.hid (fi_none l s (by have := J.out; rwa [List.take_length] at this))
      go_wp2
      go_ret
      exact ⟨ret_int X.out.symm, rfl⟩

theorem rfind_is (l : List S) (s : S) (n : Nat) (F : Int) (ao : Option Addr) (cap : Nat) (w : World) (hn : l.length = n) (h : SlS w ao l) (hl : l.length ≤ 1000000) (hF : fi l s = F) :
    Calls Try.prog 11 #[.slice ao n cap, .string ⟨s.toArray⟩] w fun e w' => e = .returned (.int .i64 F) ∧ w = w' := by
  subst hn hF
  exact rfind_any l s ao cap w h hl

/-- Few enough. -/
def Fw (l : List S) : Prop := l.length ≤ 60 ∧ ∀ s ∈ l, s.length ≤ 500

set_option maxHeartbeats 1000000 in
theorem few_yes (l : List S) (ao : Option Addr) (cap : Nat) (w : World) (h : SlS w ao l) (hf : Fw l) :
    Calls Try.prog 9 #[.slice ao l.length cap] w fun e w' => e = .returned (.int .i64 1) ∧ w = w' := by
  have l1 : decide ((60 : Int) < (l.length : Int)) = false := by rw [decide_eq_false_iff_not]; have := hf.1; omega
  have H := Lib.hid (And.intro h hf)
  clear h hf
  go_enter Try.func9, Try.ntmps9
  go_wp2
  go_loop [3] (fun i => ∃ j : Nat, i = .int .i64 j ∧ j ≤ l.length) (fun i => l.length - (intOf i).toNat)
  case atStart => exact ⟨0, rfl, Nat.zero_le _⟩
  case round =>
    obtain ⟨j, rfl, hj⟩ := hrel
    by_cases hlt : j < l.length
    · obtain ⟨a, rfl, h0⟩ := H.out.1 j l[j] (List.getElem?_eq_getElem hlt)
      have hw : wrap64 ((j : Int) + 1) = (j : Int) + 1 := by have := H.out.2.1; exact wrap_in _ (by omega) (by omega)
      have hs := H.out.2.2 _ (List.getElem_mem hlt)
      obtain ⟨x, hx⟩ : ∃ x, l[j] = x := ⟨_, rfl⟩
      rw [hx] at h0 hs
      have l2 : decide ((500 : Int) < (x.length : Int)) = false := by rw [decide_eq_false_iff_not]; omega
      clear hx hs
      go_wp2
      go_round
      case rel => exact ⟨j + 1, by go_num, hlt⟩
      case measure => rw [hw]; simp [intOf]; omega
    · obtain rfl : j = l.length := by omega
      go_wp2
      go_ret
      exact ⟨rfl, rfl⟩

set_option maxHeartbeats 1000000 in
theorem few_no (l : List S) (ao : Option Addr) (cap : Nat) (w : World) (h : SlS w ao l) (hn : ¬ Fw l) :
    Calls Try.prog 9 #[.slice ao l.length cap] w fun e w' => e = .returned (.int .i64 0) ∧ w = w' := by
  by_cases hl : l.length ≤ 60
  · have l1 : decide ((60 : Int) < (l.length : Int)) = false := by rw [decide_eq_false_iff_not]; omega
    have H := Lib.hid (And.intro h (And.intro hl hn))
    clear h hl hn
    go_enter Try.func9, Try.ntmps9
    go_wp2
    go_loop [3] (fun i => ∃ j : Nat, i = .int .i64 j ∧ j ≤ l.length ∧ ∀ x ∈ l.take j, x.length ≤ 500) (fun i => l.length - (intOf i).toNat)
    case atStart => exact ⟨0, rfl, Nat.zero_le _, by simp⟩
    case round =>
      obtain ⟨j, rfl, hj, ha⟩ := hrel
      have J := Lib.hid ha
      clear ha
      by_cases hlt : j < l.length
      · obtain ⟨a, rfl, h0⟩ := H.out.1 j l[j] (List.getElem?_eq_getElem hlt)
        have hw : wrap64 ((j : Int) + 1) = (j : Int) + 1 := by have := H.out.2.1; exact wrap_in _ (by omega) (by omega)
        obtain ⟨x, hx⟩ : ∃ x, l[j] = x := ⟨_, rfl⟩
        by_cases hs : l[j].length ≤ 500
        · have J2 := Lib.hid (show ∀ x ∈ l.take (j + 1), x.length ≤ 500 from by
            rw [List.take_succ_eq_append_getElem hlt]
            intro x hx
            rcases List.mem_append.1 hx with g | g
            · exact J.out x g
            · obtain rfl := List.mem_singleton.1 g; exact hs)
          rw [hx] at h0 hs
          have l2 : decide ((500 : Int) < (x.length : Int)) = false := by rw [decide_eq_false_iff_not]; omega
          clear hx hs
          go_wp2
          go_round
          case rel => exact ⟨j + 1, by go_num, hlt, J2.out⟩
          case measure => rw [hw]; simp [intOf]; omega
        · rw [hx] at h0 hs
          have l2 : (500 : Int) < (x.length : Int) := by omega
          clear hx hs
          go_wp2
          go_ret
          exact ⟨rfl, rfl⟩
      · exfalso
        refine H.out.2.2 ⟨H.out.2.1, ?_⟩
        have := J.out
        rwa [List.take_of_length_le (by omega)] at this
  · have l1 : (60 : Int) < (l.length : Int) := by omega
    clear h hn hl
    go_enter Try.func9, Try.ntmps9
    go_wp2
    go_ret
    exact ⟨rfl, rfl⟩

end Go.Proofs.Ytjmkodlmbkjegaa
