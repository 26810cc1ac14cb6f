/-
  What Check answers, the program's and the document's. No condition.
-/
import Derived.Test.YtjmkodlmbkjegaaNmFind
namespace Go.Proofs.Ytjmkodlmbkjegaa
open Go.RowKit Nm

theorem dec_eq {p q : Prop} [Decidable p] [Decidable q] (h : p ↔ q) : decide p = decide q := by
  by_cases hp : p
  · rw [decide_eq_true hp, decide_eq_true (h.1 hp)]
  · rw [decide_eq_false hp, decide_eq_false (fun g => hp (h.2 g))]
def lz (n : Int) : Bool := decide (97 ≤ n) && decide (n ≤ 122)
def dz (n : Int) : Bool := decide (48 ≤ n) && decide (n ≤ 57)
theorem let_z (b : UInt8) : let' b = lz (b.toNat : Int) := by
  unfold let' lz
  rw [dec_eq (show (97 ≤ b.toNat) ↔ ((97 : Int) ≤ (b.toNat : Int)) by omega), dec_eq (show (b.toNat ≤ 122) ↔ ((b.toNat : Int) ≤ 122) by omega)]
theorem dig_z (b : UInt8) : dig b = dz (b.toNat : Int) := by
  unfold dig dz
  rw [dec_eq (show (48 ≤ b.toNat) ↔ ((48 : Int) ≤ (b.toNat : Int)) by omega), dec_eq (show (b.toNat ≤ 57) ↔ ((b.toNat : Int) ≤ 57) by omega)]

theorem letter_is (n : Int) (B : Bool) (w : World) (h : lz n = B) :
    Calls Try.prog 17 #[.int .u8 n] w fun e w' => e = .returned (.bool B) ∧ w = w' := by
  subst h
  unfold lz
  by_cases h1 : 97 ≤ n
  · by_cases h2 : n ≤ 122
    · have e1 : decide (97 ≤ n) = true := by rw [decide_eq_true_iff]; exact h1
      have e2 : decide (n ≤ 122) = true := by rw [decide_eq_true_iff]; exact h2
      rw [e1, e2]
      clear h1 h2
      go_enter Try.func17, Try.ntmps17
      go_wp2
      go_ret
      exact ⟨rfl, rfl⟩
    · have e1 : decide (97 ≤ n) = true := by rw [decide_eq_true_iff]; exact h1
      have e2 : decide (n ≤ 122) = false := by rw [decide_eq_false_iff_not]; exact h2
      rw [e1, e2]
      clear h1 h2
      go_enter Try.func17, Try.ntmps17
      go_wp2
      go_ret
      exact ⟨rfl, rfl⟩
  · have e1 : decide (97 ≤ n) = false := by rw [decide_eq_false_iff_not]; exact h1
    rw [e1, Bool.false_and]
    clear h1
    go_enter Try.func17, Try.ntmps17
    go_wp2
    go_ret
    exact ⟨rfl, rfl⟩

theorem digit_is (n : Int) (B : Bool) (w : World) (h : dz n = B) :
    Calls Try.prog 18 #[.int .u8 n] w fun e w' => e = .returned (.bool B) ∧ w = w' := by
  subst h
  unfold dz
  by_cases h1 : 48 ≤ n
  · by_cases h2 : n ≤ 57
    · have e1 : decide (48 ≤ n) = true := by rw [decide_eq_true_iff]; exact h1
      have e2 : decide (n ≤ 57) = true := by rw [decide_eq_true_iff]; exact h2
      rw [e1, e2]
      clear h1 h2
      go_enter Try.func18, Try.ntmps18
      go_wp2
      go_ret
      exact ⟨rfl, rfl⟩
    · have e1 : decide (48 ≤ n) = true := by rw [decide_eq_true_iff]; exact h1
      have e2 : decide (n ≤ 57) = false := by rw [decide_eq_false_iff_not]; exact h2
      rw [e1, e2]
      clear h1 h2
      go_enter Try.func18, Try.ntmps18
      go_wp2
      go_ret
      exact ⟨rfl, rfl⟩
  · have e1 : decide (48 ≤ n) = false := by rw [decide_eq_false_iff_not]; exact h1
    rw [e1, Bool.false_and]
    clear h1
    go_enter Try.func18, Try.ntmps18
    go_wp2
    go_ret
    exact ⟨rfl, rfl⟩

theorem rletter_is (n : Int) (B : Bool) (w : World) (h : lz n = B) :
    Calls Try.prog 19 #[.int .u8 n] w fun e w' => e = .returned (.bool B) ∧ w = w' := by
  subst h
  unfold lz
  by_cases h1 : 97 ≤ n
  · by_cases h2 : n ≤ 122
    · have e1 : decide (97 ≤ n) = true := by rw [decide_eq_true_iff]; exact h1
      have e2 : decide (n ≤ 122) = true := by rw [decide_eq_true_iff]; exact h2
      rw [e1, e2]
      clear h1 h2
      go_enter Try.func19, Try.ntmps19
      go_wp2
      go_ret
      exact ⟨rfl, rfl⟩
    · have e1 : decide (97 ≤ n) = true := by rw [decide_eq_true_iff]; exact h1
      have e2 : decide (n ≤ 122) = false := by rw [decide_eq_false_iff_not]; exact h2
      rw [e1, e2]
      clear h1 h2
      go_enter Try.func19, Try.ntmps19
      go_wp2
      go_ret
      exact ⟨rfl, rfl⟩
  · have e1 : decide (97 ≤ n) = false := by rw [decide_eq_false_iff_not]; exact h1
    rw [e1, Bool.false_and]
    clear h1
    go_enter Try.func19, Try.ntmps19
    go_wp2
    go_ret
    exact ⟨rfl, rfl⟩

theorem ck_nil : ck [] = 8 := by unfold ck; rw [if_pos (.inl rfl)]
theorem ck_long {s : S} (h : 16 < s.length) : ck s = 8 := by unfold ck; rw [if_pos (.inr (.inl h))]
theorem ck_head {x : UInt8} {t : S} (h : lz (x.toNat : Int) = false) : ck (x :: t) = 8 := by unfold ck; rw [if_pos (.inr (.inr (.inl (by rw [List.headD_cons, let_z]; exact h))))]
theorem ck_more {x : UInt8} {t : S} {j : Nat} (hj : j < t.length) (h : more t[j] = false) : ck (x :: t) = 8 := by
  have e : ((x :: t).drop 1).all more = false := by
    rw [List.drop_one, List.tail_cons, List.all_eq_false]
    exact ⟨_, List.getElem_mem hj, by rw [h]; simp⟩
  unfold ck
  rw [if_pos (.inr (.inr (.inr e)))]
theorem ck_ok {x : UInt8} {t : S} (h0 : t.length < 16) (h1 : lz (x.toNat : Int) = true) (h2 : t.all more = true) : ck (x :: t) = 0 := by
  unfold ck
  rw [if_neg]
  rintro (h | h | h | h)
  · cases h
  · simp at h; omega
  · rw [List.headD_cons, let_z, h1] at h; cases h
  · rw [List.drop_one, List.tail_cons, h2] at h; cases h
theorem more_l {b : UInt8} (h : lz (b.toNat : Int) = true) : more b = true := by unfold more; rw [let_z, h]; rfl
theorem more_d {b : UInt8} (h : dz (b.toNat : Int) = true) : more b = true := by unfold more; rw [dig_z, h]; simp
theorem more_u {b : UInt8} (h : b.toNat = 95) : more b = true := by unfold more; simp [h]
theorem more_n {b : UInt8} (h : lz (b.toNat : Int) = false) (h1 : dz (b.toNat : Int) = false) (h2 : b.toNat ≠ 95) : more b = false := by unfold more; rw [let_z, dig_z, h, h1]; simp [h2]
theorem all_step {t : S} {j : Nat} (hj : j < t.length) (h : (t.take j).all more = true) (h1 : more t[j] = true) : (t.take (j + 1)).all more = true := by
  rw [List.take_succ_eq_append_getElem hj, List.all_append, h]; simp [h1]

set_option maxHeartbeats 2000000 in
theorem check_nil (w : World) : Calls Try.prog 6 #[.string ⟨([] : S).toArray⟩] w fun e w' => e = .returned (.int .i64 8) ∧ w = w' := by
  go_enter Try.func6, Try.ntmps6
  go_wp2
  go_ret
  exact ⟨rfl, rfl⟩
set_option maxHeartbeats 2000000 in
theorem check_long (s : S) (w : World) (h : 16 < s.length) : Calls Try.prog 6 #[.string ⟨s.toArray⟩] w fun e w' => e = .returned (.int .i64 8) ∧ w = w' := by
  have l0 : ((s.length : Int) == 0) = false := beq_f (by omega)
  have l1 : (16 : Int) < (s.length : Int) := by omega
  clear h
  go_enter Try.func6, Try.ntmps6
  go_wp2
  go_ret
  exact ⟨rfl, rfl⟩
set_option maxHeartbeats 2000000 in
theorem check_head (x : UInt8) (t : S) (w : World) (h : t.length < 16) (hx : lz (x.toNat : Int) = false) : Calls Try.prog 6 #[.string ⟨(x :: t).toArray⟩] w fun e w' => e = .returned (.int .i64 8) ∧ w = w' := by
  obtain ⟨s, hs⟩ : ∃ s, s = x :: t := ⟨_, rfl⟩
  have h0 : 0 < s.length := by rw [hs]; simp
  have hl : s.length ≤ 16 := by rw [hs]; simp; omega
  have X := Lib.hid (show s[0] = x from by subst hs; rfl)
  rw [← hs]
  have l0 : ((s.length : Int) == 0) = false := beq_f (by omega)
  have l1 : decide ((16 : Int) < (s.length : Int)) = false := by rw [decide_eq_false_iff_not]; omega
  clear hs h hl
  go_enter Try.func6, Try.ntmps6
  go_wp2_with fail
  refine (letter_is _ false _ (by show lz ((s[0]).toNat : Int) = false; rw [X.out]; exact hx)).mono ?_
  rintro e w' ⟨rfl, rfl⟩
  go_wp2
  go_ret
  exact ⟨rfl, rfl⟩
set_option maxHeartbeats 4000000 in
theorem check_rest (x : UInt8) (t : S) (w : World) (h : t.length < 16) (hx : lz (x.toNat : Int) = true) : Calls Try.prog 6 #[.string ⟨(x :: t).toArray⟩] w fun e w' => e = .returned (.int .i64 (ck (x :: t))) ∧ w = w' := by
  obtain ⟨s, hs⟩ : ∃ s, s = x :: t := ⟨_, rfl⟩
  have h0 : 0 < s.length := by rw [hs]; simp
  have hl : s.length ≤ 16 := by rw [hs]; simp; omega
  have X := Lib.hid (show s[0] = x from by subst hs; rfl)
  have T := Lib.hid (And.intro hs (And.intro h hx))
  rw [← hs]
  have l0 : ((s.length : Int) == 0) = false := beq_f (by omega)
  have l1 : decide ((16 : Int) < (s.length : Int)) = false := by rw [decide_eq_false_iff_not]; omega
  clear hs h hx
  go_enter Try.func6, Try.ntmps6
  go_wp2_with fail
  refine (letter_is _ true _ (by show lz ((s[0]).toNat : Int) = true; rw [X.out]; exact T.out.2.2)).mono ?_
  rintro e w' ⟨rfl, rfl⟩
  go_wp2
  go_loop [3] (fun i => ∃ j : Nat, i = .int .i64 j ∧ 1 ≤ j ∧ j ≤ s.length ∧ (t.take (j - 1)).all more = true) (fun i => s.length - (intOf i).toNat)
  case atStart => exact ⟨1, rfl, Nat.le_refl _, h0, rfl⟩
  case round =>
    obtain ⟨j, rfl, h1, hj, ha⟩ := hrel
    have J := Lib.hid (And.intro ha h1)
    clear ha h1
    by_cases hlt : j < s.length
    · have hw : wrap64 ((j : Int) + 1) = (j : Int) + 1 := wrap_in _ (by omega) (by omega)
      have hjt : j - 1 < t.length := by have := T.out.1; have := J.out.2; subst s; simp at hlt; omega
      obtain ⟨y, hy⟩ : ∃ y, s[j] = y := ⟨_, rfl⟩
      have Y := Lib.hid (show t[j - 1] = y from by
        have e := J.out.2
        obtain ⟨i, rfl⟩ : ∃ i, j = i + 1 := ⟨j - 1, by omega⟩
        rw [← hy]
        have := T.out.1
        subst this
        simp)
      have hb : ({ data := s.toArray } : ByteArray)[j]'(by simpa [ByteArray.size] using hlt) = y := hy
      have NX := Lib.hid (fun g : more y = true => (show (t.take (j + 1 - 1)).all more = true from by
        have e := J.out.2
        obtain ⟨i, rfl⟩ : ∃ i, j = i + 1 := ⟨j - 1, by omega⟩
        exact all_step hjt J.out.1 (by rw [← Y.out] at g; exact g)))
      clear hy
      by_cases c1 : lz (y.toNat : Int) = true
      · have M := Lib.hid (NX.out (more_l c1))
        go_wp2_with fail
        refine (letter_is _ true _ c1).mono ?_
        rintro e w' ⟨rfl, rfl⟩
        go_wp2
        go_round
        case rel => exact ⟨j + 1, by go_num, by omega, hlt, M.out⟩
        case measure => simp [intOf]; omega
      · have c1' : lz (y.toNat : Int) = false := by simpa using c1
        clear c1
        by_cases c2 : dz (y.toNat : Int) = true
        · have M := Lib.hid (NX.out (more_d c2))
          go_wp2_with fail
          refine (letter_is _ false _ c1').mono ?_
          rintro e w' ⟨rfl, rfl⟩
          go_wp2_with fail
          refine (digit_is _ true _ c2).mono ?_
          rintro e w' ⟨rfl, rfl⟩
          go_wp2
          go_round
          case rel => exact ⟨j + 1, by go_num, by omega, hlt, M.out⟩
          case measure => simp [intOf]; omega
        · have c2' : dz (y.toNat : Int) = false := by simpa using c2
          clear c2
          by_cases c3 : (y.toNat : Int) = 95
          · have M := Lib.hid (NX.out (more_u (by omega)))
            have e3 := beq_t c3
            have e4 : ((y.toNat : Int) != 95) = false := by simp [c3]
            clear c3
            go_wp2_with fail
            refine (letter_is _ false _ c1').mono ?_
            rintro e w' ⟨rfl, rfl⟩
            go_wp2_with fail
            refine (digit_is _ false _ c2').mono ?_
            rintro e w' ⟨rfl, rfl⟩
            go_wp2
            go_round
            case rel => exact ⟨j + 1, by go_num, by omega, hlt, M.out⟩
            case measure => simp [intOf]; omega
          · have R := Lib.hid (show ck s = 8 from by rw [T.out.1]; exact ck_more hjt (by rw [Y.out]; exact more_n c1' c2' (by omega)))
            have e3 := beq_f c3
            have e4 := bne_t c3
            clear c3
            go_wp2_with fail
            refine (letter_is _ false _ c1').mono ?_
            rintro e w' ⟨rfl, rfl⟩
            go_wp2_with fail
            refine (digit_is _ false _ c2').mono ?_
            rintro e w' ⟨rfl, rfl⟩
            go_wp2
            go_ret
            exact ⟨ret_int R.out.symm, rfl⟩
    · obtain rfl : j = s.length := by omega
      have R := Lib.hid (show ck s = 0 from by
        have e := J.out.1
        rw [T.out.1] at e ⊢
        rw [List.take_of_length_le (by simp)] at e
        exact ck_ok T.out.2.1 T.out.2.2 e)
      go_wp2
      go_ret
      exact ⟨ret_int R.out.symm, rfl⟩
theorem check_is (s : S) (E : Int) (w : World) (h : ck s = E) : Calls Try.prog 6 #[.string ⟨s.toArray⟩] w fun e w' => e = .returned (.int .i64 E) ∧ w = w' := by
  subst h
  cases s with
  | nil => rw [ck_nil]; exact check_nil w
  | cons x t =>
    by_cases hl : 16 < (x :: t).length
    · rw [ck_long hl]; exact check_long _ w hl
    · have hl' : t.length < 16 := by simp at hl; omega
      cases hx : lz (x.toNat : Int) with
      | false => rw [ck_head hx]; exact check_head x t w hl' hx
      | true => exact check_rest x t w hl' hx

set_option maxHeartbeats 2000000 in
theorem rcheck_nil (w : World) : Calls Try.prog 7 #[.string ⟨([] : S).toArray⟩] w fun e w' => e = .returned (.int .i64 8) ∧ w = w' := by
  go_enter Try.func7, Try.ntmps7
  go_wp2
  go_ret
  exact ⟨rfl, rfl⟩
set_option maxHeartbeats 2000000 in
theorem rcheck_long (s : S) (w : World) (h : 16 < s.length) : Calls Try.prog 7 #[.string ⟨s.toArray⟩] w fun e w' => e = .returned (.int .i64 8) ∧ w = w' := by
  have l0 : decide ((s.length : Int) < 1) = false := by rw [decide_eq_false_iff_not]; omega
  have l1 : (16 : Int) < (s.length : Int) := by omega
  clear h
  go_enter Try.func7, Try.ntmps7
  go_wp2
  go_ret
  exact ⟨rfl, rfl⟩
set_option maxHeartbeats 2000000 in
theorem rcheck_head (x : UInt8) (t : S) (w : World) (h : t.length < 16) (hx : lz (x.toNat : Int) = false) : Calls Try.prog 7 #[.string ⟨(x :: t).toArray⟩] w fun e w' => e = .returned (.int .i64 8) ∧ w = w' := by
  obtain ⟨s, hs⟩ : ∃ s, s = x :: t := ⟨_, rfl⟩
  have h0 : 0 < s.length := by rw [hs]; simp
  have hl : s.length ≤ 16 := by rw [hs]; simp; omega
  have X := Lib.hid (show s[0] = x from by subst hs; rfl)
  rw [← hs]
  have l0 : decide ((s.length : Int) < 1) = false := by rw [decide_eq_false_iff_not]; omega
  have l1 : decide ((16 : Int) < (s.length : Int)) = false := by rw [decide_eq_false_iff_not]; omega
  clear hs h hl
  go_enter Try.func7, Try.ntmps7
  go_wp2_with fail
  refine (rletter_is _ false _ (by show lz ((s[0]).toNat : Int) = false; rw [X.out]; exact hx)).mono ?_
  rintro e w' ⟨rfl, rfl⟩
  go_wp2
  go_ret
  exact ⟨rfl, rfl⟩
set_option maxHeartbeats 4000000 in
theorem rcheck_rest (x : UInt8) (t : S) (w : World) (h : t.length < 16) (hx : lz (x.toNat : Int) = true) : Calls Try.prog 7 #[.string ⟨(x :: t).toArray⟩] w fun e w' => e = .returned (.int .i64 (ck (x :: t))) ∧ w = w' := by
  obtain ⟨s, hs⟩ : ∃ s, s = x :: t := ⟨_, rfl⟩
  have h0 : 0 < s.length := by rw [hs]; simp
  have hl : s.length ≤ 16 := by rw [hs]; simp; omega
  have X := Lib.hid (show s[0] = x from by subst hs; rfl)
  have T := Lib.hid (And.intro hs (And.intro h hx))
  rw [← hs]
  have l0 : decide ((s.length : Int) < 1) = false := by rw [decide_eq_false_iff_not]; omega
  have l1 : decide ((16 : Int) < (s.length : Int)) = false := by rw [decide_eq_false_iff_not]; omega
  clear hs h hx
  go_enter Try.func7, Try.ntmps7
  go_wp2_with fail
  refine (rletter_is _ true _ (by show lz ((s[0]).toNat : Int) = true; rw [X.out]; exact T.out.2.2)).mono ?_
  rintro e w' ⟨rfl, rfl⟩
  go_wp2
  go_loop [3] (fun i => ∃ j : Nat, i = .int .i64 j ∧ 1 ≤ j ∧ j ≤ s.length ∧ (t.take (j - 1)).all more = true) (fun i => s.length - (intOf i).toNat)
  case atStart => exact ⟨1, rfl, Nat.le_refl _, h0, rfl⟩
  case round =>
    obtain ⟨j, rfl, h1, hj, ha⟩ := hrel
    have J := Lib.hid (And.intro ha h1)
    clear ha h1
    by_cases hlt : j < s.length
    · have hw : wrap64 ((j : Int) + 1) = (j : Int) + 1 := wrap_in _ (by omega) (by omega)
      have hjt : j - 1 < t.length := by have := T.out.1; have := J.out.2; subst s; simp at hlt; omega
      obtain ⟨y, hy⟩ : ∃ y, s[j] = y := ⟨_, rfl⟩
      have Y := Lib.hid (show t[j - 1] = y from by
        have e := J.out.2
        obtain ⟨i, rfl⟩ : ∃ i, j = i + 1 := ⟨j - 1, by omega⟩
        rw [← hy]
        have := T.out.1
        subst this
        simp)
      have hb : ({ data := s.toArray } : ByteArray)[j]'(by simpa [ByteArray.size] using hlt) = y := hy
      have NX := Lib.hid (fun g : more y = true => (show (t.take (j + 1 - 1)).all more = true from by
        have e := J.out.2
        obtain ⟨i, rfl⟩ : ∃ i, j = i + 1 := ⟨j - 1, by omega⟩
        exact all_step hjt J.out.1 (by rw [← Y.out] at g; exact g)))
      clear hy
      by_cases c1 : lz (y.toNat : Int) = true
      · have M := Lib.hid (NX.out (more_l c1))
        go_wp2_with fail
        refine (rletter_is _ true _ c1).mono ?_
        rintro e w' ⟨rfl, rfl⟩
        go_wp2
        go_round
        case rel => exact ⟨j + 1, by go_num, by omega, hlt, M.out⟩
        case measure => simp [intOf]; omega
      · have c1' : lz (y.toNat : Int) = false := by simpa using c1
        clear c1
        by_cases c3 : (y.toNat : Int) = 95
        · have M := Lib.hid (NX.out (more_u (by omega)))
          have e3 := beq_t c3
          have e4 : ((y.toNat : Int) != 95) = false := by simp [c3]
          clear c3
          go_wp2_with fail
          refine (rletter_is _ false _ c1').mono ?_
          rintro e w' ⟨rfl, rfl⟩
          go_wp2
          go_round
          case rel => exact ⟨j + 1, by go_num, by omega, hlt, M.out⟩
          case measure => simp [intOf]; omega
        · have e3 := beq_f c3
          have e4 := bne_t c3
          have hy95 : y.toNat ≠ 95 := by omega
          clear c3
          by_cases c4 : (y.toNat : Int) < 48
          · have R := Lib.hid (show ck s = 8 from by rw [T.out.1]; exact ck_more hjt (by rw [Y.out]; exact more_n c1' (by unfold dz; rw [decide_eq_false (by omega)]; rfl) hy95))
            have e5 : decide ((y.toNat : Int) < 48) = true := by rw [decide_eq_true_iff]; exact c4
            clear c4 hy95
            go_wp2_with fail
            refine (rletter_is _ false _ c1').mono ?_
            rintro e w' ⟨rfl, rfl⟩
            go_wp2
            go_ret
            exact ⟨ret_int R.out.symm, rfl⟩
          · have e5 : decide ((y.toNat : Int) < 48) = false := by rw [decide_eq_false_iff_not]; exact c4
            by_cases c6 : 57 < (y.toNat : Int)
            · have R := Lib.hid (show ck s = 8 from by rw [T.out.1]; exact ck_more hjt (by rw [Y.out]; exact more_n c1' (by unfold dz; rw [decide_eq_false (show ¬ (y.toNat : Int) ≤ 57 by omega)]; simp) hy95))
              have e6 : decide (57 < (y.toNat : Int)) = true := by rw [decide_eq_true_iff]; exact c6
              clear c4 c6 hy95
              go_wp2_with fail
              refine (rletter_is _ false _ c1').mono ?_
              rintro e w' ⟨rfl, rfl⟩
              go_wp2
              go_ret
              exact ⟨ret_int R.out.symm, rfl⟩
            · have M := Lib.hid (NX.out (more_d (by unfold dz; rw [decide_eq_true (show 48 ≤ (y.toNat : Int) by omega), decide_eq_true (show (y.toNat : Int) ≤ 57 by omega)]; rfl)))
              have e6 : decide (57 < (y.toNat : Int)) = false := by rw [decide_eq_false_iff_not]; exact c6
              clear c4 c6 hy95
              go_wp2_with fail
              refine (rletter_is _ false _ c1').mono ?_
              rintro e w' ⟨rfl, rfl⟩
              go_wp2
              go_round
              case rel => exact ⟨j + 1, by go_num, by omega, hlt, M.out⟩
              case measure => simp [intOf]; omega
    · obtain rfl : j = s.length := by omega
      have R := Lib.hid (show ck s = 0 from by
        have e := J.out.1
        rw [T.out.1] at e ⊢
        rw [List.take_of_length_le (by simp)] at e
        exact ck_ok T.out.2.1 T.out.2.2 e)
      go_wp2
      go_ret
      exact ⟨ret_int R.out.symm, rfl⟩
theorem rcheck_is (s : S) (E : Int) (w : World) (h : ck s = E) : Calls Try.prog 7 #[.string ⟨s.toArray⟩] w fun e w' => e = .returned (.int .i64 E) ∧ w = w' := by
  subst h
  cases s with
  | nil => rw [ck_nil]; exact rcheck_nil w
  | cons x t =>
    by_cases hl : 16 < (x :: t).length
    · rw [ck_long hl]; exact rcheck_long _ w hl
    · have hl' : t.length < 16 := by simp at hl; omega
      cases hx : lz (x.toNat : Int) with
      | false => rw [ck_head hx]; exact rcheck_head x t w hl' hx
      | true => exact rcheck_rest x t w hl' hx

end Go.Proofs.Ytjmkodlmbkjegaa
