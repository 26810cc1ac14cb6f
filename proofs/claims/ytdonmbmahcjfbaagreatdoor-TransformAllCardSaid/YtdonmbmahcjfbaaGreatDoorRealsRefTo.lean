/-
  What the document's ToInt answers, for every 64 bits.
-/
import Derived.Test.YtdonmbmahcjfbaaGreatDoorRealsTo
import Derived.Test.YtdonmbmahcjfbaaGreatDoorRealsRefFrom
namespace Go.Proofs.YtdonmbmahcjfbaaGreatDoor
open Go.RowKit

theorem exponent_is (x a : Int) (w : World) (hx : Rl.U x) (ha : Rl.ex x = a) :
    Calls Tryz.prog 107 #[.int .u64 x] w fun e w' => e = .returned (.int .i64 a) ∧ w = w' := by
  rw [← ha]; exact exponent_any x w hx

theorem or_hidden' (x : Int) : bits .or .u64 (Rl.fr x) 4503599627370496 = (Rl.hs x : Int) := by
  have r := Rl.fr_range x
  rw [u64_or _ 4503599627370496 (by omega) (by omega) (by omega) (by omega), Nat.or_comm, nat_join 52 _ _ (by decide) (by omega)]
  unfold Rl.hs; omega

theorem high_is (x a : Int) (ha : Rl.ex x = a) (g : 1075 ≤ a) (h : a ≤ 1086) : Rl.wo x = true ∧ IntKind.u64.wrap ((Rl.hs x : Int) * 2 ^ (a - 1023 - 52).toNat) = (Rl.wv x : Int) := by
  have t : Rl.he x = (a - 1023 - 52).toNat + 52 := by unfold Rl.he; omega
  have e : Rl.wo x = true := by
    rw [Rl.wo_iff, t]
    refine ⟨by omega, by omega, ?_⟩
    rw [show 52 - ((a - 1023 - 52).toNat + 52) = 0 from by omega, Nat.pow_zero]; exact Nat.mod_one _
  have l := Rl.wv_lt x e
  refine ⟨e, ?_⟩
  have q := Rl.wv_high x (by omega)
  rw [t, Nat.add_sub_cancel] at q
  rw [IntKind.wrap_u64, show ((Rl.hs x : Int) * 2 ^ (a - 1023 - 52).toNat) = ((Rl.hs x * 2 ^ (a - 1023 - 52).toNat : Nat) : Int) from by rw [Int.natCast_mul, Int.natCast_pow]; rfl, ← q]
  omega

theorem low_at (x a : Int) (ha : Rl.ex x = a) (g : 1023 ≤ a) (h : a < 1075) :
    (Rl.wo x = true ↔ Rl.hs x % 2 ^ (-(a - 1023 - 52)).toNat = 0) ∧ (Rl.hs x : Int) / 2 ^ (-(a - 1023 - 52)).toNat = (Rl.wv x : Int) ∧
    bits .and .u64 (Rl.hs x : Int) (IntKind.u64.wrap (IntKind.u64.wrap (2 ^ (-(a - 1023 - 52)).toNat) - 1)) = ((Rl.hs x % 2 ^ (-(a - 1023 - 52)).toNat : Nat) : Int) := by
  have t : Rl.he x + (-(a - 1023 - 52)).toNat = 52 := by unfold Rl.he; omega
  obtain ⟨d, hd⟩ : ∃ d, (-(a - 1023 - 52)).toNat = d := ⟨_, rfl⟩
  rw [hd] at t ⊢
  have d52 : d ≤ 52 := by omega
  have e52 : 52 - Rl.he x = d := by omega
  refine ⟨?_, ?_, ?_⟩
  · rw [Rl.wo_iff, e52]; omega
  · rw [Rl.wv_low x (by omega), e52, Int.natCast_ediv, Int.natCast_pow]; rfl
  · have r := Rl.hs_range x
    have l : (2 : Nat) ^ d ≤ 2 ^ 52 := Nat.pow_le_pow_right (by decide) d52
    have p := Nat.two_pow_pos d
    have c : ((2 : Int) ^ d) = ((2 ^ d : Nat) : Int) := by rw [Int.natCast_pow]; rfl
    have e : IntKind.u64.wrap (IntKind.u64.wrap (2 ^ d) - 1) = ((2 ^ d - 1 : Nat) : Int) := by
      rw [IntKind.wrap_u64, IntKind.wrap_u64, c]
      generalize 2 ^ d = y at *
      omega
    rw [e, u64_and_nat (Rl.hs x) _ (by omega) (by omega), Nat.and_two_pow_sub_one_eq_mod]

theorem neg_back (v : Int) (h0 : 0 ≤ v) (h1 : v ≤ 9223372036854775808) : wrap64 (IntKind.u64.wrap (-v)) = -v := by
  unfold wrap64; rw [IntKind.wrap_u64]; omega

set_option maxHeartbeats 1000000 in
theorem refTo_class (x c : Int) (w : World) (hx : Rl.U x) (C : Hid (Rl.cl x = c)) (h : c ≠ 5) :
    Calls Tryz.prog 81 #[.int .u64 x] w fun e w' => e = .returned (.tuple #[.int .i64 (Rl.ti x), .bool (Rl.to x)]) ∧ w = w' := by
  by_cases k : c = 3
  · subst k
    obtain ⟨e1, e2⟩ := ti_zero x C.out
    rw [e1, e2]
    clear e1 e2 h
    go_enter Tryz.func81, Tryz.ntmps81
    go_wp2_with fail
    refine (refClass_is x 3 _ hx C.out).mono ?_
    rintro e w' ⟨rfl, rfl⟩
    go_wp2
    go_ret2
    exact ⟨rfl, rfl⟩
  · have o : Rl.io x = false := by
      apply io_wo
      cases q : Rl.wo x
      · rfl
      · exfalso
        have q1 := (Rl.wo_iff x).1 q
        have q2 : ¬ (Rl.ex x ≠ 2047 ∧ Rl.ex x ≠ 0) := fun z => h (C.out.symm.trans ((Rl.cl5 x).2 z))
        omega
    obtain ⟨e1, e2⟩ := ti_none x (by rw [C.out]; exact k) o
    rw [e1, e2]
    have k1 := beq_f k
    have h1 := beq_f h
    clear e1 e2 o k h
    go_enter Tryz.func81, Tryz.ntmps81
    go_wp2_with fail
    refine (refClass_is x c _ hx C.out).mono ?_
    rintro e w' ⟨rfl, rfl⟩
    go_wp2
    go_ret2
    exact ⟨rfl, rfl⟩

set_option maxHeartbeats 1000000 in
theorem refTo_out (x a : Int) (w : World) (hx : Rl.U x) (C : Hid (Rl.cl x = 5)) (A : Hid (Rl.ex x = a)) (r : 0 ≤ a ∧ a < 2048) (h : a < 1023 ∨ 1086 < a) :
    Calls Tryz.prog 81 #[.int .u64 x] w fun e w' => e = .returned (.tuple #[.int .i64 (Rl.ti x), .bool (Rl.to x)]) ∧ w = w' := by
  have o : Rl.io x = false := by
    apply io_wo
    cases q : Rl.wo x
    · rfl
    · exfalso
      have q1 := (Rl.wo_iff x).1 q
      have q2 := A.out
      omega
  obtain ⟨e1, e2⟩ := ti_none x (by rw [C.out]; decide) o
  rw [e1, e2]
  clear e1 e2 o
  rcases h with h | h
  · have k : a - 1023 - 52 < -52 := by omega
    go_enter Tryz.func81, Tryz.ntmps81
    go_wp2_with fail
    refine (refClass_is x 5 _ hx C.out).mono ?_
    rintro e w' ⟨rfl, rfl⟩
    go_wp2_with fail
    refine (fraction_any x _ hx).mono ?_
    rintro e w' ⟨rfl, rfl⟩
    go_wp2_with fail
    refine (exponent_is x a _ hx A.out).mono ?_
    rintro e w' ⟨rfl, rfl⟩
    go_wp2
    go_ret2
    exact ⟨rfl, rfl⟩
  · have k : decide (a - 1023 - 52 < -52) = false := decide_eq_false (by omega)
    have k1 : 11 < a - 1023 - 52 := by omega
    go_enter Tryz.func81, Tryz.ntmps81
    go_wp2_with fail
    refine (refClass_is x 5 _ hx C.out).mono ?_
    rintro e w' ⟨rfl, rfl⟩
    go_wp2_with fail
    refine (fraction_any x _ hx).mono ?_
    rintro e w' ⟨rfl, rfl⟩
    go_wp2_with fail
    refine (exponent_is x a _ hx A.out).mono ?_
    rintro e w' ⟨rfl, rfl⟩
    go_wp2
    go_ret2
    exact ⟨rfl, rfl⟩

set_option maxHeartbeats 2000000 in
theorem refTo_high (x a : Int) (w : World) (hx : Rl.U x) (C : Hid (Rl.cl x = 5)) (A : Hid (Rl.ex x = a)) (h0 : 1075 ≤ a) (h1 : a ≤ 1086) :
    Calls Tryz.prog 81 #[.int .u64 x] w fun e w' => e = .returned (.tuple #[.int .i64 (Rl.ti x), .bool (Rl.to x)]) ∧ w = w' := by
  obtain ⟨g, m⟩ := high_is x a A.out h0 h1
  have o := or_hidden' x
  obtain ⟨s, hs⟩ : ∃ s : Int, (Rl.hs x : Int) = s := ⟨_, rfl⟩
  rw [hs] at m o
  have s0 : 0 ≤ s := by omega
  clear hs
  obtain ⟨v, hv⟩ : ∃ v : Int, (Rl.wv x : Int) = v := ⟨_, rfl⟩
  rw [hv] at m
  have v0 : 0 ≤ v := by omega
  have v1 : v < 18446744073709551616 := by have := Rl.wv_lt x g; omega
  by_cases k : x < 9223372036854775808
  · have k1 : x / 9223372036854775808 = 0 := by unfold Rl.U at hx; omega
    by_cases q : v < 9223372036854775808
    · obtain ⟨e1, e2⟩ := ti_pos x (by rw [C.out]; decide) g k (by omega)
      rw [e1, e2, hv]
      have q1 : v ≤ 9223372036854775807 := by omega
      clear e1 e2 g hv k q
      go_enter Tryz.func81, Tryz.ntmps81
      go_wp2_with fail
      refine (refClass_is x 5 _ hx C.out).mono ?_
      rintro e w' ⟨rfl, rfl⟩
      go_wp2_with fail
      refine (fraction_any x _ hx).mono ?_
      rintro e w' ⟨rfl, rfl⟩
      go_wp2_with fail
      refine (exponent_is x a _ hx A.out).mono ?_
      rintro e w' ⟨rfl, rfl⟩
      go_wp2
      go_ret2
      exact ⟨rfl, rfl⟩
    · obtain ⟨e1, e2⟩ := ti_none x (by rw [C.out]; decide) (io_pos x k (by omega))
      rw [e1, e2]
      have q1 : 9223372036854775807 < v := by omega
      clear e1 e2 g hv k q
      go_enter Tryz.func81, Tryz.ntmps81
      go_wp2_with fail
      refine (refClass_is x 5 _ hx C.out).mono ?_
      rintro e w' ⟨rfl, rfl⟩
      go_wp2_with fail
      refine (fraction_any x _ hx).mono ?_
      rintro e w' ⟨rfl, rfl⟩
      go_wp2_with fail
      refine (exponent_is x a _ hx A.out).mono ?_
      rintro e w' ⟨rfl, rfl⟩
      go_wp2
      go_ret2
      exact ⟨rfl, rfl⟩
  · have k1 : x / 9223372036854775808 = 1 := by unfold Rl.U at hx; omega
    by_cases q : v ≤ 9223372036854775808
    · obtain ⟨e1, e2⟩ := ti_neg x (by rw [C.out]; decide) g k (by omega)
      rw [e1, e2, hv]
      clear e1 e2 g hv k
      go_enter Tryz.func81, Tryz.ntmps81
      go_wp2_with fail
      refine (refClass_is x 5 _ hx C.out).mono ?_
      rintro e w' ⟨rfl, rfl⟩
      go_wp2_with fail
      refine (fraction_any x _ hx).mono ?_
      rintro e w' ⟨rfl, rfl⟩
      go_wp2_with fail
      refine (exponent_is x a _ hx A.out).mono ?_
      rintro e w' ⟨rfl, rfl⟩
      go_wp2
      go_ret2
      exact ⟨ret_ib (neg_back v v0 q) rfl, rfl⟩
    · obtain ⟨e1, e2⟩ := ti_none x (by rw [C.out]; decide) (io_big x (by omega))
      rw [e1, e2]
      have q1 : 9223372036854775808 < v := by omega
      clear e1 e2 g hv k q
      go_enter Tryz.func81, Tryz.ntmps81
      go_wp2_with fail
      refine (refClass_is x 5 _ hx C.out).mono ?_
      rintro e w' ⟨rfl, rfl⟩
      go_wp2_with fail
      refine (fraction_any x _ hx).mono ?_
      rintro e w' ⟨rfl, rfl⟩
      go_wp2_with fail
      refine (exponent_is x a _ hx A.out).mono ?_
      rintro e w' ⟨rfl, rfl⟩
      go_wp2
      go_ret2
      exact ⟨rfl, rfl⟩

set_option maxHeartbeats 2000000 in
theorem refTo_low (x a : Int) (w : World) (hx : Rl.U x) (C : Hid (Rl.cl x = 5)) (A : Hid (Rl.ex x = a)) (h0 : 1023 ≤ a) (h1 : a < 1075) :
    Calls Tryz.prog 81 #[.int .u64 x] w fun e w' => e = .returned (.tuple #[.int .i64 (Rl.ti x), .bool (Rl.to x)]) ∧ w = w' := by
  obtain ⟨i, m, l⟩ := low_at x a A.out h0 h1
  have o := or_hidden' x
  by_cases g : Rl.wo x = true
  · have lz := i.1 g
    rw [lz] at l
    clear lz i
    obtain ⟨s, hs⟩ : ∃ s : Int, (Rl.hs x : Int) = s := ⟨_, rfl⟩
    rw [hs] at m o l
    have s0 : 0 ≤ s := by omega
    clear hs
    obtain ⟨v, hv⟩ : ∃ v : Int, (Rl.wv x : Int) = v := ⟨_, rfl⟩
    rw [hv] at m
    have v0 : 0 ≤ v := by omega
    have v1 : v < 18446744073709551616 := by have := Rl.wv_lt x g; omega
    by_cases k : x < 9223372036854775808
    · have k1 : x / 9223372036854775808 = 0 := by unfold Rl.U at hx; omega
      by_cases q : v < 9223372036854775808
      · obtain ⟨e1, e2⟩ := ti_pos x (by rw [C.out]; decide) g k (by omega)
        rw [e1, e2, hv]
        have q1 : v ≤ 9223372036854775807 := by omega
        clear e1 e2 g hv k q
        go_enter Tryz.func81, Tryz.ntmps81
        go_wp2_with fail
        refine (refClass_is x 5 _ hx C.out).mono ?_
        rintro e w' ⟨rfl, rfl⟩
        go_wp2_with fail
        refine (fraction_any x _ hx).mono ?_
        rintro e w' ⟨rfl, rfl⟩
        go_wp2_with fail
        refine (exponent_is x a _ hx A.out).mono ?_
        rintro e w' ⟨rfl, rfl⟩
        go_wp2
        go_ret2
        exact ⟨rfl, rfl⟩
      · obtain ⟨e1, e2⟩ := ti_none x (by rw [C.out]; decide) (io_pos x k (by omega))
        rw [e1, e2]
        have q1 : 9223372036854775807 < v := by omega
        clear e1 e2 g hv k q
        go_enter Tryz.func81, Tryz.ntmps81
        go_wp2_with fail
        refine (refClass_is x 5 _ hx C.out).mono ?_
        rintro e w' ⟨rfl, rfl⟩
        go_wp2_with fail
        refine (fraction_any x _ hx).mono ?_
        rintro e w' ⟨rfl, rfl⟩
        go_wp2_with fail
        refine (exponent_is x a _ hx A.out).mono ?_
        rintro e w' ⟨rfl, rfl⟩
        go_wp2
        go_ret2
        exact ⟨rfl, rfl⟩
    · have k1 : x / 9223372036854775808 = 1 := by unfold Rl.U at hx; omega
      by_cases q : v ≤ 9223372036854775808
      · obtain ⟨e1, e2⟩ := ti_neg x (by rw [C.out]; decide) g k (by omega)
        rw [e1, e2, hv]
        clear e1 e2 g hv k
        go_enter Tryz.func81, Tryz.ntmps81
        go_wp2_with fail
        refine (refClass_is x 5 _ hx C.out).mono ?_
        rintro e w' ⟨rfl, rfl⟩
        go_wp2_with fail
        refine (fraction_any x _ hx).mono ?_
        rintro e w' ⟨rfl, rfl⟩
        go_wp2_with fail
        refine (exponent_is x a _ hx A.out).mono ?_
        rintro e w' ⟨rfl, rfl⟩
        go_wp2
        go_ret2
        exact ⟨ret_ib (neg_back v v0 q) rfl, rfl⟩
      · obtain ⟨e1, e2⟩ := ti_none x (by rw [C.out]; decide) (io_big x (by omega))
        rw [e1, e2]
        have q1 : 9223372036854775808 < v := by omega
        clear e1 e2 g hv k q
        go_enter Tryz.func81, Tryz.ntmps81
        go_wp2_with fail
        refine (refClass_is x 5 _ hx C.out).mono ?_
        rintro e w' ⟨rfl, rfl⟩
        go_wp2_with fail
        refine (fraction_any x _ hx).mono ?_
        rintro e w' ⟨rfl, rfl⟩
        go_wp2_with fail
        refine (exponent_is x a _ hx A.out).mono ?_
        rintro e w' ⟨rfl, rfl⟩
        go_wp2
        go_ret2
        exact ⟨rfl, rfl⟩
  · have lz : Rl.hs x % 2 ^ (-(a - 1023 - 52)).toNat ≠ 0 := fun z => g (i.2 z)
    obtain ⟨e1, e2⟩ := ti_none x (by rw [C.out]; decide) (io_wo x (by cases q : Rl.wo x; rfl; exact absurd q g))
    rw [e1, e2]
    have ln : ¬ bits .and .u64 (Rl.hs x : Int) (IntKind.u64.wrap (IntKind.u64.wrap (2 ^ (-(a - 1023 - 52)).toNat) - 1)) = 0 := by rw [l]; omega
    obtain ⟨s, hs⟩ : ∃ s : Int, (Rl.hs x : Int) = s := ⟨_, rfl⟩
    rw [hs] at o ln
    have s0 : 0 ≤ s := by omega
    clear hs e1 e2 i m l lz g
    go_enter Tryz.func81, Tryz.ntmps81
    go_wp2_with fail
    refine (refClass_is x 5 _ hx C.out).mono ?_
    rintro e w' ⟨rfl, rfl⟩
    go_wp2_with fail
    refine (fraction_any x _ hx).mono ?_
    rintro e w' ⟨rfl, rfl⟩
    go_wp2_with fail
    refine (exponent_is x a _ hx A.out).mono ?_
    rintro e w' ⟨rfl, rfl⟩
    go_wp2
    go_ret2
    exact ⟨rfl, rfl⟩

theorem refTo_any (x : Int) (w : World) (hx : Rl.U x) :
    Calls Tryz.prog 81 #[.int .u64 x] w fun e w' => e = .returned (.tuple #[.int .i64 (Rl.ti x), .bool (Rl.to x)]) ∧ w = w' := by
  by_cases c : Rl.cl x = 5
  · have r := Rl.ex_range x
    by_cases h : Rl.ex x < 1023 ∨ 1086 < Rl.ex x
    · exact refTo_out x _ w hx (Lib.hid c) (Lib.hid rfl) r h
    by_cases g : 1075 ≤ Rl.ex x
    · exact refTo_high x _ w hx (Lib.hid c) (Lib.hid rfl) g (by omega)
    · exact refTo_low x _ w hx (Lib.hid c) (Lib.hid rfl) (by omega) (by omega)
  · exact refTo_class x _ w hx (Lib.hid rfl) c

end Go.Proofs.YtdonmbmahcjfbaaGreatDoor
