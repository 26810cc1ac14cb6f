/-
  What the document's FromInt answers, for every int.
-/
import Derived.Test.YtdonmbmahcjfbaaGreatDoorRealsFrom
namespace Go.Proofs.YtdonmbmahcjfbaaGreatDoor
open Go.RowKit

/-- The highest bit of what is below place k. -/
def Top (m k T : Nat) : Prop := (m % 2 ^ k = 0 ∧ T = 0) ∨ (2 ^ T ≤ m % 2 ^ k ∧ m % 2 ^ k < 2 ^ (T + 1))

theorem top_start (m : Nat) : Top m 0 0 := Or.inl ⟨Nat.mod_one _, rfl⟩
theorem top_set (m k : Nat) (h : m / 2 ^ k % 2 = 1) : Top m (k + 1) k := by
  right
  have p := Nat.two_pow_pos k
  have q := Nat.mod_lt m p
  rw [Nat.mod_pow_succ, h, Nat.mul_one, Nat.pow_succ]
  omega
theorem top_clear (m k T : Nat) (t : Top m k T) (h : m / 2 ^ k % 2 = 0) : Top m (k + 1) T := by
  have e : m % 2 ^ (k + 1) = m % 2 ^ k := by rw [Nat.mod_pow_succ, h, Nat.mul_zero, Nat.add_zero]
  unfold Top at *
  rw [e]; exact t
theorem top_end (m T : Nat) (t : Top m 64 T) (h0 : 0 < m) (h : m < 18446744073709551616) : T = Rl.tp m := by
  have e : m % 2 ^ 64 = m := Nat.mod_eq_of_lt h
  unfold Top at t
  rw [e] at t
  rcases t with ⟨a, _⟩ | ⟨a, b⟩
  · omega
  · exact (Rl.tp_is m T h a b).symm

theorem bit_at (m k : Nat) (h : m < 18446744073709551616) : bits .and .u64 ((m : Int) / 2 ^ k) 1 = ((m / 2 ^ k % 2 : Nat) : Int) := by
  have e : (m : Int) / 2 ^ k = ((m / 2 ^ k : Nat) : Int) := by rw [Int.natCast_ediv, Int.natCast_pow]; rfl
  have l : m / 2 ^ k < 18446744073709551616 := Nat.lt_of_le_of_lt (Nat.div_le_self _ _) h
  rw [e, ← nat_mask1]
  exact u64_and_nat (m / 2 ^ k) 1 l (by decide)

theorem bit_cases (m k : Nat) (h : m < 18446744073709551616) :
    (bits .and .u64 ((m : Int) / 2 ^ k) 1 = 1 ∧ Top m (k + 1) k) ∨ (bits .and .u64 ((m : Int) / 2 ^ k) 1 = 0 ∧ ∀ T, Top m k T → Top m (k + 1) T) := by
  rw [bit_at m k h]
  rcases Nat.mod_two_eq_zero_or_one (m / 2 ^ k) with e | e
  · right; exact ⟨by rw [e]; rfl, fun T t => top_clear m k T t e⟩
  · left; exact ⟨by rw [e]; rfl, top_set m k e⟩

theorem frac_high (m T : Nat) (h0 : 0 < m) (h : m < 18446744073709551616) (e : T = Rl.tp m) (g : 52 ≤ T) : bits .and .u64 ((m : Int) / 2 ^ (T - 52)) 4503599627370495 = (Rl.mt m : Int) - 4503599627370496 := by
  subst e
  have r := Rl.mt_range m h0 h
  have v : (m : Int) / 2 ^ (Rl.tp m - 52) = (Rl.mt m : Int) := by
    rw [Rl.mt_high m g, Int.natCast_ediv, Int.natCast_pow]; rfl
  rw [v, Rl.amask _ ⟨by omega, by omega⟩]
  omega

theorem frac_low (m T : Nat) (h0 : 0 < m) (h : m < 18446744073709551616) (e : T = Rl.tp m) (g : T ≤ 52) : bits .and .u64 (IntKind.u64.wrap ((m : Int) * 2 ^ (52 - T))) 4503599627370495 = (Rl.mt m : Int) - 4503599627370496 := by
  subst e
  have r := Rl.mt_range m h0 h
  have v : (m : Int) * 2 ^ (52 - Rl.tp m) = (Rl.mt m : Int) := by
    rw [Rl.mt_low m g, Int.natCast_mul, Int.natCast_pow]; rfl
  rw [v, IntKind.wrap_u64, show (Rl.mt m : Int) % 18446744073709551616 = (Rl.mt m : Int) from by omega, Rl.amask _ ⟨by omega, by omega⟩]
  omega

theorem low_is (m T : Nat) (h : m < 18446744073709551616) (t : T ≤ 63) : bits .and .u64 (m : Int) (IntKind.u64.wrap (IntKind.u64.wrap (2 ^ (T - 52)) - 1)) = ((m % 2 ^ (T - 52) : Nat) : Int) := by
  have p := Nat.two_pow_pos (T - 52)
  have l : (2 : Nat) ^ (T - 52) ≤ 2 ^ 11 := Nat.pow_le_pow_right (by decide) (by omega)
  have c : ((2 : Int) ^ (T - 52)) = ((2 ^ (T - 52) : Nat) : Int) := by rw [Int.natCast_pow]; rfl
  have e : IntKind.u64.wrap (IntKind.u64.wrap (2 ^ (T - 52)) - 1) = ((2 ^ (T - 52) - 1 : Nat) : Int) := by
    rw [IntKind.wrap_u64, IntKind.wrap_u64, c]
    generalize 2 ^ (T - 52) = y at *
    omega
  rw [e, u64_and_nat m _ h (by omega), Nat.and_two_pow_sub_one_eq_mod]

theorem ref_value (n S f : Int) (m T : Nat) (hm : n.natAbs = m) (h0 : 0 < m) (h : m < 18446744073709551616) (e : T = Rl.tp m) (hS : S = Rl.sg n) (g : Rl.fo n = true) (hf : f = (Rl.mt m : Int) - 4503599627370496) :
    bits .or .u64 (bits .or .u64 S (((T : Int) + 1023) * 4503599627370496)) f = Rl.fi n := by
  have r := Rl.mt_range m h0 h
  obtain ⟨t, F, e1, e2, e3, e4, e5⟩ := Rl.mg_pos m h0 h
  rw [Int.add_comm (T : Int) 1023, or_parts S f T (by rw [hS]; unfold Rl.sg; split <;> simp) (by omega) (by omega) (by omega), Rl.fi_is n g, hm, e5, hS]
  omega

theorem fo_low (n : Int) (m T : Nat) (hm : n.natAbs = m) (e : T = Rl.tp m) (g : T ≤ 52) : Rl.fo n = true := by
  unfold Rl.fo; rw [hm, ← e, show T - 52 = 0 from by omega, Nat.pow_zero, Nat.mod_one]; rfl
theorem fo_high (n : Int) (m T : Nat) (hm : n.natAbs = m) (e : T = Rl.tp m) (g : m % 2 ^ (T - 52) = 0) : Rl.fo n = true := by
  unfold Rl.fo; rw [hm, ← e, g]; rfl
theorem fo_none (n : Int) (m T : Nat) (hm : n.natAbs = m) (e : T = Rl.tp m) (g : m % 2 ^ (T - 52) ≠ 0) : Rl.fi n = 0 ∧ Rl.fo n = false := by
  have f : Rl.fo n = false := by unfold Rl.fo; rw [hm, ← e]; simp [g]
  refine ⟨?_, f⟩
  unfold Rl.fi; rw [f]; rfl

theorem refFrom_zero (w : World) :
    Calls Tryz.prog 77 #[.int .i64 0] w fun e w' => e = .returned (.tuple #[.int .u64 (Rl.fi 0), .bool (Rl.fo 0)]) ∧ w = w' := by
  rw [Rl.fi_zero, Rl.fo_zero]
  go_enter Tryz.func77, Tryz.ntmps77
  go_wp2
  go_ret2
  exact ⟨rfl, rfl⟩

set_option maxHeartbeats 1000000 in
theorem refFrom_pos (n : Int) (m : Nat) (w : World) (hm : Hid (n = (m : Int))) (h0 : 0 < n) (h1 : n < 9223372036854775808) :
    Calls Tryz.prog 77 #[.int .i64 n] w fun e w' => e = .returned (.tuple #[.int .u64 (Rl.fi n), .bool (Rl.fo n)]) ∧ w = w' := by
  have z := beq_f (show n ≠ 0 by omega)
  have hn := Lib.hid (show n.natAbs = m by have := hm.out; omega)
  have hs := Lib.hid (show (0 : Int) = Rl.sg n by unfold Rl.sg; rw [if_neg (by omega)])
  have m0 := Lib.hid (show 0 < m by have := hm.out; omega)
  have m1 := Lib.hid (show m < 18446744073709551616 by have := hm.out; omega)
  go_enter Tryz.func77, Tryz.ntmps77
  go_wp2
  go_loop [6, 7] (fun a b => ∃ T k : Nat, a = .int .i64 T ∧ b = .int .i64 k ∧ k ≤ 64 ∧ T ≤ 63 ∧ Hid (Top m k T)) (fun _ b => 64 - (intOf b).toNat)
  case atStart => exact ⟨0, 0, rfl, rfl, by omega, by omega, Lib.hid (top_start m)⟩
  case round =>
    obtain ⟨T, k, rfl, rfl, hk, hT, ht⟩ := hrel
    by_cases q : k = 64
    · subst q
      have e := Lib.hid (top_end m T ht.out m0.out m1.out)
      have lw := low_is m T m1.out hT
      rw [← hm.out] at lw
      by_cases g : T ≤ 52
      · have g1 : decide ((52 : Int) < (T : Int)) = false := decide_eq_false (by omega)
        have G := Lib.hid (fo_low n m T hn.out e.out g)
        have v := frac_low m T m0.out m1.out e.out g
        rw [← hm.out] at v
        have V := Lib.hid (ref_value n 0 _ m T hn.out m0.out m1.out e.out hs.out G.out v)
        clear lw v
        go_wp2
        go_ret2
        exact ⟨ret_ib V.out G.out.symm, rfl⟩
      · have g1 : (52 : Int) < (T : Int) := by omega
        by_cases l : m % 2 ^ (T - 52) = 0
        · rw [l] at lw
          have G := Lib.hid (fo_high n m T hn.out e.out l)
          have v := frac_high m T m0.out m1.out e.out (by omega)
          rw [← hm.out] at v
          have V := Lib.hid (ref_value n 0 _ m T hn.out m0.out m1.out e.out hs.out G.out v)
          clear v l
          go_wp2
          go_ret2
          exact ⟨ret_ib V.out G.out.symm, rfl⟩
        · obtain ⟨f1, f2⟩ := fo_none n m T hn.out e.out l
          have F1 := Lib.hid f1
          have F2 := Lib.hid f2
          have lz : (bits BinOp.and IntKind.u64 (n) (IntKind.u64.wrap (IntKind.u64.wrap (2 ^ (T - 52)) - 1)) == 0) = false := by rw [lw]; exact beq_f (by omega)
          have ln : ¬ bits BinOp.and IntKind.u64 (n) (IntKind.u64.wrap (IntKind.u64.wrap (2 ^ (T - 52)) - 1)) = 0 := by rw [lw]; omega
          clear f1 f2 lw l
          go_wp2
          go_ret2
          exact ⟨ret_ib F1.out.symm F2.out.symm, rfl⟩
    · have q1 : (k : Int) < 64 := by omega
      rcases bit_cases m k m1.out with ⟨b, c⟩ | ⟨b, c⟩
      · rw [← hm.out] at b
        have C := Lib.hid c
        clear c
        go_wp2
        go_round
        case rel => exact ⟨k, k + 1, rfl, by go_num, by omega, by omega, C⟩
        case measure => show 64 - ((k : Int) + 1).toNat < 64 - (k : Int).toNat; omega
      · rw [← hm.out] at b
        have C := Lib.hid (c T ht.out)
        clear c
        go_wp2
        go_round
        case rel => exact ⟨T, k + 1, rfl, by go_num, by omega, by omega, C⟩
        case measure => show 64 - ((k : Int) + 1).toNat < 64 - (k : Int).toNat; omega

set_option maxHeartbeats 1000000 in
theorem refFrom_neg (n : Int) (m : Nat) (w : World) (hm : Hid (-n = (m : Int))) (h0 : n < 0) (h1 : -9223372036854775808 ≤ n) :
    Calls Tryz.prog 77 #[.int .i64 n] w fun e w' => e = .returned (.tuple #[.int .u64 (Rl.fi n), .bool (Rl.fo n)]) ∧ w = w' := by
  have z := beq_f (show n ≠ 0 by omega)
  have hneg : IntKind.u64.wrap (-IntKind.u64.wrap n) = -n := by rw [IntKind.wrap_u64, IntKind.wrap_u64]; omega
  have hn := Lib.hid (show n.natAbs = m by have := hm.out; omega)
  have hs := Lib.hid (show (9223372036854775808 : Int) = Rl.sg n by unfold Rl.sg; rw [if_pos (by omega)])
  have m0 := Lib.hid (show 0 < m by have := hm.out; omega)
  have m1 := Lib.hid (show m < 18446744073709551616 by have := hm.out; omega)
  go_enter Tryz.func77, Tryz.ntmps77
  go_wp2
  go_loop [6, 7] (fun a b => ∃ T k : Nat, a = .int .i64 T ∧ b = .int .i64 k ∧ k ≤ 64 ∧ T ≤ 63 ∧ Hid (Top m k T)) (fun _ b => 64 - (intOf b).toNat)
  case atStart => exact ⟨0, 0, rfl, rfl, by omega, by omega, Lib.hid (top_start m)⟩
  case round =>
    obtain ⟨T, k, rfl, rfl, hk, hT, ht⟩ := hrel
    by_cases q : k = 64
    · subst q
      have e := Lib.hid (top_end m T ht.out m0.out m1.out)
      have lw := low_is m T m1.out hT
      rw [← hm.out] at lw
      by_cases g : T ≤ 52
      · have g1 : decide ((52 : Int) < (T : Int)) = false := decide_eq_false (by omega)
        have G := Lib.hid (fo_low n m T hn.out e.out g)
        have v := frac_low m T m0.out m1.out e.out g
        rw [← hm.out] at v
        have V := Lib.hid (ref_value n 9223372036854775808 _ m T hn.out m0.out m1.out e.out hs.out G.out v)
        clear lw v
        go_wp2
        go_ret2
        exact ⟨ret_ib V.out G.out.symm, rfl⟩
      · have g1 : (52 : Int) < (T : Int) := by omega
        by_cases l : m % 2 ^ (T - 52) = 0
        · rw [l] at lw
          have G := Lib.hid (fo_high n m T hn.out e.out l)
          have v := frac_high m T m0.out m1.out e.out (by omega)
          rw [← hm.out] at v
          have V := Lib.hid (ref_value n 9223372036854775808 _ m T hn.out m0.out m1.out e.out hs.out G.out v)
          clear v l
          go_wp2
          go_ret2
          exact ⟨ret_ib V.out G.out.symm, rfl⟩
        · obtain ⟨f1, f2⟩ := fo_none n m T hn.out e.out l
          have F1 := Lib.hid f1
          have F2 := Lib.hid f2
          have lz : (bits BinOp.and IntKind.u64 (-n) (IntKind.u64.wrap (IntKind.u64.wrap (2 ^ (T - 52)) - 1)) == 0) = false := by rw [lw]; exact beq_f (by omega)
          have ln : ¬ bits BinOp.and IntKind.u64 (-n) (IntKind.u64.wrap (IntKind.u64.wrap (2 ^ (T - 52)) - 1)) = 0 := by rw [lw]; omega
          clear f1 f2 lw l
          go_wp2
          go_ret2
          exact ⟨ret_ib F1.out.symm F2.out.symm, rfl⟩
    · have q1 : (k : Int) < 64 := by omega
      rcases bit_cases m k m1.out with ⟨b, c⟩ | ⟨b, c⟩
      · rw [← hm.out] at b
        have C := Lib.hid c
        clear c
        go_wp2
        go_round
        case rel => exact ⟨k, k + 1, rfl, by go_num, by omega, by omega, C⟩
        case measure => show 64 - ((k : Int) + 1).toNat < 64 - (k : Int).toNat; omega
      · rw [← hm.out] at b
        have C := Lib.hid (c T ht.out)
        clear c
        go_wp2
        go_round
        case rel => exact ⟨T, k + 1, rfl, by go_num, by omega, by omega, C⟩
        case measure => show 64 - ((k : Int) + 1).toNat < 64 - (k : Int).toNat; omega

theorem refFrom_any (n : Int) (w : World) (h0 : -9223372036854775808 ≤ n) (h1 : n < 9223372036854775808) :
    Calls Tryz.prog 77 #[.int .i64 n] w fun e w' => e = .returned (.tuple #[.int .u64 (Rl.fi n), .bool (Rl.fo n)]) ∧ w = w' := by
  rcases Int.lt_trichotomy n 0 with h | h | h
  · exact refFrom_neg n n.natAbs w (Lib.hid (by omega)) h h0
  · subst h; exact refFrom_zero w
  · exact refFrom_pos n n.natAbs w (Lib.hid (by omega)) h h1

end Go.Proofs.YtdonmbmahcjfbaaGreatDoor
