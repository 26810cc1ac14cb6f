/-
  What FromInt answers, the program's, for every int, where the library's table holds what its initialiser lays.
-/
import Derived.Test.YtdonmbmahcjfbaaGreatDoorRealsTz
import Derived.Test.YtdonmbmahcjfbaaGreatDoorRealsNum
namespace Go.Proofs.YtdonmbmahcjfbaaGreatDoor
open Go.RowKit

theorem or_parts (S f : Int) (t : Nat) (hS : S = 0 ∨ S = 9223372036854775808) (ht : t ≤ 63) (f0 : 0 ≤ f) (f1 : f < 4503599627370496) :
    bits .or .u64 (bits .or .u64 S ((1023 + (t : Int)) * 4503599627370496)) f = S + (((t : Int) + 1023) * 4503599627370496 + f) := by
  have e1 : bits .or .u64 S ((1023 + (t : Int)) * 4503599627370496) = S + (1023 + (t : Int)) * 4503599627370496 := by
    rw [u64_or S _ (by omega) (by omega) (by omega) (by omega)]
    rw [nat_join 63 S.toNat _ (by rcases hS with rfl | rfl <;> decide) (by omega)]
    omega
  rw [e1, u64_or _ f (by omega) (by omega) f0 (by omega)]
  rw [nat_join 52 _ f.toNat (by rcases hS with rfl | rfl <;> omega) (by omega)]
  omega

theorem frac_is (m t : Nat) (h0 : 0 < m) (h : m < 18446744073709551616) (ht : Rl.tp m = t) :
    bits .and .u64 (IntKind.u64.wrap ((m : Int) * 2 ^ (63 - t)) / 2048) 4503599627370495 = (Rl.mt m : Int) - 4503599627370496 := by
  obtain ⟨a, b⟩ := Rl.mt_left m h0 h
  obtain ⟨c, d⟩ := Rl.mt_range m h0 h
  rw [ht] at a b
  have e : IntKind.u64.wrap ((m : Int) * 2 ^ (63 - t)) = ((m * 2 ^ (63 - t) : Nat) : Int) := by
    rw [IntKind.wrap_u64, show ((m : Int) * 2 ^ (63 - t)) = ((m * 2 ^ (63 - t) : Nat) : Int) from by rw [Int.natCast_mul, Int.natCast_pow]; rfl]
    generalize m * 2 ^ (63 - t) = y at *
    omega
  rw [e]
  generalize m * 2 ^ (63 - t) = y at *
  rw [Rl.amask _ ⟨by omega, by omega⟩]
  omega

/-- The whole value. -/
theorem from_value (n S : Int) (m t : Nat) (hm : n.natAbs = m) (h0 : 0 < m) (h : m < 18446744073709551616) (ht : Rl.tp m = t) (hS : S = Rl.sg n) (g : Rl.fo n = true) :
    bits .or .u64 (bits .or .u64 S ((1023 + (t : Int)) * 4503599627370496)) (bits .and .u64 (IntKind.u64.wrap ((m : Int) * 2 ^ (63 - t)) / 2048) 4503599627370495) = Rl.fi n := by
  obtain ⟨c, d⟩ := Rl.mt_range m h0 h
  obtain ⟨T, F, e1, e2, e3, e4, e5⟩ := Rl.mg_pos m h0 h
  rw [frac_is m t h0 h ht, or_parts S _ t (by rw [hS]; unfold Rl.sg; split <;> simp) (by omega) (by omega) (by omega), Rl.fi_is n g, hm, e5, hS]
  omega

theorem fromInt_zero (w : World) :
    Calls Tryz.prog 149 #[.int .i64 0] w fun e w' => e = .returned (.tuple #[.int .u64 (Rl.fi 0), .bool (Rl.fo 0)]) ∧ w = w' := by
  rw [Rl.fi_zero, Rl.fo_zero]
  go_enter Tryz.func149, Tryz.ntmps149
  go_wp2
  go_ret2
  exact ⟨rfl, rfl⟩

set_option maxHeartbeats 1000000 in
theorem fromInt_pos (n : Int) (w : World) (h0 : 0 < n) (h1 : n < 9223372036854775808) (hT : Tab w) :
    Calls Tryz.prog 149 #[.int .i64 n] w fun e w' => e = .returned (.tuple #[.int .u64 (Rl.fi n), .bool (Rl.fo n)]) ∧ w = w' := by
  obtain ⟨m, hm⟩ : ∃ m, n.natAbs = m := ⟨_, rfl⟩
  have m0 : 0 < m := by omega
  have m1 : m < 18446744073709551616 := by omega
  obtain ⟨l1, l2, l3, l4⟩ := Rl.tp_spec m m0 m1
  clear l3 l4
  obtain ⟨t, ht⟩ : ∃ t, Rl.tp m = t := ⟨_, rfl⟩
  obtain ⟨c, hc⟩ : ∃ c, Lib.ctz 64 m = c := ⟨_, rfl⟩
  have c64 : c < 64 := by rw [← hc]; exact (Lib.lowest_bit 64 m (by omega) m1).2
  have hf : Rl.fo n = true ↔ t ≤ 52 + c := by rw [Rl.fo_ctz n (by omega) (by omega), hm, ht, hc]
  have hv := from_value n 0 m t hm m0 m1 ht (by unfold Rl.sg; rw [if_neg (by omega)])
  have hz : Rl.fo n = false → Rl.fi n = 0 := fun g => by unfold Rl.fi; rw [g]; rfl
  rw [ht] at l1 l2
  have hmm : n = (m : Int) := by omega
  have L1 := Lib.hid (show Lib.bitLen (n).toNat = t + 1 by rw [hmm, Int.toNat_natCast]; exact l1)
  have C1 := Lib.hid (show Lib.ctz 64 (n).toNat = c by rw [hmm, Int.toNat_natCast]; exact hc)
  have Hmm := Lib.hid hmm
  have z := beq_f (show n ≠ 0 by omega)
  by_cases k : t ≤ 52 + c
  · have g := hf.2 k
    have v := Lib.hid (hv g)
    rw [g]
    have k1 : decide ((52 : Int) < (t : Int) - (c : Int)) = false := decide_eq_false (by omega)
    clear g l1 hc hf hv hz hmm ht hm m0 m1
    go_enter Tryz.func149, Tryz.ntmps149
    go_wp2_with fail
    refine (len64_is (n) (t + 1) _ (by omega) (by omega) L1.out).mono ?_
    rintro e w' ⟨rfl, rfl⟩
    go_wp2_with fail
    refine (tz_is (n) c _ (by omega) (by omega) hT C1.out).mono ?_
    rintro e w' ⟨rfl, rfl⟩
    go_wp2
    go_ret2
    refine ⟨ret_ib ?_ rfl, rfl⟩
    rw [← v.out, ← Hmm.out]
  · have g : Rl.fo n = false := by
      cases q : Rl.fo n
      · rfl
      · exact absurd (hf.1 q) k
    rw [g, hz g]
    have k1 : (52 : Int) < (t : Int) - (c : Int) := by omega
    clear g l1 hc hf hv hz hmm ht hm m0 m1
    go_enter Tryz.func149, Tryz.ntmps149
    go_wp2_with fail
    refine (len64_is (n) (t + 1) _ (by omega) (by omega) L1.out).mono ?_
    rintro e w' ⟨rfl, rfl⟩
    go_wp2_with fail
    refine (tz_is (n) c _ (by omega) (by omega) hT C1.out).mono ?_
    rintro e w' ⟨rfl, rfl⟩
    go_wp2
    go_ret2
    exact ⟨rfl, rfl⟩

set_option maxHeartbeats 1000000 in
theorem fromInt_neg (n : Int) (w : World) (h0 : n < 0) (h1 : -9223372036854775808 ≤ n) (hT : Tab w) :
    Calls Tryz.prog 149 #[.int .i64 n] w fun e w' => e = .returned (.tuple #[.int .u64 (Rl.fi n), .bool (Rl.fo n)]) ∧ w = w' := by
  obtain ⟨m, hm⟩ : ∃ m, n.natAbs = m := ⟨_, rfl⟩
  have m0 : 0 < m := by omega
  have m1 : m < 18446744073709551616 := by omega
  obtain ⟨l1, l2, l3, l4⟩ := Rl.tp_spec m m0 m1
  clear l3 l4
  obtain ⟨t, ht⟩ : ∃ t, Rl.tp m = t := ⟨_, rfl⟩
  obtain ⟨c, hc⟩ : ∃ c, Lib.ctz 64 m = c := ⟨_, rfl⟩
  have c64 : c < 64 := by rw [← hc]; exact (Lib.lowest_bit 64 m (by omega) m1).2
  have hf : Rl.fo n = true ↔ t ≤ 52 + c := by rw [Rl.fo_ctz n (by omega) (by omega), hm, ht, hc]
  have hv := from_value n 9223372036854775808 m t hm m0 m1 ht (by unfold Rl.sg; rw [if_pos (by omega)])
  have hz : Rl.fo n = false → Rl.fi n = 0 := fun g => by unfold Rl.fi; rw [g]; rfl
  rw [ht] at l1 l2
  have hmm : -n = (m : Int) := by omega
  have L1 := Lib.hid (show Lib.bitLen (-n).toNat = t + 1 by rw [hmm, Int.toNat_natCast]; exact l1)
  have C1 := Lib.hid (show Lib.ctz 64 (-n).toNat = c by rw [hmm, Int.toNat_natCast]; exact hc)
  have Hmm := Lib.hid hmm
  have z := beq_f (show n ≠ 0 by omega)
  have hneg : IntKind.u64.wrap (-IntKind.u64.wrap n) = -n := by rw [IntKind.wrap_u64, IntKind.wrap_u64]; omega
  by_cases k : t ≤ 52 + c
  · have g := hf.2 k
    have v := Lib.hid (hv g)
    rw [g]
    have k1 : decide ((52 : Int) < (t : Int) - (c : Int)) = false := decide_eq_false (by omega)
    clear g l1 hc hf hv hz hmm ht hm m0 m1
    go_enter Tryz.func149, Tryz.ntmps149
    go_wp2_with fail
    refine (len64_is (-n) (t + 1) _ (by omega) (by omega) L1.out).mono ?_
    rintro e w' ⟨rfl, rfl⟩
    go_wp2_with fail
    refine (tz_is (-n) c _ (by omega) (by omega) hT C1.out).mono ?_
    rintro e w' ⟨rfl, rfl⟩
    go_wp2
    go_ret2
    refine ⟨ret_ib ?_ rfl, rfl⟩
    rw [← v.out, ← Hmm.out]
  · have g : Rl.fo n = false := by
      cases q : Rl.fo n
      · rfl
      · exact absurd (hf.1 q) k
    rw [g, hz g]
    have k1 : (52 : Int) < (t : Int) - (c : Int) := by omega
    clear g l1 hc hf hv hz hmm ht hm m0 m1
    go_enter Tryz.func149, Tryz.ntmps149
    go_wp2_with fail
    refine (len64_is (-n) (t + 1) _ (by omega) (by omega) L1.out).mono ?_
    rintro e w' ⟨rfl, rfl⟩
    go_wp2_with fail
    refine (tz_is (-n) c _ (by omega) (by omega) hT C1.out).mono ?_
    rintro e w' ⟨rfl, rfl⟩
    go_wp2
    go_ret2
    exact ⟨rfl, rfl⟩

theorem fromInt_any (n : Int) (w : World) (h0 : -9223372036854775808 ≤ n) (h1 : n < 9223372036854775808) (hT : Tab w) :
    Calls Tryz.prog 149 #[.int .i64 n] w fun e w' => e = .returned (.tuple #[.int .u64 (Rl.fi n), .bool (Rl.fo n)]) ∧ w = w' := by
  rcases Int.lt_trichotomy n 0 with h | h | h
  · exact fromInt_neg n w h h0 hT
  · subst h; exact fromInt_zero w
  · exact fromInt_pos n w h h1 hT

theorem fromInt_is (n r : Int) (b : Bool) (w : World) (h0 : -9223372036854775808 ≤ n) (h1 : n < 9223372036854775808) (hT : Tab w) (hr : Rl.fi n = r) (hb : Rl.fo n = b) :
    Calls Tryz.prog 149 #[.int .i64 n] w fun e w' => e = .returned (.tuple #[.int .u64 r, .bool b]) ∧ w = w' := by
  rw [← hr, ← hb]; exact fromInt_any n w h0 h1 hT

end Go.Proofs.YtdonmbmahcjfbaaGreatDoor
