/-
  Go's and, or, exclusive or on 64 bits as sums and remainders, at the masks that package reals uses. Conditions: the bounds named in each theorem.
-/
import Derived.WalkKit
import Derived.Laws.BitsAllLaws
import Derived.Test.YtibopeefhogfcaaGreatDoorRealsPlain
namespace Go.Proofs.YtibopeefhogfcaaGreatDoor.Rl

theorem a2047 (x : Int) (h : U x) : bits .and .u64 (x / 4503599627370496) 2047 = ex x := by
  have := u64_and (x / 4503599627370496) 2047 (by unfold U at h; omega) (by unfold U at h; omega) (by omega) (by omega)
  rw [this, show (2047 : Int).toNat = 2 ^ 11 - 1 from rfl, Nat.and_two_pow_sub_one_eq_mod]
  unfold U at h; unfold ex; omega

theorem amask (x : Int) (h : U x) : bits .and .u64 x 4503599627370495 = x % 4503599627370496 := by
  have := u64_and x 4503599627370495 h.1 h.2 (by omega) (by omega)
  rw [this, show (4503599627370495 : Int).toNat = 2 ^ 52 - 1 from rfl, Nat.and_two_pow_sub_one_eq_mod]
  unfold U at h; omega

theorem asign (x : Int) (h : U x) : bits .and .u64 x 9223372036854775808 = if x < 9223372036854775808 then 0 else 9223372036854775808 := by
  have := u64_and x 9223372036854775808 h.1 h.2 (by omega) (by omega)
  rw [this, show (9223372036854775808 : Int).toNat = 2 ^ 63 from rfl, nat_bit]
  unfold U at h; split <;> omega

theorem alow (x : Int) (h : U x) : bits .and .u64 x 9223372036854775807 = x % 9223372036854775808 := by
  have := u64_and x 9223372036854775807 h.1 h.2 (by omega) (by omega)
  rw [this, show (9223372036854775807 : Int).toNat = 2 ^ 63 - 1 from rfl, Nat.and_two_pow_sub_one_eq_mod]
  unfold U at h; omega

theorem nat_xsign (x : Nat) (h : x < 2 ^ 63) : x ^^^ 2 ^ 63 = x + 2 ^ 63 := by
  have e : x ^^^ 2 ^ 63 = 2 ^ 63 ||| x := by
    apply Nat.eq_of_testBit_eq
    intro i
    rw [Nat.testBit_xor, Nat.testBit_or, Nat.testBit_two_pow]
    by_cases g : 63 = i
    · subst g; rw [Nat.testBit_lt_two_pow h]; rfl
    · simp [g]
  rw [e, nat_join 63 _ _ (by decide) h]
  omega

theorem nat_xsign' (x : Nat) (h : 2 ^ 63 ≤ x) (g : x < 2 ^ 64) : x ^^^ 2 ^ 63 = x - 2 ^ 63 := by
  have e := nat_xsign (x - 2 ^ 63) (by omega)
  have f : x = (x - 2 ^ 63) ^^^ 2 ^ 63 := by rw [e]; omega
  have k : x ^^^ 2 ^ 63 = ((x - 2 ^ 63) ^^^ 2 ^ 63) ^^^ 2 ^ 63 := by rw [← f]
  rw [k, Nat.xor_assoc, Nat.xor_self, Nat.xor_zero]

theorem xsign (x : Int) (h : U x) : bits .xor .u64 x 9223372036854775808 = if x < 9223372036854775808 then x + 9223372036854775808 else x - 9223372036854775808 := by
  have := u64_xor x 9223372036854775808 h.1 h.2 (by omega) (by omega)
  rw [this, show (9223372036854775808 : Int).toNat = 2 ^ 63 from rfl]
  unfold U at h
  split
  · rw [nat_xsign x.toNat (by omega)]; omega
  · rw [nat_xsign' x.toNat (by omega) (by omega)]; omega

theorem nat_xall (x : Nat) (h : x < 2 ^ 64) : (2 ^ 64 - 1) ^^^ x = 2 ^ 64 - (x + 1) := by
  apply Nat.eq_of_testBit_eq
  intro i
  rw [Nat.testBit_xor, Nat.testBit_two_pow_sub_succ h, Nat.testBit_two_pow_sub_one]
  by_cases g : i < 64
  · simp [g]
  · have : x.testBit i = false := Nat.testBit_lt_two_pow (Nat.lt_of_lt_of_le h (Nat.pow_le_pow_right (by decide) (by omega)))
    simp [g, this]

theorem xall (x : Int) (h : U x) : bits .xor .u64 IntKind.u64.max x = 18446744073709551615 - x := by
  have := u64_xor 18446744073709551615 x (by decide) (by decide) h.1 h.2
  show bits .xor .u64 18446744073709551615 x = _
  rw [this, show (18446744073709551615 : Int).toNat = 2 ^ 64 - 1 from rfl, nat_xall x.toNat (by unfold U at h; omega)]
  unfold U at h; omega

theorem osign (x : Int) (h0 : 0 ≤ x) (h : x < 9223372036854775808) : bits .or .u64 x 9223372036854775808 = x + 9223372036854775808 := by
  have := u64_or x 9223372036854775808 h0 (by omega) (by omega) (by omega)
  rw [this, Nat.or_comm, nat_join 63 _ _ (by decide) (by omega)]
  omega

end Go.Proofs.YtibopeefhogfcaaGreatDoor.Rl
