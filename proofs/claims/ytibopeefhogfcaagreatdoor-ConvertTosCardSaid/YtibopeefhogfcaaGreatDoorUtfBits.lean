/-
  Go's and, or on bytes and ints as sums and remainders, at the masks that package utf uses. Conditions: the bounds named in each theorem.
-/
import Derived.WalkKit
import Derived.Laws.BitsAllLaws
namespace Go.Proofs.YtibopeefhogfcaaGreatDoor.Utf

theorem n192 : ∀ x : Fin 256, x.val &&& 192 = x.val / 64 * 64 := by decide +kernel
theorem n128 : ∀ x : Fin 64, 128 ||| x.val = 128 + x.val := by decide +kernel
theorem n192o : ∀ x : Fin 32, 192 ||| x.val = 192 + x.val := by decide +kernel
theorem n224o : ∀ x : Fin 16, 224 ||| x.val = 224 + x.val := by decide +kernel
theorem n240o : ∀ x : Fin 8, 240 ||| x.val = 240 + x.val := by decide +kernel

theorem u8_and192 (x : Nat) (h : x < 256) : bits .and .u8 (x : Int) 192 = ((x / 64 * 64 : Nat) : Int) := by
  have := u8_and_nat x 192 h (by omega)
  rw [← n192 ⟨x, h⟩]; exact this

theorem u8_and63 (x : Nat) (h : x < 256) : bits .and .u8 (x : Int) 63 = ((x % 64 : Nat) : Int) := by
  have := u8_and_nat x 63 h (by omega)
  rw [← nat_mask6 x]; exact this

theorem u8_or128 (y : Int) (h0 : 0 ≤ y) (h : y < 64) : bits .or .u8 128 y = 128 + y := by
  obtain ⟨n, rfl⟩ := Int.eq_ofNat_of_zero_le h0
  have := u8_or_nat 128 n (by omega) (by omega)
  rw [n128 ⟨n, by omega⟩] at this
  exact this

theorem u8_or0 (y : Int) (h0 : 0 ≤ y) (h : y < 256) : bits .or .u8 0 y = y := by
  obtain ⟨n, rfl⟩ := Int.eq_ofNat_of_zero_le h0
  have := u8_or_nat 0 n (by omega) (by omega)
  rw [Nat.zero_or] at this
  exact this

theorem u8_or192 (y : Int) (h0 : 0 ≤ y) (h : y < 32) : bits .or .u8 192 y = 192 + y := by
  obtain ⟨n, rfl⟩ := Int.eq_ofNat_of_zero_le h0
  have := u8_or_nat 192 n (by omega) (by omega)
  rw [n192o ⟨n, by omega⟩] at this
  exact this

theorem u8_or224 (y : Int) (h0 : 0 ≤ y) (h : y < 16) : bits .or .u8 224 y = 224 + y := by
  obtain ⟨n, rfl⟩ := Int.eq_ofNat_of_zero_le h0
  have := u8_or_nat 224 n (by omega) (by omega)
  rw [n224o ⟨n, by omega⟩] at this
  exact this

theorem u8_or240 (y : Int) (h0 : 0 ≤ y) (h : y < 8) : bits .or .u8 240 y = 240 + y := by
  obtain ⟨n, rfl⟩ := Int.eq_ofNat_of_zero_le h0
  have := u8_or_nat 240 n (by omega) (by omega)
  rw [n240o ⟨n, by omega⟩] at this
  exact this

theorem wrap_i64 (n : Int) : IntKind.i64.wrap n = (n + 9223372036854775808) % 18446744073709551616 - 9223372036854775808 := by simp [IntKind.wrap, IntKind.bits, IntKind.signed]; split <;> omega

theorem ofInt_i64 (a : Nat) (ha : a < 18446744073709551616) : (BitVec.ofInt 64 (a : Int)).toNat = a := ofInt_u64 a ha

theorem i64_or_nat (a b : Nat) (ha : a < 4611686018427387904) (hb : b < 4611686018427387904) : bits .or .i64 (a : Int) (b : Int) = ((a ||| b : Nat) : Int) := by
  have hx : a ||| b < 2 ^ 62 := Nat.or_lt_two_pow (by omega) (by omega)
  show IntKind.i64.wrap ((BitVec.ofInt 64 (a : Int) ||| BitVec.ofInt 64 (b : Int)).toNat : Int) = _
  rw [BitVec.toNat_or, ofInt_i64 a (by omega), ofInt_i64 b (by omega), wrap_i64]
  omega

theorem i64_and_nat (a b : Nat) (ha : a < 4611686018427387904) (hb : b < 4611686018427387904) : bits .and .i64 (a : Int) (b : Int) = ((a &&& b : Nat) : Int) := by
  have hx : a &&& b ≤ a := Nat.and_le_left
  show IntKind.i64.wrap ((BitVec.ofInt 64 (a : Int) &&& BitVec.ofInt 64 (b : Int)).toNat : Int) = _
  rw [BitVec.toNat_and, ofInt_i64 a (by omega), ofInt_i64 b (by omega), wrap_i64]
  omega

theorem i64_and63 (n : Int) (h0 : 0 ≤ n) (h : n < 4611686018427387904) : bits .and .i64 n 63 = n % 64 := by
  obtain ⟨m, rfl⟩ := Int.eq_ofNat_of_zero_le h0
  have := i64_and_nat m 63 (by omega) (by omega)
  rw [nat_mask6] at this
  rw [show (63 : Int) = ((63 : Nat) : Int) from rfl, this]; omega

theorem i64_or6 (a : Int) (y : Nat) (h0 : 0 ≤ a) (h : a < 4611686018427387) (hy : y < 64) : bits .or .i64 (a * 64) (y : Int) = a * 64 + (y : Int) := by
  obtain ⟨m, rfl⟩ := Int.eq_ofNat_of_zero_le h0
  have := i64_or_nat (m * 64) y (by omega) (by omega)
  rw [nat_join 6 (m * 64) y (by omega) (by omega)] at this
  rw [show ((m : Int) * 64) = ((m * 64 : Nat) : Int) from by omega, this]; omega

theorem join6 (R : Int) (x : Nat) (h0 : 0 ≤ R) (h : R < 33554432) : bits .or .i64 (R * 64) ((x : Int) % 64) = R * 64 + ((x % 64 : Nat) : Int) :=
  i64_or6 R (x % 64) h0 (by omega) (by omega)

theorem top2_yes (x : Nat) (hx : x < 256) (h : x / 64 = 2) : (bits .and .u8 (x : Int) 192 != 128) = false := by
  rw [u8_and192 x hx, h]; rfl

theorem top2_no (x : Nat) (hx : x < 256) (h : ¬ x / 64 = 2) : (bits .and .u8 (x : Int) 192 != 128) = true := by
  rw [u8_and192 x hx, bne_iff_ne]; omega

end Go.Proofs.YtibopeefhogfcaaGreatDoor.Utf
