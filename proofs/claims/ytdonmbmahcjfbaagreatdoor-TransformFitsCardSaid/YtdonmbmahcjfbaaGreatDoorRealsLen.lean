/-
  What bits.Len64 answers at every 64 bits: how many bits they want.
-/
import Derived.Test.YtdonmbmahcjfbaaGreatDoorRows
import Derived.Lib.Strings
import Derived.Lib.Slices
import Derived.Lib.Small
import Derived.Lib.Walk
import Derived.Lib.BitFns
namespace Go.Proofs.YtdonmbmahcjfbaaGreatDoor

theorem ret_i {k : IntKind} {a b : Int} (h : a = b) : Ending.returned (.int k a) = .returned (.int k b) := by rw [h]

/-- The table's byte at what is left of x behind k bits, and k: how many bits x wants. -/
theorem len_fin (x b kk : Int) (k n : Nat) (hkk : kk = (k : Int)) (b0 : 0 ≤ b) (b1 : b ≤ 255) (e : Lib.bitLen x.toNat = k + Lib.bitLen b.toNat) (hk6 : k ≤ 56) (hn : n = Lib.bitLen x.toNat) :
    (kk + ((Lib.len8 b + 9223372036854775808) % 18446744073709551616 - 9223372036854775808) + 9223372036854775808) % 18446744073709551616 - 9223372036854775808 = (n : Int) := by
  have l := Lib.bitLen_le8' b b0 b1
  have t := Lib.len8_of b b0 b1
  generalize Lib.len8 b = u at *
  generalize Lib.bitLen b.toNat = v at *
  generalize Lib.bitLen x.toNat = y at *
  subst hkk
  subst hn
  subst t
  omega

theorem len_at (x b : Int) (k p : Nat) (hp : p = 2 ^ k) (h1 : x < 18446744073709551616) (hk : p ≤ x.toNat) (e : b.toNat = x.toNat / p) : Lib.bitLen x.toNat = k + Lib.bitLen b.toNat := by
  subst hp
  rw [e]
  exact Lib.bitLen_shift k x.toNat hk (by omega)

set_option maxHeartbeats 4000000 in
set_option maxRecDepth 100000 in
theorem len64_any (x : Int) (w : World) (h0 : 0 ≤ x) (h1 : x < 18446744073709551616) :
    Calls Tryz.prog 155 #[.int .u64 x] w fun e w' => e = .returned (.int .i64 (Lib.bitLen x.toNat : Int)) ∧ w = w' := by
  go_enter Tryz.func155, Tryz.ntmps155
  go_wp2
  all_goals go_ret
  all_goals refine ⟨ret_i ?_, rfl⟩
  · exact len_fin x _ _ 56 _ rfl (by omega) (by omega) (len_at x _ 56 72057594037927936 rfl h1 (by omega) (by omega)) (by omega) rfl
  · exact len_fin x _ _ 48 _ rfl (by omega) (by omega) (len_at x _ 48 281474976710656 rfl h1 (by omega) (by omega)) (by omega) rfl
  · exact len_fin x _ _ 40 _ rfl (by omega) (by omega) (len_at x _ 40 1099511627776 rfl h1 (by omega) (by omega)) (by omega) rfl
  · exact len_fin x _ _ 32 _ rfl (by omega) (by omega) (len_at x _ 32 4294967296 rfl h1 (by omega) (by omega)) (by omega) rfl
  · exact len_fin x _ _ 24 _ rfl (by omega) (by omega) (len_at x _ 24 16777216 rfl h1 (by omega) (by omega)) (by omega) rfl
  · exact len_fin x _ _ 16 _ rfl (by omega) (by omega) (len_at x _ 16 65536 rfl h1 (by omega) (by omega)) (by omega) rfl
  · exact len_fin x _ _ 8 _ rfl (by omega) (by omega) (len_at x _ 8 256 rfl h1 (by omega) (by omega)) (by omega) rfl
  · have l := Lib.bitLen_le8' x h0 (by omega)
    have e : x % 256 = x := by omega
    rw [e, Lib.len8_of x h0 (by omega)]
    omega

end Go.Proofs.YtdonmbmahcjfbaaGreatDoor
