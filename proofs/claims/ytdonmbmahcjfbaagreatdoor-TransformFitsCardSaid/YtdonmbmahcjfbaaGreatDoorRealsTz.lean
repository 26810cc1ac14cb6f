/-
  What bits.TrailingZeros64 answers at every 64 bits but 0, where the library's table holds what its initialiser lays.
-/
import Derived.Test.YtdonmbmahcjfbaaGreatDoorRealsClass
import Derived.Test.YtdonmbmahcjfbaaGreatDoorRealsLen
import Derived.Lib.TrailingZeros
import Derived.Below
namespace Go.Proofs.YtdonmbmahcjfbaaGreatDoor
open Go.RowKit

/-- The library's table lies in its variable. -/
def Tab (w : World) : Prop := ∀ j, j < 64 → w.cell? ⟨2, j, none⟩ = some (.int .u8 (Lib.deBruijn64tab.getD j 0 : Nat))

theorem Tab.pos {w : World} (h : Tab w) : 2 < w.heap.size := by
  have := h 0 (by decide)
  rcases Nat.lt_or_ge 2 w.heap.size with e | e
  · exact e
  · exfalso
    unfold World.cell? at this
    simp [Array.getElem?_eq_none e] at this

theorem Tab.below {w w' : World} (h : Tab w) (b : Below w.heap.size w w') : Tab w' := fun j hj => by
  rw [b.cell (p := ⟨2, j, none⟩) h.pos]; exact h j hj

theorem len64_is (x : Int) (n : Nat) (w : World) (h0 : 0 ≤ x) (h1 : x < 18446744073709551616) (h : Lib.bitLen x.toNat = n) :
    Calls Tryz.prog 155 #[.int .u64 x] w fun e w' => e = .returned (.int .i64 (n : Int)) ∧ w = w' := by
  rw [← h]; exact len64_any x w h0 h1

/-- Where the product points in the table: at the place of the number of zeros. -/
theorem tz_at (x : Nat) (h : x < 18446744073709551616) (h0 : x ≠ 0) :
    IntKind.u64.wrap (bits BinOp.and IntKind.u64 (x : Int) (IntKind.u64.wrap (-(x : Int))) * 285870213051353865) / 288230376151711744
      = ((2 ^ Lib.ctz 64 x * 285870213051353865 % 18446744073709551616 / 288230376151711744 : Nat) : Int) := by
  obtain ⟨low, _⟩ := Lib.lowest_bit 64 x h0 h
  rw [← low, show IntKind.u64.wrap (-(x : Int)) = ((2 ^ 64 - x : Nat) : Int) from by rw [IntKind.wrap_u64]; omega, u64_and_nat x (2 ^ 64 - x) h (by omega), IntKind.wrap_u64]
  omega

set_option maxHeartbeats 1000000 in
theorem tz_walk (x k p : Nat) (w : World) (hx0 : ((x : Int) == 0) = false)
    (hp : IntKind.u64.wrap (bits BinOp.and IntKind.u64 (x : Int) (IntKind.u64.wrap (-(x : Int))) * 285870213051353865) / 288230376151711744 = (p : Int))
    (hi : p < 64) (hk : k < 64) (hcell : w.cell? ⟨2, p, none⟩ = some (.int .u8 k)) :
    Calls Tryz.prog 150 #[.int .u64 x] w fun e w' => e = .returned (.int .i64 k) ∧ w = w' := by
  go_enter Tryz.func150, Tryz.ntmps150
  go_wp2_with (simp only [hp])
  go_ret
  exact ⟨rfl, rfl⟩

theorem tz_is (x : Int) (c : Nat) (w : World) (h0 : 0 < x) (h1 : x < 18446744073709551616) (hT : Tab w) (h : Lib.ctz 64 x.toNat = c) :
    Calls Tryz.prog 150 #[.int .u64 x] w fun e w' => e = .returned (.int .i64 (c : Int)) ∧ w = w' := by
  obtain ⟨m, rfl⟩ := Int.eq_ofNat_of_zero_le (Int.le_of_lt h0)
  rw [Int.toNat_natCast] at h
  have hm : m ≠ 0 := by omega
  have hlt : m < 18446744073709551616 := by omega
  obtain ⟨_, hc⟩ := Lib.lowest_bit 64 m hm hlt
  obtain ⟨hi, ht⟩ := Lib.deBruijn64_at _ hc
  rw [← h]
  refine tz_walk m _ _ w (beq_f (by omega)) (tz_at m hlt hm) hi hc ?_
  rw [hT _ hi, ht]

end Go.Proofs.YtdonmbmahcjfbaaGreatDoor
