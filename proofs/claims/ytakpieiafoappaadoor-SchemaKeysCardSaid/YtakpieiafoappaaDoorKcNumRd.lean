/-
  What readNumber and the document's Number answer. Conditions: the bounds named in each theorem.
-/
import Derived.Test.YtakpieiafoappaaDoorKcVals
import Derived.Test.YtakpieiafoappaaDoorKcPutNum
import Derived.Test.YtakpieiafoappaaDoorUtfCount
import Derived.WalkSpells
import Derived.WalkLawsBesides
import Derived.Laws.BitsAllLaws
import Derived.BigQuiet
import Derived.Deep.QuietTactic
import Derived.Test.YtakpieiafoappaaDoorVlWorld
namespace Go.Proofs.YtakpieiafoappaaDoor
open Go.RowKit

theorem wrap_u64 (n : Int) (h0 : 0 ≤ n) (h : n < 18446744073709551616) : IntKind.u64.wrap n = n := by
  simp [IntKind.wrap, IntKind.bits, IntKind.signed]; omega

theorem pow56 (k : Nat) (h : k ≤ 7) : 256 ^ k ≤ 72057594037927936 := by
  have : 256 ^ k ≤ 256 ^ 7 := Nat.pow_le_pow_right (by decide) h
  have e : (256 : Nat) ^ 7 = 72057594037927936 := by decide
  omega

/-- A byte laid behind a number. -/
theorem or8 (X d : Nat) (hX : X < 72057594037927936) (hd : d < 256) : bits .or .u64 (IntKind.u64.wrap ((X : Int) * 256)) (IntKind.u64.wrap (d : Int)) = ((X * 256 + d : Nat) : Int) := by
  have e : ((X : Int) * 256) = ((X * 256 : Nat) : Int) := by simp
  rw [e, wrap_u64 _ (by omega) (by omega), wrap_u64 _ (by omega) (by omega), u64_or_nat (X * 256) d (by omega) (by omega)]
  congr 1
  exact nat_join 8 (X * 256) d (Nat.mul_mod_left _ _) hd

theorem nm_next (l : List UInt8) (j : Nat) (h : j < l.length) : Kc.nm (l.take (j + 1)) = Kc.nm (l.take j) * 256 + l[j].toNat := by
  rw [List.take_succ_eq_append_getElem h, Kc.nm_snoc]
theorem nm_small (l : List UInt8) (j : Nat) (h : j ≤ 7) : Kc.nm (l.take j) < 72057594037927936 := by
  have h1 := Kc.nm_lt (l.take j)
  have h2 : 256 ^ (l.take j).length ≤ 256 ^ j := Nat.pow_le_pow_right (by decide) (by rw [List.length_take]; omega)
  have h3 := pow56 j h
  omega

theorem ret_u3 {a b : Int} {s t : List UInt8} {c d : Int} (h : a = b) (g : s = t) (i : c = d) : Ending.returned (.tuple #[.int .u64 a, .string ⟨s.toArray⟩, .int .i64 c]) = .returned (.tuple #[.int .u64 b, .string ⟨t.toArray⟩, .int .i64 d]) := by rw [h, g, i]

set_option maxHeartbeats 400000 in
theorem readNumber_short (l : List UInt8) (k : Nat) (y : Int) (w : World) (hy : y = k) (hl : l.length < k) :
    Calls Tryd.prog 77 #[.string ⟨l.toArray⟩, .int .i64 y] w fun e w' => e = .returned (.tuple #[.int .u64 0, .string ⟨([] : List UInt8).toArray⟩, .int .i64 3]) ∧ w = w' := by
  have h1 : (l.length : Int) < y := by omega
  clear hl hy
  go_enter Tryd.func77, Tryd.ntmps77
  go_wp2
  go_ret3
  exact ⟨rfl, rfl⟩

set_option maxHeartbeats 1000000 in
theorem readNumber_is (l : List UInt8) (k : Nat) (y : Int) (w : World) (hy : y = k) (hk : k ≤ 8) (hl : k ≤ l.length) :
    Calls Tryd.prog 77 #[.string ⟨l.toArray⟩, .int .i64 y] w fun e w' => e = .returned (.tuple #[.int .u64 (Kc.nm (l.take k)), .string ⟨(l.drop k).toArray⟩, .int .i64 0]) ∧ Below w.heap.size w w' := by
  subst hy
  have H := Lib.hid (And.intro hl hk)
  have h1 : decide ((l.length : Int) < (k : Int)) = false := by rw [decide_eq_false_iff_not]; omega
  have h2 : (k : Int) ≤ (l.length : Int) := by omega
  have hm : Tryd.prog.follows .mixedOrders = true := by kernel_rfl
  have ct := cut_from l k
  clear hl hk
  go_enter Tryd.func77, Tryd.ntmps77
  go_wp2
  go_loop [7, 14] (fun n i => ∃ (j X : Nat), i = .int .i64 j ∧ n = .int .u64 X ∧ j ≤ k ∧ X = Kc.nm (l.take j)) (fun _ i => k - (intOf i).toNat)
  case atStart => exact ⟨0, 0, rfl, rfl, Nat.zero_le _, rfl⟩
  case round =>
    obtain ⟨j, X, rfl, rfl, hj, hX⟩ := hrel
    have J := Lib.hid hX
    clear hX
    by_cases hlt : j < k
    · have hs : j < l.length := by have := H.out; omega
      have hsz : j < (ByteArray.mk l.toArray).size := hs
      have hba : (ByteArray.mk l.toArray)[j] = l[j] := byte_at l j hs
      have hx : (ByteArray.mk l.toArray)[j].toNat < 256 := (ByteArray.mk l.toArray)[j].toNat_lt
      have hw : wrap64 ((j : Int) + 1) = (j : Int) + 1 := by have := H.out; exact wrap_in _ (by omega) (by omega)
      have HO := Lib.hid (or8 X l[j].toNat (by rw [J.out]; exact nm_small l j (by have := H.out; omega)) l[j].toNat_lt)
      go_wp2
      go_round
      case rel => exact ⟨j + 1, X * 256 + l[j].toNat, by go_num, by rw [HO.out], hlt, by rw [nm_next l j hs, J.out]⟩
      case measure => rw [hw]; simp [intOf]; omega
    · obtain rfl : j = k := by omega
      go_wp2
      go_quiet (fail)
      go_wp2
      go_ret3
      exact ⟨ret_u3 (by rw [J.out]) rfl rfl, below_drewV _ (Below.refl _ _)⟩

end Go.Proofs.YtakpieiafoappaaDoor
