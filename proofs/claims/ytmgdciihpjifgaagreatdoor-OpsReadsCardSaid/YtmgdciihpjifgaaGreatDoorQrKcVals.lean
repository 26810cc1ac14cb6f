/-
 The plain mathematics of a value's bytes: what Put writes, what Read reads, and that the bytes keep the order. Conditions: the bounds named in each theorem.
 Rows of values in memory: what a slice of values holds. What Few answers.
 What readNumber and the document's Number answer. Conditions: the bounds named in each theorem.
 A slice of values as an argument, opened: what its cells hold.
-/
import Derived.Test.YtmgdciihpjifgaaGreatDoorQrVlSame
import Derived.Test.YtmgdciihpjifgaaGreatDoorQrKcPutNum
import Derived.Test.YtmgdciihpjifgaaGreatDoorQrVlWorld
import Derived.LoopN
import Derived.Test.YtmgdciihpjifgaaGreatDoorQrUtfCount
import Derived.WalkSpells
import Derived.WalkLawsBesides
import Derived.Laws.BitsAllLaws
import Derived.BigQuiet
import Derived.Deep.QuietTactic
import Derived.Deep.Slices
import Derived.Deep.Fields
import Derived.Carry
set_option maxHeartbeats 1000000
namespace Go.Proofs.YtmgdciihpjifgaaGreatDoor
def pb (k n b : Int) (s : List UInt8) : List UInt8 :=
 if k = 1 then Kc.bn 1 n.toNat else if k = 2 then Kc.bn 8 (n + 9223372036854775808).toNat else if k = 3 then Kc.bn 8 (Rl.ky b).toNat
 else if k = 4 ∨ k = 5 then Kc.esc s else []
def pt (k n b : Int) (s : List UInt8) : List UInt8 := UInt8.ofNat k.toNat :: pb k n b s
theorem pt_len {k n b : Int} {s : List UInt8} (h : Vl.ck k n b s = 0) : (pt k n b s).length ≤ 131 ∧ 1 ≤ (pt k n b s).length := by
 have hs := (Vl.ck_ok h).2.2.2.2.2.2.2
 have he := Kc.es_len s
 have h1 := Kc.bn_len 1 n.toNat
 have h2 := Kc.bn_len 8 (n + 9223372036854775808).toNat
 have h3 := Kc.bn_len 8 (Rl.ky b).toNat
 unfold pt pb Kc.esc
 (repeat' split) <;> simp <;> omega
structure Rd where
 k : Int
 n : Int
 b : Int
 s : List UInt8
 r : List UInt8
 e : Int
def Rd.bad (e : Int) : Rd := ⟨0, 0, 0, [], [], e⟩
def chk (k n b : Int) (s r : List UInt8) : Rd := if Vl.ck k n b s = 0 then ⟨k, n, b, s, r, 0⟩ else .bad 4
def rdb (k : Int) (l : List UInt8) : Rd :=
 if k = 1 then (if l.length < 1 then .bad 3 else chk 1 (Kc.nm (l.take 1)) 0 [] (l.drop 1))
 else if k = 2 then (if l.length < 8 then .bad 3 else chk 2 ((Kc.nm (l.take 8) : Int) - 9223372036854775808) 0 [] (l.drop 8))
 else if k = 3 then (if l.length < 8 then .bad 3 else if Rl.bo (Kc.nm (l.take 8)) = true then chk 3 0 (Rl.bk (Kc.nm (l.take 8))) [] (l.drop 8) else .bad 4)
 else if k = 4 ∨ k = 5 then (if (Kc.un l).2.2 = 0 then chk k 0 0 (Kc.un l).1 (Kc.un l).2.1 else .bad (Kc.un l).2.2)
 else chk k 0 0 [] l
def rd : List UInt8 → Rd
 | [] => .bad 3
 | x :: l => if 5 < x.toNat then .bad 4 else rdb x.toNat l
end Go.Proofs.YtmgdciihpjifgaaGreatDoor
namespace Go.Proofs.YtmgdciihpjifgaaGreatDoor
open Go.RowKit
structure V where
 k : Int
 n : Int
 b : Int
 s : List UInt8
def V.val (x : V) : Value := .agg #[.int .i64 x.k, .int .i64 x.n, .int .u64 x.b, .string ⟨x.s.toArray⟩]
def V.cells (x : V) : List Value := [.int .i64 x.k, .int .i64 x.n, .int .u64 x.b, .string ⟨x.s.toArray⟩]
def V.ok (x : V) : Prop := Rl.U x.b ∧ -9223372036854775808 ≤ x.n ∧ x.n < 9223372036854775808
def At (W : World) (p : Addr) (x : V) : Prop :=
 W.cell? p = some (.int .i64 x.k) ∧ W.cell? ⟨p.block, p.off + 1, none⟩ = some (.int .i64 x.n) ∧ W.cell? ⟨p.block, p.off + 2, none⟩ = some (.int .u64 x.b) ∧ W.cell? ⟨p.block, p.off + 3, none⟩ = some (.string ⟨x.s.toArray⟩)
def Sl (W : World) (ao : Option Addr) (xs : List V) : Prop := ∀ (i : Nat) (x : V), xs[i]? = some x → ∃ a, ao = some a ∧ At W (a.add (i * 4)) x
theorem Sl.below {W W' : World} {ao : Option Addr} {xs : List V} (h : Sl W ao xs) (hb : Below W.heap.size W W') : Sl W' ao xs := by
 intro i x hi
 obtain ⟨a, ha, h0, h1, h2, h3⟩ := h i x hi
 exact ⟨a, ha, keep0 h0 hb, keep0 h1 hb, keep0 h2 hb, keep0 h3 hb⟩
end Go.Proofs.YtmgdciihpjifgaaGreatDoor
namespace Go.Proofs.YtmgdciihpjifgaaGreatDoor
open Go.RowKit
theorem wrap_u64 (n : Int) (h0 : 0 ≤ n) (h : n < 18446744073709551616) : IntKind.u64.wrap n = n := by
 simp [IntKind.wrap, IntKind.bits, IntKind.signed]; omega
theorem pow56 (k : Nat) (h : k ≤ 7) : 256 ^ k ≤ 72057594037927936 := by
 have : 256 ^ k ≤ 256 ^ 7 := Nat.pow_le_pow_right (by decide) h
 have e : (256 : Nat) ^ 7 = 72057594037927936 := by decide
 omega
theorem or8 (X d : Nat) (hX : X < 72057594037927936) (hd : d < 256) : bits .or .u64 (IntKind.u64.wrap ((X : Int) * 256)) (IntKind.u64.wrap (d : Int)) = ((X * 256 + d : Nat) : Int) := by
 have e : ((X : Int) * 256) = ((X * 256 : Nat) : Int) := by simp
 rw [e, wrap_u64 _ (by omega) (by omega), wrap_u64 _ (by omega) (by omega), u64_or_nat (X * 256) d (by omega) (by omega)]
 congr 1
 exact nat_join 8 (X * 256) d (Nat.mul_mod_left _ _) hd
theorem nm_next (l : List UInt8) (j : Nat) (h : j < l.length) : Kc.nm (l.take (j + 1)) = Kc.nm (l.take j) * 256 + l[j].toNat := by
 rw [List.take_succ_eq_append_getElem h, Kc.nm_snoc]
theorem nm_small (l : List UInt8) (j : Nat) (h : j ≤ 7) : Kc.nm (l.take j) < 72057594037927936 := by
 have h1 := Kc.nm_lt (l.take j)
 have h2 : 256 ^ (l.take j).length ≤ 256 ^ j := Nat.pow_le_pow_right (by decide) (by rw [List.length_take]; omega)
 have h3 := pow56 j h
 omega
theorem number_is (l : List UInt8) (w : World) (hl : 8 ≤ l.length) :
  Calls Tryz.prog 116 #[.string ⟨l.toArray⟩] w fun e w' => e = .returned (.int .u64 (Kc.nm (l.take 8))) ∧ w = w' := by
 have H := zh hl
 clear hl
 go_enter Tryz.func116, Tryz.ntmps116
 go_wp2
 go_loop [3, 4] (fun n i => ∃ (j X : Nat), i = .int .i64 j ∧ n = .int .u64 X ∧ j ≤ 8 ∧ X = Kc.nm (l.take j)) (fun _ i => 8 - (intOf i).toNat)
 case atStart => exact ⟨0, 0, rfl, rfl, by decide, rfl⟩
 case round =>
  obtain ⟨j, X, rfl, rfl, hj, hX⟩ := hrel
  have J := zh hX
  clear hX
  by_cases hlt : j < 8
  ·have hs : j < l.length := by have := H.out; omega
   have hsz : j < (ByteArray.mk l.toArray).size := hs
   have hba : (ByteArray.mk l.toArray)[j] = l[j] := byte_at l j hs
   have hx : (ByteArray.mk l.toArray)[j].toNat < 256 := (ByteArray.mk l.toArray)[j].toNat_lt
   have HO := zh (or8 X l[j].toNat (by rw [J.out]; exact nm_small l j (by omega)) l[j].toNat_lt)
   go_wp2
   go_round
   case rel => exact ⟨j + 1, X * 256 + l[j].toNat, by go_num, by rw [HO.out], hlt, by rw [nm_next l j hs, J.out]⟩
   case measure => simp [intOf]; omega
  ·obtain rfl : j = 8 := by omega
   go_wp2
   go_ret
   exact ⟨ret_int (by rw [J.out]), rfl⟩
theorem ret_u3 {a b : Int} {s t : List UInt8} {c d : Int} (h : a = b) (g : s = t) (i : c = d) : Ending.returned (.tuple #[.int .u64 a, .string ⟨s.toArray⟩, .int .i64 c]) = .returned (.tuple #[.int .u64 b, .string ⟨t.toArray⟩, .int .i64 d]) := by rw [h, g, i]
theorem readNumber_short (l : List UInt8) (k : Nat) (y : Int) (w : World) (hy : y = k) (hl : l.length < k) :
  Calls Tryz.prog 139 #[.string ⟨l.toArray⟩, .int .i64 y] w fun e w' => e = .returned (.tuple #[.int .u64 0, .string ⟨([] : List UInt8).toArray⟩, .int .i64 3]) ∧ w = w' := by
 have h1 : (l.length : Int) < y := by omega
 clear hl hy
 go_enter Tryz.func139, Tryz.ntmps139
 go_wp2
 go_ret3
 exact ⟨rfl, rfl⟩
theorem readNumber_is (l : List UInt8) (k : Nat) (y : Int) (w : World) (hy : y = k) (hk : k ≤ 8) (hl : k ≤ l.length) :
  Calls Tryz.prog 139 #[.string ⟨l.toArray⟩, .int .i64 y] w fun e w' => e = .returned (.tuple #[.int .u64 (Kc.nm (l.take k)), .string ⟨(l.drop k).toArray⟩, .int .i64 0]) ∧ Below w.heap.size w w' := by
 subst hy
 have H := zh (za hl hk)
 have h1 : decide ((l.length : Int) < (k : Int)) = false := by rw [decide_eq_false_iff_not]; omega
 have h2 : (k : Int) ≤ (l.length : Int) := by omega
 have hm : Tryz.prog.follows .mixedOrders = true := by kernel_rfl
 have ct := cut_from l k
 clear hl hk
 go_enter Tryz.func139, Tryz.ntmps139
 go_wp2
 go_loop [7, 14] (fun n i => ∃ (j X : Nat), i = .int .i64 j ∧ n = .int .u64 X ∧ j ≤ k ∧ X = Kc.nm (l.take j)) (fun _ i => k - (intOf i).toNat)
 case atStart => exact ⟨0, 0, rfl, rfl, Nat.zero_le _, rfl⟩
 case round =>
  obtain ⟨j, X, rfl, rfl, hj, hX⟩ := hrel
  have J := zh hX
  clear hX
  by_cases hlt : j < k
  ·have hs : j < l.length := by have := H.out; omega
   have hsz : j < (ByteArray.mk l.toArray).size := hs
   have hba : (ByteArray.mk l.toArray)[j] = l[j] := byte_at l j hs
   have hx : (ByteArray.mk l.toArray)[j].toNat < 256 := (ByteArray.mk l.toArray)[j].toNat_lt
   have hw : wrap64 ((j : Int) + 1) = (j : Int) + 1 := by have := H.out; exact wrap_in _ (by omega) (by omega)
   have HO := zh (or8 X l[j].toNat (by rw [J.out]; exact nm_small l j (by have := H.out; omega)) l[j].toNat_lt)
   go_wp2
   go_round
   case rel => exact ⟨j + 1, X * 256 + l[j].toNat, by go_num, by rw [HO.out], hlt, by rw [nm_next l j hs, J.out]⟩
   case measure => rw [hw]; simp [intOf]; omega
  ·obtain rfl : j = k := by omega
   go_wp2
   go_quiet (fail)
   go_wp2
   go_ret3
   exact ⟨ret_u3 (by rw [J.out]) rfl rfl, below_drewV _ (Below.refl _ _)⟩
end Go.Proofs.YtmgdciihpjifgaaGreatDoor
namespace Go.Proofs.YtmgdciihpjifgaaGreatDoor
open Go.ChangeShapes Go.WideShapes Go.ChangeAt Go.RowKit Go.Joins Go.Deep
section
variable {H : Type} {enc : TypeId × Value → H} {W : World}
end
end Go.Proofs.YtmgdciihpjifgaaGreatDoor
