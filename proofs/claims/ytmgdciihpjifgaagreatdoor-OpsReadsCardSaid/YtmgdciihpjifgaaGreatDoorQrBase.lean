/-
 Small facts that all walks of this seat use: equal results, tests that are decided ahead.
 Reals as plain mathematics: class, canonical form, key, order and equality of 64 bits, as functions of integers. Conditions: the bounds named in each theorem.
 Go's and, or, exclusive or on 64 bits as sums and remainders, at the masks that package reals uses. Conditions: the bounds named in each theorem.
 What the leaves of package reals and of the document's answers say: parts, exponent, fraction, Class, Canon, Key, Back, for every 64 bits.
 What Key and Back answer, the program's and the document's, for every 64 bits.
-/
import Derived.Test.YtmgdciihpjifgaaGreatDoorRows
import Derived.WalkKit
import Derived.WalkSpells
import Derived.WalkLawsBesides
import Derived.Lib.Hide
import Derived.Laws.BitsAllLaws
set_option maxHeartbeats 1000000
namespace Go.Proofs.YtmgdciihpjifgaaGreatDoor
open Go.RowKit
theorem za {a b : Prop} (x : a) (y : b) : a ∧ b := ⟨x, y⟩
theorem zh {p : Prop} (h : p) : Hid p := Lib.hid h
theorem zyc {α : Type} {xs : List α} {i : Nat} (h : i < xs.toArray.size) : xs.toArray[i] = xs[i]'(by simpa using h) := List.getElem_toArray h
theorem zyd {α : Type} (a : α) (l : List α) (i : Nat) (h : i + 1 < (a :: l).length) : (a :: l)[i + 1] = l[i]'(by simpa using h) := List.getElem_cons_succ a l i h
theorem zye {α : Type} (a : α) (l : List α) (h : 0 < (a :: l).length) : (a :: l)[0] = a := List.getElem_cons_zero a l h
theorem zyf {α : Type} (l : List α) (i : Nat) (a : α) : l.toArray.setIfInBounds i a = (l.set i a).toArray := List.setIfInBounds_toArray l i a
theorem zyi {α : Type} (x : α) (xs : List α) (b : α) : (x :: xs).set 0 b = b :: xs := List.set_cons_zero
theorem zyj {α : Type} (x : α) (xs : List α) (n : Nat) (b : α) : (x :: xs).set (n + 1) b = x :: xs.set n b := List.set_cons_succ
theorem ret_int {k : IntKind} {a b : Int} (h : a = b) : Ending.returned (.int k a) = .returned (.int k b) := by rw [h]
theorem ret_i2 {k l : IntKind} {a b c d : Int} (h : a = b) (g : c = d) : Ending.returned (.tuple #[.int k a, .int l c]) = .returned (.tuple #[.int k b, .int l d]) := by rw [h, g]
theorem ret_bool {a b : Bool} (h : a = b) : Ending.returned (.bool a) = .returned (.bool b) := by rw [h]
theorem beq_f {a b : Int} (h : a ≠ b) : (a == b) = false := by simp [h]
theorem beq_t {a b : Int} (h : a = b) : (a == b) = true := by simp [h]
theorem bne_t {a b : Int} (h : a ≠ b) : (a != b) = true := by simp [h]
theorem wrap_in (x : Int) (h0 : -9223372036854775808 ≤ x) (h1 : x < 9223372036854775808) : wrap64 x = x := by unfold wrap64; omega
end Go.Proofs.YtmgdciihpjifgaaGreatDoor
namespace Go.Proofs.YtmgdciihpjifgaaGreatDoor.Rl
def ex (x : Int) : Int := x / 4503599627370496 % 2048
def fr (x : Int) : Int := x % 4503599627370496
def cl (x : Int) : Int := if ex x = 2047 then (if fr x = 0 then 2 else 1) else if ex x = 0 then (if fr x = 0 then 3 else 4) else 5
def cn (x : Int) : Int := if cl x = 1 then 9221120237041090560 else x
def ky (x : Int) : Int := if cn x < 9223372036854775808 then cn x + 9223372036854775808 else 18446744073709551615 - cn x
def bz (k : Int) : Int := if k < 9223372036854775808 then 18446744073709551615 - k else k - 9223372036854775808
def bk (k : Int) : Int := if cn (bz k) = bz k then bz k else 0
def bo (k : Int) : Bool := cn (bz k) == bz k
def cp (a b : Int) : Int := if ky a < ky b then -1 else if ky b < ky a then 1 else 0
def eq (a b : Int) : Bool := !(cl a == 1) && !(cl b == 1) && (a == b || (cl a == 3 && cl b == 3))
def U (x : Int) : Prop := 0 ≤ x ∧ x < 18446744073709551616
theorem cl_nan (x : Int) (h : ex x = 2047) (g : fr x ≠ 0) : cl x = 1 := by unfold cl; rw [if_pos h, if_neg g]
theorem cl_inf (x : Int) (h : ex x = 2047) (g : fr x = 0) : cl x = 2 := by unfold cl; rw [if_pos h, if_pos g]
theorem cl_zero (x : Int) (h : ex x = 0) (g : fr x = 0) : cl x = 3 := by unfold cl; rw [if_neg (by omega), if_pos h, if_pos g]
theorem cl_small (x : Int) (h : ex x = 0) (g : fr x ≠ 0) : cl x = 4 := by unfold cl; rw [if_neg (by omega), if_pos h, if_neg g]
theorem cl_normal (x : Int) (h : ex x ≠ 2047) (g : ex x ≠ 0) : cl x = 5 := by unfold cl; rw [if_neg h, if_neg g]
theorem cl3 (x : Int) : cl x = 3 ↔ ex x = 0 ∧ fr x = 0 := by unfold cl; (repeat' split) <;> omega
theorem ex_range (x : Int) : 0 ≤ ex x ∧ ex x < 2048 := by unfold ex; omega
theorem cn_U (x : Int) (h : U x) : U (cn x) := by unfold U cn at *; split <;> omega
theorem ky_U (x : Int) (h : U x) : U (ky x) := by have := cn_U x h; unfold U ky at *; split <;> omega
theorem bz_U (x : Int) (h : U x) : U (bz x) := by unfold U bz at *; split <;> omega
theorem bk_U (x : Int) (h : U x) : U (bk x) := by have := bz_U x h; unfold bk; split; exact this; exact ⟨by decide, by decide⟩
theorem cp_neg (a b : Int) : cp a b = - cp b a := by unfold cp; (repeat' split) <;> omega
theorem cp_range (a b : Int) : cp a b = -1 ∨ cp a b = 0 ∨ cp a b = 1 := by unfold cp; (repeat' split) <;> omega
theorem cl3_U (x : Int) (h : U x) : cl x = 3 ↔ x = 0 ∨ x = 9223372036854775808 := by
 rw [cl3]; unfold ex fr; unfold U at h; omega
theorem ky_zero (x : Int) (h : x = 0 ∨ x = 9223372036854775808) : ky x = 9223372036854775808 ∨ ky x = 9223372036854775807 := by
 rcases h with rfl | rfl
 ·left; decide
 ·right; decide
theorem eq_iff (a b : Int) : eq a b = true ↔ cl a ≠ 1 ∧ cl b ≠ 1 ∧ (a = b ∨ (cl a = 3 ∧ cl b = 3)) := by
 unfold eq; simp [and_assoc]
theorem beside (a b c : Int) (ha : U a) (hc : U c) (h : eq a c = true) : cp a b * cp b c ≤ 0 := by
 obtain ⟨_, _, h⟩ := (eq_iff a c).1 h
 rcases h with rfl | ⟨h1, h2⟩
 ·rw [cp_neg b a]
  rcases cp_range a b with e | e | e <;> rw [e] <;> decide
 ·have k1 := ky_zero a ((cl3_U a ha).1 h1)
  have k2 := ky_zero c ((cl3_U c hc).1 h2)
  have : cp a b = 0 ∨ cp b c = 0 ∨ (cp a b = 1 ∧ cp b c = -1) ∨ (cp a b = -1 ∧ cp b c = 1) := by
   unfold cp; (repeat' split) <;> omega
  rcases this with e | e | ⟨e, f⟩ | ⟨e, f⟩
  ·rw [e]; simp
  ·rw [e]; simp
  ·rw [e, f]; decide
  ·rw [e, f]; decide
end Go.Proofs.YtmgdciihpjifgaaGreatDoor.Rl
namespace Go.Proofs.YtmgdciihpjifgaaGreatDoor.Rl
theorem a2047 (x : Int) (h : U x) : bits .and .u64 (x / 4503599627370496) 2047 = ex x := by
 have := u64_and (x / 4503599627370496) 2047 (by unfold U at h; omega) (by unfold U at h; omega) (by omega) (by omega)
 rw [this, show (2047 : Int).toNat = 2 ^ 11 - 1 from rfl, Nat.and_two_pow_sub_one_eq_mod]
 unfold U at h; unfold ex; omega
theorem amask (x : Int) (h : U x) : bits .and .u64 x 4503599627370495 = x % 4503599627370496 := by
 have := u64_and x 4503599627370495 h.1 h.2 (by omega) (by omega)
 rw [this, show (4503599627370495 : Int).toNat = 2 ^ 52 - 1 from rfl, Nat.and_two_pow_sub_one_eq_mod]
 unfold U at h; omega
theorem asign (x : Int) (h : U x) : bits .and .u64 x 9223372036854775808 = if x < 9223372036854775808 then 0 else 9223372036854775808 := by
 have := u64_and x 9223372036854775808 h.1 h.2 (by omega) (by omega)
 rw [this, show (9223372036854775808 : Int).toNat = 2 ^ 63 from rfl, nat_bit]
 unfold U at h; split <;> omega
theorem alow (x : Int) (h : U x) : bits .and .u64 x 9223372036854775807 = x % 9223372036854775808 := by
 have := u64_and x 9223372036854775807 h.1 h.2 (by omega) (by omega)
 rw [this, show (9223372036854775807 : Int).toNat = 2 ^ 63 - 1 from rfl, Nat.and_two_pow_sub_one_eq_mod]
 unfold U at h; omega
theorem nat_xsign (x : Nat) (h : x < 2 ^ 63) : x ^^^ 2 ^ 63 = x + 2 ^ 63 := by
 have e : x ^^^ 2 ^ 63 = 2 ^ 63 ||| x := by
  apply Nat.eq_of_testBit_eq
  intro i
  rw [Nat.testBit_xor, Nat.testBit_or, Nat.testBit_two_pow]
  by_cases g : 63 = i
  ·subst g; rw [Nat.testBit_lt_two_pow h]; rfl
  ·simp [g]
 rw [e, nat_join 63 _ _ (by decide) h]
 omega
theorem nat_xsign' (x : Nat) (h : 2 ^ 63 ≤ x) (g : x < 2 ^ 64) : x ^^^ 2 ^ 63 = x - 2 ^ 63 := by
 have e := nat_xsign (x - 2 ^ 63) (by omega)
 have f : x = (x - 2 ^ 63) ^^^ 2 ^ 63 := by rw [e]; omega
 have k : x ^^^ 2 ^ 63 = ((x - 2 ^ 63) ^^^ 2 ^ 63) ^^^ 2 ^ 63 := by rw [← f]
 rw [k, Nat.xor_assoc, Nat.xor_self, Nat.xor_zero]
theorem xsign (x : Int) (h : U x) : bits .xor .u64 x 9223372036854775808 = if x < 9223372036854775808 then x + 9223372036854775808 else x - 9223372036854775808 := by
 have := u64_xor x 9223372036854775808 h.1 h.2 (by omega) (by omega)
 rw [this, show (9223372036854775808 : Int).toNat = 2 ^ 63 from rfl]
 unfold U at h
 split
 ·rw [nat_xsign x.toNat (by omega)]; omega
 ·rw [nat_xsign' x.toNat (by omega) (by omega)]; omega
theorem nat_xall (x : Nat) (h : x < 2 ^ 64) : (2 ^ 64 - 1) ^^^ x = 2 ^ 64 - (x + 1) := by
 apply Nat.eq_of_testBit_eq
 intro i
 rw [Nat.testBit_xor, Nat.testBit_two_pow_sub_succ h, Nat.testBit_two_pow_sub_one]
 by_cases g : i < 64
 ·simp [g]
 ·have : x.testBit i = false := Nat.testBit_lt_two_pow (Nat.lt_of_lt_of_le h (Nat.pow_le_pow_right (by decide) (by omega)))
  simp [g, this]
theorem xall (x : Int) (h : U x) : bits .xor .u64 IntKind.u64.max x = 18446744073709551615 - x := by
 have := u64_xor 18446744073709551615 x (by decide) (by decide) h.1 h.2
 show bits .xor .u64 18446744073709551615 x = _
 rw [this, show (18446744073709551615 : Int).toNat = 2 ^ 64 - 1 from rfl, nat_xall x.toNat (by unfold U at h; omega)]
 unfold U at h; omega
theorem osign (x : Int) (h0 : 0 ≤ x) (h : x < 9223372036854775808) : bits .or .u64 x 9223372036854775808 = x + 9223372036854775808 := by
 have := u64_or x 9223372036854775808 h0 (by omega) (by omega) (by omega)
 rw [this, Nat.or_comm, nat_join 63 _ _ (by decide) (by omega)]
 omega
end Go.Proofs.YtmgdciihpjifgaaGreatDoor.Rl
namespace Go.Proofs.YtmgdciihpjifgaaGreatDoor
open Go.RowKit
theorem wrap_ex (x : Int) : wrap64 (Rl.ex x) = Rl.ex x := by have := Rl.ex_range x; exact wrap_in _ (by omega) (by omega)
theorem parts_any (x : Int) (w : World) (hx : Rl.U x) :
  Calls Tryz.prog 134 #[.int .u64 x] w fun e w' => e = .returned (.tuple #[.int .i64 (Rl.ex x), .int .u64 (Rl.fr x)]) ∧ w = w' := by
 have h1 := Rl.a2047 x hx
 have h2 : bits BinOp.and IntKind.u64 x 4503599627370495 = Rl.fr x := Rl.amask x hx
 go_enter Tryz.func134, Tryz.ntmps134
 go_wp2
 go_ret2
 exact ⟨ret_i2 (wrap_ex x) rfl, rfl⟩
theorem exponent_any (x : Int) (w : World) (hx : Rl.U x) :
  Calls Tryz.prog 136 #[.int .u64 x] w fun e w' => e = .returned (.int .i64 (Rl.ex x)) ∧ w = w' := by
 have h1 := Rl.a2047 x hx
 go_enter Tryz.func136, Tryz.ntmps136
 go_wp2
 go_ret
 exact ⟨ret_int (wrap_ex x), rfl⟩
theorem fraction_any (x : Int) (w : World) (hx : Rl.U x) :
  Calls Tryz.prog 137 #[.int .u64 x] w fun e w' => e = .returned (.int .u64 (Rl.fr x)) ∧ w = w' := by
 have h2 : bits BinOp.and IntKind.u64 x 4503599627370495 = Rl.fr x := Rl.amask x hx
 go_enter Tryz.func137, Tryz.ntmps137
 go_wp2
 go_ret
 exact ⟨rfl, rfl⟩
theorem class_any (x : Int) (w : World) (hx : Rl.U x) :
  Calls Tryz.prog 119 #[.int .u64 x] w fun e w' => e = .returned (.int .i64 (Rl.cl x)) ∧ w = w' := by
 by_cases h : Rl.ex x = 2047
 ·by_cases g : Rl.fr x = 0
  ·rw [Rl.cl_inf x h g]
   go_enter Tryz.func119, Tryz.ntmps119
   go_wp2_with fail
   refine (parts_any x _ hx).mono ?_
   rintro e w' ⟨rfl, rfl⟩
   rw [h, g]
   go_wp2
   go_ret
   exact ⟨rfl, rfl⟩
  ·rw [Rl.cl_nan x h g]
   have g1 := beq_f g
   go_enter Tryz.func119, Tryz.ntmps119
   go_wp2_with fail
   refine (parts_any x _ hx).mono ?_
   rintro e w' ⟨rfl, rfl⟩
   rw [h]
   go_wp2
   go_ret
   exact ⟨rfl, rfl⟩
 ·have h1 := beq_f h
  by_cases k : Rl.ex x = 0
  ·by_cases g : Rl.fr x = 0
   ·rw [Rl.cl_zero x k g]
    clear h1 h
    go_enter Tryz.func119, Tryz.ntmps119
    go_wp2_with fail
    refine (parts_any x _ hx).mono ?_
    rintro e w' ⟨rfl, rfl⟩
    rw [k, g]
    go_wp2
    go_ret
    exact ⟨rfl, rfl⟩
   ·rw [Rl.cl_small x k g]
    have g1 := beq_f g
    clear h1 h
    go_enter Tryz.func119, Tryz.ntmps119
    go_wp2_with fail
    refine (parts_any x _ hx).mono ?_
    rintro e w' ⟨rfl, rfl⟩
    rw [k]
    go_wp2
    go_ret
    exact ⟨rfl, rfl⟩
  ·rw [Rl.cl_normal x h k]
   have k1 := beq_f k
   go_enter Tryz.func119, Tryz.ntmps119
   go_wp2_with fail
   refine (parts_any x _ hx).mono ?_
   rintro e w' ⟨rfl, rfl⟩
   go_wp2
   go_ret
   exact ⟨rfl, rfl⟩
theorem refClass_any (x : Int) (w : World) (hx : Rl.U x) :
  Calls Tryz.prog 121 #[.int .u64 x] w fun e w' => e = .returned (.int .i64 (Rl.cl x)) ∧ w = w' := by
 by_cases h : Rl.ex x = 2047
 ·by_cases g : Rl.fr x = 0
  ·rw [Rl.cl_inf x h g]
   go_enter Tryz.func121, Tryz.ntmps121
   go_wp2_with fail
   refine (exponent_any x _ hx).mono ?_
   rintro e w' ⟨rfl, rfl⟩
   rw [h]
   go_wp2_with fail
   refine (fraction_any x _ hx).mono ?_
   rintro e w' ⟨rfl, rfl⟩
   rw [g]
   go_wp2_with fail
   refine (exponent_any x _ hx).mono ?_
   rintro e w' ⟨rfl, rfl⟩
   rw [h]
   go_wp2
   go_ret
   exact ⟨rfl, rfl⟩
  ·rw [Rl.cl_nan x h g]
   have g1 := beq_f g
   go_enter Tryz.func121, Tryz.ntmps121
   go_wp2_with fail
   refine (exponent_any x _ hx).mono ?_
   rintro e w' ⟨rfl, rfl⟩
   rw [h]
   go_wp2_with fail
   refine (fraction_any x _ hx).mono ?_
   rintro e w' ⟨rfl, rfl⟩
   go_wp2
   go_ret
   exact ⟨rfl, rfl⟩
 ·have h1 := beq_f h
  by_cases k : Rl.ex x = 0
  ·by_cases g : Rl.fr x = 0
   ·rw [Rl.cl_zero x k g]
    clear h1 h
    go_enter Tryz.func121, Tryz.ntmps121
    go_wp2_with fail
    refine (exponent_any x _ hx).mono ?_
    rintro e w' ⟨rfl, rfl⟩
    rw [k]
    go_wp2_with fail
    refine (exponent_any x _ hx).mono ?_
    rintro e w' ⟨rfl, rfl⟩
    rw [k]
    go_wp2_with fail
    refine (exponent_any x _ hx).mono ?_
    rintro e w' ⟨rfl, rfl⟩
    rw [k]
    go_wp2_with fail
    refine (fraction_any x _ hx).mono ?_
    rintro e w' ⟨rfl, rfl⟩
    rw [g]
    go_wp2
    go_ret
    exact ⟨rfl, rfl⟩
   ·rw [Rl.cl_small x k g]
    have g1 := beq_f g
    clear h1 h
    go_enter Tryz.func121, Tryz.ntmps121
    go_wp2_with fail
    refine (exponent_any x _ hx).mono ?_
    rintro e w' ⟨rfl, rfl⟩
    rw [k]
    go_wp2_with fail
    refine (exponent_any x _ hx).mono ?_
    rintro e w' ⟨rfl, rfl⟩
    rw [k]
    go_wp2_with fail
    refine (exponent_any x _ hx).mono ?_
    rintro e w' ⟨rfl, rfl⟩
    rw [k]
    go_wp2_with fail
    refine (fraction_any x _ hx).mono ?_
    rintro e w' ⟨rfl, rfl⟩
    go_wp2_with fail
    refine (exponent_any x _ hx).mono ?_
    rintro e w' ⟨rfl, rfl⟩
    rw [k]
    go_wp2
    go_ret
    exact ⟨rfl, rfl⟩
  ·rw [Rl.cl_normal x h k]
   have k1 := beq_f k
   go_enter Tryz.func121, Tryz.ntmps121
   go_wp2_with fail
   refine (exponent_any x _ hx).mono ?_
   rintro e w' ⟨rfl, rfl⟩
   go_wp2_with fail
   refine (exponent_any x _ hx).mono ?_
   rintro e w' ⟨rfl, rfl⟩
   go_wp2_with fail
   refine (exponent_any x _ hx).mono ?_
   rintro e w' ⟨rfl, rfl⟩
   go_wp2_with fail
   refine (exponent_any x _ hx).mono ?_
   rintro e w' ⟨rfl, rfl⟩
   go_wp2
   go_ret
   exact ⟨rfl, rfl⟩
theorem canon_any (x : Int) (w : World) (hx : Rl.U x) :
  Calls Tryz.prog 98 #[.int .u64 x] w fun e w' => e = .returned (.int .u64 (Rl.cn x)) ∧ w = w' := by
 by_cases h : Rl.cl x = 1
 ·have e : Rl.cn x = 9221120237041090560 := by unfold Rl.cn; rw [if_pos h]
  rw [e]
  clear e
  go_enter Tryz.func98, Tryz.ntmps98
  go_wp2_with fail
  refine (class_any x _ hx).mono ?_
  rintro e w' ⟨rfl, rfl⟩
  rw [h]
  go_wp2
  go_ret
  exact ⟨rfl, rfl⟩
 ·have e : Rl.cn x = x := by unfold Rl.cn; rw [if_neg h]
  rw [e]
  clear e
  have h1 := beq_f h
  clear h
  go_enter Tryz.func98, Tryz.ntmps98
  go_wp2_with fail
  refine (class_any x _ hx).mono ?_
  rintro e w' ⟨rfl, rfl⟩
  go_wp2
  go_ret
  exact ⟨rfl, rfl⟩
theorem refCanon_any (x : Int) (w : World) (hx : Rl.U x) :
  Calls Tryz.prog 102 #[.int .u64 x] w fun e w' => e = .returned (.int .u64 (Rl.cn x)) ∧ w = w' := by
 by_cases h : Rl.cl x = 1
 ·have e : Rl.cn x = 9221120237041090560 := by unfold Rl.cn; rw [if_pos h]
  rw [e]
  clear e
  go_enter Tryz.func102, Tryz.ntmps102
  go_wp2_with fail
  refine (refClass_any x _ hx).mono ?_
  rintro e w' ⟨rfl, rfl⟩
  rw [h]
  go_wp2
  go_ret
  exact ⟨rfl, rfl⟩
 ·have e : Rl.cn x = x := by unfold Rl.cn; rw [if_neg h]
  rw [e]
  clear e
  have h1 := beq_f h
  clear h
  go_enter Tryz.func102, Tryz.ntmps102
  go_wp2_with fail
  refine (refClass_any x _ hx).mono ?_
  rintro e w' ⟨rfl, rfl⟩
  go_wp2
  go_ret
  exact ⟨rfl, rfl⟩
end Go.Proofs.YtmgdciihpjifgaaGreatDoor
namespace Go.Proofs.YtmgdciihpjifgaaGreatDoor
open Go.RowKit
theorem key_any (x : Int) (w : World) (hx : Rl.U x) :
  Calls Tryz.prog 148 #[.int .u64 x] w fun e w' => e = .returned (.int .u64 (Rl.ky x)) ∧ w = w' := by
 have hc := Rl.cn_U x hx
 have h1 := Rl.asign _ hc
 have h2 := Rl.xsign _ hc
 have h3 := Rl.xall _ hc
 by_cases h : Rl.cn x < 9223372036854775808
 ·rw [if_pos h] at h1 h2
  have e : Rl.ky x = Rl.cn x + 9223372036854775808 := by unfold Rl.ky; rw [if_pos h]
  rw [e]
  clear e h
  go_enter Tryz.func148, Tryz.ntmps148
  go_wp2_with fail
  refine (canon_any x _ hx).mono ?_
  rintro e w' ⟨rfl, rfl⟩
  go_wp2
  go_ret
  exact ⟨rfl, rfl⟩
 ·rw [if_neg h] at h1 h2
  have e : Rl.ky x = 18446744073709551615 - Rl.cn x := by unfold Rl.ky; rw [if_neg h]
  rw [e]
  clear e h2
  go_enter Tryz.func148, Tryz.ntmps148
  go_wp2_with fail
  refine (canon_any x _ hx).mono ?_
  rintro e w' ⟨rfl, rfl⟩
  go_wp2
  go_ret
  exact ⟨rfl, rfl⟩
theorem refKey_any (x : Int) (w : World) (hx : Rl.U x) :
  Calls Tryz.prog 91 #[.int .u64 x] w fun e w' => e = .returned (.int .u64 (Rl.ky x)) ∧ w = w' := by
 have hc := Rl.cn_U x hx
 have h3 := Rl.xall _ hc
 by_cases h : Rl.cn x < 9223372036854775808
 ·have h2 := Rl.osign _ hc.1 h
  have h1 : Rl.cn x / 9223372036854775808 = 0 := by unfold Rl.U at hc; omega
  have e : Rl.ky x = Rl.cn x + 9223372036854775808 := by unfold Rl.ky; rw [if_pos h]
  rw [e]
  clear e h
  go_enter Tryz.func91, Tryz.ntmps91
  go_wp2_with fail
  refine (refCanon_any x _ hx).mono ?_
  rintro e w' ⟨rfl, rfl⟩
  go_wp2
  go_ret
  exact ⟨rfl, rfl⟩
 ·have h1 : Rl.cn x / 9223372036854775808 = 1 := by unfold Rl.U at hc; omega
  have e : Rl.ky x = 18446744073709551615 - Rl.cn x := by unfold Rl.ky; rw [if_neg h]
  rw [e]
  clear e h
  go_enter Tryz.func91, Tryz.ntmps91
  go_wp2_with fail
  refine (refCanon_any x _ hx).mono ?_
  rintro e w' ⟨rfl, rfl⟩
  go_wp2
  go_ret
  exact ⟨rfl, rfl⟩
theorem back_any (x : Int) (w : World) (hx : Rl.U x) :
  Calls Tryz.prog 163 #[.int .u64 x] w fun e w' => e = .returned (.tuple #[.int .u64 (Rl.bk x), .bool (Rl.bo x)]) ∧ w = w' := by
 have hb := Rl.bz_U x hx
 have h3 := Rl.xall _ hx
 by_cases h : x < 9223372036854775808
 ·have hz : Rl.bz x = 18446744073709551615 - x := by unfold Rl.bz; rw [if_pos h]
  have h1 := Rl.asign _ hx
  rw [if_pos h] at h1
  rw [← hz] at h3
  clear hz h
  by_cases g : Rl.cn (Rl.bz x) = Rl.bz x
  ·have e1 : Rl.bk x = Rl.bz x := by unfold Rl.bk; rw [if_pos g]
   have e2 : Rl.bo x = true := by unfold Rl.bo; exact beq_t g
   rw [e1, e2]
   clear e1 e2
   have G := zh g
   clear g
   go_enter Tryz.func163, Tryz.ntmps163
   go_wp2_with fail
   refine (canon_any _ _ hb).mono ?_
   rintro e w' ⟨rfl, rfl⟩
   rw [G.out]
   go_wp2
   go_ret2
   exact ⟨rfl, rfl⟩
  ·have e1 : Rl.bk x = 0 := by unfold Rl.bk; rw [if_neg g]
   have e2 : Rl.bo x = false := by unfold Rl.bo; exact beq_f g
   rw [e1, e2]
   clear e1 e2
   have g1 := beq_f g
   clear g
   go_enter Tryz.func163, Tryz.ntmps163
   go_wp2_with fail
   refine (canon_any _ _ hb).mono ?_
   rintro e w' ⟨rfl, rfl⟩
   go_wp2
   go_ret2
   exact ⟨rfl, rfl⟩
 ·have hz : Rl.bz x = x - 9223372036854775808 := by unfold Rl.bz; rw [if_neg h]
  have h1 := Rl.asign _ hx
  have h2 := Rl.xsign _ hx
  rw [if_neg h] at h1 h2
  rw [← hz] at h2
  have Hz := zh hz
  clear hz h h3
  by_cases g : Rl.cn (Rl.bz x) = Rl.bz x
  ·have e1 : Rl.bk x = Rl.bz x := by unfold Rl.bk; rw [if_pos g]
   have e2 : Rl.bo x = true := by unfold Rl.bo; exact beq_t g
   rw [e1, e2]
   clear e1 e2
   have G := zh g
   clear g
   go_enter Tryz.func163, Tryz.ntmps163
   go_wp2_with fail
   refine (canon_any _ _ hb).mono ?_
   rintro e w' ⟨rfl, rfl⟩
   rw [G.out]
   go_wp2
   go_ret2
   exact ⟨rfl, rfl⟩
  ·have e1 : Rl.bk x = 0 := by unfold Rl.bk; rw [if_neg g]
   have e2 : Rl.bo x = false := by unfold Rl.bo; exact beq_f g
   rw [e1, e2]
   clear e1 e2
   have g1 := beq_f g
   clear g
   go_enter Tryz.func163, Tryz.ntmps163
   go_wp2_with fail
   refine (canon_any _ _ hb).mono ?_
   rintro e w' ⟨rfl, rfl⟩
   go_wp2
   go_ret2
   exact ⟨rfl, rfl⟩
theorem refBack_any (x : Int) (w : World) (hx : Rl.U x) :
  Calls Tryz.prog 117 #[.int .u64 x] w fun e w' => e = .returned (.tuple #[.int .u64 (Rl.bk x), .bool (Rl.bo x)]) ∧ w = w' := by
 have hb := Rl.bz_U x hx
 have h3 := Rl.xall _ hx
 by_cases h : x < 9223372036854775808
 ·have hz : Rl.bz x = 18446744073709551615 - x := by unfold Rl.bz; rw [if_pos h]
  have h1 : x / 9223372036854775808 = 0 := by unfold Rl.U at hx; omega
  rw [← hz] at h3
  clear hz h
  by_cases g : Rl.cn (Rl.bz x) = Rl.bz x
  ·have e1 : Rl.bk x = Rl.bz x := by unfold Rl.bk; rw [if_pos g]
   have e2 : Rl.bo x = true := by unfold Rl.bo; exact beq_t g
   rw [e1, e2]
   clear e1 e2
   have G := zh g
   clear g
   go_enter Tryz.func117, Tryz.ntmps117
   go_wp2_with fail
   refine (refCanon_any _ _ hb).mono ?_
   rintro e w' ⟨rfl, rfl⟩
   rw [G.out]
   go_wp2
   go_ret2
   exact ⟨rfl, rfl⟩
  ·have e1 : Rl.bk x = 0 := by unfold Rl.bk; rw [if_neg g]
   have e2 : Rl.bo x = false := by unfold Rl.bo; exact beq_f g
   rw [e1, e2]
   clear e1 e2
   have g1 := beq_f g
   clear g
   go_enter Tryz.func117, Tryz.ntmps117
   go_wp2_with fail
   refine (refCanon_any _ _ hb).mono ?_
   rintro e w' ⟨rfl, rfl⟩
   go_wp2
   go_ret2
   exact ⟨rfl, rfl⟩
 ·have hz : Rl.bz x = x - 9223372036854775808 := by unfold Rl.bz; rw [if_neg h]
  have h1 : x / 9223372036854775808 = 1 := by unfold Rl.U at hx; omega
  have h2 : bits BinOp.and IntKind.u64 x 9223372036854775807 = Rl.bz x := by rw [Rl.alow _ hx, hz]; unfold Rl.U at hx; omega
  have Hz := zh hz
  clear hz h h3
  by_cases g : Rl.cn (Rl.bz x) = Rl.bz x
  ·have e1 : Rl.bk x = Rl.bz x := by unfold Rl.bk; rw [if_pos g]
   have e2 : Rl.bo x = true := by unfold Rl.bo; exact beq_t g
   rw [e1, e2]
   clear e1 e2
   have G := zh g
   clear g
   go_enter Tryz.func117, Tryz.ntmps117
   go_wp2_with fail
   refine (refCanon_any _ _ hb).mono ?_
   rintro e w' ⟨rfl, rfl⟩
   rw [G.out]
   go_wp2
   go_ret2
   exact ⟨rfl, rfl⟩
  ·have e1 : Rl.bk x = 0 := by unfold Rl.bk; rw [if_neg g]
   have e2 : Rl.bo x = false := by unfold Rl.bo; exact beq_f g
   rw [e1, e2]
   clear e1 e2
   have g1 := beq_f g
   clear g
   go_enter Tryz.func117, Tryz.ntmps117
   go_wp2_with fail
   refine (refCanon_any _ _ hb).mono ?_
   rintro e w' ⟨rfl, rfl⟩
   go_wp2
   go_ret2
   exact ⟨rfl, rfl⟩
end Go.Proofs.YtmgdciihpjifgaaGreatDoor
