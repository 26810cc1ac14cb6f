/-
  Plain mathematics of words of records: their parts, set bits, the order. Conditions: the bounds named in each theorem.
-/
import Derived.WalkKit
import Derived.Laws.BitsAllLaws
namespace Go.Proofs.Ytljgnflmomakaaa.Td
theorem wrap_i64 (n : Int) : IntKind.i64.wrap n = (n + 9223372036854775808) % 18446744073709551616 - 9223372036854775808 := by simp [IntKind.wrap, IntKind.bits, IntKind.signed]; split <;> omega

theorem ofInt_any (x : Int) : (BitVec.ofInt 64 x).toNat = (x % 18446744073709551616).toNat := by
  rw [BitVec.toNat_ofInt]; rfl

/-- and with twenty ones: the remainder, whatever the sign. -/
theorem and20 (x : Int) : bits .and .i64 x 1048575 = x % 1048576 := by
  show IntKind.i64.wrap ((BitVec.ofInt 64 x &&& BitVec.ofInt 64 1048575).toNat : Int) = _
  rw [BitVec.toNat_and, ofInt_any, show (BitVec.ofInt 64 1048575).toNat = 1048575 from by decide, nat_mask20, wrap_i64]
  omega

theorem and1 (x : Int) : bits .and .i64 x 1 = x % 2 := by
  show IntKind.i64.wrap ((BitVec.ofInt 64 x &&& BitVec.ofInt 64 1).toNat : Int) = _
  rw [BitVec.toNat_and, ofInt_any, show (BitVec.ofInt 64 1).toNat = 1 from by decide, nat_mask1, wrap_i64]
  omega

theorem or_low (n m : Nat) (h : m < 8) : n ||| m = n / 8 * 8 + ((n % 8) ||| m) := by
  have a : (n ||| m) / 2 ^ 3 = n / 2 ^ 3 ||| m / 2 ^ 3 := Nat.or_div_two_pow
  have b : (n ||| m) % 2 ^ 3 = n % 2 ^ 3 ||| m % 2 ^ 3 := Nat.or_mod_two_pow
  have c : m / 2 ^ 3 = 0 := by omega
  have d : m % 2 ^ 3 = m := by omega
  rw [c, Nat.or_zero] at a
  rw [d] at b
  have e : n % 2 ^ 3 = n % 8 := rfl
  rw [e] at b
  omega

theorem and_low (n m : Nat) (hn : n < 18446744073709551616) (h : m < 8) : n &&& (18446744073709551615 - m) = n / 8 * 8 + ((n % 8) &&& (7 - m)) := by
  have a : (n &&& (18446744073709551615 - m)) / 2 ^ 3 = n / 2 ^ 3 &&& (18446744073709551615 - m) / 2 ^ 3 := Nat.and_div_two_pow
  have b : (n &&& (18446744073709551615 - m)) % 2 ^ 3 = n % 2 ^ 3 &&& (18446744073709551615 - m) % 2 ^ 3 := Nat.and_mod_two_pow
  have c : (18446744073709551615 - m) / 2 ^ 3 = 2 ^ 61 - 1 := by omega
  have d : (18446744073709551615 - m) % 2 ^ 3 = 7 - m := by omega
  rw [c, Nat.and_two_pow_sub_one_eq_mod] at a
  rw [d] at b
  have e : n % 2 ^ 3 = n % 8 := rfl
  rw [e] at b
  omega

theorem or8 : ∀ x : Fin 8, x.val ||| 1 = x.val / 2 * 2 + 1 ∧ x.val ||| 2 = x.val / 4 * 4 + 2 + x.val % 2 ∧ x.val ||| 4 = 4 + x.val % 4 := by decide +kernel
theorem and8 : ∀ x : Fin 8, x.val &&& 6 = x.val / 2 * 2 ∧ x.val &&& 5 = x.val / 4 * 4 + x.val % 2 ∧ x.val &&& 3 = x.val % 4 := by decide +kernel

/-- w with its bit of the worth m set, or not. -/
def st (w m : Int) (b : Bool) : Int := w / (m * 2) * (m * 2) + (if b then m else 0) + w % m

theorem ori (w m : Int) (hm : 0 ≤ m) (h : m < 8) : bits .or .i64 w m = IntKind.i64.wrap (((w % 18446744073709551616).toNat ||| m.toNat : Nat) : Int) := by
  show IntKind.i64.wrap ((BitVec.ofInt 64 w ||| BitVec.ofInt 64 m).toNat : Int) = _
  rw [BitVec.toNat_or, ofInt_any, ofInt_any, Int.emod_eq_of_lt hm (by omega)]

theorem andi (w m : Int) (hm : 0 ≤ m) (h : m < 8) : bits .andNot .i64 w m = IntKind.i64.wrap (((w % 18446744073709551616).toNat &&& (18446744073709551615 - m.toNat) : Nat) : Int) := by
  show IntKind.i64.wrap ((BitVec.ofInt 64 w &&& ~~~BitVec.ofInt 64 m).toNat : Int) = _
  rw [BitVec.toNat_and, BitVec.toNat_not, ofInt_any, ofInt_any, Int.emod_eq_of_lt hm (by omega)]

theorem set1 (w : Int) (h0 : -9223372036854775808 ≤ w) (h1 : w < 9223372036854775808) : bits .or .i64 w 1 = st w 1 true ∧ bits .andNot .i64 w 1 = st w 1 false := by
  have f := or8 ⟨(w % 18446744073709551616).toNat % 8, Nat.mod_lt _ (by omega)⟩
  have g := and8 ⟨(w % 18446744073709551616).toNat % 8, Nat.mod_lt _ (by omega)⟩
  simp only at f g
  rw [ori w 1 (by omega) (by omega), andi w 1 (by omega) (by omega), show (1 : Int).toNat = 1 from rfl, or_low _ 1 (by omega), and_low _ 1 (by omega) (by omega), f.1, g.1, wrap_i64, wrap_i64]
  constructor <;> simp [st] <;> omega
theorem set2 (w : Int) (h0 : -9223372036854775808 ≤ w) (h1 : w < 9223372036854775808) : bits .or .i64 w 2 = st w 2 true ∧ bits .andNot .i64 w 2 = st w 2 false := by
  have f := or8 ⟨(w % 18446744073709551616).toNat % 8, Nat.mod_lt _ (by omega)⟩
  have g := and8 ⟨(w % 18446744073709551616).toNat % 8, Nat.mod_lt _ (by omega)⟩
  simp only at f g
  rw [ori w 2 (by omega) (by omega), andi w 2 (by omega) (by omega), show (2 : Int).toNat = 2 from rfl, or_low _ 2 (by omega), and_low _ 2 (by omega) (by omega), f.2.1, g.2.1, wrap_i64, wrap_i64]
  constructor <;> simp [st] <;> omega
theorem set4 (w : Int) (h0 : -9223372036854775808 ≤ w) (h1 : w < 9223372036854775808) : bits .or .i64 w 4 = st w 4 true ∧ bits .andNot .i64 w 4 = st w 4 false := by
  have f := or8 ⟨(w % 18446744073709551616).toNat % 8, Nat.mod_lt _ (by omega)⟩
  have g := and8 ⟨(w % 18446744073709551616).toNat % 8, Nat.mod_lt _ (by omega)⟩
  simp only at f g
  rw [ori w 4 (by omega) (by omega), andi w 4 (by omega) (by omega), show (4 : Int).toNat = 4 from rfl, or_low _ 4 (by omega), and_low _ 4 (by omega) (by omega), f.2.2, g.2.2, wrap_i64, wrap_i64]
  constructor <;> simp [st] <;> omega

theorem or_i64 (a b : Nat) (ha : a < 4611686018427387904) (hb : b < 4611686018427387904) : bits .or .i64 (a : Int) (b : Int) = ((a ||| b : Nat) : Int) := by
  have hx : a ||| b < 2 ^ 62 := Nat.or_lt_two_pow (by omega) (by omega)
  show IntKind.i64.wrap ((BitVec.ofInt 64 (a : Int) ||| BitVec.ofInt 64 (b : Int)).toNat : Int) = _
  rw [BitVec.toNat_or, ofInt_u64 a (by omega), ofInt_u64 b (by omega), wrap_i64]
  omega

/-- A word out of its parts. -/
theorem made (e s : Int) (h0 : 0 ≤ e) (h1 : e < 1048576) (h2 : 0 ≤ s) (h3 : s < 1048576) : bits .or .i64 (e * 8388608) (s * 8) = e * 8388608 + s * 8 := by
  obtain ⟨m, rfl⟩ := Int.eq_ofNat_of_zero_le h0
  obtain ⟨n, rfl⟩ := Int.eq_ofNat_of_zero_le h2
  have h := or_i64 (m * 8388608) (n * 8) (by omega) (by omega)
  rw [nat_join 23 (m * 8388608) (n * 8) (by omega) (by omega)] at h
  rw [show ((m : Int) * 8388608) = ((m * 8388608 : Nat) : Int) from by omega, show ((n : Int) * 8) = ((n * 8 : Nat) : Int) from by omega, h]
  omega

def ins (n : Int) : Bool := decide (0 ≤ n ∧ n < 1048576)
def ep (w : Int) : Int := w / 8388608 % 1048576
def sq (w : Int) : Int := w / 8 % 1048576
def bt (w m : Int) : Bool := w / m % 2 == 1
def on (b : Bool) (m : Int) : Int := if b then m else 0
def wi (w : Int) (l a d : Bool) : Int := w / 8 * 8 + on l 1 + on a 2 + on d 4
def ic (a b : Int) : Int := if a < b then -1 else if b < a then 1 else 0
def or2 (a b : Int) : Int := if a = 0 then b else a
def cm (a b : Int) : Int := or2 (ic (ep a) (ep b)) (ic (sq a) (sq b))
def mkw (e s : Int) : Int := if ins e = true ∧ ins s = true then e * 8388608 + s * 8 else 0
def mke (e s : Int) : Int := if ins e = true ∧ ins s = true then 0 else 1
/-- The number that comes next. -/
def nq (e l s : Int) : Int := if l < e then 1 else s + 1
/-- What Next tells. -/
def nx (e l s m : Int) : Int × Int × Int :=
  if ins e = true ∧ ins l = true ∧ ins s = true ∧ ins m = true ∧ l ≤ e then
    if m < nq e l s then (0, 0, 21) else (e, nq e l s, 0)
  else (0, 0, 1)

theorem ins_t {n : Int} (h : ins n = true) : 0 ≤ n ∧ n < 1048576 := by unfold ins at h; exact of_decide_eq_true h
theorem ins_f {n : Int} (h : ins n = false) : n < 0 ∨ 1048576 ≤ n := by unfold ins at h; have := of_decide_eq_false h; omega
theorem ins_of {n : Int} (h0 : 0 ≤ n) (h1 : n < 1048576) : ins n = true := by unfold ins; exact decide_eq_true ⟨h0, h1⟩

/-- A number that fits. -/
def U (w : Int) : Prop := -9223372036854775808 ≤ w ∧ w < 9223372036854775808
theorem on_le (b : Bool) (m : Int) (h : 0 ≤ m) : 0 ≤ on b m ∧ on b m ≤ m := by cases b <;> simp [on] <;> omega
theorem st_u1 {w : Int} {b : Bool} (h : U w) : U (st w 1 b) := by unfold U at *; unfold st; cases b <;> simp <;> omega
theorem st_u2 {w : Int} {b : Bool} (h : U w) : U (st w 2 b) := by unfold U at *; unfold st; cases b <;> simp <;> omega
theorem st_u4 {w : Int} {b : Bool} (h : U w) : U (st w 4 b) := by unfold U at *; unfold st; cases b <;> simp <;> omega
theorem wi_is (w : Int) (l a d : Bool) : st (st (st w 4 d) 2 a) 1 l = wi w l a d := by
  unfold st wi on
  cases l <;> cases a <;> cases d <;> simp <;> omega
theorem wi_u {w : Int} {l a d : Bool} (h : U w) : U (wi w l a d) := by rw [← wi_is]; exact st_u1 (st_u2 (st_u4 h))
theorem plain_is (w : Int) : st w 1 false = wi w false (bt w 2) (bt w 4) := by
  unfold st wi on bt
  have h2 : w / 2 % 2 = 0 ∨ w / 2 % 2 = 1 := by omega
  have h4 : w / 4 % 2 = 0 ∨ w / 4 % 2 = 1 := by omega
  rcases h2 with h | h <;> rcases h4 with g | g <;> rw [h, g] <;> simp <;> omega
theorem on_bt (w m : Int) : on (bt w m) 1 = w / m % 2 := by
  unfold on bt
  have h2 : w / m % 2 = 0 ∨ w / m % 2 = 1 := by omega
  rcases h2 with h | h <;> rw [h] <;> simp
theorem cm_is (a b : Int) : cm a b = (if ep a * 1048576 + sq a < ep b * 1048576 + sq b then -1 else if ep b * 1048576 + sq b < ep a * 1048576 + sq a then 1 else 0) := by
  have h1 : 0 ≤ sq a ∧ sq a < 1048576 := by unfold sq; omega
  have h2 : 0 ≤ sq b ∧ sq b < 1048576 := by unfold sq; omega
  unfold cm or2 ic
  generalize ep a = x at *
  generalize ep b = y at *
  generalize sq a = u at *
  generalize sq b = v at *
  (repeat' split) <;> omega

theorem bt_wi (w : Int) (l a d : Bool) : bt (wi w l a d) 1 = l ∧ bt (wi w l a d) 2 = a ∧ bt (wi w l a d) 4 = d := by
  unfold bt wi on
  cases l <;> cases a <;> cases d <;> simp <;> refine ⟨?_, ?_, ?_⟩ <;> omega
theorem ep_wi (w : Int) (l a d : Bool) : ep (wi w l a d) = ep w := by unfold ep wi on; cases l <;> cases a <;> cases d <;> simp <;> omega
theorem sq_wi (w : Int) (l a d : Bool) : sq (wi w l a d) = sq w := by unfold sq wi on; cases l <;> cases a <;> cases d <;> simp <;> omega
theorem wi_wi (w : Int) (l a d l' a' d' : Bool) : wi (wi w l a d) l' a' d' = wi w l' a' d' := by
  have h : wi w l a d / 8 = w / 8 := by unfold wi on; cases l <;> cases a <;> cases d <;> simp <;> omega
  show wi w l a d / 8 * 8 + _ + _ + _ = _
  rw [h]
  rfl
theorem of_mkw {e s : Int} (h0 : 0 ≤ e) (h1 : e < 1048576) (h2 : 0 ≤ s) (h3 : s < 1048576) : ep (e * 8388608 + s * 8) = e ∧ sq (e * 8388608 + s * 8) = s ∧ wi (e * 8388608 + s * 8) false false false = e * 8388608 + s * 8 := by
  unfold ep sq wi on
  refine ⟨?_, ?_, ?_⟩
  · omega
  · omega
  · simp; omega
end Go.Proofs.Ytljgnflmomakaaa.Td
