/-
  Whole numbers as reals, and reals as whole numbers, as plain mathematics: which numbers have a real, and that each is the other's. Conditions: the bounds named in each theorem.
-/
import Derived.Lib.BitFns
import Derived.Lib.TrailingZeros
import Derived.Test.YtdonmbmahcjfbaaGreatDoorRealsKey
namespace Go.Proofs.YtdonmbmahcjfbaaGreatDoor.Rl
open Go

/-- The place of the highest bit. -/
def tp (m : Nat) : Nat := Lib.bitLen m - 1

theorem aux_spec : ∀ (f x : Nat), 0 < x → x < 2 ^ f → 1 ≤ Lib.bitLenAux f x ∧ Lib.bitLenAux f x ≤ f ∧ 2 ^ (Lib.bitLenAux f x - 1) ≤ x ∧ x < 2 ^ Lib.bitLenAux f x
  | 0, x, h, g => by simp at g; omega
  | f + 1, x, h, g => by
    simp only [Lib.bitLenAux]
    rw [if_neg (by omega)]
    by_cases k : x = 1
    · subst k
      have : Lib.bitLenAux f (1 / 2) = 0 := by cases f <;> simp [Lib.bitLenAux]
      rw [this]; simp
    · obtain ⟨a, b, c, d⟩ := aux_spec f (x / 2) (by omega) (by rw [Nat.pow_succ] at g; omega)
      obtain ⟨j, hj⟩ : ∃ j, Lib.bitLenAux f (x / 2) = j + 1 := ⟨Lib.bitLenAux f (x / 2) - 1, by omega⟩
      rw [hj] at a b c d ⊢
      rw [show 1 + (j + 1) - 1 = j + 1 from by omega, show 1 + (j + 1) = j + 1 + 1 from by omega]
      rw [Nat.add_sub_cancel] at c
      rw [Nat.pow_succ 2 (j + 1), Nat.pow_succ 2 j] at *
      omega

theorem tp_spec (m : Nat) (h0 : 0 < m) (h : m < 2 ^ 64) : Lib.bitLen m = tp m + 1 ∧ tp m ≤ 63 ∧ 2 ^ tp m ≤ m ∧ m < 2 ^ (tp m + 1) := by
  obtain ⟨a, b, c, d⟩ := aux_spec 64 m h0 h
  unfold tp Lib.bitLen
  rw [Nat.sub_add_cancel a]
  exact ⟨rfl, by omega, c, d⟩

theorem ctz_spec (m : Nat) (h0 : 0 < m) (h : m < 2 ^ 64) (j : Nat) : m % 2 ^ j = 0 ↔ j ≤ Lib.ctz 64 m := by
  obtain ⟨k, e, _⟩ := Lib.ctzFrom_spec 64 m h0 h
  have f : Lib.ctz 64 m = Lib.ctzFrom 64 m := by unfold Lib.ctz; rw [if_neg (by omega)]
  rw [f]
  generalize Lib.ctzFrom 64 m = c at *
  constructor
  · intro g
    rcases Nat.lt_or_ge c j with q | q
    · exfalso
      have d : 2 ^ (c + 1) ∣ m := Nat.dvd_trans (Nat.pow_dvd_pow 2 q) (Nat.dvd_of_mod_eq_zero g)
      rw [e, Nat.pow_succ] at d
      have := Nat.dvd_of_mul_dvd_mul_left (Nat.two_pow_pos c) d
      omega
    · exact q
  · intro g
    apply Nat.mod_eq_zero_of_dvd
    rw [e]
    exact Nat.dvd_mul_right_of_dvd (Nat.pow_dvd_pow 2 g) _

/-- The highest bit and 52 behind it. -/
def mt (m : Nat) : Nat := m * 2 ^ (52 - tp m) / 2 ^ (tp m - 52)

theorem mt_low (m : Nat) (h : tp m ≤ 52) : mt m = m * 2 ^ (52 - tp m) := by
  unfold mt; rw [show tp m - 52 = 0 from by omega, Nat.pow_zero, Nat.div_one]
theorem mt_high (m : Nat) (h : 52 ≤ tp m) : mt m = m / 2 ^ (tp m - 52) := by
  unfold mt; rw [show 52 - tp m = 0 from by omega, Nat.pow_zero, Nat.mul_one]

theorem mt_range (m : Nat) (h0 : 0 < m) (h : m < 2 ^ 64) : 4503599627370496 ≤ mt m ∧ mt m < 9007199254740992 := by
  obtain ⟨_, _, a, b⟩ := tp_spec m h0 h
  rcases Nat.le_total (tp m) 52 with g | g
  · rw [mt_low m g]
    constructor
    · have : 2 ^ tp m * 2 ^ (52 - tp m) ≤ m * 2 ^ (52 - tp m) := Nat.mul_le_mul_right _ a
      rw [← Nat.pow_add, show tp m + (52 - tp m) = 52 from by omega] at this
      exact this
    · have : m * 2 ^ (52 - tp m) < 2 ^ (tp m + 1) * 2 ^ (52 - tp m) := (Nat.mul_lt_mul_right (Nat.two_pow_pos _)).2 b
      rw [← Nat.pow_add, show tp m + 1 + (52 - tp m) = 53 from by omega] at this
      exact this
  · rw [mt_high m g]
    constructor
    · rw [Nat.le_div_iff_mul_le (Nat.two_pow_pos _), show (4503599627370496 : Nat) = 2 ^ 52 from rfl, ← Nat.pow_add, show 52 + (tp m - 52) = tp m from by omega]
      exact a
    · rw [Nat.div_lt_iff_lt_mul (Nat.two_pow_pos _), show (9007199254740992 : Nat) = 2 ^ 53 from rfl, ← Nat.pow_add, show 53 + (tp m - 52) = tp m + 1 from by omega]
      exact b

/-- With the highest bit at the left end. -/
theorem mt_left (m : Nat) (h0 : 0 < m) (h : m < 2 ^ 64) : m * 2 ^ (63 - tp m) < 18446744073709551616 ∧ m * 2 ^ (63 - tp m) / 2048 = mt m := by
  obtain ⟨_, t, a, b⟩ := tp_spec m h0 h
  constructor
  · have : m * 2 ^ (63 - tp m) < 2 ^ (tp m + 1) * 2 ^ (63 - tp m) := (Nat.mul_lt_mul_right (Nat.two_pow_pos _)).2 b
    rw [← Nat.pow_add, show tp m + 1 + (63 - tp m) = 64 from by omega] at this
    exact this
  · rcases Nat.le_total (tp m) 52 with g | g
    · rw [mt_low m g, show 63 - tp m = (52 - tp m) + 11 from by omega, Nat.pow_add, ← Nat.mul_assoc]
      exact Nat.mul_div_cancel _ (by decide)
    · rw [mt_high m g, show (2048 : Nat) = 2 ^ (63 - tp m) * 2 ^ (tp m - 52) from by rw [← Nat.pow_add, show 63 - tp m + (tp m - 52) = 11 from by omega], ← Nat.div_div_eq_div_mul, Nat.mul_div_cancel _ (Nat.two_pow_pos _)]

/-- Has the number a real? -/
def fo (n : Int) : Bool := n.natAbs % 2 ^ (tp n.natAbs - 52) == 0
/-- The real's bits but for the sign. -/
def mg (m : Nat) : Int := if m = 0 then 0 else ((tp m + 1023) * 4503599627370496 + (mt m - 4503599627370496) : Nat)
def sg (n : Int) : Int := if n < 0 then 9223372036854775808 else 0
def fi (n : Int) : Int := if fo n = true then sg n + mg n.natAbs else 0

theorem fo_zero : fo 0 = true := by decide
theorem fi_zero : fi 0 = 0 := by decide

theorem fo_ctz (n : Int) (h0 : n ≠ 0) (h : n.natAbs < 2 ^ 64) : fo n = true ↔ tp n.natAbs ≤ 52 + Lib.ctz 64 n.natAbs := by
  unfold fo
  rw [beq_iff_eq, ctz_spec n.natAbs (by omega) h]
  omega

theorem mg_pos (m : Nat) (h0 : 0 < m) (h : m < 2 ^ 64) : ∃ T F : Nat, T = tp m ∧ T ≤ 63 ∧ F < 4503599627370496 ∧ F + 4503599627370496 = mt m ∧ mg m = (T + 1023) * 4503599627370496 + F := by
  obtain ⟨_, t, _, _⟩ := tp_spec m h0 h
  obtain ⟨a, b⟩ := mt_range m h0 h
  refine ⟨tp m, mt m - 4503599627370496, rfl, t, by omega, by omega, ?_⟩
  unfold mg; rw [if_neg (by omega)]; omega

theorem mg_range (m : Nat) (h : m < 2 ^ 64) : 0 ≤ mg m ∧ mg m < 4895412794951729152 := by
  rcases Nat.eq_zero_or_pos m with e | e
  · subst e; decide
  · obtain ⟨T, F, _, t, f, _, e⟩ := mg_pos m e h
    rw [e]; omega

theorem fi_is (n : Int) (h : fo n = true) : fi n = sg n + mg n.natAbs := by unfold fi; rw [if_pos h]

theorem fi_parts (n : Int) (h0 : n ≠ 0) (h : n.natAbs < 2 ^ 64) (g : fo n = true) : ex (fi n) = tp n.natAbs + 1023 ∧ fr (fi n) + 4503599627370496 = mt n.natAbs ∧ (fi n < 9223372036854775808 ↔ 0 ≤ n) := by
  obtain ⟨T, F, e1, t, f, e2, e3⟩ := mg_pos n.natAbs (by omega) h
  rw [fi_is n g, e3, ← e1, ← e2]
  unfold ex fr sg
  split <;> omega

theorem fi_cl (n : Int) (h0 : n ≠ 0) (h : n.natAbs < 2 ^ 64) (g : fo n = true) : cl (fi n) = 5 := by
  obtain ⟨a, _, _⟩ := fi_parts n h0 h g
  obtain ⟨_, t, _, _⟩ := tp_spec n.natAbs (by omega) h
  rw [cl5, a]; omega

/-- How far from 0 a real is, its exponent from 1023 to 1086. -/
def hs (x : Int) : Nat := (fr x).toNat + 4503599627370496
def he (x : Int) : Nat := (ex x - 1023).toNat
def wo (x : Int) : Bool := decide (1023 ≤ ex x) && decide (ex x ≤ 1086) && hs x % 2 ^ (52 - he x) == 0
def wv (x : Int) : Nat := hs x * 2 ^ (he x - 52) / 2 ^ (52 - he x)
def io (x : Int) : Bool := wo x && (if x < 9223372036854775808 then decide (wv x < 9223372036854775808) else decide (wv x ≤ 9223372036854775808))
def to (x : Int) : Bool := cl x == 3 || io x
def ti (x : Int) : Int := if cl x = 3 then 0 else if io x = true then (if x < 9223372036854775808 then (wv x : Int) else -(wv x : Int)) else 0

theorem hs_range (x : Int) : 4503599627370496 ≤ hs x ∧ hs x < 9007199254740992 := by
  have := fr_range x; unfold hs; omega

theorem wv_low (x : Int) (h : he x ≤ 52) : wv x = hs x / 2 ^ (52 - he x) := by
  unfold wv; rw [show he x - 52 = 0 from by omega, Nat.pow_zero, Nat.mul_one]
theorem wv_high (x : Int) (h : 52 ≤ he x) : wv x = hs x * 2 ^ (he x - 52) := by
  unfold wv; rw [show 52 - he x = 0 from by omega, Nat.pow_zero, Nat.div_one]

theorem wo_iff (x : Int) : wo x = true ↔ 1023 ≤ ex x ∧ ex x ≤ 1086 ∧ hs x % 2 ^ (52 - he x) = 0 := by
  unfold wo; simp [and_assoc]

theorem wo_ctz (x : Int) (h : 1023 ≤ ex x) (g : ex x ≤ 1086) : wo x = true ↔ 52 - he x ≤ Lib.ctz 64 (hs x) := by
  have := hs_range x
  rw [wo_iff, ctz_spec (hs x) (by omega) (by omega)]
  omega

/-- 2 to the exponent, and less than twice that. -/
theorem wv_range (x : Int) (h : wo x = true) : 2 ^ he x ≤ wv x ∧ wv x < 2 ^ (he x + 1) ∧ he x ≤ 63 := by
  obtain ⟨a, b, c⟩ := (wo_iff x).1 h
  have r := hs_range x
  have t : he x ≤ 63 := by unfold he; omega
  rcases Nat.le_total (he x) 52 with g | g
  · rw [wv_low x g]
    refine ⟨?_, ?_, t⟩
    · rw [Nat.le_div_iff_mul_le (Nat.two_pow_pos _), ← Nat.pow_add, show he x + (52 - he x) = 52 from by omega]; exact r.1
    · rw [Nat.div_lt_iff_lt_mul (Nat.two_pow_pos _), ← Nat.pow_add, show he x + 1 + (52 - he x) = 53 from by omega]; exact r.2
  · rw [wv_high x g]
    refine ⟨?_, ?_, t⟩
    · have : 2 ^ 52 * 2 ^ (he x - 52) ≤ hs x * 2 ^ (he x - 52) := Nat.mul_le_mul_right _ r.1
      rw [← Nat.pow_add, show 52 + (he x - 52) = he x from by omega] at this; exact this
    · have : hs x * 2 ^ (he x - 52) < 2 ^ 53 * 2 ^ (he x - 52) := (Nat.mul_lt_mul_right (Nat.two_pow_pos _)).2 r.2
      rw [← Nat.pow_add, show 53 + (he x - 52) = he x + 1 from by omega] at this; exact this

theorem wv_lt (x : Int) (h : wo x = true) : wv x < 18446744073709551616 := by
  obtain ⟨_, a, t⟩ := wv_range x h
  have : (2 : Nat) ^ (he x + 1) ≤ 2 ^ 64 := Nat.pow_le_pow_right (by decide) (by omega)
  exact Nat.lt_of_lt_of_le a this

/-- Of two numbers that have reals the lesser one's real is the lesser. -/
theorem mg_mono (a b : Nat) (h : a < b) (hb : b < 2 ^ 64) (ga : a % 2 ^ (tp a - 52) = 0) (gb : b % 2 ^ (tp b - 52) = 0) : mg a < mg b := by
  obtain ⟨T, F, e1, _, f, e2, e3⟩ := mg_pos b (by omega) hb
  rcases Nat.eq_zero_or_pos a with z | z
  · subst z
    rw [e3]
    have : mg 0 = 0 := rfl
    omega
  obtain ⟨T', F', e1', _, f', e2', e3'⟩ := mg_pos a z (by omega)
  obtain ⟨_, _, p, q⟩ := tp_spec a z (by omega)
  obtain ⟨_, _, r, s⟩ := tp_spec b (by omega) hb
  rw [e3, e3']
  have le : tp a ≤ tp b := by
    have : tp a < tp b + 1 := (Nat.pow_lt_pow_iff_right (a := 2) (by decide)).1 (Nat.lt_of_le_of_lt p (Nat.lt_trans h s))
    omega
  rcases Nat.lt_or_ge (tp a) (tp b) with k | k
  · have : T' + 1 ≤ T := by omega
    omega
  · have k : tp a = tp b := by omega
    have : mt a < mt b := by
      rcases Nat.le_total (tp a) 52 with u | u
      · rw [mt_low a u, mt_low b (by omega), k]
        exact (Nat.mul_lt_mul_right (Nat.two_pow_pos _)).2 h
      · rw [mt_high a u, mt_high b (by omega), ← k]
        rw [← k] at gb
        apply Nat.lt_of_mul_lt_mul_right (a := 2 ^ (tp a - 52))
        rw [Nat.div_mul_cancel (Nat.dvd_of_mod_eq_zero ga), Nat.div_mul_cancel (Nat.dvd_of_mod_eq_zero gb)]
        exact h
    omega

theorem fi_cl' (n : Int) (h : n.natAbs < 2 ^ 64) (g : fo n = true) : cl (fi n) = 5 ∨ (n = 0 ∧ cl (fi n) = 3) := by
  by_cases z : n = 0
  · right; subst z; exact ⟨rfl, by decide⟩
  · left; exact fi_cl n z h g

theorem fi_ky (n : Int) (h : n.natAbs < 2 ^ 64) (g : fo n = true) : ky (fi n) = if n < 0 then 9223372036854775807 - mg n.natAbs else 9223372036854775808 + mg n.natAbs := by
  have r := mg_range n.natAbs h
  have c : cn (fi n) = fi n := by unfold cn; rw [if_neg (by rcases fi_cl' n h g with e | ⟨_, e⟩ <;> omega)]
  unfold ky; rw [c, fi_is n g]; unfold sg
  split <;> split <;> omega

theorem fi_less (a b : Int) (ha : -9223372036854775808 ≤ a ∧ a < 9223372036854775808) (hb : -9223372036854775808 ≤ b ∧ b < 9223372036854775808) (ga : fo a = true) (gb : fo b = true) (h : a < b) : ky (fi a) < ky (fi b) := by
  have ra := mg_range a.natAbs (by omega)
  have rb := mg_range b.natAbs (by omega)
  rw [fi_ky a (by omega) ga, fi_ky b (by omega) gb]
  have ga' : a.natAbs % 2 ^ (tp a.natAbs - 52) = 0 := by unfold fo at ga; exact beq_iff_eq.1 ga
  have gb' : b.natAbs % 2 ^ (tp b.natAbs - 52) = 0 := by unfold fo at gb; exact beq_iff_eq.1 gb
  split
  · split
    · have := mg_mono b.natAbs a.natAbs (by omega) (by omega) gb' ga'; omega
    · omega
  · rw [if_neg (by omega)]
    have := mg_mono a.natAbs b.natAbs (by omega) (by omega) ga' gb'; omega

theorem order (a b : Int) (ha : -9223372036854775808 ≤ a ∧ a < 9223372036854775808) (hb : -9223372036854775808 ≤ b ∧ b < 9223372036854775808) (ga : fo a = true) (gb : fo b = true) :
    (decide (a < b) = decide (cp (fi a) (fi b) < 0)) ∧ ((a == b) = eq (fi a) (fi b)) ∧ cp (fi a) 9221120237041090560 = -1 := by
  have n1 : cl (fi a) ≠ 1 := by rcases fi_cl' a (by omega) ga with e | ⟨_, e⟩ <;> omega
  have n2 : cl (fi b) ≠ 1 := by rcases fi_cl' b (by omega) gb with e | ⟨_, e⟩ <;> omega
  refine ⟨?_, ?_, ?_⟩
  · rcases Int.lt_trichotomy a b with k | k | k
    · have := fi_less a b ha hb ga gb k
      have e : cp (fi a) (fi b) = -1 := by unfold cp; rw [if_pos this]
      rw [e]; simp [k]
    · subst k
      have e : cp (fi a) (fi a) = 0 := by unfold cp; rw [if_neg (by omega), if_neg (by omega)]
      rw [e]; simp
    · have := fi_less b a hb ha gb ga k
      have e : cp (fi a) (fi b) = 1 := by unfold cp; rw [if_neg (by omega), if_pos this]
      rw [e]; simp; omega
  · rw [Bool.eq_iff_iff, beq_iff_eq, eq_iff]
    constructor
    · rintro rfl; exact ⟨n1, n2, Or.inl rfl⟩
    · rintro ⟨_, _, k | k⟩
      · rcases Int.lt_trichotomy a b with q | q | q
        · have := fi_less a b ha hb ga gb q; rw [k] at this; omega
        · exact q
        · have := fi_less b a hb ha gb ga q; rw [k] at this; omega
      · rcases fi_cl' a (by omega) ga with e | ⟨e, _⟩
        · omega
        rcases fi_cl' b (by omega) gb with f | ⟨f, _⟩
        · omega
        rw [e, f]
  · have r := mg_range a.natAbs (by omega)
    have k : ky 9221120237041090560 = 18444492273895866368 := by decide
    unfold cp; rw [k, fi_ky a (by omega) ga]
    split <;> rw [if_pos (by omega)]

end Go.Proofs.YtdonmbmahcjfbaaGreatDoor.Rl
