/-
  Reals as plain mathematics: class, canonical form, key, order and equality of 64 bits, as functions of integers. Conditions: the bounds named in each theorem.
-/
namespace Go.Proofs.YtibopeefhogfcaaGreatDoor.Rl

def ex (x : Int) : Int := x / 4503599627370496 % 2048
def fr (x : Int) : Int := x % 4503599627370496
def cl (x : Int) : Int := if ex x = 2047 then (if fr x = 0 then 2 else 1) else if ex x = 0 then (if fr x = 0 then 3 else 4) else 5
def cn (x : Int) : Int := if cl x = 1 then 9221120237041090560 else x
def ky (x : Int) : Int := if cn x < 9223372036854775808 then cn x + 9223372036854775808 else 18446744073709551615 - cn x
def bz (k : Int) : Int := if k < 9223372036854775808 then 18446744073709551615 - k else k - 9223372036854775808
def bk (k : Int) : Int := if cn (bz k) = bz k then bz k else 0
def bo (k : Int) : Bool := cn (bz k) == bz k
def cp (a b : Int) : Int := if ky a < ky b then -1 else if ky b < ky a then 1 else 0
def eq (a b : Int) : Bool := !(cl a == 1) && !(cl b == 1) && (a == b || (cl a == 3 && cl b == 3))

/-- The bounds of 64 bits. -/
def U (x : Int) : Prop := 0 ≤ x ∧ x < 18446744073709551616

theorem cl_nan (x : Int) (h : ex x = 2047) (g : fr x ≠ 0) : cl x = 1 := by unfold cl; rw [if_pos h, if_neg g]
theorem cl_inf (x : Int) (h : ex x = 2047) (g : fr x = 0) : cl x = 2 := by unfold cl; rw [if_pos h, if_pos g]
theorem cl_zero (x : Int) (h : ex x = 0) (g : fr x = 0) : cl x = 3 := by unfold cl; rw [if_neg (by omega), if_pos h, if_pos g]
theorem cl_small (x : Int) (h : ex x = 0) (g : fr x ≠ 0) : cl x = 4 := by unfold cl; rw [if_neg (by omega), if_pos h, if_neg g]
theorem cl_normal (x : Int) (h : ex x ≠ 2047) (g : ex x ≠ 0) : cl x = 5 := by unfold cl; rw [if_neg h, if_neg g]
theorem cl_range (x : Int) : 1 ≤ cl x ∧ cl x ≤ 5 := by unfold cl; (repeat' split) <;> omega

theorem cl1 (x : Int) : cl x = 1 ↔ ex x = 2047 ∧ fr x ≠ 0 := by unfold cl; (repeat' split) <;> omega
theorem cl3 (x : Int) : cl x = 3 ↔ ex x = 0 ∧ fr x = 0 := by unfold cl; (repeat' split) <;> omega
theorem cl5 (x : Int) : cl x = 5 ↔ ex x ≠ 2047 ∧ ex x ≠ 0 := by unfold cl; (repeat' split) <;> omega
theorem ex_range (x : Int) : 0 ≤ ex x ∧ ex x < 2048 := by unfold ex; omega
theorem fr_range (x : Int) : 0 ≤ fr x ∧ fr x < 4503599627370496 := by unfold fr; omega

theorem cn_U (x : Int) (h : U x) : U (cn x) := by unfold U cn at *; split <;> omega
theorem ky_U (x : Int) (h : U x) : U (ky x) := by have := cn_U x h; unfold U ky at *; split <;> omega
theorem bz_U (x : Int) (h : U x) : U (bz x) := by unfold U bz at *; split <;> omega
theorem bk_U (x : Int) (h : U x) : U (bk x) := by have := bz_U x h; unfold bk; split; exact this; exact ⟨by decide, by decide⟩

theorem cn_cn (x : Int) : cn (cn x) = cn x := by
  have h : cl 9221120237041090560 = 1 := by decide
  by_cases g : cl x = 1
  · have e : cn x = 9221120237041090560 := by unfold cn; rw [if_pos g]
    rw [e]; decide
  · have e : cn x = x := by unfold cn; rw [if_neg g]
    rw [e, e]

theorem bz_ky (x : Int) (h : U x) : bz (ky x) = cn x := by
  have := cn_U x h; unfold U at this; unfold bz ky; (repeat' split) <;> omega

theorem bo_ky (x : Int) (h : U x) : bo (ky x) = true := by
  unfold bo; rw [bz_ky x h, cn_cn]; exact beq_self_eq_true _
theorem bk_ky (x : Int) (h : U x) : bk (ky x) = cn x := by
  unfold bk; rw [bz_ky x h, if_pos (cn_cn x)]

theorem ky_inj (a b : Int) (ha : U a) (hb : U b) : ky a = ky b ↔ cn a = cn b := by
  constructor
  · intro h
    have := bz_ky a ha
    rw [h, bz_ky b hb] at this
    exact this.symm
  · intro h; unfold ky; rw [h]

theorem cp_neg (a b : Int) : cp a b = - cp b a := by unfold cp; (repeat' split) <;> omega
theorem cp_zero (a b : Int) (ha : U a) (hb : U b) : cp a b = 0 ↔ cn a = cn b := by
  rw [← ky_inj a b ha hb]; unfold cp; (repeat' split) <;> omega
theorem cp_trans (a b c : Int) (h : cp a b ≤ 0) (g : cp b c ≤ 0) : cp a c ≤ 0 := by
  unfold cp at *; (repeat' split) <;> (repeat' split at h) <;> (repeat' split at g) <;> omega
theorem cp_range (a b : Int) : cp a b = -1 ∨ cp a b = 0 ∨ cp a b = 1 := by unfold cp; (repeat' split) <;> omega

theorem cl3_U (x : Int) (h : U x) : cl x = 3 ↔ x = 0 ∨ x = 9223372036854775808 := by
  rw [cl3]; unfold ex fr; unfold U at h; omega
theorem ky_zero (x : Int) (h : x = 0 ∨ x = 9223372036854775808) : ky x = 9223372036854775808 ∨ ky x = 9223372036854775807 := by
  rcases h with rfl | rfl
  · left; decide
  · right; decide

theorem eq_iff (a b : Int) : eq a b = true ↔ cl a ≠ 1 ∧ cl b ≠ 1 ∧ (a = b ∨ (cl a = 3 ∧ cl b = 3)) := by
  unfold eq; simp [and_assoc]

/-- Equal ones stand side by side. -/
theorem beside (a b c : Int) (ha : U a) (hc : U c) (h : eq a c = true) : cp a b * cp b c ≤ 0 := by
  obtain ⟨_, _, h⟩ := (eq_iff a c).1 h
  rcases h with rfl | ⟨h1, h2⟩
  · rw [cp_neg b a]
    rcases cp_range a b with e | e | e <;> rw [e] <;> decide
  · have k1 := ky_zero a ((cl3_U a ha).1 h1)
    have k2 := ky_zero c ((cl3_U c hc).1 h2)
    have : cp a b = 0 ∨ cp b c = 0 ∨ (cp a b = 1 ∧ cp b c = -1) ∨ (cp a b = -1 ∧ cp b c = 1) := by
      unfold cp; (repeat' split) <;> omega
    rcases this with e | e | ⟨e, f⟩ | ⟨e, f⟩
    · rw [e]; simp
    · rw [e]; simp
    · rw [e, f]; decide
    · rw [e, f]; decide

end Go.Proofs.YtibopeefhogfcaaGreatDoor.Rl
