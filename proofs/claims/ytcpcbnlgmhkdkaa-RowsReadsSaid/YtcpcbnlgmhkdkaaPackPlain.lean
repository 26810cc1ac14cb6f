/-
  The plain mathematics of package pack: a number's digits of base 128, what bytes begin with, and that the one undoes the other. Conditions: the bounds named in each theorem.
-/
namespace Go.Proofs.Ytcpcbnlgmhkdkaa.Pk

/-- The digits of base 128 of n, the lowest first, f + 1 of them at most. -/
def ub : Nat → Nat → List UInt8
  | 0, n => [UInt8.ofNat n]
  | f + 1, n => if n < 128 then [UInt8.ofNat n] else UInt8.ofNat (n % 128 + 128) :: ub f (n / 128)

/-- The bytes of n. -/
def un (n : Nat) : List UInt8 := ub 9 n

/-- What bytes begin with, from digit k on, n so far: the number, what is behind, the error. -/
def rd : List UInt8 → Nat → Nat → Nat × List UInt8 × Int
  | [], _, _ => (0, [], 3)
  | b :: t, k, n =>
    if k = 9 ∧ 1 < b.toNat then (0, [], 4)
    else if 128 ≤ b.toNat then rd t (k + 1) (n + b.toNat % 128 * 128 ^ k)
    else if b.toNat = 0 ∧ 0 < k then (0, [], 4)
    else (n + b.toNat * 128 ^ k, t, 0)

theorem ub_low (f n : Nat) (h : n < 128) : ub f n = [UInt8.ofNat n] := by
  cases f with
  | zero => rfl
  | succ f => rw [ub, if_pos h]

theorem ub_high (f n : Nat) (h : 128 ≤ n) : ub (f + 1) n = UInt8.ofNat (n % 128 + 128) :: ub f (n / 128) := by
  rw [ub, if_neg (by omega)]

theorem ub_len : ∀ (f n : Nat), 1 ≤ (ub f n).length ∧ (ub f n).length ≤ f + 1
  | 0, n => by simp [ub]
  | f + 1, n => by
    rw [ub]
    split
    · simp
    · have := ub_len f (n / 128)
      simp only [List.length_cons]; omega

theorem of_toNat (n : Nat) (h : n < 256) : (UInt8.ofNat n).toNat = n := by rw [UInt8.toNat_ofNat']; omega

/-- The room above digit k. -/
theorem room (k : Nat) (h : k + 1 ≤ 9) : 2 ^ (64 - 7 * k) = 128 * 2 ^ (64 - 7 * (k + 1)) := by
  rw [show 64 - 7 * k = (64 - 7 * (k + 1)) + 7 from by omega, Nat.pow_add]; omega

theorem room9 : 2 ^ (64 - 7 * 9) = 2 := by decide

theorem rd_ub : ∀ (f : Nat) (k n m : Nat) (b : List UInt8), k + f = 9 → m < 2 ^ (64 - 7 * k) → (0 < k → 0 < m) → rd (ub f m ++ b) k n = (n + m * 128 ^ k, b, 0)
  | 0, k, n, m, b, hk, hm, hp => by
    obtain rfl : k = 9 := by omega
    rw [room9] at hm
    have e := of_toNat m (by omega)
    show rd (UInt8.ofNat m :: b) 9 n = _
    rw [rd, e, if_neg (by omega), if_neg (by omega), if_neg (by omega)]
  | f + 1, k, n, m, b, hk, hm, hp => by
    by_cases hl : m < 128
    · have e := of_toNat m (by omega)
      rw [ub_low _ _ hl]
      show rd (UInt8.ofNat m :: b) k n = _
      rw [rd, e, if_neg (by omega), if_neg (by omega), if_neg (by omega)]
    · have e := of_toNat (m % 128 + 128) (by omega)
      rw [ub_high _ _ (by omega)]
      show rd (UInt8.ofNat (m % 128 + 128) :: (ub f (m / 128) ++ b)) k n = _
      rw [room k (by omega)] at hm
      rw [rd, e, if_neg (by omega), if_pos (by omega), rd_ub f (k + 1) _ (m / 128) b (by omega) (by generalize 2 ^ (64 - 7 * (k + 1)) = B at *; omega) (by omega)]
      have h3 : (m % 128 + 128) % 128 = m % 128 := by omega
      have h4 : m * 128 ^ k = m % 128 * 128 ^ k + m / 128 * 128 ^ (k + 1) := by
        have h5 : m / 128 * 128 ^ (k + 1) = 128 * (m / 128) * 128 ^ k := by rw [Nat.pow_succ, Nat.mul_comm (128 ^ k) 128, ← Nat.mul_assoc, Nat.mul_comm (m / 128) 128]
        rw [h5, ← Nat.add_mul]
        congr 1
        omega
      rw [h3, h4, Nat.add_assoc]

theorem rd_un (n : Nat) (b : List UInt8) (h : (n : Int) < 18446744073709551616) : rd (un n ++ b) 0 0 = (n, b, 0) := by
  have := rd_ub 9 0 0 n b rfl (by show n < 18446744073709551616; omega) (by omega)
  unfold un
  rw [this]
  simp

theorem rd_ub_short : ∀ (f : Nat) (k n m i : Nat), k + f = 9 → m < 2 ^ (64 - 7 * k) → i < (ub f m).length → rd ((ub f m).take i) k n = (0, [], 3)
  | 0, k, n, m, i, hk, hm, hi => by
    obtain rfl : i = 0 := by simp [ub] at hi; exact hi
    rfl
  | f + 1, k, n, m, i, hk, hm, hi => by
    by_cases hl : m < 128
    · rw [ub_low _ _ hl] at hi ⊢
      obtain rfl : i = 0 := by simp at hi; exact hi
      rfl
    · have e := of_toNat (m % 128 + 128) (by omega)
      rw [ub_high _ _ (by omega)] at hi ⊢
      cases i with
      | zero => rfl
      | succ i =>
        rw [List.take_succ_cons]
        rw [room k (by omega)] at hm
        rw [rd, e, if_neg (by omega), if_pos (by omega)]
        exact rd_ub_short f (k + 1) _ (m / 128) i (by omega) (by generalize 2 ^ (64 - 7 * (k + 1)) = B at *; omega) (by simp at hi; exact hi)

theorem rd_un_short (n i : Nat) (h : (n : Int) < 18446744073709551616) (hi : i < (un n).length) : rd ((un n).take i) 0 0 = (0, [], 3) :=
  rd_ub_short 9 0 0 n i rfl (by show n < 18446744073709551616; omega) hi

theorem rd_back : ∀ (l : List UInt8) (k n N : Nat) (r : List UInt8), k ≤ 9 → rd l k n = (N, r, 0) → ∃ m, N = n + m * 128 ^ k ∧ m < 2 ^ (64 - 7 * k) ∧ (0 < k → 0 < m) ∧ ub (9 - k) m ++ r = l
  | [], k, n, N, r, hk, h => by simp [rd] at h
  | b :: t, k, n, N, r, hk, h => by
    have hb := b.toNat_lt
    rw [rd] at h
    split at h
    · simp at h
    · rename_i h9
      split at h
      · rename_i h128
        have hk8 : k + 1 ≤ 9 := by omega
        obtain ⟨m, e1, e2, e3, e4⟩ := rd_back t (k + 1) _ N r hk8 h
        refine ⟨b.toNat % 128 + m * 128, ?_, ?_, fun _ => by have := e3 (by omega); omega, ?_⟩
        · have h5 : m * 128 ^ (k + 1) = m * 128 * 128 ^ k := by rw [Nat.pow_succ, Nat.mul_comm (128 ^ k) 128, ← Nat.mul_assoc]
          rw [e1, h5, Nat.add_mul, Nat.add_assoc]
        · rw [room k hk8]
          generalize 2 ^ (64 - 7 * (k + 1)) = B at *
          omega
        · have := e3 (by omega)
          rw [show 9 - k = (9 - (k + 1)) + 1 from by omega, ub_high _ _ (by omega)]
          rw [show (b.toNat % 128 + m * 128) / 128 = m from by omega, show (b.toNat % 128 + m * 128) % 128 + 128 = b.toNat from by omega]
          rw [UInt8.ofNat_toNat, List.cons_append, e4]
      · rename_i h128
        split at h
        · simp at h
        · rename_i hz
          simp only [Prod.mk.injEq] at h
          obtain ⟨rfl, rfl, _⟩ := h
          refine ⟨b.toNat, rfl, ?_, fun h0 => by omega, ?_⟩
          · by_cases hk9 : k = 9
            · subst hk9; rw [room9]; omega
            · have : 2 ^ 7 ≤ 2 ^ (64 - 7 * k) := Nat.pow_le_pow_right (by decide) (by omega)
              omega
          · rw [ub_low _ _ (by omega), UInt8.ofNat_toNat]; rfl

theorem rd_ok (l : List UInt8) (N : Nat) (r : List UInt8) (h : rd l 0 0 = (N, r, 0)) : (N : Int) < 18446744073709551616 ∧ un N ++ r = l := by
  obtain ⟨m, e1, e2, _, e4⟩ := rd_back l 0 0 N r (by omega) h
  have e : N = m := by rw [e1]; simp
  have e2' : m < 18446744073709551616 := e2
  subst e
  exact ⟨by omega, e4⟩

theorem rd_err : ∀ (l : List UInt8) (k n : Nat), (rd l k n).2.2 = 0 ∨ rd l k n = (0, [], 3) ∨ rd l k n = (0, [], 4)
  | [], _, _ => by simp [rd]
  | b :: t, k, n => by
    rw [rd]
    split
    · simp
    · split
      · exact rd_err t _ _
      · split <;> simp

/-- The three ways out of rd. -/
theorem rd_cases (l : List UInt8) : (∃ (N : Nat) (r : List UInt8), rd l 0 0 = (N, r, 0) ∧ (N : Int) < 18446744073709551616 ∧ un N ++ r = l) ∨ (∃ e : Int, rd l 0 0 = (0, [], e) ∧ (e = 3 ∨ e = 4)) := by
  rcases rd_err l 0 0 with h | h | h
  · have e : rd l 0 0 = ((rd l 0 0).1, (rd l 0 0).2.1, 0) := by rw [← h]
    exact .inl ⟨_, _, e, rd_ok l _ _ e⟩
  · exact .inr ⟨3, h, .inl rfl⟩
  · exact .inr ⟨4, h, .inr rfl⟩

theorem drop_at (l : List UInt8) (k : Nat) (h : k < l.length) : l.drop k = l[k] :: l.drop (k + 1) := List.drop_eq_getElem_cons h

theorem rd_short (l : List UInt8) (k n : Nat) (h : l.length ≤ k) : rd (l.drop k) k n = (0, [], 3) := by
  rw [List.drop_eq_nil_of_le h]; rfl

theorem rd_tenth (l : List UInt8) (n x : Nat) (h : 9 < l.length) (hx : x = l[9].toNat) (h1 : 1 < x) : rd (l.drop 9) 9 n = (0, [], 4) := by
  subst hx
  rw [drop_at l 9 h, rd, if_pos ⟨rfl, h1⟩]

theorem rd_more (l : List UInt8) (k n x : Nat) (h : k < l.length) (hx : x = l[k].toNat) (h9 : k < 9) (h1 : 128 ≤ x) : rd (l.drop k) k n = rd (l.drop (k + 1)) (k + 1) (n + x % 128 * 128 ^ k) := by
  subst hx
  rw [drop_at l k h, rd, if_neg (by omega), if_pos h1]

theorem rd_zero (l : List UInt8) (k n x : Nat) (h : k < l.length) (hx : x = l[k].toNat) (h9 : 0 < k) (h1 : x = 0) : rd (l.drop k) k n = (0, [], 4) := by
  subst hx
  rw [drop_at l k h, rd, if_neg (by omega), if_neg (by omega), if_pos ⟨h1, h9⟩]

theorem rd_end (l : List UInt8) (k n x : Nat) (h : k < l.length) (hx : x = l[k].toNat) (h9 : k = 9 → x ≤ 1) (h1 : x < 128) (h2 : x = 0 → k = 0) : rd (l.drop k) k n = (n + x % 128 * 128 ^ k, l.drop (k + 1), 0) := by
  rw [Nat.mod_eq_of_lt h1]
  subst hx
  rw [drop_at l k h, rd, if_neg (by omega), if_neg (by omega), if_neg (by omega)]

/-- A number of both signs, as one of none. -/
def zz (n : Int) : Nat := if n < 0 then (-2 * n - 1).toNat else (2 * n).toNat

/-- What ReadInt answers. -/
def ri (l : List UInt8) : Int × List UInt8 × Int :=
  if (rd l 0 0).2.2 = 0 then (if (rd l 0 0).1 % 2 = 1 then -1 - (((rd l 0 0).1 / 2 : Nat) : Int) else (((rd l 0 0).1 / 2 : Nat) : Int), (rd l 0 0).2.1, 0)
  else (0, [], (rd l 0 0).2.2)

/-- What Text answers. -/
def tx (s : List UInt8) : List UInt8 := un s.length ++ s

/-- What ReadText answers. -/
def rt (l : List UInt8) : List UInt8 × List UInt8 × Int :=
  if (rd l 0 0).2.2 = 0 then (if (rd l 0 0).2.1.length < (rd l 0 0).1 then ([], [], 3) else ((rd l 0 0).2.1.take (rd l 0 0).1, (rd l 0 0).2.1.drop (rd l 0 0).1, 0))
  else ([], [], (rd l 0 0).2.2)

theorem ri_bad (l : List UInt8) (e : Int) (h : rd l 0 0 = (0, [], e)) (he : ¬ e = 0) : ri l = (0, [], e) := by
  unfold ri; rw [h]; exact if_neg he
theorem ri_odd (l r : List UInt8) (N : Nat) (h : rd l 0 0 = (N, r, 0)) (he : N % 2 = 1) : ri l = (-1 - ((N / 2 : Nat) : Int), r, 0) := by
  unfold ri; rw [h]; simp [he]
theorem ri_even (l r : List UInt8) (N : Nat) (h : rd l 0 0 = (N, r, 0)) (he : ¬ N % 2 = 1) : ri l = (((N / 2 : Nat) : Int), r, 0) := by
  unfold ri; rw [h]; simp [he]
theorem rt_bad (l : List UInt8) (e : Int) (h : rd l 0 0 = (0, [], e)) (he : ¬ e = 0) : rt l = ([], [], e) := by
  unfold rt; rw [h]; exact if_neg he
theorem rt_short (l r : List UInt8) (N : Nat) (h : rd l 0 0 = (N, r, 0)) (he : r.length < N) : rt l = ([], [], 3) := by
  unfold rt; rw [h]; simp [he]
theorem rt_end (l r : List UInt8) (N : Nat) (h : rd l 0 0 = (N, r, 0)) (he : N ≤ r.length) : rt l = (r.take N, r.drop N, 0) := by
  unfold rt; rw [h]; simp [show ¬ r.length < N from by omega]

theorem zz_lt (n : Int) (h0 : -9223372036854775808 ≤ n) (h1 : n ≤ 9223372036854775807) : (zz n : Int) < 18446744073709551616 := by
  unfold zz; split <;> omega

theorem ri_zz (n : Int) (b : List UInt8) (h0 : -9223372036854775808 ≤ n) (h1 : n ≤ 9223372036854775807) : ri (un (zz n) ++ b) = (n, b, 0) := by
  have h := rd_un (zz n) b (zz_lt n h0 h1)
  by_cases hn : n < 0
  · rw [ri_odd _ _ _ h (by unfold zz; rw [if_pos hn]; omega), show -1 - ((zz n / 2 : Nat) : Int) = n from by unfold zz; rw [if_pos hn]; omega]
  · rw [ri_even _ _ _ h (by unfold zz; rw [if_neg hn]; omega), show ((zz n / 2 : Nat) : Int) = n from by unfold zz; rw [if_neg hn]; omega]

theorem zz_ri (l r : List UInt8) (N : Nat) (h : rd l 0 0 = (N, r, 0)) : ∃ m, ri l = (m, r, 0) ∧ zz m = N ∧ ((N : Int) < 18446744073709551616 → -9223372036854775808 ≤ m ∧ m ≤ 9223372036854775807) := by
  by_cases he : N % 2 = 1
  · exact ⟨_, ri_odd _ _ _ h he, by unfold zz; rw [if_pos (by omega)]; omega, by omega⟩
  · exact ⟨_, ri_even _ _ _ h he, by unfold zz; rw [if_neg (by omega)]; omega, by omega⟩

theorem rt_tx (s b : List UInt8) (h : (s.length : Int) < 18446744073709551616) : rt (tx s ++ b) = (s, b, 0) := by
  have e := rd_un s.length (s ++ b) h
  rw [← List.append_assoc] at e
  unfold tx
  rw [rt_end _ _ _ e (by simp)]
  simp

theorem rt_tx_short (s : List UInt8) (i : Nat) (h : (s.length : Int) < 18446744073709551616) (hi : i < (tx s).length) : rt ((tx s).take i) = ([], [], 3) := by
  unfold tx at hi ⊢
  by_cases hu : i < (un s.length).length
  · rw [List.take_append_of_le_length (by omega)]
    exact rt_bad _ _ (rd_un_short _ _ h hu) (by decide)
  · have e := rd_un s.length (s.take (i - (un s.length).length)) h
    have e2 : (un s.length ++ s).take i = un s.length ++ s.take (i - (un s.length).length) := by
      rw [List.take_append, List.take_of_length_le (by omega)]
    rw [e2]
    refine rt_short _ _ _ e ?_
    simp at hi ⊢
    omega

end Go.Proofs.Ytcpcbnlgmhkdkaa.Pk
