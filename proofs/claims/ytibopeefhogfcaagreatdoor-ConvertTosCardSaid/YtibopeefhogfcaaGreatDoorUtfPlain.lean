/-
  The plain mathematics of package utf: how many bytes a character has, which they are, and what a text begins with. No condition.
-/
namespace Go.Proofs.YtibopeefhogfcaaGreatDoor.Utf

/-- How many bytes the character r has: 0, if it is none. -/
def wd (r : Int) : Int :=
  if r < 0 ∨ 1114111 < r ∨ (55296 ≤ r ∧ r ≤ 57343) then 0
  else if r ≤ 127 then 1
  else if r ≤ 2047 then 2
  else if r ≤ 65535 then 3
  else 4

/-- A number as a byte. -/
def bt (n : Int) : UInt8 := UInt8.ofNat n.toNat

theorem bt_toNat (n : Int) (h0 : 0 ≤ n) (h1 : n < 256) : ((bt n).toNat : Int) = n := by
  unfold bt; rw [UInt8.toNat_ofNat']; omega

/-- The bytes of the character r. -/
def pl (r : Int) : List UInt8 :=
  if wd r = 0 then []
  else if wd r = 1 then [bt r]
  else if wd r = 2 then [bt (192 + r / 64), bt (128 + r % 64)]
  else if wd r = 3 then [bt (224 + r / 4096), bt (128 + r / 64 % 64), bt (128 + r % 64)]
  else [bt (240 + r / 262144), bt (128 + r / 4096 % 64), bt (128 + r / 64 % 64), bt (128 + r % 64)]

/-- The error that Put answers. -/
def pe (r : Int) : Int := if wd r = 0 then 1 else 0

/-- What a first byte says: the number's bits, and how many bytes there are. -/
def ldr (b : Int) : Int := if b ≤ 127 then b else if b < 192 then 0 else if b < 224 then b - 192 else if b < 240 then b - 224 else b - 240
def ldw (b : Int) : Int := if b ≤ 127 then 1 else if b < 192 then 0 else if b < 224 then 2 else if b < 240 then 3 else 4

/-- The power of 64 for the numbers 0 to 3. -/
def pw (n : Int) : Int := if n ≤ 0 then 1 else if n = 1 then 64 else if n = 2 then 4096 else 262144

/-- Do the first bytes of some character of w bytes, k of them seen, have the bits r? -/
def bg (r w k : Int) : Bool := !decide (w = 0) && (decide (wd (r * pw (w - k)) = w) || decide (wd (r * pw (w - k) + pw (w - k) - 1) = w))

/-- The look at the further bytes, from place k on, with the bits r so far. -/
def run (s : List UInt8) (w : Int) : Nat → Int → Nat → Int × Int × Int
  | 0, _, _ => (0, 0, 7)
  | f + 1, r, k =>
    if bg r w k = false then (0, 0, 7)
    else if (k : Int) = w then (r, w, 0)
    else match s[k]? with
      | none => (0, 0, 3)
      | some c => if c.toNat / 64 = 2 then run s w f (r * 64 + (c.toNat % 64 : Nat)) (k + 1) else (0, 0, 7)

/-- What Next answers. -/
def nx (s : List UInt8) : Int × Int × Int :=
  match s with
  | [] => (0, 0, 3)
  | c :: _ => run s (ldw c.toNat) 4 (ldr c.toNat) 1

theorem ldw_cases (b : Int) : ldw b = 0 ∨ ldw b = 1 ∨ ldw b = 2 ∨ ldw b = 3 ∨ ldw b = 4 := by
  unfold ldw; (repeat' split) <;> omega

theorem run_ok : ∀ (f : Nat) (s : List UInt8) (w r : Int) (k : Nat) (q n : Int), run s w f r k = (q, n, 0) → n = w ∧ (k : Int) ≤ w ∧ (1 ≤ k → k ≤ s.length → w ≤ s.length) ∧ wd q = w
  | 0, s, w, r, k, q, n, h => by simp [run] at h
  | f + 1, s, w, r, k, q, n, h => by
    rw [run] at h
    split at h
    · simp at h
    · rename_i hb
      split at h
      · rename_i hk
        simp at h
        obtain ⟨rfl, rfl⟩ := h
        refine ⟨rfl, by omega, fun _ _ => by omega, ?_⟩
        have hz : w - (k : Int) = 0 := by omega
        simp [bg, hz, pw] at hb
        exact hb.2
      · split at h
        · simp at h
        · rename_i c hc
          split at h
          · have hl : k < s.length := (List.getElem?_eq_some_iff.1 hc).1
            obtain ⟨a, b, c', d⟩ := run_ok f s w _ (k + 1) q n h
            exact ⟨a, by omega, fun h1 _ => c' (by omega) (by omega), d⟩
          · simp at h

theorem nx_ok {s : List UInt8} {q n : Int} (h : nx s = (q, n, 0)) : 1 ≤ n ∧ n ≤ 4 ∧ n ≤ s.length ∧ wd q = n := by
  unfold nx at h
  split at h
  · simp at h
  · rename_i c t
    obtain ⟨rfl, b, e, d⟩ := run_ok _ _ _ _ _ _ _ h
    have := ldw_cases c.toNat
    exact ⟨by omega, by omega, e (by omega) (by simp), d⟩

theorem run_append : ∀ (f : Nat) (s t : List UInt8) (w r : Int) (k : Nat) (q n : Int), run s w f r k = (q, n, 0) → run (s ++ t) w f r k = (q, n, 0)
  | 0, s, t, w, r, k, q, n, h => by simp [run] at h
  | f + 1, s, t, w, r, k, q, n, h => by
    rw [run] at h ⊢
    split at h
    · simp at h
    · rename_i hb
      rw [if_neg hb]
      split at h
      · rename_i hk
        rw [if_pos hk]; exact h
      · rename_i hk
        rw [if_neg hk]
        split at h
        · simp at h
        · rename_i c hc
          have hl : k < s.length := (List.getElem?_eq_some_iff.1 hc).1
          rw [List.getElem?_append_left hl, hc]
          split at h
          · rename_i h2
            simp only [h2, if_true]
            exact run_append f s t w _ (k + 1) q n h
          · simp at h

theorem nx_append {s : List UInt8} (t : List UInt8) {q n : Int} (h : nx s = (q, n, 0)) : nx (s ++ t) = (q, n, 0) := by
  unfold nx at h ⊢
  split at h
  · simp at h
  · rename_i c u
    exact run_append _ (c :: u) t _ _ _ _ _ h

theorem run_bad (s : List UInt8) (w r : Int) (f k : Nat) (hf : 0 < f) (hb : bg r w k = false) : run s w f r k = (0, 0, 7) := by
  obtain ⟨g, rfl⟩ : ∃ g, f = g + 1 := ⟨f - 1, by omega⟩
  rw [run, if_pos hb]

theorem run_end (s : List UInt8) (w r : Int) (f k : Nat) (hf : 0 < f) (hb : bg r w k = true) (hk : (k : Int) = w) : run s w f r k = (r, w, 0) := by
  obtain ⟨g, rfl⟩ : ∃ g, f = g + 1 := ⟨f - 1, by omega⟩
  rw [run, if_neg (by rw [hb]; simp), if_pos hk]

theorem run_short (s : List UInt8) (w r : Int) (f k : Nat) (hf : 0 < f) (hb : bg r w k = true) (hk : ¬ (k : Int) = w) (hl : s.length ≤ k) : run s w f r k = (0, 0, 3) := by
  obtain ⟨g, rfl⟩ : ∃ g, f = g + 1 := ⟨f - 1, by omega⟩
  rw [run, if_neg (by rw [hb]; simp), if_neg hk, List.getElem?_eq_none hl]

theorem run_text (s : List UInt8) (w r : Int) (f k : Nat) (hf : 0 < f) (hb : bg r w k = true) (hk : ¬ (k : Int) = w) (hl : k < s.length) (h2 : ¬ s[k].toNat / 64 = 2) : run s w f r k = (0, 0, 7) := by
  obtain ⟨g, rfl⟩ : ∃ g, f = g + 1 := ⟨f - 1, by omega⟩
  rw [run, if_neg (by rw [hb]; simp), if_neg hk, List.getElem?_eq_getElem hl]
  simp only [h2, if_false]

theorem run_more (s : List UInt8) (w r : Int) (f k : Nat) (hb : bg r w k = true) (hk : ¬ (k : Int) = w) (hl : k < s.length) (h2 : s[k].toNat / 64 = 2) : run s w (f + 1) r k = run s w f (r * 64 + (s[k].toNat % 64 : Nat)) (k + 1) := by
  rw [run, if_neg (by rw [hb]; simp), if_neg hk, List.getElem?_eq_getElem hl]
  simp only [h2, if_true]

/-- The error of nx is 0, 3 or 7; with an error the rest is 0. -/
theorem run_err : ∀ (f : Nat) (s : List UInt8) (w r : Int) (k : Nat), (run s w f r k).2.2 = 0 ∨ run s w f r k = (0, 0, 3) ∨ run s w f r k = (0, 0, 7)
  | 0, s, w, r, k => by simp [run]
  | f + 1, s, w, r, k => by
    rw [run]
    split
    · simp
    · split
      · simp
      · split
        · simp
        · split
          · exact run_err f s w _ _
          · simp

theorem nx_err (s : List UInt8) : (nx s).2.2 = 0 ∨ nx s = (0, 0, 3) ∨ nx s = (0, 0, 7) := by
  unfold nx
  split
  · simp
  · exact run_err _ _ _ _ _

theorem nx_nil : nx [] = (0, 0, 3) := rfl

/-- The characters of s, up to an error, with fuel. -/
def rsF : Nat → List UInt8 → List Int
  | 0, _ => []
  | f + 1, s => if (nx s).2.2 = 0 then (nx s).1 :: rsF f (s.drop (nx s).2.1.toNat) else []

def rs (s : List UInt8) : List Int := rsF s.length s

/-- How many characters s is, with fuel: -1, if not all of it is characters. -/
def cnF : Nat → List UInt8 → Int
  | _, [] => 0
  | 0, _ => -1
  | f + 1, s => if (nx s).2.2 = 0 then (if cnF f (s.drop (nx s).2.1.toNat) < 0 then -1 else cnF f (s.drop (nx s).2.1.toNat) + 1) else -1

def cn (s : List UInt8) : Int := cnF s.length s

theorem cnF_cons (f : Nat) (c : UInt8) (s : List UInt8) : cnF (f + 1) (c :: s) = if (nx (c :: s)).2.2 = 0 then (if cnF f ((c :: s).drop (nx (c :: s)).2.1.toNat) < 0 then -1 else cnF f ((c :: s).drop (nx (c :: s)).2.1.toNat) + 1) else -1 := by
  rw [cnF]; intro h; cases h

theorem nx_split (s : List UInt8) (h : (nx s).2.2 = 0) : 1 ≤ (nx s).2.1.toNat ∧ (nx s).2.1.toNat ≤ 4 ∧ (nx s).2.1.toNat ≤ s.length ∧ (((nx s).2.1.toNat : Nat) : Int) = (nx s).2.1 ∧ wd (nx s).1 = (nx s).2.1 := by
  have := nx_ok (s := s) (q := (nx s).1) (n := (nx s).2.1) (by rw [← h])
  omega

theorem rsF_fuel : ∀ (f g : Nat) (s : List UInt8), s.length ≤ f → s.length ≤ g → rsF f s = rsF g s
  | 0, g, s, h1, h2 => by
    have : s = [] := List.length_eq_zero_iff.1 (by omega)
    subst this
    cases g with
    | zero => rfl
    | succ g => simp [rsF, nx_nil]
  | f + 1, 0, s, h1, h2 => by
    have : s = [] := List.length_eq_zero_iff.1 (by omega)
    subst this
    simp [rsF, nx_nil]
  | f + 1, g + 1, s, h1, h2 => by
    rw [rsF, rsF]
    split
    · rename_i h
      have := nx_split s h
      rw [rsF_fuel f g _ (by rw [List.length_drop]; omega) (by rw [List.length_drop]; omega)]
    · rfl

theorem cnF_fuel : ∀ (f g : Nat) (s : List UInt8), s.length ≤ f → s.length ≤ g → cnF f s = cnF g s
  | f, g, [], h1, h2 => by cases f <;> cases g <;> rfl
  | 0, g, c :: s, h1, h2 => by simp at h1
  | f + 1, 0, c :: s, h1, h2 => by simp at h2
  | f + 1, g + 1, c :: s, h1, h2 => by
    rw [cnF_cons, cnF_cons]
    split
    · rename_i h
      have := nx_split _ h
      have e := cnF_fuel f g ((c :: s).drop (nx (c :: s)).2.1.toNat) (by rw [List.length_drop]; omega) (by rw [List.length_drop]; omega)
      rw [e]
    · rfl

theorem rs_ok (s : List UInt8) (h : (nx s).2.2 = 0) : rs s = (nx s).1 :: rs (s.drop (nx s).2.1.toNat) := by
  have := nx_split s h
  unfold rs
  obtain ⟨n, hn⟩ : ∃ n, s.length = n + 1 := ⟨s.length - 1, by omega⟩
  rw [hn, rsF, if_pos h, rsF_fuel n _ _ (by rw [List.length_drop]; omega) (Nat.le_refl _)]

theorem rs_no (s : List UInt8) (h : ¬ (nx s).2.2 = 0) : rs s = [] := by
  unfold rs
  cases hn : s.length with
  | zero => rfl
  | succ n => rw [rsF, if_neg h]

theorem cn_nil : cn [] = 0 := rfl

theorem cn_ok (s : List UInt8) (h : (nx s).2.2 = 0) : cn s = if cn (s.drop (nx s).2.1.toNat) < 0 then -1 else cn (s.drop (nx s).2.1.toNat) + 1 := by
  have := nx_split s h
  unfold cn
  cases s with
  | nil => simp [nx_nil] at h
  | cons c t =>
    rw [List.length_cons, cnF_cons, if_pos h, cnF_fuel t.length _ ((c :: t).drop (nx (c :: t)).2.1.toNat) (by rw [List.length_drop]; simp at *; omega) (Nat.le_refl _)]

theorem cn_no (s : List UInt8) (h0 : s ≠ []) (h : ¬ (nx s).2.2 = 0) : cn s = -1 := by
  unfold cn
  cases s with
  | nil => exact absurd rfl h0
  | cons c t => rw [List.length_cons, cnF_cons, if_neg h]

theorem cn_ge : ∀ (n : Nat) (s : List UInt8), s.length ≤ n → -1 ≤ cn s ∧ cn s ≤ s.length
  | 0, s, h => by
    have : s = [] := List.length_eq_zero_iff.1 (by omega)
    subst this; simp [cn_nil]
  | n + 1, s, h => by
    by_cases h0 : s = []
    · subst h0; simp [cn_nil]
    by_cases he : (nx s).2.2 = 0
    · have hs := nx_split s he
      have hl : (s.drop (nx s).2.1.toNat).length = s.length - (nx s).2.1.toNat := List.length_drop
      have := cn_ge n (s.drop (nx s).2.1.toNat) (by omega)
      rw [cn_ok s he]
      split <;> omega
    · rw [cn_no s h0 he]; omega

theorem rs_le : ∀ (n : Nat) (s : List UInt8), s.length ≤ n → (rs s).length ≤ s.length
  | 0, s, h => by
    have : s = [] := List.length_eq_zero_iff.1 (by omega)
    subst this; simp [rs, rsF]
  | n + 1, s, h => by
    by_cases he : (nx s).2.2 = 0
    · have hs := nx_split s he
      have hl : (s.drop (nx s).2.1.toNat).length = s.length - (nx s).2.1.toNat := List.length_drop
      have := rs_le n (s.drop (nx s).2.1.toNat) (by omega)
      rw [rs_ok s he, List.length_cons]
      omega
    · rw [rs_no s he]; simp

/-- Two texts that are all characters are, one behind the other, and have as many. -/
theorem cn_append : ∀ (n : Nat) (a b : List UInt8), a.length ≤ n → 0 ≤ cn a → 0 ≤ cn b → cn (a ++ b) = cn a + cn b
  | 0, a, b, h, _, _ => by
    have : a = [] := List.length_eq_zero_iff.1 (by omega)
    subst this; simp [cn_nil]
  | n + 1, a, b, h, ha, hb => by
    by_cases h0 : a = []
    · subst h0; simp [cn_nil]
    by_cases he : (nx a).2.2 = 0
    · have hs := nx_split a he
      have e := nx_append b (q := (nx a).1) (n := (nx a).2.1) (by rw [← he])
      have he' : (nx (a ++ b)).2.2 = 0 := by rw [e]
      have hd : (a ++ b).drop (nx (a ++ b)).2.1.toNat = a.drop (nx a).2.1.toNat ++ b := by
        rw [e]; exact List.drop_append_of_le_length hs.2.2.1
      have hl : (a.drop (nx a).2.1.toNat).length = a.length - (nx a).2.1.toNat := List.length_drop
      rw [cn_ok a he] at ha ⊢
      split at ha
      · omega
      · rename_i hp
        rw [if_neg hp]
        have := cn_append n (a.drop (nx a).2.1.toNat) b (by omega) (by omega) hb
        rw [cn_ok _ he', hd, this, if_neg (by omega)]
        omega
    · rw [cn_no a h0 he] at ha; omega

theorem wd1 (x : Int) : (wd x = 1) = (0 ≤ x ∧ x ≤ 127) := by unfold wd; rw [eq_iff_iff]; (repeat' split) <;> omega
theorem wd2 (x : Int) : (wd x = 2) = (128 ≤ x ∧ x ≤ 2047) := by unfold wd; rw [eq_iff_iff]; (repeat' split) <;> omega
theorem wd3 (x : Int) : (wd x = 3) = (2048 ≤ x ∧ x ≤ 65535 ∧ (x < 55296 ∨ 57343 < x)) := by unfold wd; rw [eq_iff_iff]; (repeat' split) <;> omega
theorem wd4 (x : Int) : (wd x = 4) = (65536 ≤ x ∧ x ≤ 1114111) := by unfold wd; rw [eq_iff_iff]; (repeat' split) <;> omega

end Go.Proofs.YtibopeefhogfcaaGreatDoor.Utf
