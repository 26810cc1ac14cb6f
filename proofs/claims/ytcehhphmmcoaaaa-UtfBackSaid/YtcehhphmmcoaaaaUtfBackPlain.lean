/-
  A character's bytes are read as it, whatever is behind; a beginning of them is short. No condition beside that it is a character.
-/
import Derived.Test.YtcehhphmmcoaaaaUtfOrderPlain
namespace Go.Proofs.Ytcehhphmmcoaaaa.Utf

theorem wd1 (x : Int) : (wd x = 1) = (0 ≤ x ∧ x ≤ 127) := by unfold wd; rw [eq_iff_iff]; (repeat' split) <;> omega
theorem wd2 (x : Int) : (wd x = 2) = (128 ≤ x ∧ x ≤ 2047) := by unfold wd; rw [eq_iff_iff]; (repeat' split) <;> omega
theorem wd3 (x : Int) : (wd x = 3) = (2048 ≤ x ∧ x ≤ 65535 ∧ (x < 55296 ∨ 57343 < x)) := by unfold wd; rw [eq_iff_iff]; (repeat' split) <;> omega
theorem wd4 (x : Int) : (wd x = 4) = (65536 ≤ x ∧ x ≤ 1114111) := by unfold wd; rw [eq_iff_iff]; (repeat' split) <;> omega

/-- The first bits of a character begin some character of its width. -/
theorem bg_of (q n k : Int) (h : wd q = n) (h1 : 1 ≤ k) (h2 : k ≤ n) (h4 : n ≤ 4) : bg (q / pw (n - k)) n k = true := by
  have c : (n = 1 ∧ k = 1) ∨ (n = 2 ∧ k = 1) ∨ (n = 2 ∧ k = 2) ∨ (n = 3 ∧ k = 1) ∨ (n = 3 ∧ k = 2) ∨ (n = 3 ∧ k = 3) ∨ (n = 4 ∧ k = 1) ∨ (n = 4 ∧ k = 2) ∨ (n = 4 ∧ k = 3) ∨ (n = 4 ∧ k = 4) := by omega
  rcases c with ⟨rfl, rfl⟩ | ⟨rfl, rfl⟩ | ⟨rfl, rfl⟩ | ⟨rfl, rfl⟩ | ⟨rfl, rfl⟩ | ⟨rfl, rfl⟩ | ⟨rfl, rfl⟩ | ⟨rfl, rfl⟩ | ⟨rfl, rfl⟩ | ⟨rfl, rfl⟩
  all_goals
    simp only [wd1, wd2, wd3, wd4] at h
    simp [bg, pw, wd1, wd2, wd3, wd4]
    omega

theorem run_go (s : List UInt8) (w r y : Int) (f k : Nat) (hb : bg r w k = true) (hk : ¬ (k : Int) = w) (hs : s[k]? = some (bt (128 + y))) (h0 : 0 ≤ y) (h1 : y < 64) :
    run s w (f + 1) r k = run s w f (r * 64 + y) (k + 1) := by
  have hl : k < s.length := (List.getElem?_eq_some_iff.1 hs).1
  have he : s[k] = bt (128 + y) := (List.getElem?_eq_some_iff.1 hs).2
  have hn := bt_toNat (128 + y) (by omega) (by omega)
  rw [run_more s w r f k hb hk hl (by rw [he]; omega), he, show (((bt (128 + y)).toNat % 64 : Nat) : Int) = y from by omega]

theorem ld1 (x : Int) (h : 0 ≤ x) (g : x ≤ 127) : ldw x = 1 ∧ ldr x = x := by unfold ldw ldr; constructor <;> (repeat' split) <;> omega
theorem ld2 (x : Int) (h : 192 ≤ x) (g : x < 224) : ldw x = 2 ∧ ldr x = x - 192 := by unfold ldw ldr; constructor <;> (repeat' split) <;> omega
theorem ld3 (x : Int) (h : 224 ≤ x) (g : x < 240) : ldw x = 3 ∧ ldr x = x - 224 := by unfold ldw ldr; constructor <;> (repeat' split) <;> omega
theorem ld4 (x : Int) (h : 240 ≤ x) : ldw x = 4 ∧ ldr x = x - 240 := by unfold ldw ldr; constructor <;> (repeat' split) <;> omega

theorem nx_cons (x : Int) (t : List UInt8) (h0 : 0 ≤ x) (h1 : x < 256) : nx (bt x :: t) = run (bt x :: t) (ldw x) 4 (ldr x) 1 := by
  show run (bt x :: t) (ldw (bt x).toNat) 4 (ldr (bt x).toNat) 1 = _
  rw [bt_toNat x h0 h1]

theorem bgk (q n k m r : Int) (h : wd q = n) (h1 : 1 ≤ k) (h2 : k ≤ n) (h4 : n ≤ 4) (hm : pw (n - k) = m) (hr : r = q / m) : bg r n k = true := by
  subst hr; rw [← hm]; exact bg_of q n k h h1 h2 h4

/-- The character's own bytes come first: it is read. -/
theorem nx_pl (r : Int) (t : List UInt8) (h : wd r ≠ 0) : nx (pl r ++ t) = (r, ((pl r).length : Int), 0) := by
  rcases pl_cases r h with ⟨x, y, e⟩ | ⟨x, y, e⟩ | ⟨x, y, e⟩ | ⟨x, y, e⟩
  · have hw : wd r = 1 := by rw [wd1]; omega
    rw [e, List.singleton_append, nx_cons r t (by omega) (by omega), (ld1 r x y).1, (ld1 r x y).2]
    exact run_end _ _ _ _ _ (by omega) (bgk r 1 1 1 r hw (by omega) (by omega) (by omega) rfl (by omega)) rfl
  · have hw : wd r = 2 := by rw [wd2]; omega
    rw [e]
    show nx (bt (192 + r / 64) :: bt (128 + r % 64) :: t) = _
    rw [nx_cons _ _ (by omega) (by omega), (ld2 _ (by omega) (by omega)).1, (ld2 _ (by omega) (by omega)).2]
    rw [run_go _ _ _ (r % 64) 3 1 (bgk r 2 1 64 _ hw (by omega) (by omega) (by omega) rfl (by omega)) (by omega) rfl (by omega) (by omega)]
    rw [show (192 + r / 64 - 192) * 64 + r % 64 = r from by omega]
    exact run_end _ _ _ _ _ (by omega) (bgk r 2 2 1 r hw (by omega) (by omega) (by omega) rfl (by omega)) rfl
  · have hw : wd r = 3 := by
      rw [wd3]
      refine ⟨x, y, ?_⟩
      unfold wd at h; (repeat' split at h) <;> omega
    rw [e]
    show nx (bt (224 + r / 4096) :: bt (128 + r / 64 % 64) :: bt (128 + r % 64) :: t) = _
    rw [nx_cons _ _ (by omega) (by omega), (ld3 _ (by omega) (by omega)).1, (ld3 _ (by omega) (by omega)).2]
    rw [run_go _ _ _ (r / 64 % 64) 3 1 (bgk r 3 1 4096 _ hw (by omega) (by omega) (by omega) rfl (by omega)) (by omega) rfl (by omega) (by omega)]
    rw [show (224 + r / 4096 - 224) * 64 + r / 64 % 64 = r / 64 from by omega]
    rw [run_go _ _ _ (r % 64) 2 2 (bgk r 3 2 64 _ hw (by omega) (by omega) (by omega) rfl (by omega)) (by omega) rfl (by omega) (by omega)]
    rw [show r / 64 * 64 + r % 64 = r from by omega]
    exact run_end _ _ _ _ _ (by omega) (bgk r 3 3 1 r hw (by omega) (by omega) (by omega) rfl (by omega)) rfl
  · have hw : wd r = 4 := by rw [wd4]; omega
    rw [e]
    show nx (bt (240 + r / 262144) :: bt (128 + r / 4096 % 64) :: bt (128 + r / 64 % 64) :: bt (128 + r % 64) :: t) = _
    rw [nx_cons _ _ (by omega) (by omega), (ld4 _ (by omega)).1, (ld4 _ (by omega)).2]
    rw [run_go _ _ _ (r / 4096 % 64) 3 1 (bgk r 4 1 262144 _ hw (by omega) (by omega) (by omega) rfl (by omega)) (by omega) rfl (by omega) (by omega)]
    rw [show (240 + r / 262144 - 240) * 64 + r / 4096 % 64 = r / 4096 from by omega]
    rw [run_go _ _ _ (r / 64 % 64) 2 2 (bgk r 4 2 4096 _ hw (by omega) (by omega) (by omega) rfl (by omega)) (by omega) rfl (by omega) (by omega)]
    rw [show r / 4096 * 64 + r / 64 % 64 = r / 64 from by omega]
    rw [run_go _ _ _ (r % 64) 1 3 (bgk r 4 3 64 _ hw (by omega) (by omega) (by omega) rfl (by omega)) (by omega) rfl (by omega) (by omega)]
    rw [show r / 64 * 64 + r % 64 = r from by omega]
    exact run_end _ _ _ _ _ (by omega) (bgk r 4 4 1 r hw (by omega) (by omega) (by omega) rfl (by omega)) rfl

/-- A beginning of the character's bytes is short. -/
theorem nx_pl_short (r : Int) (i : Nat) (h : wd r ≠ 0) (hi : i < (pl r).length) : nx ((pl r).take i) = (0, 0, 3) := by
  rcases pl_cases r h with ⟨x, y, e⟩ | ⟨x, y, e⟩ | ⟨x, y, e⟩ | ⟨x, y, e⟩
  · rw [e] at hi ⊢
    have : i = 0 := by simp at hi; omega
    subst this; rfl
  · have hw : wd r = 2 := by rw [wd2]; omega
    rw [e] at hi ⊢
    have : i = 0 ∨ i = 1 := by simp at hi; omega
    rcases this with rfl | rfl
    · rfl
    show nx [bt (192 + r / 64)] = _
    rw [nx_cons _ _ (by omega) (by omega), (ld2 _ (by omega) (by omega)).1, (ld2 _ (by omega) (by omega)).2]
    exact run_short _ _ _ _ _ (by omega) (bgk r 2 1 64 _ hw (by omega) (by omega) (by omega) rfl (by omega)) (by omega) (by simp)
  · have hw : wd r = 3 := by
      rw [wd3]
      refine ⟨x, y, ?_⟩
      unfold wd at h; (repeat' split at h) <;> omega
    rw [e] at hi ⊢
    have : i = 0 ∨ i = 1 ∨ i = 2 := by simp at hi; omega
    rcases this with rfl | rfl | rfl
    · rfl
    · show nx [bt (224 + r / 4096)] = _
      rw [nx_cons _ _ (by omega) (by omega), (ld3 _ (by omega) (by omega)).1, (ld3 _ (by omega) (by omega)).2]
      exact run_short _ _ _ _ _ (by omega) (bgk r 3 1 4096 _ hw (by omega) (by omega) (by omega) rfl (by omega)) (by omega) (by simp)
    · show nx [bt (224 + r / 4096), bt (128 + r / 64 % 64)] = _
      rw [nx_cons _ _ (by omega) (by omega), (ld3 _ (by omega) (by omega)).1, (ld3 _ (by omega) (by omega)).2]
      rw [run_go _ _ _ (r / 64 % 64) 3 1 (bgk r 3 1 4096 _ hw (by omega) (by omega) (by omega) rfl (by omega)) (by omega) rfl (by omega) (by omega)]
      rw [show (224 + r / 4096 - 224) * 64 + r / 64 % 64 = r / 64 from by omega]
      exact run_short _ _ _ _ _ (by omega) (bgk r 3 2 64 _ hw (by omega) (by omega) (by omega) rfl (by omega)) (by omega) (by simp)
  · have hw : wd r = 4 := by rw [wd4]; omega
    rw [e] at hi ⊢
    have : i = 0 ∨ i = 1 ∨ i = 2 ∨ i = 3 := by simp at hi; omega
    rcases this with rfl | rfl | rfl | rfl
    · rfl
    · show nx [bt (240 + r / 262144)] = _
      rw [nx_cons _ _ (by omega) (by omega), (ld4 _ (by omega)).1, (ld4 _ (by omega)).2]
      exact run_short _ _ _ _ _ (by omega) (bgk r 4 1 262144 _ hw (by omega) (by omega) (by omega) rfl (by omega)) (by omega) (by simp)
    · show nx [bt (240 + r / 262144), bt (128 + r / 4096 % 64)] = _
      rw [nx_cons _ _ (by omega) (by omega), (ld4 _ (by omega)).1, (ld4 _ (by omega)).2]
      rw [run_go _ _ _ (r / 4096 % 64) 3 1 (bgk r 4 1 262144 _ hw (by omega) (by omega) (by omega) rfl (by omega)) (by omega) rfl (by omega) (by omega)]
      rw [show (240 + r / 262144 - 240) * 64 + r / 4096 % 64 = r / 4096 from by omega]
      exact run_short _ _ _ _ _ (by omega) (bgk r 4 2 4096 _ hw (by omega) (by omega) (by omega) rfl (by omega)) (by omega) (by simp)
    · show nx [bt (240 + r / 262144), bt (128 + r / 4096 % 64), bt (128 + r / 64 % 64)] = _
      rw [nx_cons _ _ (by omega) (by omega), (ld4 _ (by omega)).1, (ld4 _ (by omega)).2]
      rw [run_go _ _ _ (r / 4096 % 64) 3 1 (bgk r 4 1 262144 _ hw (by omega) (by omega) (by omega) rfl (by omega)) (by omega) rfl (by omega) (by omega)]
      rw [show (240 + r / 262144 - 240) * 64 + r / 4096 % 64 = r / 4096 from by omega]
      rw [run_go _ _ _ (r / 64 % 64) 2 2 (bgk r 4 2 4096 _ hw (by omega) (by omega) (by omega) rfl (by omega)) (by omega) rfl (by omega) (by omega)]
      rw [show r / 4096 * 64 + r / 64 % 64 = r / 64 from by omega]
      exact run_short _ _ _ _ _ (by omega) (bgk r 4 3 64 _ hw (by omega) (by omega) (by omega) rfl (by omega)) (by omega) (by simp)

end Go.Proofs.Ytcehhphmmcoaaaa.Utf
