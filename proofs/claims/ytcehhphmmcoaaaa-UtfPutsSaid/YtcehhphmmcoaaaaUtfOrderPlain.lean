/-
  Of two characters the lesser one has the lesser bytes. No condition beside that both are characters.
-/
import Derived.Test.YtcehhphmmcoaaaaUtfBits
import Derived.Test.YtcehhphmmcoaaaaUtfPlain
namespace Go.Proofs.Ytcehhphmmcoaaaa.Utf

theorem bt_lt (x y : Int) (a : 0 ≤ x) (b : x < 256) (c : 0 ≤ y) (d : y < 256) : (bt x < bt y) = (x < y) := by
  have h1 := bt_toNat x a b
  have h2 := bt_toNat y c d
  rw [UInt8.lt_iff_toNat_lt, eq_iff_iff]
  omega

theorem bt_eq (x y : Int) (a : 0 ≤ x) (b : x < 256) (c : 0 ≤ y) (d : y < 256) : (bt x = bt y) = (x = y) := by
  have h1 := bt_toNat x a b
  have h2 := bt_toNat y c d
  rw [eq_iff_iff]
  constructor
  · intro h; rw [h] at h1; omega
  · intro h; rw [h]

/-- The four kinds of characters, with their bytes. -/
theorem pl_cases (a : Int) (h : wd a ≠ 0) :
    (0 ≤ a ∧ a ≤ 127 ∧ pl a = [bt a]) ∨
    (128 ≤ a ∧ a ≤ 2047 ∧ pl a = [bt (192 + a / 64), bt (128 + a % 64)]) ∨
    (2048 ≤ a ∧ a ≤ 65535 ∧ pl a = [bt (224 + a / 4096), bt (128 + a / 64 % 64), bt (128 + a % 64)]) ∨
    (65536 ≤ a ∧ a ≤ 1114111 ∧ pl a = [bt (240 + a / 262144), bt (128 + a / 4096 % 64), bt (128 + a / 64 % 64), bt (128 + a % 64)]) := by
  by_cases c1 : wd a = 1
  · have b : 0 ≤ a ∧ a ≤ 127 := by unfold wd at c1; (repeat' split at c1) <;> omega
    exact .inl ⟨b.1, b.2, by simp [pl, c1]⟩
  by_cases c2 : wd a = 2
  · have b : 128 ≤ a ∧ a ≤ 2047 := by unfold wd at c2; (repeat' split at c2) <;> omega
    exact .inr (.inl ⟨b.1, b.2, by simp [pl, c2]⟩)
  by_cases c3 : wd a = 3
  · have b : 2048 ≤ a ∧ a ≤ 65535 := by unfold wd at c3; (repeat' split at c3) <;> omega
    exact .inr (.inr (.inl ⟨b.1, b.2, by simp [pl, c3]⟩))
  have c4 : wd a = 4 := by unfold wd at *; (repeat' split at *) <;> omega
  have b : 65536 ≤ a ∧ a ≤ 1114111 := by unfold wd at c4; (repeat' split at c4) <;> omega
  exact .inr (.inr (.inr ⟨b.1, b.2, by simp [pl, c4]⟩))

theorem less_pl (a b : Int) (ha : wd a ≠ 0) (hb : wd b ≠ 0) : (Op.bytesLess (pl a) (pl b) = true) = (a < b) := by
  rcases pl_cases a ha with ⟨x, y, e⟩ | ⟨x, y, e⟩ | ⟨x, y, e⟩ | ⟨x, y, e⟩ <;> rcases pl_cases b hb with ⟨z, u, f⟩ | ⟨z, u, f⟩ | ⟨z, u, f⟩ | ⟨z, u, f⟩
  all_goals
    rw [e, f]
    simp (disch := omega) only [Op.bytesLess, Bool.or_eq_true, Bool.and_eq_true, decide_eq_true_eq, beq_iff_eq, bt_lt, bt_eq, Bool.false_eq_true, and_false, or_false, and_true]
    try (rw [eq_iff_iff]; omega)

theorem same_pl (a b : Int) (ha : wd a ≠ 0) (hb : wd b ≠ 0) : (pl a = pl b) = (a = b) := by
  rw [eq_iff_iff]
  constructor
  · intro h
    have h1 := less_pl a b ha hb
    have h2 := less_pl b a hb ha
    rw [h] at h1 h2
    have : (a < b) ↔ (b < a) := by rw [← h1, ← h2]
    omega
  · intro h; rw [h]

end Go.Proofs.Ytcehhphmmcoaaaa.Utf
