/-
  A number that has a real is that real's number; the number of a real fits an int. Conditions: the bounds named in each theorem.
-/
import Derived.Test.YtaknkiafchnlpaaDoorRealsAwake
namespace Go.Proofs.YtaknkiafchnlpaaDoor
open Go.RowKit

theorem ti_range (x : Int) : -9223372036854775808 ≤ Rl.ti x ∧ Rl.ti x < 9223372036854775808 := by
  unfold Rl.ti
  split
  · omega
  · split
    · rename_i h
      unfold Rl.io at h
      split
      · rename_i k; rw [if_pos k] at h; simp at h; omega
      · rename_i k; rw [if_neg k] at h; simp at h; omega
    · omega

theorem ti_again (n : Int) (h : -9223372036854775808 ≤ n ∧ n < 9223372036854775808) (g : Rl.fo n = true) : Rl.ti (Rl.fi n) = n ∧ Rl.to (Rl.fi n) = true := by
  by_cases z : n = 0
  · subst z; exact ⟨by decide +kernel, by decide +kernel⟩
  · obtain ⟨_, p, q⟩ := Rl.ti_fi n z h g
    exact ⟨q, by unfold Rl.to; rw [p]; simp⟩

theorem eq_self (b : Int) (o : Rl.io b = true) : Rl.eq b b = true := by
  have q : Rl.wo b = true := by unfold Rl.io at o; simp at o; exact o.1
  obtain ⟨_, p, _⟩ := (Rl.wo_iff b).1 q
  have n : Rl.cl b ≠ 1 := fun z => by have := (Rl.cl1 b).1 z; omega
  exact (Rl.eq_iff b b).2 ⟨n, n, Or.inl rfl⟩

theorem eq_zero (b : Int) (c : Rl.cl b = 3) : Rl.eq 0 b = true := (Rl.eq_iff 0 b).2 ⟨by decide, by omega, Or.inr ⟨by decide, c⟩⟩

end Go.Proofs.YtaknkiafchnlpaaDoor
