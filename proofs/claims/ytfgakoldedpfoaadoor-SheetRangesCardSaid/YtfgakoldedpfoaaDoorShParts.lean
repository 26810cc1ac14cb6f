/-
  slices.Clone of columns and of lines. Conditions: the bounds named in each theorem.
-/
import Derived.Test.YtfgakoldedpfoaaDoorShMem
import Derived.Lib.SliceRun
namespace Go.Proofs.YtfgakoldedpfoaaDoor
open Go.RowKit

/-- The cells of a slice of columns, one behind the other. -/
theorem SlC.cell {W : World} {a : Addr} {cs : List C} (h : SlC W (some a) cs) (j : Nat) (u : Value) (hj : (ccs cs)[j]? = some u) : W.cell? (a.add j) = some u := by
  have hl : j < cs.length * 7 := by
    have := (List.getElem?_eq_some_iff.1 hj).1
    rwa [ccs_len] at this
  obtain ⟨i, r, rfl, hr⟩ : ∃ i r, j = i * 7 + r ∧ r < 7 := ⟨j / 7, j % 7, by omega, by omega⟩
  have hi : i < cs.length := by omega
  obtain ⟨a', ha, h0, h1, h2, h3, h4, h5, h6⟩ := h i cs[i] (List.getElem?_eq_getElem hi)
  obtain rfl := Option.some.inj ha
  rw [ccs_at cs i cs[i] r (List.getElem?_eq_getElem hi) hr] at hj
  have e : a.add (i * 7 + r) = (a.add (i * 7)).add r := add_two a (i * 7) r
  rw [e]
  have c : r = 0 ∨ r = 1 ∨ r = 2 ∨ r = 3 ∨ r = 4 ∨ r = 5 ∨ r = 6 := by omega
  rcases c with rfl | rfl | rfl | rfl | rfl | rfl | rfl
  · simp [C.cells] at hj; subst hj; exact h0
  · simp [C.cells] at hj; subst hj; exact h1
  · simp [C.cells] at hj; subst hj; exact h2
  · simp [C.cells] at hj; subst hj; exact h3
  · simp [C.cells] at hj; subst hj; exact h4
  · simp [C.cells] at hj; subst hj; exact h5
  · simp [C.cells] at hj; subst hj; exact h6
theorem ccs_one (cs : List C) : ∀ u ∈ ccs cs, u.oneCell' = true := by
  intro u hu
  induction cs with
  | nil => simp [ccs] at hu
  | cons c cs ih =>
    rw [ccs, List.mem_append] at hu
    rcases hu with hu | hu
    · simp [C.cells] at hu; rcases hu with rfl | rfl | rfl | rfl | rfl | rfl | rfl <;> rfl
    · exact ih hu

theorem SlC.none {W : World} {cs : List C} (h : SlC W none cs) : cs = [] := by
  cases cs with
  | nil => rfl
  | cons c cs =>
    obtain ⟨a, ha, _⟩ := h 0 c rfl
    cases ha

set_option maxHeartbeats 2000000 in
theorem clone_is (cs : List C) (ao : Option Addr) (cap : Nat) (w : World) (h : SlC w ao cs) (hl : cs.length ≤ 1000) :
    Calls Tryd.prog 43 #[.slice ao cs.length cap] w fun e w' => ∃ v, e = .returned v ∧ OwC w' w.heap.size v cs ∧ Below w.heap.size w w' := by
  have q : ∀ (w : World) (a : Option Addr) (n c n' c' : Nat), (binOp .eql 22 (.slice a n c) (.slice none n' c')).run Tryd.prog w = .ok (.bool a.isNone) w := fun w a n c n' c' => Lib.run_eql_slice_nil w _ _ a n c n' c' Tryd.underlying22
  cases ao with
  | none =>
    obtain rfl := h.none
    clear h hl
    go_enter Tryd.func43, Tryd.ntmps43
    go_wp2
    go_ret
    exact ⟨_, rfl, owc_nil _ _, Below.refl _ _⟩
  | some a =>
    obtain ⟨i0, hi, hz0, hz1, hz2⟩ := info_parts Tryd.infoC
    have H := Lib.hid (And.intro h hl)
    clear h hl
    go_enter Tryd.func43, Tryd.ntmps43
    go_wp2_with (at_builtin; refine wpList_append_own _ rfl _ _ 22 rfl w.heap.size 76 i0 _ 7 72 Tryd.underlying22 hi hz0 hz1 hz2 rfl (by decide) _ _ _ rfl (World.ownsRow_made w #[] 0 (Nat.le_refl _) (Nat.zero_le _) (by simp)) a cs.length cap (ccs cs) rfl ?qc1 ?qc2 ?qc3 ?qc4 ?qc5 ?qc6 ?_)
    case qc1 => exact ccs_len cs
    case qc2 =>
      intro j u hj
      exact keep0 (H.out.1.cell j u hj) (below1 _ _)
    case qc3 => exact ccs_one cs
    case qc4 => have := H.out.2; unfold maxLen; omega
    case qc5 => have := H.out.2; omega
    case qc6 => simp
    intro v' w' hown hgrow _
    have K := Lib.hid (show OwC w' w.heap.size v' cs from hown)
    have B := Lib.hid (((Below.refl _ w).alloc (Nat.le_refl _) _).grown hgrow (by simp) (fun k hk => by simp [Value.ownBlock] at hk; omega))
    clear hown hgrow
    go_wp2
    go_ret
    exact ⟨_, rfl, K.out, B.out⟩

set_option maxHeartbeats 2000000 in
theorem lclone_is (cs : List LV) (ao : Option Addr) (cap : Nat) (w : World) (h : SlL w ao cs) (hl : cs.length ≤ 1000) :
    Calls Tryd.prog 38 #[.slice ao cs.length cap] w fun e w' => ∃ v, e = .returned v ∧ OwL w' w.heap.size v cs ∧ Below w.heap.size w w' := by
  have q : ∀ (w : World) (a : Option Addr) (n c n' c' : Nat), (binOp .eql 25 (.slice a n c) (.slice none n' c')).run Tryd.prog w = .ok (.bool a.isNone) w := fun w a n c n' c' => Lib.run_eql_slice_nil w _ _ a n c n' c' Tryd.underlying25
  cases ao with
  | none =>
    obtain rfl := h.none
    clear h hl
    go_enter Tryd.func38, Tryd.ntmps38
    go_wp2
    go_ret
    exact ⟨_, rfl, owl_nil _ _, Below.refl _ _⟩
  | some a =>
    obtain ⟨i0, hi, hz0, hz1, hz2⟩ := info_parts Tryd.infoL
    have H := Lib.hid (And.intro h hl)
    clear h hl
    go_enter Tryd.func38, Tryd.ntmps38
    go_wp2_with (at_builtin; refine wpList_append_own _ rfl _ _ 25 rfl w.heap.size 54 i0 _ 2 40 Tryd.underlying25 hi hz0 hz1 hz2 rfl (by decide) _ _ _ rfl (World.ownsRow_made w #[] 0 (Nat.le_refl _) (Nat.zero_le _) (by simp)) a cs.length cap (lcs cs) rfl ?qc1 ?qc2 ?qc3 ?qc4 ?qc5 ?qc6 ?_)
    case qc1 => exact lcs_len cs
    case qc2 =>
      intro j u hj
      exact keep0 (H.out.1.cell j u hj) (below1 _ _)
    case qc3 => exact lcs_one cs
    case qc4 => have := H.out.2; unfold maxLen; omega
    case qc5 => have := H.out.2; omega
    case qc6 => simp
    intro v' w' hown hgrow _
    have K := Lib.hid (show OwL w' w.heap.size v' cs from hown)
    have B := Lib.hid (((Below.refl _ w).alloc (Nat.le_refl _) _).grown hgrow (by simp) (fun k hk => by simp [Value.ownBlock] at hk; omega))
    clear hown hgrow
    go_wp2
    go_ret
    exact ⟨_, rfl, K.out, B.out⟩


end Go.Proofs.YtfgakoldedpfoaaDoor
