/-
  What the document's Equal answers, for any two reals; it writes nothing that was there.
-/
import Derived.Test.YtibopeefhogfcaaDoorRealsLeaf
namespace Go.Proofs.YtibopeefhogfcaaDoor
open Go.RowKit

set_option maxHeartbeats 1000000 in
theorem refEqual_any (x y : Int) (w : World) (hx : Rl.U x) (hy : Rl.U y) :
    Calls Tryd.prog 15 #[.int .u64 x, .int .u64 y] w fun e w' => e = .returned (.bool (Rl.eq x y)) ∧ w = w' := by
  by_cases h : Rl.cl x = 1
  · have e : Rl.eq x y = false := by unfold Rl.eq; rw [h]; rfl
    rw [e]
    clear e
    have H := Lib.hid h
    clear h
    go_enter Tryd.func15, Tryd.ntmps15
    go_wp2_with fail
    refine (refClass_is x 1 _ hx H.out).mono ?_
    rintro r w' ⟨rfl, rfl⟩
    go_wp2
    go_ret
    exact ⟨rfl, rfl⟩
  have h1 := beq_f h
  by_cases g : Rl.cl y = 1
  · have e : Rl.eq x y = false := by unfold Rl.eq; rw [g]; simp
    rw [e]
    clear e
    have G := Lib.hid g
    clear g h
    go_enter Tryd.func15, Tryd.ntmps15
    go_wp2_with fail
    refine (refClass_any x _ hx).mono ?_
    rintro r w' ⟨rfl, rfl⟩
    go_wp2_with fail
    refine (refClass_is y 1 _ hy G.out).mono ?_
    rintro r w' ⟨rfl, rfl⟩
    go_wp2
    go_ret
    exact ⟨rfl, rfl⟩
  have g1 := beq_f g
  by_cases q : x = y
  · subst q
    have e : Rl.eq x x = true := (Rl.eq_iff x x).2 ⟨h, h, Or.inl rfl⟩
    rw [e]
    clear e h g
    go_enter Tryd.func15, Tryd.ntmps15
    go_wp2_with fail
    refine (refClass_any x _ hx).mono ?_
    rintro r w' ⟨rfl, rfl⟩
    go_wp2_with fail
    refine (refClass_any x _ hx).mono ?_
    rintro r w' ⟨rfl, rfl⟩
    go_wp2
    go_ret
    exact ⟨rfl, rfl⟩
  have q1 := beq_f q
  by_cases k : Rl.cl x = 3
  · by_cases l : Rl.cl y = 3
    · have e : Rl.eq x y = true := (Rl.eq_iff x y).2 ⟨h, g, Or.inr ⟨k, l⟩⟩
      rw [e]
      have K := Lib.hid k
      have L := Lib.hid l
      clear e h g q k l h1 g1
      go_enter Tryd.func15, Tryd.ntmps15
      go_wp2_with fail
      refine (refClass_is x 3 _ hx K.out).mono ?_
      rintro r w' ⟨rfl, rfl⟩
      go_wp2_with fail
      refine (refClass_is y 3 _ hy L.out).mono ?_
      rintro r w' ⟨rfl, rfl⟩
      go_wp2_with fail
      refine (refClass_is x 3 _ hx K.out).mono ?_
      rintro r w' ⟨rfl, rfl⟩
      go_wp2_with fail
      refine (refClass_is y 3 _ hy L.out).mono ?_
      rintro r w' ⟨rfl, rfl⟩
      go_wp2
      go_ret
      exact ⟨rfl, rfl⟩
    · have e : Rl.eq x y = false := by
        cases p : Rl.eq x y
        · rfl
        · obtain ⟨_, _, p | p⟩ := (Rl.eq_iff x y).1 p
          · exact absurd p q
          · exact absurd p.2 l
      rw [e]
      have K := Lib.hid k
      have l1 := beq_f l
      clear e h g q k l h1
      go_enter Tryd.func15, Tryd.ntmps15
      go_wp2_with fail
      refine (refClass_is x 3 _ hx K.out).mono ?_
      rintro r w' ⟨rfl, rfl⟩
      go_wp2_with fail
      refine (refClass_any y _ hy).mono ?_
      rintro r w' ⟨rfl, rfl⟩
      go_wp2_with fail
      refine (refClass_is x 3 _ hx K.out).mono ?_
      rintro r w' ⟨rfl, rfl⟩
      go_wp2_with fail
      refine (refClass_any y _ hy).mono ?_
      rintro r w' ⟨rfl, rfl⟩
      go_wp2
      go_ret
      exact ⟨rfl, rfl⟩
  · have e : Rl.eq x y = false := by
      cases p : Rl.eq x y
      · rfl
      · obtain ⟨_, _, p | p⟩ := (Rl.eq_iff x y).1 p
        · exact absurd p q
        · exact absurd p.1 k
    rw [e]
    have k1 := beq_f k
    clear e h g q k
    go_enter Tryd.func15, Tryd.ntmps15
    go_wp2_with fail
    refine (refClass_any x _ hx).mono ?_
    rintro r w' ⟨rfl, rfl⟩
    go_wp2_with fail
    refine (refClass_any y _ hy).mono ?_
    rintro r w' ⟨rfl, rfl⟩
    go_wp2_with fail
    refine (refClass_any x _ hx).mono ?_
    rintro r w' ⟨rfl, rfl⟩
    go_wp2
    go_ret
    exact ⟨rfl, rfl⟩

end Go.Proofs.YtibopeefhogfcaaDoor
