/-
 A row in bytes, by the document: row. Conditions: texts of 1000000 bytes at most.
-/
import Derived.Test.YtmgdciihpjifgaaGreatDoorQrOpRefR
import Derived.Test.YtmgdciihpjifgaaGreatDoorQrOpReadO
import Derived.Test.YtmgdciihpjifgaaGreatDoorQrRkAwake
set_option maxHeartbeats 1000000
namespace Go.Proofs.YtmgdciihpjifgaaGreatDoor
open Go.RowKit
set_option linter.unusedVariables false
theorem rrowO_is (l : List UInt8) (w : World) (hl : l.length ≤ 1000000) :
  Calls Tryz.prog 52 #[.string ⟨l.toArray⟩] w (RW (rrw l) w) := by
 obtain ⟨R, hR⟩ : ∃ R, rrw l = R := ⟨_, rfl⟩
 rw [hR]
 obtain ⟨t, r, E, h1⟩ : ∃ t r e, Pk.rt l = (t, r, e) := ⟨_, _, _, rfl⟩
 have HR := zh (show bnd (t, r, E) [] (fun t r => if (Rk.ra t).2 ≠ 0 then ([], [], (Rk.ra t).2) else ((Rk.ra t).1, r, 0)) = R from by rw [← hR, ← h1]; rfl)
 have lt : E = 0 → t.length ≤ 1000000 := by
  intro e
  subst e
  rcases Pk.rd_cases l with ⟨N, q, g, _, e⟩ | ⟨e, g, he⟩
  ·by_cases k : q.length < N
   ·rw [Pk.rt_short l q N g k] at h1
    have := congrArg (·.2.2) h1
    simp at this
   ·rw [Pk.rt_end l q N g (by omega)] at h1
    have : q.length ≤ l.length := by rw [← e, List.length_append]; omega
    have : t = q.take N := (congrArg (·.1) h1).symm
    rw [this, List.length_take]; omega
  ·rw [Pk.rt_bad l e g (by omega)] at h1
   have := congrArg (·.2.2) h1
   simp at this
   omega
 have H := zh (za h1 (za hl lt))
 clear hR h1 hl lt
 go_enter Tryz.func52, Tryz.ntmps52
 go_wp2_with fail
 refine (rtextO l t r E _ H.out.2.1 H.out.1).mono ?_
 rintro y w1 ⟨rfl, hb⟩
 have B1 := zh hb
 clear hb
 by_cases hE : E = 0
 ·subst hE
  have HR := zh (show (if (Rk.ra t).2 ≠ 0 then ([], [], (Rk.ra t).2) else ((Rk.ra t).1, r, 0)) = R from (bnd_ok rfl _ _).symm.trans HR.out)
  obtain ⟨xs, E2, h2⟩ : ∃ xs e, Rk.ra t = (xs, e) := ⟨_, _, rfl⟩
  have HR := zh (show (if E2 ≠ 0 then ([], [], E2) else (xs, r, 0)) = R from by rw [← HR.out, h2])
  have H2 := zh h2
  clear h2
  go_wp2_with fail
  refine (Rk.dread_is t _ (H.out.2.2 (by first | rfl | trivial))).mono ?_
  rintro y w2 ⟨v, rfl, hO, hb⟩
  rw [H2.out] at hO ⊢
  obtain ⟨ao, cap, rfl, hs⟩ := hO.sl
  have B2 := zh (za (step0 B1.out hb) (za hs (hO.up.mono B1.out.size)))
  clear hO hb hs
  by_cases hz : E2 = 0
  ·subst hz
   have HR := zh (show (xs, r, (0 : Int)) = R from by rw [← HR.out]; simp)
   go_wp2
   go_ret3
   rw [← HR.out]
   exact ⟨ao, cap, rfl, B2.out.2.1, B2.out.2.2, B2.out.1⟩
  ·have e1 := bne_t hz
   have Q := zh (show R = ([], [], E2) from by rw [← HR.out, if_pos hz])
   clear hz
   go_wp2
   go_ret3
   exact RW.bad Q.out B2.out.1
 ·have e1 := bne_t hE
  have Q := zh ((bnd_err rfl hE _ _).symm.trans HR.out)
  clear hE
  go_wp2
  go_ret3
  exact RW.bad Q.out.symm B1.out
end Go.Proofs.YtmgdciihpjifgaaGreatDoor
