/-
  What Key and Back answer, the program's and the document's, for every 64 bits.
-/
import Derived.Test.YtfemigdghdbbgaaRealsLeaf
namespace Go.Proofs.Ytfemigdghdbbgaa
open Go.RowKit

set_option maxHeartbeats 1000000 in
theorem key_any (x : Int) (w : World) (hx : Rl.U x) :
    Calls Try.prog 48 #[.int .u64 x] w fun e w' => e = .returned (.int .u64 (Rl.ky x)) ∧ w = w' := by
  have hc := Rl.cn_U x hx
  have h1 := Rl.asign _ hc
  have h2 := Rl.xsign _ hc
  have h3 := Rl.xall _ hc
  by_cases h : Rl.cn x < 9223372036854775808
  · rw [if_pos h] at h1 h2
    have e : Rl.ky x = Rl.cn x + 9223372036854775808 := by unfold Rl.ky; rw [if_pos h]
    rw [e]
    clear e h
    go_enter Try.func48, Try.ntmps48
    go_wp2_with fail
    refine (canon_any x _ hx).mono ?_
    rintro e w' ⟨rfl, rfl⟩
    go_wp2
    go_ret
    exact ⟨rfl, rfl⟩
  · rw [if_neg h] at h1 h2
    have e : Rl.ky x = 18446744073709551615 - Rl.cn x := by unfold Rl.ky; rw [if_neg h]
    rw [e]
    clear e h2
    go_enter Try.func48, Try.ntmps48
    go_wp2_with fail
    refine (canon_any x _ hx).mono ?_
    rintro e w' ⟨rfl, rfl⟩
    go_wp2
    go_ret
    exact ⟨rfl, rfl⟩

set_option maxHeartbeats 1000000 in
theorem refKey_any (x : Int) (w : World) (hx : Rl.U x) :
    Calls Try.prog 29 #[.int .u64 x] w fun e w' => e = .returned (.int .u64 (Rl.ky x)) ∧ w = w' := by
  have hc := Rl.cn_U x hx
  have h3 := Rl.xall _ hc
  by_cases h : Rl.cn x < 9223372036854775808
  · have h2 := Rl.osign _ hc.1 h
    have h1 : Rl.cn x / 9223372036854775808 = 0 := by unfold Rl.U at hc; omega
    have e : Rl.ky x = Rl.cn x + 9223372036854775808 := by unfold Rl.ky; rw [if_pos h]
    rw [e]
    clear e h
    go_enter Try.func29, Try.ntmps29
    go_wp2_with fail
    refine (refCanon_any x _ hx).mono ?_
    rintro e w' ⟨rfl, rfl⟩
    go_wp2
    go_ret
    exact ⟨rfl, rfl⟩
  · have h1 : Rl.cn x / 9223372036854775808 = 1 := by unfold Rl.U at hc; omega
    have e : Rl.ky x = 18446744073709551615 - Rl.cn x := by unfold Rl.ky; rw [if_neg h]
    rw [e]
    clear e h
    go_enter Try.func29, Try.ntmps29
    go_wp2_with fail
    refine (refCanon_any x _ hx).mono ?_
    rintro e w' ⟨rfl, rfl⟩
    go_wp2
    go_ret
    exact ⟨rfl, rfl⟩


set_option maxHeartbeats 1000000 in
theorem back_any (x : Int) (w : World) (hx : Rl.U x) :
    Calls Try.prog 65 #[.int .u64 x] w fun e w' => e = .returned (.tuple #[.int .u64 (Rl.bk x), .bool (Rl.bo x)]) ∧ w = w' := by
  have hb := Rl.bz_U x hx
  have h3 := Rl.xall _ hx
  by_cases h : x < 9223372036854775808
  · have hz : Rl.bz x = 18446744073709551615 - x := by unfold Rl.bz; rw [if_pos h]
    have h1 := Rl.asign _ hx
    rw [if_pos h] at h1
    rw [← hz] at h3
    clear hz h
    by_cases g : Rl.cn (Rl.bz x) = Rl.bz x
    · have e1 : Rl.bk x = Rl.bz x := by unfold Rl.bk; rw [if_pos g]
      have e2 : Rl.bo x = true := by unfold Rl.bo; exact beq_t g
      rw [e1, e2]
      clear e1 e2
      have G := Lib.hid g
      clear g
      go_enter Try.func65, Try.ntmps65
      go_wp2_with fail
      refine (canon_any _ _ hb).mono ?_
      rintro e w' ⟨rfl, rfl⟩
      rw [G.out]
      go_wp2
      go_ret2
      exact ⟨rfl, rfl⟩
    · have e1 : Rl.bk x = 0 := by unfold Rl.bk; rw [if_neg g]
      have e2 : Rl.bo x = false := by unfold Rl.bo; exact beq_f g
      rw [e1, e2]
      clear e1 e2
      have g1 := beq_f g
      clear g
      go_enter Try.func65, Try.ntmps65
      go_wp2_with fail
      refine (canon_any _ _ hb).mono ?_
      rintro e w' ⟨rfl, rfl⟩
      go_wp2
      go_ret2
      exact ⟨rfl, rfl⟩
  · have hz : Rl.bz x = x - 9223372036854775808 := by unfold Rl.bz; rw [if_neg h]
    have h1 := Rl.asign _ hx
    have h2 := Rl.xsign _ hx
    rw [if_neg h] at h1 h2
    rw [← hz] at h2
    have Hz := Lib.hid hz
    clear hz h h3
    by_cases g : Rl.cn (Rl.bz x) = Rl.bz x
    · have e1 : Rl.bk x = Rl.bz x := by unfold Rl.bk; rw [if_pos g]
      have e2 : Rl.bo x = true := by unfold Rl.bo; exact beq_t g
      rw [e1, e2]
      clear e1 e2
      have G := Lib.hid g
      clear g
      go_enter Try.func65, Try.ntmps65
      go_wp2_with fail
      refine (canon_any _ _ hb).mono ?_
      rintro e w' ⟨rfl, rfl⟩
      rw [G.out]
      go_wp2
      go_ret2
      exact ⟨rfl, rfl⟩
    · have e1 : Rl.bk x = 0 := by unfold Rl.bk; rw [if_neg g]
      have e2 : Rl.bo x = false := by unfold Rl.bo; exact beq_f g
      rw [e1, e2]
      clear e1 e2
      have g1 := beq_f g
      clear g
      go_enter Try.func65, Try.ntmps65
      go_wp2_with fail
      refine (canon_any _ _ hb).mono ?_
      rintro e w' ⟨rfl, rfl⟩
      go_wp2
      go_ret2
      exact ⟨rfl, rfl⟩

set_option maxHeartbeats 1000000 in
theorem refBack_any (x : Int) (w : World) (hx : Rl.U x) :
    Calls Try.prog 35 #[.int .u64 x] w fun e w' => e = .returned (.tuple #[.int .u64 (Rl.bk x), .bool (Rl.bo x)]) ∧ w = w' := by
  have hb := Rl.bz_U x hx
  have h3 := Rl.xall _ hx
  by_cases h : x < 9223372036854775808
  · have hz : Rl.bz x = 18446744073709551615 - x := by unfold Rl.bz; rw [if_pos h]
    have h1 : x / 9223372036854775808 = 0 := by unfold Rl.U at hx; omega
    rw [← hz] at h3
    clear hz h
    by_cases g : Rl.cn (Rl.bz x) = Rl.bz x
    · have e1 : Rl.bk x = Rl.bz x := by unfold Rl.bk; rw [if_pos g]
      have e2 : Rl.bo x = true := by unfold Rl.bo; exact beq_t g
      rw [e1, e2]
      clear e1 e2
      have G := Lib.hid g
      clear g
      go_enter Try.func35, Try.ntmps35
      go_wp2_with fail
      refine (refCanon_any _ _ hb).mono ?_
      rintro e w' ⟨rfl, rfl⟩
      rw [G.out]
      go_wp2
      go_ret2
      exact ⟨rfl, rfl⟩
    · have e1 : Rl.bk x = 0 := by unfold Rl.bk; rw [if_neg g]
      have e2 : Rl.bo x = false := by unfold Rl.bo; exact beq_f g
      rw [e1, e2]
      clear e1 e2
      have g1 := beq_f g
      clear g
      go_enter Try.func35, Try.ntmps35
      go_wp2_with fail
      refine (refCanon_any _ _ hb).mono ?_
      rintro e w' ⟨rfl, rfl⟩
      go_wp2
      go_ret2
      exact ⟨rfl, rfl⟩
  · have hz : Rl.bz x = x - 9223372036854775808 := by unfold Rl.bz; rw [if_neg h]
    have h1 : x / 9223372036854775808 = 1 := by unfold Rl.U at hx; omega
    have h2 : bits BinOp.and IntKind.u64 x 9223372036854775807 = Rl.bz x := by rw [Rl.alow _ hx, hz]; unfold Rl.U at hx; omega
    have Hz := Lib.hid hz
    clear hz h h3
    by_cases g : Rl.cn (Rl.bz x) = Rl.bz x
    · have e1 : Rl.bk x = Rl.bz x := by unfold Rl.bk; rw [if_pos g]
      have e2 : Rl.bo x = true := by unfold Rl.bo; exact beq_t g
      rw [e1, e2]
      clear e1 e2
      have G := Lib.hid g
      clear g
      go_enter Try.func35, Try.ntmps35
      go_wp2_with fail
      refine (refCanon_any _ _ hb).mono ?_
      rintro e w' ⟨rfl, rfl⟩
      rw [G.out]
      go_wp2
      go_ret2
      exact ⟨rfl, rfl⟩
    · have e1 : Rl.bk x = 0 := by unfold Rl.bk; rw [if_neg g]
      have e2 : Rl.bo x = false := by unfold Rl.bo; exact beq_f g
      rw [e1, e2]
      clear e1 e2
      have g1 := beq_f g
      clear g
      go_enter Try.func35, Try.ntmps35
      go_wp2_with fail
      refine (refCanon_any _ _ hb).mono ?_
      rintro e w' ⟨rfl, rfl⟩
      go_wp2
      go_ret2
      exact ⟨rfl, rfl⟩


end Go.Proofs.Ytfemigdghdbbgaa
