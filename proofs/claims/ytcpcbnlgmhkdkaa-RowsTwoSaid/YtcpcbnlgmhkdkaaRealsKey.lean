/-
  What Key and Back answer, the program's and the document's, for every 64 bits.
-/
import Derived.Test.YtcpcbnlgmhkdkaaRealsLeaf
namespace Go.Proofs.Ytcpcbnlgmhkdkaa
open Go.RowKit

set_option maxHeartbeats 1000000 in
theorem key_any (x : Int) (w : World) (hx : Rl.U x) :
    Calls Try.prog 68 #[.int .u64 x] w fun e w' => e = .returned (.int .u64 (Rl.ky x)) ∧ w = w' := by
  have hc := Rl.cn_U x hx
  have h1 := Rl.asign _ hc
  have h2 := Rl.xsign _ hc
  have h3 := Rl.xall _ hc
  by_cases h : Rl.cn x < 9223372036854775808
  · rw [if_pos h] at h1 h2
    have e : Rl.ky x = Rl.cn x + 9223372036854775808 := by unfold Rl.ky; rw [if_pos h]
    rw [e]
    clear e h
    go_enter Try.func68, Try.ntmps68
    go_wp2_with fail
    refine (canon_any x _ hx).mono ?_
    rintro e w' ⟨rfl, rfl⟩
    go_wp2
    go_ret
    exact ⟨rfl, rfl⟩
  · rw [if_neg h] at h1 h2
    have e : Rl.ky x = 18446744073709551615 - Rl.cn x := by unfold Rl.ky; rw [if_neg h]
    rw [e]
    clear e h2
    go_enter Try.func68, Try.ntmps68
    go_wp2_with fail
    refine (canon_any x _ hx).mono ?_
    rintro e w' ⟨rfl, rfl⟩
    go_wp2
    go_ret
    exact ⟨rfl, rfl⟩

set_option maxHeartbeats 1000000 in
theorem refKey_any (x : Int) (w : World) (hx : Rl.U x) :
    Calls Try.prog 78 #[.int .u64 x] w fun e w' => e = .returned (.int .u64 (Rl.ky x)) ∧ w = w' := by
  have hc := Rl.cn_U x hx
  have h3 := Rl.xall _ hc
  by_cases h : Rl.cn x < 9223372036854775808
  · have h2 := Rl.osign _ hc.1 h
    have h1 : Rl.cn x / 9223372036854775808 = 0 := by unfold Rl.U at hc; omega
    have e : Rl.ky x = Rl.cn x + 9223372036854775808 := by unfold Rl.ky; rw [if_pos h]
    rw [e]
    clear e h
    go_enter Try.func78, Try.ntmps78
    go_wp2_with fail
    refine (refCanon_any x _ hx).mono ?_
    rintro e w' ⟨rfl, rfl⟩
    go_wp2
    go_ret
    exact ⟨rfl, rfl⟩
  · have h1 : Rl.cn x / 9223372036854775808 = 1 := by unfold Rl.U at hc; omega
    have e : Rl.ky x = 18446744073709551615 - Rl.cn x := by unfold Rl.ky; rw [if_neg h]
    rw [e]
    clear e h
    go_enter Try.func78, Try.ntmps78
    go_wp2_with fail
    refine (refCanon_any x _ hx).mono ?_
    rintro e w' ⟨rfl, rfl⟩
    go_wp2
    go_ret
    exact ⟨rfl, rfl⟩

end Go.Proofs.Ytcpcbnlgmhkdkaa
