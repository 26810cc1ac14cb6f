/-
  Law RealsBack's walk: the call returns true, and writes nothing that was there. Condition: the library's table holds what its initialiser lays.
-/
import Derived.Test.YtaknkiafchnlpaaDoorRealsBackMinus
import Derived.Test.YtaknkiafchnlpaaDoorRealsBackReal
namespace Go.Proofs.YtaknkiafchnlpaaDoor
open Go.RowKit

set_option maxHeartbeats 4000000 in
theorem realsBack_walk (n : Int) (b : Int) (w : World) (wfn : (Lit.int .i64 n).wf = true) (wfb : (Lit.int .u64 b).wf = true) (hT : Tab w) :
    Calls Tryd.prog 6 #[.int .i64 n, .int .u64 b] w fun e w' => e = .returned (.bool true) ∧ Below w.heap.size w w' := by
  have hn := i_of_wf wfn
  have hb := u_of_wf wfb
  clear wfn wfb
  have T0 := Lib.hid hT
  clear hT
  have k1 := Lib.hid (Rl.bk_ky b hb)
  have k2 := Lib.hid (Rl.bo_ky b hb)
  by_cases c : Rl.cl b = 3
  · obtain ⟨z1, z2⟩ := ti_zero b c
    by_cases y : b = 0
    · subst y
      by_cases fn : Rl.fo n = true
      · obtain ⟨t1, t2⟩ := ti_again n hn fn
        exact back_real_has n 0 w hn hb T0 (ti_range 0) (Lib.hid (by rw [z1]; decide)) (Lib.hid (by rw [z1]; decide)) (Lib.hid z2) (Lib.hid (eq_zero 0 c)) k1 k2 (Lib.hid fn) (Rl.fi_U n (by omega)) (Lib.hid t1) (Lib.hid t2)
      · exact back_real_not n 0 w hn hb T0 (ti_range 0) (Lib.hid (by rw [z1]; decide)) (Lib.hid (by rw [z1]; decide)) (Lib.hid z2) (Lib.hid (eq_zero 0 c)) k1 k2 (Lib.hid (by cases q : Rl.fo n; rfl; exact absurd q fn))
    · by_cases fn : Rl.fo n = true
      · obtain ⟨t1, t2⟩ := ti_again n hn fn
        exact back_minus_has n b w hn hb T0 0 0 (Lib.hid z1) (Lib.hid z2) (by decide) (Lib.hid (by decide)) (Lib.hid (by decide)) ⟨by decide, by decide⟩ (Lib.hid (eq_zero b c)) (Lib.hid c) (by omega) k1 k2 (Lib.hid fn) (Rl.fi_U n (by omega)) (Lib.hid t1) (Lib.hid t2)
      · exact back_minus_not n b w hn hb T0 0 0 (Lib.hid z1) (Lib.hid z2) (by decide) (Lib.hid (by decide)) (Lib.hid (by decide)) ⟨by decide, by decide⟩ (Lib.hid (eq_zero b c)) (Lib.hid c) (by omega) k1 k2 (Lib.hid (by cases q : Rl.fo n; rfl; exact absurd q fn))
  by_cases o : Rl.io b = true
  · obtain ⟨i1, i2⟩ := Rl.fi_ti b hb o c
    by_cases fn : Rl.fo n = true
    · obtain ⟨t1, t2⟩ := ti_again n hn fn
      exact back_real_has n b w hn hb T0 (ti_range b) (Lib.hid i2) (Lib.hid i1) (Lib.hid (by unfold Rl.to; rw [o]; simp)) (Lib.hid (eq_self b o)) k1 k2 (Lib.hid fn) (Rl.fi_U n (by omega)) (Lib.hid t1) (Lib.hid t2)
    · exact back_real_not n b w hn hb T0 (ti_range b) (Lib.hid i2) (Lib.hid i1) (Lib.hid (by unfold Rl.to; rw [o]; simp)) (Lib.hid (eq_self b o)) k1 k2 (Lib.hid (by cases q : Rl.fo n; rfl; exact absurd q fn))
  · have ob := Lib.hid (ti_none b c (by cases q : Rl.io b; rfl; exact absurd q o)).2
    by_cases fn : Rl.fo n = true
    · obtain ⟨t1, t2⟩ := ti_again n hn fn
      exact back_none_has n b w hn hb T0 ob k1 k2 (Lib.hid fn) (Rl.fi_U n (by omega)) (Lib.hid t1) (Lib.hid t2)
    · exact back_none_not n b w hn hb T0 ob k1 k2 (Lib.hid (by cases q : Rl.fo n; rfl; exact absurd q fn))

end Go.Proofs.YtaknkiafchnlpaaDoor
