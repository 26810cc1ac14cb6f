/-
  What awake answers: true, where the library's table holds what its initialiser lays.
-/
import Derived.Test.YtaknkiafchnlpaaDoorRealsCmp
import Derived.Test.YtaknkiafchnlpaaDoorRealsTo
namespace Go.Proofs.YtaknkiafchnlpaaDoor
open Go.RowKit

theorem below_then {w w1 w2 : World} (h : Below w.heap.size w w1) (g : Below w1.heap.size w1 w2) : Below w.heap.size w w2 := h.trans (g.mono h.size)

theorem canon_is (x r : Int) (w : World) (hx : Rl.U x) (h : Rl.cn x = r) :
    Calls Tryd.prog 13 #[.int .u64 x] w fun e w' => e = .returned (.int .u64 r) ∧ w = w' := by
  rw [← h]; exact canon_any x w hx

theorem back_is (x r : Int) (b : Bool) (w : World) (hx : Rl.U x) (h : Rl.bk x = r) (g : Rl.bo x = b) :
    Calls Tryd.prog 9 #[.int .u64 x] w fun e w' => e = .returned (.tuple #[.int .u64 r, .bool b]) ∧ w = w' := by
  rw [← h, ← g]; exact back_any x w hx

theorem u_of_wf {x : Int} (h : (Lit.int .u64 x).wf = true) : Rl.U x := by
  simp [Lit.wf, IntKind.min, IntKind.max, IntKind.signed, IntKind.bits] at h
  unfold Rl.U; omega
theorem i_of_wf {x : Int} (h : (Lit.int .i64 x).wf = true) : -9223372036854775808 ≤ x ∧ x < 9223372036854775808 := by
  simp [Lit.wf, IntKind.min, IntKind.max, IntKind.signed, IntKind.bits] at h
  omega

set_option maxHeartbeats 1000000 in
theorem awake_any (w : World) (hT : Tab w) :
    Calls Tryd.prog 17 #[] w fun e w' => e = .returned (.bool true) ∧ Below w.heap.size w w' := by
  have T0 := Lib.hid hT
  clear hT
  go_enter Tryd.func17, Tryd.ntmps17
  go_wp2_with fail
  refine (fromInt_is 1 4607182418800017408 true _ (by decide) (by decide) T0.out (by decide +kernel) (by decide +kernel)).mono ?_
  rintro e w' ⟨rfl, rfl⟩
  go_wp2_with fail
  refine (fromInt_is 9007199254740993 0 false _ (by decide) (by decide) T0.out (by decide +kernel) (by decide +kernel)).mono ?_
  rintro e w' ⟨rfl, rfl⟩
  go_wp2_with fail
  refine (toInt_is 9223372036854775808 0 true _ ⟨by decide, by decide⟩ T0.out (by decide +kernel) (by decide +kernel)).mono ?_
  rintro e w' ⟨rfl, rfl⟩
  go_wp2_with fail
  refine (toInt_is 13837309855095848960 (-3) true _ ⟨by decide, by decide⟩ T0.out (by decide +kernel) (by decide +kernel)).mono ?_
  rintro e w' ⟨rfl, rfl⟩
  go_wp2_with fail
  refine (class_is 1 4 _ ⟨by decide, by decide⟩ (by decide)).mono ?_
  rintro e w' ⟨rfl, rfl⟩
  go_wp2_with fail
  refine (class_is 9218868437227405312 2 _ ⟨by decide, by decide⟩ (by decide)).mono ?_
  rintro e w' ⟨rfl, rfl⟩
  go_wp2_with fail
  refine (cmp_is 9223372036854775808 0 (-1) _ ⟨by decide, by decide⟩ ⟨by decide, by decide⟩ (by decide)).mono ?_
  rintro e w1 ⟨rfl, hb⟩
  have B1 := Lib.hid hb
  have T1 := Lib.hid (T0.out.below hb)
  clear hb
  go_wp2_with fail
  refine (equal_is 9223372036854775808 0 true _ ⟨by decide, by decide⟩ ⟨by decide, by decide⟩ (by decide)).mono ?_
  rintro e w2 ⟨rfl, hb⟩
  have B2 := Lib.hid hb
  have T2 := Lib.hid (T1.out.below hb)
  clear hb
  go_wp2_with fail
  refine (canon_is 18446744073709551615 9221120237041090560 _ ⟨by decide, by decide⟩ (by decide)).mono ?_
  rintro e w' ⟨rfl, rfl⟩
  go_wp2_with fail
  refine (cmp_is 9218868437227405312 18444492273895866369 (-1) _ ⟨by decide, by decide⟩ ⟨by decide, by decide⟩ (by decide)).mono ?_
  rintro e w3 ⟨rfl, hb⟩
  have B3 := Lib.hid hb
  have T3 := Lib.hid (T2.out.below hb)
  clear hb
  go_wp2
  go_ret
  exact ⟨rfl, below_then (below_then (B1.out) B2.out) B3.out⟩

end Go.Proofs.YtaknkiafchnlpaaDoor
