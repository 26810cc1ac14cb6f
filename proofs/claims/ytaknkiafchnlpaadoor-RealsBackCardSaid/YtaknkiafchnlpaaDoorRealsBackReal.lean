/-
  Law RealsBack's walk at a real that is no zero. Condition: the library's table holds what its initialiser lays.
-/
import Derived.Test.YtaknkiafchnlpaaDoorRealsBackPlain
namespace Go.Proofs.YtaknkiafchnlpaaDoor
open Go.RowKit

set_option maxHeartbeats 1000000 in
theorem back_real_has (n : Int) (b : Int) (w : World) (hn : -9223372036854775808 ≤ n ∧ n < 9223372036854775808) (hb : Rl.U b) (T0 : Hid (Tab w)) (rb : -9223372036854775808 ≤ Rl.ti b ∧ Rl.ti b < 9223372036854775808) (ib : Hid (Rl.fi (Rl.ti b) = b)) (jb : Hid (Rl.fo (Rl.ti b) = true)) (ob : Hid (Rl.to b = true)) (eb : Hid (Rl.eq b b = true)) (k1 : Hid (Rl.bk (Rl.ky b) = Rl.cn b)) (k2 : Hid (Rl.bo (Rl.ky b) = true)) (fn : Hid (Rl.fo n = true)) (xn : Rl.U (Rl.fi n)) (tn : Hid (Rl.ti (Rl.fi n) = n)) (on : Hid (Rl.to (Rl.fi n) = true)) :
    Calls Tryd.prog 6 #[.int .i64 n, .int .u64 b] w fun e w' => e = .returned (.bool true) ∧ Below w.heap.size w w' := by
  go_enter Tryd.func6, Tryd.ntmps6
  go_wp2_with fail
  refine (key_any b _ hb).mono ?_
  rintro e w' ⟨rfl, rfl⟩
  go_wp2_with fail
  refine (back_is _ _ true _ (Rl.ky_U b hb) k1.out k2.out).mono ?_
  rintro e w' ⟨rfl, rfl⟩
  go_wp2_with fail
  refine (canon_any b _ hb).mono ?_
  rintro e w' ⟨rfl, rfl⟩
  go_wp2_with fail
  refine (fromInt_is n _ true _ hn.1 hn.2 T0.out rfl fn.out).mono ?_
  rintro e w' ⟨rfl, rfl⟩
  go_wp2_with fail
  refine (toInt_is _ n true _ xn T0.out tn.out on.out).mono ?_
  rintro e w' ⟨rfl, rfl⟩
  go_wp2_with fail
  refine (toInt_is b _ true _ hb T0.out rfl ob.out).mono ?_
  rintro e w' ⟨rfl, rfl⟩
  go_wp2_with fail
  refine (fromInt_is (Rl.ti b) b true _ rb.1 rb.2 T0.out ib.out jb.out).mono ?_
  rintro e w' ⟨rfl, rfl⟩
  go_wp2_with fail
  refine (equal_is b b true _ hb hb eb.out).mono ?_
  rintro e w1 ⟨rfl, hb⟩
  have B1 := Lib.hid hb
  have T1 := Lib.hid (T0.out.below hb)
  clear hb
  go_wp2_with fail
  refine (awake_any _ T1.out).mono ?_
  rintro e w2 ⟨rfl, hb⟩
  have B2 := Lib.hid hb
  have T2 := Lib.hid (T1.out.below hb)
  clear hb
  go_wp2
  go_ret
  exact ⟨rfl, below_then (B1.out) B2.out⟩

set_option maxHeartbeats 1000000 in
theorem back_real_not (n : Int) (b : Int) (w : World) (hn : -9223372036854775808 ≤ n ∧ n < 9223372036854775808) (hb : Rl.U b) (T0 : Hid (Tab w)) (rb : -9223372036854775808 ≤ Rl.ti b ∧ Rl.ti b < 9223372036854775808) (ib : Hid (Rl.fi (Rl.ti b) = b)) (jb : Hid (Rl.fo (Rl.ti b) = true)) (ob : Hid (Rl.to b = true)) (eb : Hid (Rl.eq b b = true)) (k1 : Hid (Rl.bk (Rl.ky b) = Rl.cn b)) (k2 : Hid (Rl.bo (Rl.ky b) = true)) (fn : Hid (Rl.fo n = false)) :
    Calls Tryd.prog 6 #[.int .i64 n, .int .u64 b] w fun e w' => e = .returned (.bool true) ∧ Below w.heap.size w w' := by
  go_enter Tryd.func6, Tryd.ntmps6
  go_wp2_with fail
  refine (key_any b _ hb).mono ?_
  rintro e w' ⟨rfl, rfl⟩
  go_wp2_with fail
  refine (back_is _ _ true _ (Rl.ky_U b hb) k1.out k2.out).mono ?_
  rintro e w' ⟨rfl, rfl⟩
  go_wp2_with fail
  refine (canon_any b _ hb).mono ?_
  rintro e w' ⟨rfl, rfl⟩
  go_wp2_with fail
  refine (fromInt_is n _ false _ hn.1 hn.2 T0.out rfl fn.out).mono ?_
  rintro e w' ⟨rfl, rfl⟩
  go_wp2_with fail
  refine (toInt_is b _ true _ hb T0.out rfl ob.out).mono ?_
  rintro e w' ⟨rfl, rfl⟩
  go_wp2_with fail
  refine (fromInt_is (Rl.ti b) b true _ rb.1 rb.2 T0.out ib.out jb.out).mono ?_
  rintro e w' ⟨rfl, rfl⟩
  go_wp2_with fail
  refine (equal_is b b true _ hb hb eb.out).mono ?_
  rintro e w1 ⟨rfl, hb⟩
  have B1 := Lib.hid hb
  have T1 := Lib.hid (T0.out.below hb)
  clear hb
  go_wp2_with fail
  refine (awake_any _ T1.out).mono ?_
  rintro e w2 ⟨rfl, hb⟩
  have B2 := Lib.hid hb
  have T2 := Lib.hid (T1.out.below hb)
  clear hb
  go_wp2
  go_ret
  exact ⟨rfl, below_then (B1.out) B2.out⟩

set_option maxHeartbeats 1000000 in
theorem back_none_has (n : Int) (b : Int) (w : World) (hn : -9223372036854775808 ≤ n ∧ n < 9223372036854775808) (hb : Rl.U b) (T0 : Hid (Tab w)) (ob : Hid (Rl.to b = false)) (k1 : Hid (Rl.bk (Rl.ky b) = Rl.cn b)) (k2 : Hid (Rl.bo (Rl.ky b) = true)) (fn : Hid (Rl.fo n = true)) (xn : Rl.U (Rl.fi n)) (tn : Hid (Rl.ti (Rl.fi n) = n)) (on : Hid (Rl.to (Rl.fi n) = true)) :
    Calls Tryd.prog 6 #[.int .i64 n, .int .u64 b] w fun e w' => e = .returned (.bool true) ∧ Below w.heap.size w w' := by
  go_enter Tryd.func6, Tryd.ntmps6
  go_wp2_with fail
  refine (key_any b _ hb).mono ?_
  rintro e w' ⟨rfl, rfl⟩
  go_wp2_with fail
  refine (back_is _ _ true _ (Rl.ky_U b hb) k1.out k2.out).mono ?_
  rintro e w' ⟨rfl, rfl⟩
  go_wp2_with fail
  refine (canon_any b _ hb).mono ?_
  rintro e w' ⟨rfl, rfl⟩
  go_wp2_with fail
  refine (fromInt_is n _ true _ hn.1 hn.2 T0.out rfl fn.out).mono ?_
  rintro e w' ⟨rfl, rfl⟩
  go_wp2_with fail
  refine (toInt_is _ n true _ xn T0.out tn.out on.out).mono ?_
  rintro e w' ⟨rfl, rfl⟩
  go_wp2_with fail
  refine (toInt_is b _ false _ hb T0.out rfl ob.out).mono ?_
  rintro e w' ⟨rfl, rfl⟩
  go_wp2_with fail
  refine (awake_any _ T0.out).mono ?_
  rintro e w1 ⟨rfl, hb⟩
  have B1 := Lib.hid hb
  have T1 := Lib.hid (T0.out.below hb)
  clear hb
  go_wp2
  go_ret
  exact ⟨rfl, B1.out⟩

set_option maxHeartbeats 1000000 in
theorem back_none_not (n : Int) (b : Int) (w : World) (hn : -9223372036854775808 ≤ n ∧ n < 9223372036854775808) (hb : Rl.U b) (T0 : Hid (Tab w)) (ob : Hid (Rl.to b = false)) (k1 : Hid (Rl.bk (Rl.ky b) = Rl.cn b)) (k2 : Hid (Rl.bo (Rl.ky b) = true)) (fn : Hid (Rl.fo n = false)) :
    Calls Tryd.prog 6 #[.int .i64 n, .int .u64 b] w fun e w' => e = .returned (.bool true) ∧ Below w.heap.size w w' := by
  go_enter Tryd.func6, Tryd.ntmps6
  go_wp2_with fail
  refine (key_any b _ hb).mono ?_
  rintro e w' ⟨rfl, rfl⟩
  go_wp2_with fail
  refine (back_is _ _ true _ (Rl.ky_U b hb) k1.out k2.out).mono ?_
  rintro e w' ⟨rfl, rfl⟩
  go_wp2_with fail
  refine (canon_any b _ hb).mono ?_
  rintro e w' ⟨rfl, rfl⟩
  go_wp2_with fail
  refine (fromInt_is n _ false _ hn.1 hn.2 T0.out rfl fn.out).mono ?_
  rintro e w' ⟨rfl, rfl⟩
  go_wp2_with fail
  refine (toInt_is b _ false _ hb T0.out rfl ob.out).mono ?_
  rintro e w' ⟨rfl, rfl⟩
  go_wp2_with fail
  refine (awake_any _ T0.out).mono ?_
  rintro e w1 ⟨rfl, hb⟩
  have B1 := Lib.hid hb
  have T1 := Lib.hid (T0.out.below hb)
  clear hb
  go_wp2
  go_ret
  exact ⟨rfl, B1.out⟩


end Go.Proofs.YtaknkiafchnlpaaDoor
