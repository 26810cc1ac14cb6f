/-
  Law RealsBack's walk at a real that is a number's but not that number's real. Condition: the library's table holds what its initialiser lays.
-/
import Derived.Test.YtaknkiafchnlpaaDoorRealsBackPlain
namespace Go.Proofs.YtaknkiafchnlpaaDoor
open Go.RowKit

set_option maxHeartbeats 1000000 in
theorem back_minus_has (n : Int) (b : Int) (w : World) (hn : -9223372036854775808 ≤ n ∧ n < 9223372036854775808) (hb : Rl.U b) (T0 : Hid (Tab w)) (z y : Int) (zb : Hid (Rl.ti b = z)) (ob : Hid (Rl.to b = true)) (rz : -9223372036854775808 ≤ z ∧ z < 9223372036854775808) (iz : Hid (Rl.fi z = y)) (jz : Hid (Rl.fo z = true)) (uy : Rl.U y) (eb : Hid (Rl.eq y b = true)) (cb : Hid (Rl.cl b = 3)) (y1 : ¬ y = b) (k1 : Hid (Rl.bk (Rl.ky b) = Rl.cn b)) (k2 : Hid (Rl.bo (Rl.ky b) = true)) (fn : Hid (Rl.fo n = true)) (xn : Rl.U (Rl.fi n)) (tn : Hid (Rl.ti (Rl.fi n) = n)) (on : Hid (Rl.to (Rl.fi n) = true)) :
    Calls Tryd.prog 6 #[.int .i64 n, .int .u64 b] w fun e w' => e = .returned (.bool true) ∧ Below w.heap.size w w' := by
  go_enter Tryd.func6, Tryd.ntmps6
  go_wp2_with fail
  refine (key_any b _ hb).mono ?_
  rintro e w' ⟨rfl, rfl⟩
  go_wp2_with fail
  refine (back_is _ _ true _ (Rl.ky_U b hb) k1.out k2.out).mono ?_
  rintro e w' ⟨rfl, rfl⟩
  go_wp2_with fail
  refine (canon_any b _ hb).mono ?_
  rintro e w' ⟨rfl, rfl⟩
  go_wp2_with fail
  refine (fromInt_is n _ true _ hn.1 hn.2 T0.out rfl fn.out).mono ?_
  rintro e w' ⟨rfl, rfl⟩
  go_wp2_with fail
  refine (toInt_is _ n true _ xn T0.out tn.out on.out).mono ?_
  rintro e w' ⟨rfl, rfl⟩
  go_wp2_with fail
  refine (toInt_is b z true _ hb T0.out zb.out ob.out).mono ?_
  rintro e w' ⟨rfl, rfl⟩
  go_wp2_with fail
  refine (fromInt_is z y true _ rz.1 rz.2 T0.out iz.out jz.out).mono ?_
  rintro e w' ⟨rfl, rfl⟩
  go_wp2_with fail
  refine (equal_is y b true _ uy hb eb.out).mono ?_
  rintro e w1 ⟨rfl, hb⟩
  have B1 := Lib.hid hb
  have T1 := Lib.hid (T0.out.below hb)
  clear hb
  go_wp2_with fail
  refine (class_is b 3 _ hb cb.out).mono ?_
  rintro e w' ⟨rfl, rfl⟩
  go_wp2_with fail
  refine (awake_any _ T1.out).mono ?_
  rintro e w2 ⟨rfl, hb⟩
  have B2 := Lib.hid hb
  have T2 := Lib.hid (T1.out.below hb)
  clear hb
  go_wp2
  go_ret
  exact ⟨rfl, below_then (B1.out) B2.out⟩

set_option maxHeartbeats 1000000 in
theorem back_minus_not (n : Int) (b : Int) (w : World) (hn : -9223372036854775808 ≤ n ∧ n < 9223372036854775808) (hb : Rl.U b) (T0 : Hid (Tab w)) (z y : Int) (zb : Hid (Rl.ti b = z)) (ob : Hid (Rl.to b = true)) (rz : -9223372036854775808 ≤ z ∧ z < 9223372036854775808) (iz : Hid (Rl.fi z = y)) (jz : Hid (Rl.fo z = true)) (uy : Rl.U y) (eb : Hid (Rl.eq y b = true)) (cb : Hid (Rl.cl b = 3)) (y1 : ¬ y = b) (k1 : Hid (Rl.bk (Rl.ky b) = Rl.cn b)) (k2 : Hid (Rl.bo (Rl.ky b) = true)) (fn : Hid (Rl.fo n = false)) :
    Calls Tryd.prog 6 #[.int .i64 n, .int .u64 b] w fun e w' => e = .returned (.bool true) ∧ Below w.heap.size w w' := by
  go_enter Tryd.func6, Tryd.ntmps6
  go_wp2_with fail
  refine (key_any b _ hb).mono ?_
  rintro e w' ⟨rfl, rfl⟩
  go_wp2_with fail
  refine (back_is _ _ true _ (Rl.ky_U b hb) k1.out k2.out).mono ?_
  rintro e w' ⟨rfl, rfl⟩
  go_wp2_with fail
  refine (canon_any b _ hb).mono ?_
  rintro e w' ⟨rfl, rfl⟩
  go_wp2_with fail
  refine (fromInt_is n _ false _ hn.1 hn.2 T0.out rfl fn.out).mono ?_
  rintro e w' ⟨rfl, rfl⟩
  go_wp2_with fail
  refine (toInt_is b z true _ hb T0.out zb.out ob.out).mono ?_
  rintro e w' ⟨rfl, rfl⟩
  go_wp2_with fail
  refine (fromInt_is z y true _ rz.1 rz.2 T0.out iz.out jz.out).mono ?_
  rintro e w' ⟨rfl, rfl⟩
  go_wp2_with fail
  refine (equal_is y b true _ uy hb eb.out).mono ?_
  rintro e w1 ⟨rfl, hb⟩
  have B1 := Lib.hid hb
  have T1 := Lib.hid (T0.out.below hb)
  clear hb
  go_wp2_with fail
  refine (class_is b 3 _ hb cb.out).mono ?_
  rintro e w' ⟨rfl, rfl⟩
  go_wp2_with fail
  refine (awake_any _ T1.out).mono ?_
  rintro e w2 ⟨rfl, hb⟩
  have B2 := Lib.hid hb
  have T2 := Lib.hid (T1.out.below hb)
  clear hb
  go_wp2
  go_ret
  exact ⟨rfl, below_then (B1.out) B2.out⟩


end Go.Proofs.YtaknkiafchnlpaaDoor
