/-
  What the leaves of package reals and of the document's answers say: parts, exponent, fraction, Class, Canon, Key, Back, for every 64 bits.
-/
import Derived.Test.YtibopeefhogfcaaGreatDoorBase
import Derived.Test.YtibopeefhogfcaaGreatDoorRealsBits
namespace Go.Proofs.YtibopeefhogfcaaGreatDoor
open Go.RowKit

theorem wrap_ex (x : Int) : wrap64 (Rl.ex x) = Rl.ex x := by have := Rl.ex_range x; exact wrap_in _ (by omega) (by omega)

set_option maxHeartbeats 400000 in
theorem parts_any (x : Int) (w : World) (hx : Rl.U x) :
    Calls Tryz.prog 73 #[.int .u64 x] w fun e w' => e = .returned (.tuple #[.int .i64 (Rl.ex x), .int .u64 (Rl.fr x)]) ∧ w = w' := by
  have h1 := Rl.a2047 x hx
  have h2 : bits BinOp.and IntKind.u64 x 4503599627370495 = Rl.fr x := Rl.amask x hx
  go_enter Tryz.func73, Tryz.ntmps73
  go_wp2
  go_ret2
  exact ⟨ret_i2 (wrap_ex x) rfl, rfl⟩

set_option maxHeartbeats 400000 in
theorem exponent_any (x : Int) (w : World) (hx : Rl.U x) :
    Calls Tryz.prog 66 #[.int .u64 x] w fun e w' => e = .returned (.int .i64 (Rl.ex x)) ∧ w = w' := by
  have h1 := Rl.a2047 x hx
  go_enter Tryz.func66, Tryz.ntmps66
  go_wp2
  go_ret
  exact ⟨ret_int (wrap_ex x), rfl⟩

set_option maxHeartbeats 400000 in
theorem fraction_any (x : Int) (w : World) (hx : Rl.U x) :
    Calls Tryz.prog 65 #[.int .u64 x] w fun e w' => e = .returned (.int .u64 (Rl.fr x)) ∧ w = w' := by
  have h2 : bits BinOp.and IntKind.u64 x 4503599627370495 = Rl.fr x := Rl.amask x hx
  go_enter Tryz.func65, Tryz.ntmps65
  go_wp2
  go_ret
  exact ⟨rfl, rfl⟩

set_option maxHeartbeats 1000000 in
theorem class_any (x : Int) (w : World) (hx : Rl.U x) :
    Calls Tryz.prog 47 #[.int .u64 x] w fun e w' => e = .returned (.int .i64 (Rl.cl x)) ∧ w = w' := by
  by_cases h : Rl.ex x = 2047
  · by_cases g : Rl.fr x = 0
    · rw [Rl.cl_inf x h g]
      go_enter Tryz.func47, Tryz.ntmps47
      go_wp2_with fail
      refine (parts_any x _ hx).mono ?_
      rintro e w' ⟨rfl, rfl⟩
      rw [h, g]
      go_wp2
      go_ret
      exact ⟨rfl, rfl⟩
    · rw [Rl.cl_nan x h g]
      have g1 := beq_f g
      go_enter Tryz.func47, Tryz.ntmps47
      go_wp2_with fail
      refine (parts_any x _ hx).mono ?_
      rintro e w' ⟨rfl, rfl⟩
      rw [h]
      go_wp2
      go_ret
      exact ⟨rfl, rfl⟩
  · have h1 := beq_f h
    by_cases k : Rl.ex x = 0
    · by_cases g : Rl.fr x = 0
      · rw [Rl.cl_zero x k g]
        clear h1 h
        go_enter Tryz.func47, Tryz.ntmps47
        go_wp2_with fail
        refine (parts_any x _ hx).mono ?_
        rintro e w' ⟨rfl, rfl⟩
        rw [k, g]
        go_wp2
        go_ret
        exact ⟨rfl, rfl⟩
      · rw [Rl.cl_small x k g]
        have g1 := beq_f g
        clear h1 h
        go_enter Tryz.func47, Tryz.ntmps47
        go_wp2_with fail
        refine (parts_any x _ hx).mono ?_
        rintro e w' ⟨rfl, rfl⟩
        rw [k]
        go_wp2
        go_ret
        exact ⟨rfl, rfl⟩
    · rw [Rl.cl_normal x h k]
      have k1 := beq_f k
      go_enter Tryz.func47, Tryz.ntmps47
      go_wp2_with fail
      refine (parts_any x _ hx).mono ?_
      rintro e w' ⟨rfl, rfl⟩
      go_wp2
      go_ret
      exact ⟨rfl, rfl⟩

set_option maxHeartbeats 1000000 in
theorem refClass_any (x : Int) (w : World) (hx : Rl.U x) :
    Calls Tryz.prog 63 #[.int .u64 x] w fun e w' => e = .returned (.int .i64 (Rl.cl x)) ∧ w = w' := by
  by_cases h : Rl.ex x = 2047
  · by_cases g : Rl.fr x = 0
    · rw [Rl.cl_inf x h g]
      go_enter Tryz.func63, Tryz.ntmps63
      go_wp2_with fail
      refine (exponent_any x _ hx).mono ?_
      rintro e w' ⟨rfl, rfl⟩
      rw [h]
      go_wp2_with fail
      refine (fraction_any x _ hx).mono ?_
      rintro e w' ⟨rfl, rfl⟩
      rw [g]
      go_wp2_with fail
      refine (exponent_any x _ hx).mono ?_
      rintro e w' ⟨rfl, rfl⟩
      rw [h]
      go_wp2
      go_ret
      exact ⟨rfl, rfl⟩
    · rw [Rl.cl_nan x h g]
      have g1 := beq_f g
      go_enter Tryz.func63, Tryz.ntmps63
      go_wp2_with fail
      refine (exponent_any x _ hx).mono ?_
      rintro e w' ⟨rfl, rfl⟩
      rw [h]
      go_wp2_with fail
      refine (fraction_any x _ hx).mono ?_
      rintro e w' ⟨rfl, rfl⟩
      go_wp2
      go_ret
      exact ⟨rfl, rfl⟩
  · have h1 := beq_f h
    by_cases k : Rl.ex x = 0
    · by_cases g : Rl.fr x = 0
      · rw [Rl.cl_zero x k g]
        clear h1 h
        go_enter Tryz.func63, Tryz.ntmps63
        go_wp2_with fail
        refine (exponent_any x _ hx).mono ?_
        rintro e w' ⟨rfl, rfl⟩
        rw [k]
        go_wp2_with fail
        refine (exponent_any x _ hx).mono ?_
        rintro e w' ⟨rfl, rfl⟩
        rw [k]
        go_wp2_with fail
        refine (exponent_any x _ hx).mono ?_
        rintro e w' ⟨rfl, rfl⟩
        rw [k]
        go_wp2_with fail
        refine (fraction_any x _ hx).mono ?_
        rintro e w' ⟨rfl, rfl⟩
        rw [g]
        go_wp2
        go_ret
        exact ⟨rfl, rfl⟩
      · rw [Rl.cl_small x k g]
        have g1 := beq_f g
        clear h1 h
        go_enter Tryz.func63, Tryz.ntmps63
        go_wp2_with fail
        refine (exponent_any x _ hx).mono ?_
        rintro e w' ⟨rfl, rfl⟩
        rw [k]
        go_wp2_with fail
        refine (exponent_any x _ hx).mono ?_
        rintro e w' ⟨rfl, rfl⟩
        rw [k]
        go_wp2_with fail
        refine (exponent_any x _ hx).mono ?_
        rintro e w' ⟨rfl, rfl⟩
        rw [k]
        go_wp2_with fail
        refine (fraction_any x _ hx).mono ?_
        rintro e w' ⟨rfl, rfl⟩
        go_wp2_with fail
        refine (exponent_any x _ hx).mono ?_
        rintro e w' ⟨rfl, rfl⟩
        rw [k]
        go_wp2
        go_ret
        exact ⟨rfl, rfl⟩
    · rw [Rl.cl_normal x h k]
      have k1 := beq_f k
      go_enter Tryz.func63, Tryz.ntmps63
      go_wp2_with fail
      refine (exponent_any x _ hx).mono ?_
      rintro e w' ⟨rfl, rfl⟩
      go_wp2_with fail
      refine (exponent_any x _ hx).mono ?_
      rintro e w' ⟨rfl, rfl⟩
      go_wp2_with fail
      refine (exponent_any x _ hx).mono ?_
      rintro e w' ⟨rfl, rfl⟩
      go_wp2_with fail
      refine (exponent_any x _ hx).mono ?_
      rintro e w' ⟨rfl, rfl⟩
      go_wp2
      go_ret
      exact ⟨rfl, rfl⟩

set_option maxHeartbeats 1000000 in
theorem canon_any (x : Int) (w : World) (hx : Rl.U x) :
    Calls Tryz.prog 27 #[.int .u64 x] w fun e w' => e = .returned (.int .u64 (Rl.cn x)) ∧ w = w' := by
  by_cases h : Rl.cl x = 1
  · have e : Rl.cn x = 9221120237041090560 := by unfold Rl.cn; rw [if_pos h]
    rw [e]
    clear e
    go_enter Tryz.func27, Tryz.ntmps27
    go_wp2_with fail
    refine (class_any x _ hx).mono ?_
    rintro e w' ⟨rfl, rfl⟩
    rw [h]
    go_wp2
    go_ret
    exact ⟨rfl, rfl⟩
  · have e : Rl.cn x = x := by unfold Rl.cn; rw [if_neg h]
    rw [e]
    clear e
    have h1 := beq_f h
    clear h
    go_enter Tryz.func27, Tryz.ntmps27
    go_wp2_with fail
    refine (class_any x _ hx).mono ?_
    rintro e w' ⟨rfl, rfl⟩
    go_wp2
    go_ret
    exact ⟨rfl, rfl⟩

set_option maxHeartbeats 1000000 in
theorem refCanon_any (x : Int) (w : World) (hx : Rl.U x) :
    Calls Tryz.prog 35 #[.int .u64 x] w fun e w' => e = .returned (.int .u64 (Rl.cn x)) ∧ w = w' := by
  by_cases h : Rl.cl x = 1
  · have e : Rl.cn x = 9221120237041090560 := by unfold Rl.cn; rw [if_pos h]
    rw [e]
    clear e
    go_enter Tryz.func35, Tryz.ntmps35
    go_wp2_with fail
    refine (refClass_any x _ hx).mono ?_
    rintro e w' ⟨rfl, rfl⟩
    rw [h]
    go_wp2
    go_ret
    exact ⟨rfl, rfl⟩
  · have e : Rl.cn x = x := by unfold Rl.cn; rw [if_neg h]
    rw [e]
    clear e
    have h1 := beq_f h
    clear h
    go_enter Tryz.func35, Tryz.ntmps35
    go_wp2_with fail
    refine (refClass_any x _ hx).mono ?_
    rintro e w' ⟨rfl, rfl⟩
    go_wp2
    go_ret
    exact ⟨rfl, rfl⟩

theorem class_is (x r : Int) (w : World) (hx : Rl.U x) (h : Rl.cl x = r) :
    Calls Tryz.prog 47 #[.int .u64 x] w fun e w' => e = .returned (.int .i64 r) ∧ w = w' := by
  rw [← h]; exact class_any x w hx

theorem refClass_is (x r : Int) (w : World) (hx : Rl.U x) (h : Rl.cl x = r) :
    Calls Tryz.prog 63 #[.int .u64 x] w fun e w' => e = .returned (.int .i64 r) ∧ w = w' := by
  rw [← h]; exact refClass_any x w hx

end Go.Proofs.YtibopeefhogfcaaGreatDoor
