/-
  What begins answers, for every argument that Next hands it. Conditions: the bounds named in the theorem.
-/
import Derived.Test.YtibopeefhogfcaaGreatDoorUtfLeaf
namespace Go.Proofs.YtibopeefhogfcaaGreatDoor
open Go.RowKit

set_option maxHeartbeats 400000 in
theorem begins_11 (r : Int) (w : World) (h0 : 0 ≤ r) (h1 : r < 33554432) :
    Calls Tryz.prog 89 #[.int .i64 r, .int .i64 1, .int .i64 1] w fun e w' => e = .returned (.bool (Utf.bg r 1 1)) ∧ w = w' := by
  have hb : Utf.bg r 1 1 = (Utf.wd r == 1) := by simp [Utf.bg, Utf.pw, BEq.beq]
  have HB := Lib.hid hb
  clear hb
  cases hx : (Utf.wd r == 1)
  · have HF := Lib.hid (show Utf.bg r 1 1 = false from by rw [HB.out, hx])
    go_enter Tryz.func89, Tryz.ntmps89
    go_wp2_with fail
    refine (width_any _ _).mono ?_
    rintro e w' ⟨rfl, rfl⟩
    go_wp2_with fail
    refine (width_any _ _).mono ?_
    rintro e w' ⟨rfl, rfl⟩
    go_wp2
    go_ret
    exact ⟨ret_bool HF.out.symm, rfl⟩
  · have HF := Lib.hid (show Utf.bg r 1 1 = true from by rw [HB.out, hx])
    go_enter Tryz.func89, Tryz.ntmps89
    go_wp2_with fail
    refine (width_any _ _).mono ?_
    rintro e w' ⟨rfl, rfl⟩
    go_wp2
    go_ret
    exact ⟨ret_bool HF.out.symm, rfl⟩

set_option maxHeartbeats 400000 in
theorem begins_21 (r : Int) (w : World) (h0 : 0 ≤ r) (h1 : r < 33554432) :
    Calls Tryz.prog 89 #[.int .i64 r, .int .i64 2, .int .i64 1] w fun e w' => e = .returned (.bool (Utf.bg r 2 1)) ∧ w = w' := by
  have hb : Utf.bg r 2 1 = ((Utf.wd (r * 64) == 2) || (Utf.wd (r * 64 + 64 - 1) == 2)) := by simp [Utf.bg, Utf.pw, BEq.beq]
  have HB := Lib.hid hb
  clear hb
  cases hx : (Utf.wd (r * 64) == 2)
  · cases hy : (Utf.wd (r * 64 + 64 - 1) == 2)
    · have HF := Lib.hid (show Utf.bg r 2 1 = false from by rw [HB.out, hx, hy]; rfl)
      go_enter Tryz.func89, Tryz.ntmps89
      go_wp2_with fail
      refine (width_any _ _).mono ?_
      rintro e w' ⟨rfl, rfl⟩
      go_wp2_with fail
      refine (width_any _ _).mono ?_
      rintro e w' ⟨rfl, rfl⟩
      go_wp2
      go_ret
      exact ⟨ret_bool HF.out.symm, rfl⟩
    · have HF := Lib.hid (show Utf.bg r 2 1 = true from by rw [HB.out, hx, hy]; rfl)
      go_enter Tryz.func89, Tryz.ntmps89
      go_wp2_with fail
      refine (width_any _ _).mono ?_
      rintro e w' ⟨rfl, rfl⟩
      go_wp2_with fail
      refine (width_any _ _).mono ?_
      rintro e w' ⟨rfl, rfl⟩
      go_wp2
      go_ret
      exact ⟨ret_bool HF.out.symm, rfl⟩
  · have HF := Lib.hid (show Utf.bg r 2 1 = true from by rw [HB.out, hx]; rfl)
    go_enter Tryz.func89, Tryz.ntmps89
    go_wp2_with fail
    refine (width_any _ _).mono ?_
    rintro e w' ⟨rfl, rfl⟩
    go_wp2
    go_ret
    exact ⟨ret_bool HF.out.symm, rfl⟩

set_option maxHeartbeats 400000 in
theorem begins_22 (r : Int) (w : World) (h0 : 0 ≤ r) (h1 : r < 33554432) :
    Calls Tryz.prog 89 #[.int .i64 r, .int .i64 2, .int .i64 2] w fun e w' => e = .returned (.bool (Utf.bg r 2 2)) ∧ w = w' := by
  have hb : Utf.bg r 2 2 = (Utf.wd r == 2) := by simp [Utf.bg, Utf.pw, BEq.beq]
  have HB := Lib.hid hb
  clear hb
  cases hx : (Utf.wd r == 2)
  · have HF := Lib.hid (show Utf.bg r 2 2 = false from by rw [HB.out, hx])
    go_enter Tryz.func89, Tryz.ntmps89
    go_wp2_with fail
    refine (width_any _ _).mono ?_
    rintro e w' ⟨rfl, rfl⟩
    go_wp2_with fail
    refine (width_any _ _).mono ?_
    rintro e w' ⟨rfl, rfl⟩
    go_wp2
    go_ret
    exact ⟨ret_bool HF.out.symm, rfl⟩
  · have HF := Lib.hid (show Utf.bg r 2 2 = true from by rw [HB.out, hx])
    go_enter Tryz.func89, Tryz.ntmps89
    go_wp2_with fail
    refine (width_any _ _).mono ?_
    rintro e w' ⟨rfl, rfl⟩
    go_wp2
    go_ret
    exact ⟨ret_bool HF.out.symm, rfl⟩

set_option maxHeartbeats 400000 in
theorem begins_31 (r : Int) (w : World) (h0 : 0 ≤ r) (h1 : r < 33554432) :
    Calls Tryz.prog 89 #[.int .i64 r, .int .i64 3, .int .i64 1] w fun e w' => e = .returned (.bool (Utf.bg r 3 1)) ∧ w = w' := by
  have hb : Utf.bg r 3 1 = ((Utf.wd (r * 4096) == 3) || (Utf.wd (r * 4096 + 4096 - 1) == 3)) := by simp [Utf.bg, Utf.pw, BEq.beq]
  have HB := Lib.hid hb
  clear hb
  cases hx : (Utf.wd (r * 4096) == 3)
  · cases hy : (Utf.wd (r * 4096 + 4096 - 1) == 3)
    · have HF := Lib.hid (show Utf.bg r 3 1 = false from by rw [HB.out, hx, hy]; rfl)
      go_enter Tryz.func89, Tryz.ntmps89
      go_wp2_with fail
      refine (width_any _ _).mono ?_
      rintro e w' ⟨rfl, rfl⟩
      go_wp2_with fail
      refine (width_any _ _).mono ?_
      rintro e w' ⟨rfl, rfl⟩
      go_wp2
      go_ret
      exact ⟨ret_bool HF.out.symm, rfl⟩
    · have HF := Lib.hid (show Utf.bg r 3 1 = true from by rw [HB.out, hx, hy]; rfl)
      go_enter Tryz.func89, Tryz.ntmps89
      go_wp2_with fail
      refine (width_any _ _).mono ?_
      rintro e w' ⟨rfl, rfl⟩
      go_wp2_with fail
      refine (width_any _ _).mono ?_
      rintro e w' ⟨rfl, rfl⟩
      go_wp2
      go_ret
      exact ⟨ret_bool HF.out.symm, rfl⟩
  · have HF := Lib.hid (show Utf.bg r 3 1 = true from by rw [HB.out, hx]; rfl)
    go_enter Tryz.func89, Tryz.ntmps89
    go_wp2_with fail
    refine (width_any _ _).mono ?_
    rintro e w' ⟨rfl, rfl⟩
    go_wp2
    go_ret
    exact ⟨ret_bool HF.out.symm, rfl⟩

set_option maxHeartbeats 400000 in
theorem begins_32 (r : Int) (w : World) (h0 : 0 ≤ r) (h1 : r < 33554432) :
    Calls Tryz.prog 89 #[.int .i64 r, .int .i64 3, .int .i64 2] w fun e w' => e = .returned (.bool (Utf.bg r 3 2)) ∧ w = w' := by
  have hb : Utf.bg r 3 2 = ((Utf.wd (r * 64) == 3) || (Utf.wd (r * 64 + 64 - 1) == 3)) := by simp [Utf.bg, Utf.pw, BEq.beq]
  have HB := Lib.hid hb
  clear hb
  cases hx : (Utf.wd (r * 64) == 3)
  · cases hy : (Utf.wd (r * 64 + 64 - 1) == 3)
    · have HF := Lib.hid (show Utf.bg r 3 2 = false from by rw [HB.out, hx, hy]; rfl)
      go_enter Tryz.func89, Tryz.ntmps89
      go_wp2_with fail
      refine (width_any _ _).mono ?_
      rintro e w' ⟨rfl, rfl⟩
      go_wp2_with fail
      refine (width_any _ _).mono ?_
      rintro e w' ⟨rfl, rfl⟩
      go_wp2
      go_ret
      exact ⟨ret_bool HF.out.symm, rfl⟩
    · have HF := Lib.hid (show Utf.bg r 3 2 = true from by rw [HB.out, hx, hy]; rfl)
      go_enter Tryz.func89, Tryz.ntmps89
      go_wp2_with fail
      refine (width_any _ _).mono ?_
      rintro e w' ⟨rfl, rfl⟩
      go_wp2_with fail
      refine (width_any _ _).mono ?_
      rintro e w' ⟨rfl, rfl⟩
      go_wp2
      go_ret
      exact ⟨ret_bool HF.out.symm, rfl⟩
  · have HF := Lib.hid (show Utf.bg r 3 2 = true from by rw [HB.out, hx]; rfl)
    go_enter Tryz.func89, Tryz.ntmps89
    go_wp2_with fail
    refine (width_any _ _).mono ?_
    rintro e w' ⟨rfl, rfl⟩
    go_wp2
    go_ret
    exact ⟨ret_bool HF.out.symm, rfl⟩

set_option maxHeartbeats 400000 in
theorem begins_33 (r : Int) (w : World) (h0 : 0 ≤ r) (h1 : r < 33554432) :
    Calls Tryz.prog 89 #[.int .i64 r, .int .i64 3, .int .i64 3] w fun e w' => e = .returned (.bool (Utf.bg r 3 3)) ∧ w = w' := by
  have hb : Utf.bg r 3 3 = (Utf.wd r == 3) := by simp [Utf.bg, Utf.pw, BEq.beq]
  have HB := Lib.hid hb
  clear hb
  cases hx : (Utf.wd r == 3)
  · have HF := Lib.hid (show Utf.bg r 3 3 = false from by rw [HB.out, hx])
    go_enter Tryz.func89, Tryz.ntmps89
    go_wp2_with fail
    refine (width_any _ _).mono ?_
    rintro e w' ⟨rfl, rfl⟩
    go_wp2_with fail
    refine (width_any _ _).mono ?_
    rintro e w' ⟨rfl, rfl⟩
    go_wp2
    go_ret
    exact ⟨ret_bool HF.out.symm, rfl⟩
  · have HF := Lib.hid (show Utf.bg r 3 3 = true from by rw [HB.out, hx])
    go_enter Tryz.func89, Tryz.ntmps89
    go_wp2_with fail
    refine (width_any _ _).mono ?_
    rintro e w' ⟨rfl, rfl⟩
    go_wp2
    go_ret
    exact ⟨ret_bool HF.out.symm, rfl⟩

set_option maxHeartbeats 400000 in
theorem begins_41 (r : Int) (w : World) (h0 : 0 ≤ r) (h1 : r < 33554432) :
    Calls Tryz.prog 89 #[.int .i64 r, .int .i64 4, .int .i64 1] w fun e w' => e = .returned (.bool (Utf.bg r 4 1)) ∧ w = w' := by
  have hb : Utf.bg r 4 1 = ((Utf.wd (r * 262144) == 4) || (Utf.wd (r * 262144 + 262144 - 1) == 4)) := by simp [Utf.bg, Utf.pw, BEq.beq]
  have HB := Lib.hid hb
  clear hb
  cases hx : (Utf.wd (r * 262144) == 4)
  · cases hy : (Utf.wd (r * 262144 + 262144 - 1) == 4)
    · have HF := Lib.hid (show Utf.bg r 4 1 = false from by rw [HB.out, hx, hy]; rfl)
      go_enter Tryz.func89, Tryz.ntmps89
      go_wp2_with fail
      refine (width_any _ _).mono ?_
      rintro e w' ⟨rfl, rfl⟩
      go_wp2_with fail
      refine (width_any _ _).mono ?_
      rintro e w' ⟨rfl, rfl⟩
      go_wp2
      go_ret
      exact ⟨ret_bool HF.out.symm, rfl⟩
    · have HF := Lib.hid (show Utf.bg r 4 1 = true from by rw [HB.out, hx, hy]; rfl)
      go_enter Tryz.func89, Tryz.ntmps89
      go_wp2_with fail
      refine (width_any _ _).mono ?_
      rintro e w' ⟨rfl, rfl⟩
      go_wp2_with fail
      refine (width_any _ _).mono ?_
      rintro e w' ⟨rfl, rfl⟩
      go_wp2
      go_ret
      exact ⟨ret_bool HF.out.symm, rfl⟩
  · have HF := Lib.hid (show Utf.bg r 4 1 = true from by rw [HB.out, hx]; rfl)
    go_enter Tryz.func89, Tryz.ntmps89
    go_wp2_with fail
    refine (width_any _ _).mono ?_
    rintro e w' ⟨rfl, rfl⟩
    go_wp2
    go_ret
    exact ⟨ret_bool HF.out.symm, rfl⟩

set_option maxHeartbeats 400000 in
theorem begins_42 (r : Int) (w : World) (h0 : 0 ≤ r) (h1 : r < 33554432) :
    Calls Tryz.prog 89 #[.int .i64 r, .int .i64 4, .int .i64 2] w fun e w' => e = .returned (.bool (Utf.bg r 4 2)) ∧ w = w' := by
  have hb : Utf.bg r 4 2 = ((Utf.wd (r * 4096) == 4) || (Utf.wd (r * 4096 + 4096 - 1) == 4)) := by simp [Utf.bg, Utf.pw, BEq.beq]
  have HB := Lib.hid hb
  clear hb
  cases hx : (Utf.wd (r * 4096) == 4)
  · cases hy : (Utf.wd (r * 4096 + 4096 - 1) == 4)
    · have HF := Lib.hid (show Utf.bg r 4 2 = false from by rw [HB.out, hx, hy]; rfl)
      go_enter Tryz.func89, Tryz.ntmps89
      go_wp2_with fail
      refine (width_any _ _).mono ?_
      rintro e w' ⟨rfl, rfl⟩
      go_wp2_with fail
      refine (width_any _ _).mono ?_
      rintro e w' ⟨rfl, rfl⟩
      go_wp2
      go_ret
      exact ⟨ret_bool HF.out.symm, rfl⟩
    · have HF := Lib.hid (show Utf.bg r 4 2 = true from by rw [HB.out, hx, hy]; rfl)
      go_enter Tryz.func89, Tryz.ntmps89
      go_wp2_with fail
      refine (width_any _ _).mono ?_
      rintro e w' ⟨rfl, rfl⟩
      go_wp2_with fail
      refine (width_any _ _).mono ?_
      rintro e w' ⟨rfl, rfl⟩
      go_wp2
      go_ret
      exact ⟨ret_bool HF.out.symm, rfl⟩
  · have HF := Lib.hid (show Utf.bg r 4 2 = true from by rw [HB.out, hx]; rfl)
    go_enter Tryz.func89, Tryz.ntmps89
    go_wp2_with fail
    refine (width_any _ _).mono ?_
    rintro e w' ⟨rfl, rfl⟩
    go_wp2
    go_ret
    exact ⟨ret_bool HF.out.symm, rfl⟩

set_option maxHeartbeats 400000 in
theorem begins_43 (r : Int) (w : World) (h0 : 0 ≤ r) (h1 : r < 33554432) :
    Calls Tryz.prog 89 #[.int .i64 r, .int .i64 4, .int .i64 3] w fun e w' => e = .returned (.bool (Utf.bg r 4 3)) ∧ w = w' := by
  have hb : Utf.bg r 4 3 = ((Utf.wd (r * 64) == 4) || (Utf.wd (r * 64 + 64 - 1) == 4)) := by simp [Utf.bg, Utf.pw, BEq.beq]
  have HB := Lib.hid hb
  clear hb
  cases hx : (Utf.wd (r * 64) == 4)
  · cases hy : (Utf.wd (r * 64 + 64 - 1) == 4)
    · have HF := Lib.hid (show Utf.bg r 4 3 = false from by rw [HB.out, hx, hy]; rfl)
      go_enter Tryz.func89, Tryz.ntmps89
      go_wp2_with fail
      refine (width_any _ _).mono ?_
      rintro e w' ⟨rfl, rfl⟩
      go_wp2_with fail
      refine (width_any _ _).mono ?_
      rintro e w' ⟨rfl, rfl⟩
      go_wp2
      go_ret
      exact ⟨ret_bool HF.out.symm, rfl⟩
    · have HF := Lib.hid (show Utf.bg r 4 3 = true from by rw [HB.out, hx, hy]; rfl)
      go_enter Tryz.func89, Tryz.ntmps89
      go_wp2_with fail
      refine (width_any _ _).mono ?_
      rintro e w' ⟨rfl, rfl⟩
      go_wp2_with fail
      refine (width_any _ _).mono ?_
      rintro e w' ⟨rfl, rfl⟩
      go_wp2
      go_ret
      exact ⟨ret_bool HF.out.symm, rfl⟩
  · have HF := Lib.hid (show Utf.bg r 4 3 = true from by rw [HB.out, hx]; rfl)
    go_enter Tryz.func89, Tryz.ntmps89
    go_wp2_with fail
    refine (width_any _ _).mono ?_
    rintro e w' ⟨rfl, rfl⟩
    go_wp2
    go_ret
    exact ⟨ret_bool HF.out.symm, rfl⟩

set_option maxHeartbeats 400000 in
theorem begins_44 (r : Int) (w : World) (h0 : 0 ≤ r) (h1 : r < 33554432) :
    Calls Tryz.prog 89 #[.int .i64 r, .int .i64 4, .int .i64 4] w fun e w' => e = .returned (.bool (Utf.bg r 4 4)) ∧ w = w' := by
  have hb : Utf.bg r 4 4 = (Utf.wd r == 4) := by simp [Utf.bg, Utf.pw, BEq.beq]
  have HB := Lib.hid hb
  clear hb
  cases hx : (Utf.wd r == 4)
  · have HF := Lib.hid (show Utf.bg r 4 4 = false from by rw [HB.out, hx])
    go_enter Tryz.func89, Tryz.ntmps89
    go_wp2_with fail
    refine (width_any _ _).mono ?_
    rintro e w' ⟨rfl, rfl⟩
    go_wp2_with fail
    refine (width_any _ _).mono ?_
    rintro e w' ⟨rfl, rfl⟩
    go_wp2
    go_ret
    exact ⟨ret_bool HF.out.symm, rfl⟩
  · have HF := Lib.hid (show Utf.bg r 4 4 = true from by rw [HB.out, hx])
    go_enter Tryz.func89, Tryz.ntmps89
    go_wp2_with fail
    refine (width_any _ _).mono ?_
    rintro e w' ⟨rfl, rfl⟩
    go_wp2
    go_ret
    exact ⟨ret_bool HF.out.symm, rfl⟩

set_option maxHeartbeats 400000 in
theorem begins_0 (r k : Int) (w : World) :
    Calls Tryz.prog 89 #[.int .i64 r, .int .i64 0, .int .i64 k] w fun e w' => e = .returned (.bool (Utf.bg r 0 k)) ∧ w = w' := by
  have HF := Lib.hid (show Utf.bg r 0 k = false from rfl)
  go_enter Tryz.func89, Tryz.ntmps89
  go_wp2
  go_ret
  exact ⟨ret_bool HF.out.symm, rfl⟩

theorem begins_any (r n k : Int) (w : World) (h0 : 0 ≤ r) (h1 : r < 33554432) (h2 : 1 ≤ k) (h3 : n = 0 ∨ k ≤ n) (h4 : n ≤ 4) :
    Calls Tryz.prog 89 #[.int .i64 r, .int .i64 n, .int .i64 k] w fun e w' => e = .returned (.bool (Utf.bg r n k)) ∧ w = w' := by
  have h : n = 0 ∨ (n = 1 ∧ k = 1) ∨ (n = 2 ∧ k = 1) ∨ (n = 2 ∧ k = 2) ∨ (n = 3 ∧ k = 1) ∨ (n = 3 ∧ k = 2) ∨ (n = 3 ∧ k = 3) ∨ (n = 4 ∧ k = 1) ∨ (n = 4 ∧ k = 2) ∨ (n = 4 ∧ k = 3) ∨ (n = 4 ∧ k = 4) := by omega
  rcases h with rfl | ⟨rfl, rfl⟩ | ⟨rfl, rfl⟩ | ⟨rfl, rfl⟩ | ⟨rfl, rfl⟩ | ⟨rfl, rfl⟩ | ⟨rfl, rfl⟩ | ⟨rfl, rfl⟩ | ⟨rfl, rfl⟩ | ⟨rfl, rfl⟩ | ⟨rfl, rfl⟩
  · exact begins_0 r k w
  · exact begins_11 r w h0 h1
  · exact begins_21 r w h0 h1
  · exact begins_22 r w h0 h1
  · exact begins_31 r w h0 h1
  · exact begins_32 r w h0 h1
  · exact begins_33 r w h0 h1
  · exact begins_41 r w h0 h1
  · exact begins_42 r w h0 h1
  · exact begins_43 r w h0 h1
  · exact begins_44 r w h0 h1

end Go.Proofs.YtibopeefhogfcaaGreatDoor
