/-
  What awake of the laws of chapter 7 answers: the chapter's examples, and others. Condition: the library's tables and variables hold what their initialisers lay.
-/
import Derived.Test.YtibopeefhogfcaaGreatDoorCvTo
namespace Go.Proofs.YtibopeefhogfcaaGreatDoor
open Go.RowKit

theorem itoa_12 : Lib.itoa 12 = [49, 50] := by simp [Lib.itoa, Lib.decDigits]
theorem itoa_m7 : Lib.itoa (-7) = [45, 55] := by simp [Lib.itoa, Lib.decDigits]
theorem itoa_min : Lib.itoa (-9223372036854775808) = [45, 57, 50, 50, 51, 51, 55, 50, 48, 51, 54, 56, 53, 52, 55, 55, 53, 56, 48, 56] := by simp [Lib.itoa, Lib.decDigits]
theorem num_12 : Cv.num [49, 50] = some 12 := Cv.num_is ⟨by decide, by decide⟩ itoa_12
theorem num_min : Cv.num [45, 57, 50, 50, 51, 51, 55, 50, 48, 51, 54, 56, 53, 52, 55, 55, 53, 56, 48, 56] = some (-9223372036854775808) := Cv.num_is ⟨by decide, by decide⟩ itoa_min
theorem num_012 : Cv.num [48, 49, 50] = none := Cv.none_other (by rw [show Cv.fin [48, 49, 50] = 12 from by simp [Cv.fin, Cv.tl, Cv.mi, Cv.wv, wrap64], itoa_12]; decide)
theorem to_12 : Cv.to 5 0 0 [49, 50] 2 = ⟨2, 12, 0, [], 0⟩ := by
  unfold Cv.to; rw [if_neg (by decide), if_neg (by decide), if_neg (by decide), if_neg (by decide), if_neg (by decide), if_neg (by decide), if_neg (by decide)]
  unfold Cv.fT; rw [if_neg (by decide), if_pos rfl, num_12]
theorem to_012 : Cv.to 5 0 0 [48, 49, 50] 2 = ⟨0, 0, 0, [], 7⟩ := by
  unfold Cv.to; rw [if_neg (by decide), if_neg (by decide), if_neg (by decide), if_neg (by decide), if_neg (by decide), if_neg (by decide), if_neg (by decide)]
  unfold Cv.fT; rw [if_neg (by decide), if_pos rfl, num_012]; rfl
theorem to_1h : Cv.to 3 0 4609434218613702656 [] 2 = ⟨0, 0, 0, [], 6⟩ := by
  unfold Cv.to; rw [if_neg (by decide), if_neg (by decide), if_neg (by decide), if_neg (by decide), if_neg (by decide), if_pos rfl]
  unfold Cv.fR; rw [if_pos (by decide), if_neg (by decide)]; rfl
theorem to_true : Cv.to 1 1 0 [] 5 = ⟨5, 0, 0, [116, 114, 117, 101], 0⟩ := by
  unfold Cv.to; rw [if_neg (by decide), if_neg (by decide), if_neg (by decide), if_pos rfl]
  unfold Cv.fB; rw [if_neg (by decide), if_pos rfl]; rfl
theorem to_no : Cv.to 3 0 0 [] 5 = ⟨0, 0, 0, [], 5⟩ := by
  unfold Cv.to; rw [if_neg (by decide), if_neg (by decide), if_neg (by decide), if_neg (by decide), if_neg (by decide), if_pos rfl]
  unfold Cv.fR; rw [if_neg (by decide), if_neg (by decide)]; rfl

set_option maxHeartbeats 400000 in
theorem text_is (s : List UInt8) (w : World) :
    Calls Tryz.prog 11 #[.string ⟨s.toArray⟩] w fun e w' => e = .returned (.agg #[.int .i64 5, .int .i64 0, .int .u64 0, .string ⟨(s : List UInt8).toArray⟩]) ∧ Below w.heap.size w w' := by
  go_enter Tryz.func11, Tryz.ntmps11
  go_wp2
  exact bodyPost_ret (v := .agg #[.int .i64 5, .int .i64 0, .int .u64 0, .string ⟨(s : List UInt8).toArray⟩]) (by simp [results, Tryz.results11, go_sem]) rfl ⟨rfl, below1 _ _⟩

set_option maxHeartbeats 2000000 in
theorem awake_any (w : World) (E : Env w) :
    Calls Tryz.prog 5 #[] w fun e w' => e = .returned (.bool true) ∧ Below w.heap.size w w' := by
  go_enter Tryz.func5, Tryz.ntmps5

  go_wp2_with fail
  refine (text_is [49, 50] _).mono ?_
  rintro x w1 ⟨rfl, hb⟩
  have A1 := Lib.hid hb
  clear hb
  go_wp2_with fail
  refine (to_l 5 0 0 [49, 50] 2 2 12 0 0 [] _ (E.below A1.out) ⟨by decide, by decide⟩ ⟨by decide, by decide⟩ to_12).mono ?_
  rintro x w2 ⟨rfl, hb⟩
  have A2 := Lib.hid (step0 A1.out hb)
  clear hb
  go_wp2_with fail
  refine (text_is [48, 49, 50] _).mono ?_
  rintro x w3 ⟨rfl, hb⟩
  have A3 := Lib.hid (step1 A2.out hb)
  have k0 := (Blk.new w2 #[.int .i64 2, .int .i64 12, .int .u64 0, .string ⟨([] : List UInt8).toArray⟩] 24).below hb
  have K0 := Lib.hid k0
  have c0_0 := k0.cell 0
  have c0_1 := k0.cell 1
  have c0_2 := k0.cell 2
  have c0_3 := k0.cell 3
  simp at c0_0 c0_1 c0_2 c0_3
  clear hb k0
  go_wp2_with fail
  refine (to_l 5 0 0 [48, 49, 50] 2 0 0 0 7 [] _ (E.below A3.out) ⟨by decide, by decide⟩ ⟨by decide, by decide⟩ to_012).mono ?_
  rintro x w4 ⟨rfl, hb⟩
  have A4 := Lib.hid (step0 A3.out hb)
  clear c0_0 c0_1 c0_2 c0_3
  have k0 := K0.out.below hb
  clear K0
  have K0 := Lib.hid k0
  have c0_0 := k0.cell 0
  have c0_1 := k0.cell 1
  have c0_2 := k0.cell 2
  have c0_3 := k0.cell 3
  simp at c0_0 c0_1 c0_2 c0_3
  clear hb k0
  have p0_0 := fun o => cap1 c0_0 o
  have p0_1 := fun o => cap1 c0_1 o
  have p0_2 := fun o => cap1 c0_2 o
  have p0_3 := fun o => cap1 c0_3 o
  go_wp2_with fail
  refine (to_l 3 0 4609434218613702656 [] 2 0 0 0 6 [] _ ((E.below A4.out).alloc _) ⟨by decide, by decide⟩ ⟨by decide, by decide⟩ to_1h).mono ?_
  rintro x w5 ⟨rfl, hb⟩
  have A5 := Lib.hid (step1 A4.out hb)
  clear c0_0 p0_0 c0_1 p0_1 c0_2 p0_2 c0_3 p0_3
  have k0 := (K0.out.alloc _).below hb
  clear K0
  have K0 := Lib.hid k0
  have k1 := (Blk.new w4 #[.int .i64 0, .int .i64 0, .int .u64 0, .string ⟨([] : List UInt8).toArray⟩] 24).below hb
  have K1 := Lib.hid k1
  have c0_0 := k0.cell 0
  have c0_1 := k0.cell 1
  have c0_2 := k0.cell 2
  have c0_3 := k0.cell 3
  simp at c0_0 c0_1 c0_2 c0_3
  have c1_0 := k1.cell 0
  have c1_1 := k1.cell 1
  have c1_2 := k1.cell 2
  have c1_3 := k1.cell 3
  simp at c1_0 c1_1 c1_2 c1_3
  clear hb k0 k1
  have p0_0 := fun o => cap1 c0_0 o
  have p0_1 := fun o => cap1 c0_1 o
  have p0_2 := fun o => cap1 c0_2 o
  have p0_3 := fun o => cap1 c0_3 o
  have p1_0 := fun o => cap1 c1_0 o
  have p1_1 := fun o => cap1 c1_1 o
  have p1_2 := fun o => cap1 c1_2 o
  have p1_3 := fun o => cap1 c1_3 o
  go_wp2_with fail
  refine (to_l 1 1 0 [] 5 5 0 0 0 [116, 114, 117, 101] _ ((E.below A5.out).alloc _) ⟨by decide, by decide⟩ ⟨by decide, by decide⟩ to_true).mono ?_
  rintro x w6 ⟨rfl, hb⟩
  have A6 := Lib.hid (step1 A5.out hb)
  clear c0_0 p0_0 c0_1 p0_1 c0_2 p0_2 c0_3 p0_3 c1_0 p1_0 c1_1 p1_1 c1_2 p1_2 c1_3 p1_3
  have k0 := (K0.out.alloc _).below hb
  clear K0
  have K0 := Lib.hid k0
  have k1 := (K1.out.alloc _).below hb
  clear K1
  have K1 := Lib.hid k1
  have k2 := (Blk.new w5 #[.int .i64 0, .int .i64 0, .int .u64 0, .string ⟨([] : List UInt8).toArray⟩] 24).below hb
  have K2 := Lib.hid k2
  have c0_0 := k0.cell 0
  have c0_1 := k0.cell 1
  have c0_2 := k0.cell 2
  have c0_3 := k0.cell 3
  simp at c0_0 c0_1 c0_2 c0_3
  have c1_0 := k1.cell 0
  have c1_1 := k1.cell 1
  have c1_2 := k1.cell 2
  have c1_3 := k1.cell 3
  simp at c1_0 c1_1 c1_2 c1_3
  have c2_0 := k2.cell 0
  have c2_1 := k2.cell 1
  have c2_2 := k2.cell 2
  have c2_3 := k2.cell 3
  simp at c2_0 c2_1 c2_2 c2_3
  clear hb k0 k1 k2
  have p0_0 := fun o => cap1 c0_0 o
  have p0_1 := fun o => cap1 c0_1 o
  have p0_2 := fun o => cap1 c0_2 o
  have p0_3 := fun o => cap1 c0_3 o
  have p1_0 := fun o => cap1 c1_0 o
  have p1_1 := fun o => cap1 c1_1 o
  have p1_2 := fun o => cap1 c1_2 o
  have p1_3 := fun o => cap1 c1_3 o
  have p2_0 := fun o => cap1 c2_0 o
  have p2_1 := fun o => cap1 c2_1 o
  have p2_2 := fun o => cap1 c2_2 o
  have p2_3 := fun o => cap1 c2_3 o
  go_wp2_with fail
  refine (to_l 3 0 0 [] 5 0 0 0 5 [] _ ((E.below A6.out).alloc _) ⟨by decide, by decide⟩ ⟨by decide, by decide⟩ to_no).mono ?_
  rintro x w7 ⟨rfl, hb⟩
  have A7 := Lib.hid (step1 A6.out hb)
  clear c0_0 p0_0 c0_1 p0_1 c0_2 p0_2 c0_3 p0_3 c1_0 p1_0 c1_1 p1_1 c1_2 p1_2 c1_3 p1_3 c2_0 p2_0 c2_1 p2_1 c2_2 p2_2 c2_3 p2_3
  have k0 := (K0.out.alloc _).below hb
  clear K0
  have K0 := Lib.hid k0
  have k1 := (K1.out.alloc _).below hb
  clear K1
  have K1 := Lib.hid k1
  have k2 := (K2.out.alloc _).below hb
  clear K2
  have K2 := Lib.hid k2
  have k3 := (Blk.new w6 #[.int .i64 5, .int .i64 0, .int .u64 0, .string ⟨([116, 114, 117, 101] : List UInt8).toArray⟩] 24).below hb
  have K3 := Lib.hid k3
  have c0_0 := k0.cell 0
  have c0_1 := k0.cell 1
  have c0_2 := k0.cell 2
  have c0_3 := k0.cell 3
  simp at c0_0 c0_1 c0_2 c0_3
  have c1_0 := k1.cell 0
  have c1_1 := k1.cell 1
  have c1_2 := k1.cell 2
  have c1_3 := k1.cell 3
  simp at c1_0 c1_1 c1_2 c1_3
  have c2_0 := k2.cell 0
  have c2_1 := k2.cell 1
  have c2_2 := k2.cell 2
  have c2_3 := k2.cell 3
  simp at c2_0 c2_1 c2_2 c2_3
  have c3_0 := k3.cell 0
  have c3_1 := k3.cell 1
  have c3_2 := k3.cell 2
  have c3_3 := k3.cell 3
  simp at c3_0 c3_1 c3_2 c3_3
  clear hb k0 k1 k2 k3
  have p0_0 := fun o => cap1 c0_0 o
  have p0_1 := fun o => cap1 c0_1 o
  have p0_2 := fun o => cap1 c0_2 o
  have p0_3 := fun o => cap1 c0_3 o
  have p1_0 := fun o => cap1 c1_0 o
  have p1_1 := fun o => cap1 c1_1 o
  have p1_2 := fun o => cap1 c1_2 o
  have p1_3 := fun o => cap1 c1_3 o
  have p2_0 := fun o => cap1 c2_0 o
  have p2_1 := fun o => cap1 c2_1 o
  have p2_2 := fun o => cap1 c2_2 o
  have p2_3 := fun o => cap1 c2_3 o
  have p3_0 := fun o => cap1 c3_0 o
  have p3_1 := fun o => cap1 c3_1 o
  have p3_2 := fun o => cap1 c3_2 o
  have p3_3 := fun o => cap1 c3_3 o
  go_wp2_with fail
  refine (number_some [45, 57, 50, 50, 51, 51, 55, 50, 48, 51, 54, 56, 53, 52, 55, 55, 53, 56, 48, 56] (-9223372036854775808) _ (by decide) num_min ((E.below A7.out).alloc _)).mono ?_
  rintro x w8 ⟨rfl, hb⟩
  have A8 := Lib.hid (step1 A7.out hb)
  clear c0_0 p0_0 c0_1 p0_1 c0_2 p0_2 c0_3 p0_3 c1_0 p1_0 c1_1 p1_1 c1_2 p1_2 c1_3 p1_3 c2_0 p2_0 c2_1 p2_1 c2_2 p2_2 c2_3 p2_3 c3_0 p3_0 c3_1 p3_1 c3_2 p3_2 c3_3 p3_3
  have k0 := (K0.out.alloc _).below hb
  clear K0
  have K0 := Lib.hid k0
  have k1 := (K1.out.alloc _).below hb
  clear K1
  have K1 := Lib.hid k1
  have k2 := (K2.out.alloc _).below hb
  clear K2
  have K2 := Lib.hid k2
  have k3 := (K3.out.alloc _).below hb
  clear K3
  have K3 := Lib.hid k3
  have k4 := (Blk.new w7 #[.int .i64 0, .int .i64 0, .int .u64 0, .string ⟨([] : List UInt8).toArray⟩] 24).below hb
  have K4 := Lib.hid k4
  have c0_0 := k0.cell 0
  have c0_1 := k0.cell 1
  have c0_2 := k0.cell 2
  have c0_3 := k0.cell 3
  simp at c0_0 c0_1 c0_2 c0_3
  have c1_0 := k1.cell 0
  have c1_1 := k1.cell 1
  have c1_2 := k1.cell 2
  have c1_3 := k1.cell 3
  simp at c1_0 c1_1 c1_2 c1_3
  have c2_0 := k2.cell 0
  have c2_1 := k2.cell 1
  have c2_2 := k2.cell 2
  have c2_3 := k2.cell 3
  simp at c2_0 c2_1 c2_2 c2_3
  have c3_0 := k3.cell 0
  have c3_1 := k3.cell 1
  have c3_2 := k3.cell 2
  have c3_3 := k3.cell 3
  simp at c3_0 c3_1 c3_2 c3_3
  have c4_0 := k4.cell 0
  have c4_1 := k4.cell 1
  have c4_2 := k4.cell 2
  have c4_3 := k4.cell 3
  simp at c4_0 c4_1 c4_2 c4_3
  clear hb k0 k1 k2 k3 k4
  go_wp2_with fail
  refine (digits_is (-7) [45, 55] _ ⟨by decide, by decide⟩ (E.below A8.out) itoa_m7).mono ?_
  rintro x w9 ⟨rfl, hb⟩
  have A9 := Lib.hid (step0 A8.out hb)
  clear c0_0 c0_1 c0_2 c0_3 c1_0 c1_1 c1_2 c1_3 c2_0 c2_1 c2_2 c2_3 c3_0 c3_1 c3_2 c3_3 c4_0 c4_1 c4_2 c4_3
  have k0 := K0.out.below hb
  clear K0
  have K0 := Lib.hid k0
  have k1 := K1.out.below hb
  clear K1
  have K1 := Lib.hid k1
  have k2 := K2.out.below hb
  clear K2
  have K2 := Lib.hid k2
  have k3 := K3.out.below hb
  clear K3
  have K3 := Lib.hid k3
  have k4 := K4.out.below hb
  clear K4
  have K4 := Lib.hid k4
  have c0_0 := k0.cell 0
  have c0_1 := k0.cell 1
  have c0_2 := k0.cell 2
  have c0_3 := k0.cell 3
  simp at c0_0 c0_1 c0_2 c0_3
  have c1_0 := k1.cell 0
  have c1_1 := k1.cell 1
  have c1_2 := k1.cell 2
  have c1_3 := k1.cell 3
  simp at c1_0 c1_1 c1_2 c1_3
  have c2_0 := k2.cell 0
  have c2_1 := k2.cell 1
  have c2_2 := k2.cell 2
  have c2_3 := k2.cell 3
  simp at c2_0 c2_1 c2_2 c2_3
  have c3_0 := k3.cell 0
  have c3_1 := k3.cell 1
  have c3_2 := k3.cell 2
  have c3_3 := k3.cell 3
  simp at c3_0 c3_1 c3_2 c3_3
  have c4_0 := k4.cell 0
  have c4_1 := k4.cell 1
  have c4_2 := k4.cell 2
  have c4_3 := k4.cell 3
  simp at c4_0 c4_1 c4_2 c4_3
  clear hb k0 k1 k2 k3 k4
  go_wp2_with fail
  refine (can_1_2 _).mono ?_
  rintro x w10 ⟨rfl, hb⟩
  have A10 := Lib.hid (step0 A9.out hb)
  clear c0_0 c0_1 c0_2 c0_3 c1_0 c1_1 c1_2 c1_3 c2_0 c2_1 c2_2 c2_3 c3_0 c3_1 c3_2 c3_3 c4_0 c4_1 c4_2 c4_3
  have k0 := K0.out.below hb
  clear K0
  have K0 := Lib.hid k0
  have k1 := K1.out.below hb
  clear K1
  have K1 := Lib.hid k1
  have k2 := K2.out.below hb
  clear K2
  have K2 := Lib.hid k2
  have k3 := K3.out.below hb
  clear K3
  have K3 := Lib.hid k3
  have k4 := K4.out.below hb
  clear K4
  have K4 := Lib.hid k4
  have c0_0 := k0.cell 0
  have c0_1 := k0.cell 1
  have c0_2 := k0.cell 2
  have c0_3 := k0.cell 3
  simp at c0_0 c0_1 c0_2 c0_3
  have c1_0 := k1.cell 0
  have c1_1 := k1.cell 1
  have c1_2 := k1.cell 2
  have c1_3 := k1.cell 3
  simp at c1_0 c1_1 c1_2 c1_3
  have c2_0 := k2.cell 0
  have c2_1 := k2.cell 1
  have c2_2 := k2.cell 2
  have c2_3 := k2.cell 3
  simp at c2_0 c2_1 c2_2 c2_3
  have c3_0 := k3.cell 0
  have c3_1 := k3.cell 1
  have c3_2 := k3.cell 2
  have c3_3 := k3.cell 3
  simp at c3_0 c3_1 c3_2 c3_3
  have c4_0 := k4.cell 0
  have c4_1 := k4.cell 1
  have c4_2 := k4.cell 2
  have c4_3 := k4.cell 3
  simp at c4_0 c4_1 c4_2 c4_3
  clear hb k0 k1 k2 k3 k4
  go_wp2_with fail
  refine (can_3_5 _).mono ?_
  rintro x w11 ⟨rfl, hb⟩
  have A11 := Lib.hid (step0 A10.out hb)
  clear c0_0 c0_1 c0_2 c0_3 c1_0 c1_1 c1_2 c1_3 c2_0 c2_1 c2_2 c2_3 c3_0 c3_1 c3_2 c3_3 c4_0 c4_1 c4_2 c4_3
  have k0 := K0.out.below hb
  clear K0
  have K0 := Lib.hid k0
  have k1 := K1.out.below hb
  clear K1
  have K1 := Lib.hid k1
  have k2 := K2.out.below hb
  clear K2
  have K2 := Lib.hid k2
  have k3 := K3.out.below hb
  clear K3
  have K3 := Lib.hid k3
  have k4 := K4.out.below hb
  clear K4
  have K4 := Lib.hid k4
  have c0_0 := k0.cell 0
  have c0_1 := k0.cell 1
  have c0_2 := k0.cell 2
  have c0_3 := k0.cell 3
  simp at c0_0 c0_1 c0_2 c0_3
  have c1_0 := k1.cell 0
  have c1_1 := k1.cell 1
  have c1_2 := k1.cell 2
  have c1_3 := k1.cell 3
  simp at c1_0 c1_1 c1_2 c1_3
  have c2_0 := k2.cell 0
  have c2_1 := k2.cell 1
  have c2_2 := k2.cell 2
  have c2_3 := k2.cell 3
  simp at c2_0 c2_1 c2_2 c2_3
  have c3_0 := k3.cell 0
  have c3_1 := k3.cell 1
  have c3_2 := k3.cell 2
  have c3_3 := k3.cell 3
  simp at c3_0 c3_1 c3_2 c3_3
  have c4_0 := k4.cell 0
  have c4_1 := k4.cell 1
  have c4_2 := k4.cell 2
  have c4_3 := k4.cell 3
  simp at c4_0 c4_1 c4_2 c4_3
  clear hb k0 k1 k2 k3 k4
  go_wp2
  go_ret
  exact ⟨rfl, A11.out⟩

end Go.Proofs.YtibopeefhogfcaaGreatDoor
