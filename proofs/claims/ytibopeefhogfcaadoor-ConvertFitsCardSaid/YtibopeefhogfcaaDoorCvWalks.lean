/-
  The walks of the laws ConvertDigits, ConvertFits and ConvertBack. Condition: the library's tables and variables hold what their initialisers lay; the bounds of the values' fields.
-/
import Derived.Test.YtibopeefhogfcaaDoorCvLawPlain
import Derived.Test.YtibopeefhogfcaaDoorCvAwake
import Derived.Test.YtibopeefhogfcaaDoorCvRefNum
import Derived.Test.YtibopeefhogfcaaDoorRealsEqual
namespace Go.Proofs.YtibopeefhogfcaaDoor
open Go.RowKit

theorem refEqual_is (x y : Int) (r : Bool) (w : World) (hx : Rl.U x) (hy : Rl.U y) (h : Rl.eq x y = r) :
    Calls Tryd.prog 15 #[.int .u64 x, .int .u64 y] w fun e w' => e = .returned (.bool r) ∧ w = w' := by
  rw [← h]; exact refEqual_any x y w hx hy

set_option maxHeartbeats 2000000 in
theorem digits_long (n : Int) (s : List UInt8) (w : World) (E : Env w) (hl : 2000 < s.length) :
    Calls Tryd.prog 3 #[.int .i64 n, .string ⟨s.toArray⟩] w fun x w' => x = .returned (.bool true) ∧ Below w.heap.size w w' := by
  have l1 : (2000 : Int) < (s.length : Int) := by omega
  clear hl
  go_enter Tryd.func3, Tryd.ntmps3
  go_wp2_with fail
  refine (awake_any _ E).mono ?_
  rintro x w1 ⟨rfl, hb⟩
  have A1 := Lib.hid hb
  clear hb
  go_wp2
  go_ret
  exact ⟨rfl, A1.out⟩

set_option maxHeartbeats 2000000 in
theorem digits_some (n : Int) (s T : List UInt8) (v : Int) (w : World) (E : Env w) (hl : s.length ≤ 2000) (hI : Cv.I n) (hT : Lib.itoa n = T) (hn : Cv.num s = some v) :
    Calls Tryd.prog 3 #[.int .i64 n, .string ⟨s.toArray⟩] w fun x w' => x = .returned (.bool true) ∧ Below w.heap.size w w' := by
  have l1 : decide ((2000 : Int) < (s.length : Int)) = false := by rw [decide_eq_false_iff_not]; omega
  have H := Lib.hid (And.intro hl (And.intro hI hn))
  have HT := Lib.hid (And.intro hT (And.intro (show Cv.num T = some n from hT ▸ Cv.num_itoa n hI) (show T.length ≤ 20 from hT ▸ Cv.itoa_len n hI)))
  clear hl hI hn hT
  go_enter Tryd.func3, Tryd.ntmps3
  go_wp2_with fail
  refine (number_some s v _ (by have := H.out.1; omega) H.out.2.2 E).mono ?_
  rintro x w1 ⟨rfl, hb⟩
  have A1 := Lib.hid hb
  clear hb
  go_wp2_with fail
  refine (rnumber_is s v 0 _ (nv_some H.out.2.2) (ne_some H.out.2.2)).mono ?_
  rintro x w2 ⟨rfl, hb⟩
  have A2 := Lib.hid (step0 A1.out hb)
  clear hb
  go_wp2_with fail
  refine (digits_is n T _ H.out.2.1 (E.below A2.out) HT.out.1).mono ?_
  rintro x w3 ⟨rfl, hb⟩
  have A3 := Lib.hid (step0 A2.out hb)
  clear hb
  go_wp2_with fail
  refine (number_some T n _ (by have := HT.out.2.2; omega) HT.out.2.1 (E.below A3.out)).mono ?_
  rintro x w4 ⟨rfl, hb⟩
  have A4 := Lib.hid (step0 A3.out hb)
  clear hb
  go_wp2_with fail
  refine (digits_is n T _ H.out.2.1 (E.below A4.out) HT.out.1).mono ?_
  rintro x w5 ⟨rfl, hb⟩
  have A5 := Lib.hid (step0 A4.out hb)
  clear hb
  go_wp2_with fail
  refine (rdigits_is n T _ H.out.2.1 HT.out.1).mono ?_
  rintro x w6 ⟨rfl, hb⟩
  have A6 := Lib.hid (step0 A5.out hb)
  clear hb
  go_wp2_with fail
  refine (digits_is v s _ (Cv.num_some H.out.2.2).2 (E.below A6.out) (Cv.num_some H.out.2.2).1).mono ?_
  rintro x w7 ⟨rfl, hb⟩
  have A7 := Lib.hid (step0 A6.out hb)
  clear hb
  go_wp2_with fail
  refine (awake_any _ (E.below A7.out)).mono ?_
  rintro x w8 ⟨rfl, hb⟩
  have A8 := Lib.hid (step0 A7.out hb)
  clear hb
  go_wp2
  go_ret
  exact ⟨rfl, A8.out⟩

set_option maxHeartbeats 2000000 in
theorem digits_none (n : Int) (s T : List UInt8) (w : World) (E : Env w) (hl : s.length ≤ 2000) (hI : Cv.I n) (hT : Lib.itoa n = T) (hn : Cv.num s = none) :
    Calls Tryd.prog 3 #[.int .i64 n, .string ⟨s.toArray⟩] w fun x w' => x = .returned (.bool true) ∧ Below w.heap.size w w' := by
  have l1 : decide ((2000 : Int) < (s.length : Int)) = false := by rw [decide_eq_false_iff_not]; omega
  have H := Lib.hid (And.intro hl (And.intro hI hn))
  have HT := Lib.hid (And.intro hT (And.intro (show Cv.num T = some n from hT ▸ Cv.num_itoa n hI) (show T.length ≤ 20 from hT ▸ Cv.itoa_len n hI)))
  clear hl hI hn hT
  go_enter Tryd.func3, Tryd.ntmps3
  go_wp2_with fail
  refine (number_none s _ (by have := H.out.1; omega) H.out.2.2 E).mono ?_
  rintro x w1 ⟨rfl, hb⟩
  have A1 := Lib.hid hb
  clear hb
  go_wp2_with fail
  refine (rnumber_is s 0 7 _ (nv_none H.out.2.2) (ne_none H.out.2.2)).mono ?_
  rintro x w2 ⟨rfl, hb⟩
  have A2 := Lib.hid (step0 A1.out hb)
  clear hb
  go_wp2_with fail
  refine (digits_is n T _ H.out.2.1 (E.below A2.out) HT.out.1).mono ?_
  rintro x w3 ⟨rfl, hb⟩
  have A3 := Lib.hid (step0 A2.out hb)
  clear hb
  go_wp2_with fail
  refine (number_some T n _ (by have := HT.out.2.2; omega) HT.out.2.1 (E.below A3.out)).mono ?_
  rintro x w4 ⟨rfl, hb⟩
  have A4 := Lib.hid (step0 A3.out hb)
  clear hb
  go_wp2_with fail
  refine (digits_is n T _ H.out.2.1 (E.below A4.out) HT.out.1).mono ?_
  rintro x w5 ⟨rfl, hb⟩
  have A5 := Lib.hid (step0 A4.out hb)
  clear hb
  go_wp2_with fail
  refine (rdigits_is n T _ H.out.2.1 HT.out.1).mono ?_
  rintro x w6 ⟨rfl, hb⟩
  have A6 := Lib.hid (step0 A5.out hb)
  clear hb
  go_wp2_with fail
  refine (awake_any _ (E.below A6.out)).mono ?_
  rintro x w7 ⟨rfl, hb⟩
  have A7 := Lib.hid (step0 A6.out hb)
  clear hb
  go_wp2
  go_ret
  exact ⟨rfl, A7.out⟩

theorem convertDigits_walk (n : Int) (s : List UInt8) (w : World) (hI : Cv.I n) (E : Env w) :
    Calls Tryd.prog 3 #[.int .i64 n, .string ⟨s.toArray⟩] w fun x w' => x = .returned (.bool true) ∧ Below w.heap.size w w' := by
  by_cases hl : s.length ≤ 2000
  · cases hn : Cv.num s with
    | some v => exact digits_some n s _ v w E hl hI rfl hn
    | none => exact digits_none n s _ w E hl hI rfl hn
  · exact digits_long n s w E (by omega)

set_option maxHeartbeats 2000000 in
theorem fits_long (k n b : Int) (s : List UInt8) (kd : Int) (w : World) (E : Env w) (hl : 2000 < s.length) :
    Calls Tryd.prog 4 #[.agg #[.int .i64 k, .int .i64 n, .int .u64 b, .string ⟨(s : List UInt8).toArray⟩], .int .i64 kd] w fun x w' => x = .returned (.bool true) ∧ Below w.heap.size w w' := by
  have F := Lib.hid hl
  clear hl
  go_enter Tryd.func4, Tryd.ntmps4
  go_wp2_with fail
  refine (few_0 k n b s _ F.out).mono ?_
  rintro x w1 ⟨rfl, hb⟩
  have A1 := Lib.hid (old_1 hb)
  have k0 := (Blk.new w #[.int .i64 k, .int .i64 n, .int .u64 b, .string ⟨(s : List UInt8).toArray⟩] 32).below hb
  have K0 := Lib.hid k0
  have c0_0 := k0.cell 0
  have c0_1 := k0.cell 1
  have c0_2 := k0.cell 2
  have c0_3 := k0.cell 3
  simp at c0_0 c0_1 c0_2 c0_3
  clear hb k0
  go_wp2_with fail
  refine (awake_any _ (E.below A1.out)).mono ?_
  rintro x w2 ⟨rfl, hb⟩
  have A2 := Lib.hid (step0 A1.out hb)
  clear c0_0 c0_1 c0_2 c0_3
  have k0 := K0.out.below hb
  clear K0
  have K0 := Lib.hid k0
  have c0_0 := k0.cell 0
  have c0_1 := k0.cell 1
  have c0_2 := k0.cell 2
  have c0_3 := k0.cell 3
  simp at c0_0 c0_1 c0_2 c0_3
  clear hb k0
  go_wp2
  go_ret
  exact ⟨rfl, A2.out⟩

set_option maxHeartbeats 2000000 in
theorem fits_err (k n b : Int) (s : List UInt8) (kd : Int) (e : Int) (w : World) (E : Env w) (hl : s.length ≤ 2000) (hB : Rl.U b) (hI : Cv.I n) (hr : Cv.to k n b s kd = ⟨0, 0, 0, [], e⟩) (he : e ≠ 0) :
    Calls Tryd.prog 4 #[.agg #[.int .i64 k, .int .i64 n, .int .u64 b, .string ⟨(s : List UInt8).toArray⟩], .int .i64 kd] w fun x w' => x = .returned (.bool true) ∧ Below w.heap.size w w' := by
  have F := Lib.hid hl
  clear hl
  have e1 := bne_t he
  have e2 := beq_f he
  have H := Lib.hid (And.intro hB (And.intro hI hr))
  clear hB hI hr he
  go_enter Tryd.func4, Tryd.ntmps4
  go_wp2_with fail
  refine (few_1 k n b s _ F.out).mono ?_
  rintro x w1 ⟨rfl, hb⟩
  have A1 := Lib.hid (old_1 hb)
  have k0 := (Blk.new w #[.int .i64 k, .int .i64 n, .int .u64 b, .string ⟨(s : List UInt8).toArray⟩] 32).below hb
  have K0 := Lib.hid k0
  have c0_0 := k0.cell 0
  have c0_1 := k0.cell 1
  have c0_2 := k0.cell 2
  have c0_3 := k0.cell 3
  simp at c0_0 c0_1 c0_2 c0_3
  clear hb k0
  go_wp2_with fail
  refine (to_l k n b s kd 0 0 0 e [] _ (E.below A1.out) H.out.1 H.out.2.1 H.out.2.2).mono ?_
  rintro x w2 ⟨rfl, hb⟩
  have A2 := Lib.hid (step0 A1.out hb)
  clear c0_0 c0_1 c0_2 c0_3
  have k0 := K0.out.below hb
  clear K0
  have K0 := Lib.hid k0
  have c0_0 := k0.cell 0
  have c0_1 := k0.cell 1
  have c0_2 := k0.cell 2
  have c0_3 := k0.cell 3
  simp at c0_0 c0_1 c0_2 c0_3
  clear hb k0
  have p0_0 := fun o => cap1 c0_0 o
  have p0_1 := fun o => cap1 c0_1 o
  have p0_2 := fun o => cap1 c0_2 o
  have p0_3 := fun o => cap1 c0_3 o
  go_wp2_with fail
  refine (rsame_is 0 0 0 [] 0 0 0 [] true _ (by decide)).mono ?_
  rintro x w3 ⟨rfl, hb⟩
  have A3 := Lib.hid (step1 A2.out hb)
  clear c0_0 p0_0 c0_1 p0_1 c0_2 p0_2 c0_3 p0_3
  have k0 := (K0.out.alloc _).below hb
  clear K0
  have K0 := Lib.hid k0
  have k1 := (Blk.new w2 #[.int .i64 0, .int .i64 0, .int .u64 0, .string ⟨([] : List UInt8).toArray⟩] 32).below hb
  have K1 := Lib.hid k1
  have c0_0 := k0.cell 0
  have c0_1 := k0.cell 1
  have c0_2 := k0.cell 2
  have c0_3 := k0.cell 3
  simp at c0_0 c0_1 c0_2 c0_3
  have c1_0 := k1.cell 0
  have c1_1 := k1.cell 1
  have c1_2 := k1.cell 2
  have c1_3 := k1.cell 3
  simp at c1_0 c1_1 c1_2 c1_3
  clear hb k0 k1
  go_wp2_with fail
  refine (awake_any _ (E.below A3.out)).mono ?_
  rintro x w4 ⟨rfl, hb⟩
  have A4 := Lib.hid (step0 A3.out hb)
  clear c0_0 c0_1 c0_2 c0_3 c1_0 c1_1 c1_2 c1_3
  have k0 := K0.out.below hb
  clear K0
  have K0 := Lib.hid k0
  have k1 := K1.out.below hb
  clear K1
  have K1 := Lib.hid k1
  have c0_0 := k0.cell 0
  have c0_1 := k0.cell 1
  have c0_2 := k0.cell 2
  have c0_3 := k0.cell 3
  simp at c0_0 c0_1 c0_2 c0_3
  have c1_0 := k1.cell 0
  have c1_1 := k1.cell 1
  have c1_2 := k1.cell 2
  have c1_3 := k1.cell 3
  simp at c1_0 c1_1 c1_2 c1_3
  clear hb k0 k1
  go_wp2
  go_ret
  exact ⟨rfl, A4.out⟩

set_option maxHeartbeats 2000000 in
theorem fits_ok (k n b : Int) (s : List UInt8) (kd : Int) (N B : Int) (S : List UInt8) (w : World) (E : Env w) (hl : s.length ≤ 2000) (hB : Rl.U b) (hI : Cv.I n) (hr : Cv.to k n b s kd = ⟨kd, N, B, S, 0⟩) (hU : Rl.U B) (hC : Vl.ck kd N B S = 0) :
    Calls Tryd.prog 4 #[.agg #[.int .i64 k, .int .i64 n, .int .u64 b, .string ⟨(s : List UInt8).toArray⟩], .int .i64 kd] w fun x w' => x = .returned (.bool true) ∧ Below w.heap.size w w' := by
  have F := Lib.hid hl
  clear hl
  have H := Lib.hid (And.intro hB (And.intro hI (And.intro hr (And.intro hU hC))))
  clear hB hI hr hU hC
  go_enter Tryd.func4, Tryd.ntmps4
  go_wp2_with fail
  refine (few_1 k n b s _ F.out).mono ?_
  rintro x w1 ⟨rfl, hb⟩
  have A1 := Lib.hid (old_1 hb)
  have k0 := (Blk.new w #[.int .i64 k, .int .i64 n, .int .u64 b, .string ⟨(s : List UInt8).toArray⟩] 32).below hb
  have K0 := Lib.hid k0
  have c0_0 := k0.cell 0
  have c0_1 := k0.cell 1
  have c0_2 := k0.cell 2
  have c0_3 := k0.cell 3
  simp at c0_0 c0_1 c0_2 c0_3
  clear hb k0
  go_wp2_with fail
  refine (to_l k n b s kd kd N B 0 S _ (E.below A1.out) H.out.1 H.out.2.1 H.out.2.2.1).mono ?_
  rintro x w2 ⟨rfl, hb⟩
  have A2 := Lib.hid (step0 A1.out hb)
  clear c0_0 c0_1 c0_2 c0_3
  have k0 := K0.out.below hb
  clear K0
  have K0 := Lib.hid k0
  have c0_0 := k0.cell 0
  have c0_1 := k0.cell 1
  have c0_2 := k0.cell 2
  have c0_3 := k0.cell 3
  simp at c0_0 c0_1 c0_2 c0_3
  clear hb k0
  have p0_0 := fun o => cap1 c0_0 o
  have p0_1 := fun o => cap1 c0_1 o
  have p0_2 := fun o => cap1 c0_2 o
  have p0_3 := fun o => cap1 c0_3 o
  go_wp2_with fail
  refine (check_is kd N B 0 S _ H.out.2.2.2.1 H.out.2.2.2.2).mono ?_
  rintro x w3 ⟨rfl, hb⟩
  have A3 := Lib.hid (step1 A2.out hb)
  clear c0_0 p0_0 c0_1 p0_1 c0_2 p0_2 c0_3 p0_3
  have k0 := (K0.out.alloc _).below hb
  clear K0
  have K0 := Lib.hid k0
  have k1 := (Blk.new w2 #[.int .i64 kd, .int .i64 N, .int .u64 B, .string ⟨(S : List UInt8).toArray⟩] 32).below hb
  have K1 := Lib.hid k1
  have c0_0 := k0.cell 0
  have c0_1 := k0.cell 1
  have c0_2 := k0.cell 2
  have c0_3 := k0.cell 3
  simp at c0_0 c0_1 c0_2 c0_3
  have c1_0 := k1.cell 0
  have c1_1 := k1.cell 1
  have c1_2 := k1.cell 2
  have c1_3 := k1.cell 3
  simp at c1_0 c1_1 c1_2 c1_3
  clear hb k0 k1
  go_wp2_with fail
  refine (awake_any _ (E.below A3.out)).mono ?_
  rintro x w4 ⟨rfl, hb⟩
  have A4 := Lib.hid (step0 A3.out hb)
  clear c0_0 c0_1 c0_2 c0_3 c1_0 c1_1 c1_2 c1_3
  have k0 := K0.out.below hb
  clear K0
  have K0 := Lib.hid k0
  have k1 := K1.out.below hb
  clear K1
  have K1 := Lib.hid k1
  have c0_0 := k0.cell 0
  have c0_1 := k0.cell 1
  have c0_2 := k0.cell 2
  have c0_3 := k0.cell 3
  simp at c0_0 c0_1 c0_2 c0_3
  have c1_0 := k1.cell 0
  have c1_1 := k1.cell 1
  have c1_2 := k1.cell 2
  have c1_3 := k1.cell 3
  simp at c1_0 c1_1 c1_2 c1_3
  clear hb k0 k1
  go_wp2
  go_ret
  exact ⟨rfl, A4.out⟩

set_option maxHeartbeats 2000000 in
theorem fits_null (n b : Int) (s : List UInt8) (kd : Int) (w : World) (E : Env w) (hl : s.length ≤ 2000) (hB : Rl.U b) (hI : Cv.I n) (hr : Cv.to 0 n b s kd = ⟨0, n, b, s, 0⟩) (hC : Vl.ck 0 n b s = 0) (hk : kd ≠ 0) :
    Calls Tryd.prog 4 #[.agg #[.int .i64 0, .int .i64 n, .int .u64 b, .string ⟨(s : List UInt8).toArray⟩], .int .i64 kd] w fun x w' => x = .returned (.bool true) ∧ Below w.heap.size w w' := by
  have F := Lib.hid hl
  clear hl
  have d1 := beq_f hk
  have d2 := beq_f (show (0 : Int) ≠ kd from fun e => hk e.symm)
  have H := Lib.hid (And.intro hB (And.intro hI (And.intro hr hC)))
  clear hB hI hr hC hk
  go_enter Tryd.func4, Tryd.ntmps4
  go_wp2_with fail
  refine (few_1 0 n b s _ F.out).mono ?_
  rintro x w1 ⟨rfl, hb⟩
  have A1 := Lib.hid (old_1 hb)
  have k0 := (Blk.new w #[.int .i64 0, .int .i64 n, .int .u64 b, .string ⟨(s : List UInt8).toArray⟩] 32).below hb
  have K0 := Lib.hid k0
  have c0_0 := k0.cell 0
  have c0_1 := k0.cell 1
  have c0_2 := k0.cell 2
  have c0_3 := k0.cell 3
  simp at c0_0 c0_1 c0_2 c0_3
  clear hb k0
  go_wp2_with fail
  refine (to_l 0 n b s kd 0 n b 0 s _ (E.below A1.out) H.out.1 H.out.2.1 H.out.2.2.1).mono ?_
  rintro x w2 ⟨rfl, hb⟩
  have A2 := Lib.hid (step0 A1.out hb)
  clear c0_0 c0_1 c0_2 c0_3
  have k0 := K0.out.below hb
  clear K0
  have K0 := Lib.hid k0
  have c0_0 := k0.cell 0
  have c0_1 := k0.cell 1
  have c0_2 := k0.cell 2
  have c0_3 := k0.cell 3
  simp at c0_0 c0_1 c0_2 c0_3
  clear hb k0
  have p0_0 := fun o => cap1 c0_0 o
  have p0_1 := fun o => cap1 c0_1 o
  have p0_2 := fun o => cap1 c0_2 o
  have p0_3 := fun o => cap1 c0_3 o
  go_wp2_with fail
  refine (check_is 0 n b 0 s _ H.out.1 H.out.2.2.2).mono ?_
  rintro x w3 ⟨rfl, hb⟩
  have A3 := Lib.hid (step1 A2.out hb)
  clear c0_0 p0_0 c0_1 p0_1 c0_2 p0_2 c0_3 p0_3
  have k0 := (K0.out.alloc _).below hb
  clear K0
  have K0 := Lib.hid k0
  have k1 := (Blk.new w2 #[.int .i64 0, .int .i64 n, .int .u64 b, .string ⟨(s : List UInt8).toArray⟩] 32).below hb
  have K1 := Lib.hid k1
  have c0_0 := k0.cell 0
  have c0_1 := k0.cell 1
  have c0_2 := k0.cell 2
  have c0_3 := k0.cell 3
  simp at c0_0 c0_1 c0_2 c0_3
  have c1_0 := k1.cell 0
  have c1_1 := k1.cell 1
  have c1_2 := k1.cell 2
  have c1_3 := k1.cell 3
  simp at c1_0 c1_1 c1_2 c1_3
  clear hb k0 k1
  go_wp2_with fail
  refine (awake_any _ (E.below A3.out)).mono ?_
  rintro x w4 ⟨rfl, hb⟩
  have A4 := Lib.hid (step0 A3.out hb)
  clear c0_0 c0_1 c0_2 c0_3 c1_0 c1_1 c1_2 c1_3
  have k0 := K0.out.below hb
  clear K0
  have K0 := Lib.hid k0
  have k1 := K1.out.below hb
  clear K1
  have K1 := Lib.hid k1
  have c0_0 := k0.cell 0
  have c0_1 := k0.cell 1
  have c0_2 := k0.cell 2
  have c0_3 := k0.cell 3
  simp at c0_0 c0_1 c0_2 c0_3
  have c1_0 := k1.cell 0
  have c1_1 := k1.cell 1
  have c1_2 := k1.cell 2
  have c1_3 := k1.cell 3
  simp at c1_0 c1_1 c1_2 c1_3
  clear hb k0 k1
  go_wp2
  go_ret
  exact ⟨rfl, A4.out⟩

theorem convertFits_walk (k n b : Int) (s : List UInt8) (kd : Int) (w : World) (hB : Rl.U b) (hI : Cv.I n) (E : Env w) :
    Calls Tryd.prog 4 #[.agg #[.int .i64 k, .int .i64 n, .int .u64 b, .string ⟨(s : List UInt8).toArray⟩], .int .i64 kd] w fun x w' => x = .returned (.bool true) ∧ Below w.heap.size w w' := by
  by_cases hl : s.length ≤ 2000
  case neg => exact fits_long k n b s kd w E (by omega)
  by_cases he : (Cv.to k n b s kd).e = 0
  · rcases to_ok hB hI he with ⟨rfl, h, hC⟩ | ⟨hz, h1, h2, h3, h4, h5⟩
    · exact fits_null n b s kd w E hl hB hI h hC (by have := (to_inv he).2.1; omega)
    · obtain ⟨⟨K, N, B, S, e⟩, hr⟩ : ∃ r, Cv.to k n b s kd = r := ⟨_, rfl⟩
      rw [hr] at h1 h2 h3 h4 h5
      obtain rfl : K = kd := h4
      obtain rfl : e = 0 := h5
      exact fits_ok k n b s K N B S w E hl hB hI hr h2 h1
  · rcases to_err k n b s kd with h | h
    · exact absurd h he
    · exact fits_err k n b s kd _ w E hl hB hI h he

set_option maxHeartbeats 2000000 in
theorem back_long (k n b : Int) (s : List UInt8) (kd : Int) (w : World) (E : Env w) (hl : 2000 < s.length) :
    Calls Tryd.prog 5 #[.agg #[.int .i64 k, .int .i64 n, .int .u64 b, .string ⟨(s : List UInt8).toArray⟩], .int .i64 kd] w fun x w' => x = .returned (.bool true) ∧ Below w.heap.size w w' := by
  have F := Lib.hid hl
  clear hl
  go_enter Tryd.func5, Tryd.ntmps5
  go_wp2_with fail
  refine (few_0 k n b s _ F.out).mono ?_
  rintro x w1 ⟨rfl, hb⟩
  have A1 := Lib.hid (old_1 hb)
  have k0 := (Blk.new w #[.int .i64 k, .int .i64 n, .int .u64 b, .string ⟨(s : List UInt8).toArray⟩] 32).below hb
  have K0 := Lib.hid k0
  have c0_0 := k0.cell 0
  have c0_1 := k0.cell 1
  have c0_2 := k0.cell 2
  have c0_3 := k0.cell 3
  simp at c0_0 c0_1 c0_2 c0_3
  clear hb k0
  go_wp2_with fail
  refine (awake_any _ (E.below A1.out)).mono ?_
  rintro x w2 ⟨rfl, hb⟩
  have A2 := Lib.hid (step0 A1.out hb)
  clear c0_0 c0_1 c0_2 c0_3
  have k0 := K0.out.below hb
  clear K0
  have K0 := Lib.hid k0
  have c0_0 := k0.cell 0
  have c0_1 := k0.cell 1
  have c0_2 := k0.cell 2
  have c0_3 := k0.cell 3
  simp at c0_0 c0_1 c0_2 c0_3
  clear hb k0
  go_wp2
  go_ret
  exact ⟨rfl, A2.out⟩

set_option maxHeartbeats 2000000 in
theorem back_err1 (k n b kd e K' N' B' f : Int) (s S' : List UInt8) (w : World) (E : Env w) (hl : s.length ≤ 2000) (hB : Rl.U b) (hI : Cv.I n) (hr : Cv.to k n b s kd = ⟨0, 0, 0, [], e⟩) (hU : Rl.U 0) (hN : Cv.I 0) (hq : Cv.to 0 0 0 [] k = ⟨K', N', B', S', f⟩) (he : e ≠ 0) :
    Calls Tryd.prog 5 #[.agg #[.int .i64 k, .int .i64 n, .int .u64 b, .string ⟨(s : List UInt8).toArray⟩], .int .i64 kd] w fun x w' => x = .returned (.bool true) ∧ Below w.heap.size w w' := by
  have F := Lib.hid hl
  clear hl
  have e1 := bne_t he
  have e2 := beq_f he
  clear he
  have H := Lib.hid (And.intro hB (And.intro hI (And.intro hr (And.intro hU (And.intro hN hq)))))
  clear hB hI hr hU hN hq
  go_enter Tryd.func5, Tryd.ntmps5
  go_wp2_with fail
  refine (few_1 k n b s _ F.out).mono ?_
  rintro x w1 ⟨rfl, hb⟩
  have A1 := Lib.hid (old_1 hb)
  have k0 := (Blk.new w #[.int .i64 k, .int .i64 n, .int .u64 b, .string ⟨(s : List UInt8).toArray⟩] 32).below hb
  have K0 := Lib.hid k0
  have c0_0 := k0.cell 0
  have c0_1 := k0.cell 1
  have c0_2 := k0.cell 2
  have c0_3 := k0.cell 3
  simp at c0_0 c0_1 c0_2 c0_3
  clear hb k0
  go_wp2_with fail
  refine (to_l k n b s kd 0 0 0 e [] _ (E.below A1.out) H.out.1 H.out.2.1 H.out.2.2.1).mono ?_
  rintro x w2 ⟨rfl, hb⟩
  have A2 := Lib.hid (step0 A1.out hb)
  clear c0_0 c0_1 c0_2 c0_3
  have k0 := K0.out.below hb
  clear K0
  have K0 := Lib.hid k0
  have c0_0 := k0.cell 0
  have c0_1 := k0.cell 1
  have c0_2 := k0.cell 2
  have c0_3 := k0.cell 3
  simp at c0_0 c0_1 c0_2 c0_3
  clear hb k0
  have p0_0 := fun o => cap1 c0_0 o
  have p0_1 := fun o => cap1 c0_1 o
  have p0_2 := fun o => cap1 c0_2 o
  have p0_3 := fun o => cap1 c0_3 o
  go_wp2_with fail
  refine (to_l 0 0 0 [] k K' N' B' f S' _ ((E.below A2.out).alloc _) H.out.2.2.2.1 H.out.2.2.2.2.1 H.out.2.2.2.2.2).mono ?_
  rintro x w3 ⟨rfl, hb⟩
  have A3 := Lib.hid (step1 A2.out hb)
  clear c0_0 p0_0 c0_1 p0_1 c0_2 p0_2 c0_3 p0_3
  have k0 := (K0.out.alloc _).below hb
  clear K0
  have K0 := Lib.hid k0
  have k1 := (Blk.new w2 #[.int .i64 0, .int .i64 0, .int .u64 0, .string ⟨([] : List UInt8).toArray⟩] 32).below hb
  have K1 := Lib.hid k1
  have c0_0 := k0.cell 0
  have c0_1 := k0.cell 1
  have c0_2 := k0.cell 2
  have c0_3 := k0.cell 3
  simp at c0_0 c0_1 c0_2 c0_3
  have c1_0 := k1.cell 0
  have c1_1 := k1.cell 1
  have c1_2 := k1.cell 2
  have c1_3 := k1.cell 3
  simp at c1_0 c1_1 c1_2 c1_3
  clear hb k0 k1
  have p0_0 := fun o => cap1 c0_0 o
  have p0_1 := fun o => cap1 c0_1 o
  have p0_2 := fun o => cap1 c0_2 o
  have p0_3 := fun o => cap1 c0_3 o
  have p1_0 := fun o => cap1 c1_0 o
  have p1_1 := fun o => cap1 c1_1 o
  have p1_2 := fun o => cap1 c1_2 o
  have p1_3 := fun o => cap1 c1_3 o
  go_wp2_with fail
  refine (awake_any _ ((E.below A3.out).alloc _)).mono ?_
  rintro x w4 ⟨rfl, hb⟩
  have A4 := Lib.hid (step1 A3.out hb)
  clear c0_0 p0_0 c0_1 p0_1 c0_2 p0_2 c0_3 p0_3 c1_0 p1_0 c1_1 p1_1 c1_2 p1_2 c1_3 p1_3
  have k0 := (K0.out.alloc _).below hb
  clear K0
  have K0 := Lib.hid k0
  have k1 := (K1.out.alloc _).below hb
  clear K1
  have K1 := Lib.hid k1
  have k2 := (Blk.new w3 #[.int .i64 K', .int .i64 N', .int .u64 B', .string ⟨(S' : List UInt8).toArray⟩] 32).below hb
  have K2 := Lib.hid k2
  have c0_0 := k0.cell 0
  have c0_1 := k0.cell 1
  have c0_2 := k0.cell 2
  have c0_3 := k0.cell 3
  simp at c0_0 c0_1 c0_2 c0_3
  have c1_0 := k1.cell 0
  have c1_1 := k1.cell 1
  have c1_2 := k1.cell 2
  have c1_3 := k1.cell 3
  simp at c1_0 c1_1 c1_2 c1_3
  have c2_0 := k2.cell 0
  have c2_1 := k2.cell 1
  have c2_2 := k2.cell 2
  have c2_3 := k2.cell 3
  simp at c2_0 c2_1 c2_2 c2_3
  clear hb k0 k1 k2
  go_wp2
  go_ret
  exact ⟨rfl, A4.out⟩

set_option maxHeartbeats 2000000 in
theorem back_err2 (k n b kd K N B K' N' B' f : Int) (s S S' : List UInt8) (w : World) (E : Env w) (hl : s.length ≤ 2000) (hB : Rl.U b) (hI : Cv.I n) (hr : Cv.to k n b s kd = ⟨K, N, B, S, 0⟩) (hU : Rl.U B) (hN : Cv.I N) (hq : Cv.to K N B S k = ⟨K', N', B', S', f⟩) (hf : f ≠ 0) :
    Calls Tryd.prog 5 #[.agg #[.int .i64 k, .int .i64 n, .int .u64 b, .string ⟨(s : List UInt8).toArray⟩], .int .i64 kd] w fun x w' => x = .returned (.bool true) ∧ Below w.heap.size w w' := by
  have F := Lib.hid hl
  clear hl
  have e1 := bne_t hf
  have e2 := beq_f hf
  clear hf
  have H := Lib.hid (And.intro hB (And.intro hI (And.intro hr (And.intro hU (And.intro hN hq)))))
  clear hB hI hr hU hN hq
  go_enter Tryd.func5, Tryd.ntmps5
  go_wp2_with fail
  refine (few_1 k n b s _ F.out).mono ?_
  rintro x w1 ⟨rfl, hb⟩
  have A1 := Lib.hid (old_1 hb)
  have k0 := (Blk.new w #[.int .i64 k, .int .i64 n, .int .u64 b, .string ⟨(s : List UInt8).toArray⟩] 32).below hb
  have K0 := Lib.hid k0
  have c0_0 := k0.cell 0
  have c0_1 := k0.cell 1
  have c0_2 := k0.cell 2
  have c0_3 := k0.cell 3
  simp at c0_0 c0_1 c0_2 c0_3
  clear hb k0
  go_wp2_with fail
  refine (to_l k n b s kd K N B 0 S _ (E.below A1.out) H.out.1 H.out.2.1 H.out.2.2.1).mono ?_
  rintro x w2 ⟨rfl, hb⟩
  have A2 := Lib.hid (step0 A1.out hb)
  clear c0_0 c0_1 c0_2 c0_3
  have k0 := K0.out.below hb
  clear K0
  have K0 := Lib.hid k0
  have c0_0 := k0.cell 0
  have c0_1 := k0.cell 1
  have c0_2 := k0.cell 2
  have c0_3 := k0.cell 3
  simp at c0_0 c0_1 c0_2 c0_3
  clear hb k0
  have p0_0 := fun o => cap1 c0_0 o
  have p0_1 := fun o => cap1 c0_1 o
  have p0_2 := fun o => cap1 c0_2 o
  have p0_3 := fun o => cap1 c0_3 o
  go_wp2_with fail
  refine (to_l K N B S k K' N' B' f S' _ ((E.below A2.out).alloc _) H.out.2.2.2.1 H.out.2.2.2.2.1 H.out.2.2.2.2.2).mono ?_
  rintro x w3 ⟨rfl, hb⟩
  have A3 := Lib.hid (step1 A2.out hb)
  clear c0_0 p0_0 c0_1 p0_1 c0_2 p0_2 c0_3 p0_3
  have k0 := (K0.out.alloc _).below hb
  clear K0
  have K0 := Lib.hid k0
  have k1 := (Blk.new w2 #[.int .i64 K, .int .i64 N, .int .u64 B, .string ⟨(S : List UInt8).toArray⟩] 32).below hb
  have K1 := Lib.hid k1
  have c0_0 := k0.cell 0
  have c0_1 := k0.cell 1
  have c0_2 := k0.cell 2
  have c0_3 := k0.cell 3
  simp at c0_0 c0_1 c0_2 c0_3
  have c1_0 := k1.cell 0
  have c1_1 := k1.cell 1
  have c1_2 := k1.cell 2
  have c1_3 := k1.cell 3
  simp at c1_0 c1_1 c1_2 c1_3
  clear hb k0 k1
  have p0_0 := fun o => cap1 c0_0 o
  have p0_1 := fun o => cap1 c0_1 o
  have p0_2 := fun o => cap1 c0_2 o
  have p0_3 := fun o => cap1 c0_3 o
  have p1_0 := fun o => cap1 c1_0 o
  have p1_1 := fun o => cap1 c1_1 o
  have p1_2 := fun o => cap1 c1_2 o
  have p1_3 := fun o => cap1 c1_3 o
  go_wp2_with fail
  refine (awake_any _ ((E.below A3.out).alloc _)).mono ?_
  rintro x w4 ⟨rfl, hb⟩
  have A4 := Lib.hid (step1 A3.out hb)
  clear c0_0 p0_0 c0_1 p0_1 c0_2 p0_2 c0_3 p0_3 c1_0 p1_0 c1_1 p1_1 c1_2 p1_2 c1_3 p1_3
  have k0 := (K0.out.alloc _).below hb
  clear K0
  have K0 := Lib.hid k0
  have k1 := (K1.out.alloc _).below hb
  clear K1
  have K1 := Lib.hid k1
  have k2 := (Blk.new w3 #[.int .i64 K', .int .i64 N', .int .u64 B', .string ⟨(S' : List UInt8).toArray⟩] 32).below hb
  have K2 := Lib.hid k2
  have c0_0 := k0.cell 0
  have c0_1 := k0.cell 1
  have c0_2 := k0.cell 2
  have c0_3 := k0.cell 3
  simp at c0_0 c0_1 c0_2 c0_3
  have c1_0 := k1.cell 0
  have c1_1 := k1.cell 1
  have c1_2 := k1.cell 2
  have c1_3 := k1.cell 3
  simp at c1_0 c1_1 c1_2 c1_3
  have c2_0 := k2.cell 0
  have c2_1 := k2.cell 1
  have c2_2 := k2.cell 2
  have c2_3 := k2.cell 3
  simp at c2_0 c2_1 c2_2 c2_3
  clear hb k0 k1 k2
  go_wp2
  go_ret
  exact ⟨rfl, A4.out⟩

set_option maxHeartbeats 2000000 in
theorem back_real_same (n b kd K N B N' : Int) (s S S' : List UInt8) (w : World) (E : Env w) (hl : s.length ≤ 2000) (hB : Rl.U b) (hI : Cv.I n) (hr : Cv.to 3 n b s kd = ⟨K, N, B, S, 0⟩) (hU : Rl.U B) (hN : Cv.I N) (hq : Cv.to K N B S 3 = ⟨3, N', b, S', 0⟩) :
    Calls Tryd.prog 5 #[.agg #[.int .i64 3, .int .i64 n, .int .u64 b, .string ⟨(s : List UInt8).toArray⟩], .int .i64 kd] w fun x w' => x = .returned (.bool true) ∧ Below w.heap.size w w' := by
  have F := Lib.hid hl
  clear hl
  have H := Lib.hid (And.intro hB (And.intro hI (And.intro hr (And.intro hU (And.intro hN hq)))))
  clear hB hI hr hU hN hq
  go_enter Tryd.func5, Tryd.ntmps5
  go_wp2_with fail
  refine (few_1 3 n b s _ F.out).mono ?_
  rintro x w1 ⟨rfl, hb⟩
  have A1 := Lib.hid (old_1 hb)
  have k0 := (Blk.new w #[.int .i64 3, .int .i64 n, .int .u64 b, .string ⟨(s : List UInt8).toArray⟩] 32).below hb
  have K0 := Lib.hid k0
  have c0_0 := k0.cell 0
  have c0_1 := k0.cell 1
  have c0_2 := k0.cell 2
  have c0_3 := k0.cell 3
  simp at c0_0 c0_1 c0_2 c0_3
  clear hb k0
  go_wp2_with fail
  refine (to_l 3 n b s kd K N B 0 S _ (E.below A1.out) H.out.1 H.out.2.1 H.out.2.2.1).mono ?_
  rintro x w2 ⟨rfl, hb⟩
  have A2 := Lib.hid (step0 A1.out hb)
  clear c0_0 c0_1 c0_2 c0_3
  have k0 := K0.out.below hb
  clear K0
  have K0 := Lib.hid k0
  have c0_0 := k0.cell 0
  have c0_1 := k0.cell 1
  have c0_2 := k0.cell 2
  have c0_3 := k0.cell 3
  simp at c0_0 c0_1 c0_2 c0_3
  clear hb k0
  have p0_0 := fun o => cap1 c0_0 o
  have p0_1 := fun o => cap1 c0_1 o
  have p0_2 := fun o => cap1 c0_2 o
  have p0_3 := fun o => cap1 c0_3 o
  go_wp2_with fail
  refine (to_l K N B S 3 3 N' b 0 S' _ ((E.below A2.out).alloc _) H.out.2.2.2.1 H.out.2.2.2.2.1 H.out.2.2.2.2.2).mono ?_
  rintro x w3 ⟨rfl, hb⟩
  have A3 := Lib.hid (step1 A2.out hb)
  clear c0_0 p0_0 c0_1 p0_1 c0_2 p0_2 c0_3 p0_3
  have k0 := (K0.out.alloc _).below hb
  clear K0
  have K0 := Lib.hid k0
  have k1 := (Blk.new w2 #[.int .i64 K, .int .i64 N, .int .u64 B, .string ⟨(S : List UInt8).toArray⟩] 32).below hb
  have K1 := Lib.hid k1
  have c0_0 := k0.cell 0
  have c0_1 := k0.cell 1
  have c0_2 := k0.cell 2
  have c0_3 := k0.cell 3
  simp at c0_0 c0_1 c0_2 c0_3
  have c1_0 := k1.cell 0
  have c1_1 := k1.cell 1
  have c1_2 := k1.cell 2
  have c1_3 := k1.cell 3
  simp at c1_0 c1_1 c1_2 c1_3
  clear hb k0 k1
  have p0_0 := fun o => cap1 c0_0 o
  have p0_1 := fun o => cap1 c0_1 o
  have p0_2 := fun o => cap1 c0_2 o
  have p0_3 := fun o => cap1 c0_3 o
  have p1_0 := fun o => cap1 c1_0 o
  have p1_1 := fun o => cap1 c1_1 o
  have p1_2 := fun o => cap1 c1_2 o
  have p1_3 := fun o => cap1 c1_3 o
  go_wp2_with fail
  refine (awake_any _ ((E.below A3.out).alloc _)).mono ?_
  rintro x w4 ⟨rfl, hb⟩
  have A4 := Lib.hid (step1 A3.out hb)
  clear c0_0 p0_0 c0_1 p0_1 c0_2 p0_2 c0_3 p0_3 c1_0 p1_0 c1_1 p1_1 c1_2 p1_2 c1_3 p1_3
  have k0 := (K0.out.alloc _).below hb
  clear K0
  have K0 := Lib.hid k0
  have k1 := (K1.out.alloc _).below hb
  clear K1
  have K1 := Lib.hid k1
  have k2 := (Blk.new w3 #[.int .i64 3, .int .i64 N', .int .u64 b, .string ⟨(S' : List UInt8).toArray⟩] 32).below hb
  have K2 := Lib.hid k2
  have c0_0 := k0.cell 0
  have c0_1 := k0.cell 1
  have c0_2 := k0.cell 2
  have c0_3 := k0.cell 3
  simp at c0_0 c0_1 c0_2 c0_3
  have c1_0 := k1.cell 0
  have c1_1 := k1.cell 1
  have c1_2 := k1.cell 2
  have c1_3 := k1.cell 3
  simp at c1_0 c1_1 c1_2 c1_3
  have c2_0 := k2.cell 0
  have c2_1 := k2.cell 1
  have c2_2 := k2.cell 2
  have c2_3 := k2.cell 3
  simp at c2_0 c2_1 c2_2 c2_3
  clear hb k0 k1 k2
  go_wp2
  go_ret
  exact ⟨rfl, A4.out⟩

set_option maxHeartbeats 2000000 in
theorem back_real_eq (n b kd K N B N' B' : Int) (s S S' : List UInt8) (w : World) (E : Env w) (hl : s.length ≤ 2000) (hB : Rl.U b) (hI : Cv.I n) (hr : Cv.to 3 n b s kd = ⟨K, N, B, S, 0⟩) (hU : Rl.U B) (hN : Cv.I N) (hq : Cv.to K N B S 3 = ⟨3, N', B', S', 0⟩) (hd : B' ≠ b) (hV : Rl.U B') (hE : Rl.eq B' b = true) :
    Calls Tryd.prog 5 #[.agg #[.int .i64 3, .int .i64 n, .int .u64 b, .string ⟨(s : List UInt8).toArray⟩], .int .i64 kd] w fun x w' => x = .returned (.bool true) ∧ Below w.heap.size w w' := by
  have F := Lib.hid hl
  clear hl
  have d1 := beq_f hd
  have Q := Lib.hid (And.intro hV hE)
  clear hd hV hE
  have H := Lib.hid (And.intro hB (And.intro hI (And.intro hr (And.intro hU (And.intro hN hq)))))
  clear hB hI hr hU hN hq
  go_enter Tryd.func5, Tryd.ntmps5
  go_wp2_with fail
  refine (few_1 3 n b s _ F.out).mono ?_
  rintro x w1 ⟨rfl, hb⟩
  have A1 := Lib.hid (old_1 hb)
  have k0 := (Blk.new w #[.int .i64 3, .int .i64 n, .int .u64 b, .string ⟨(s : List UInt8).toArray⟩] 32).below hb
  have K0 := Lib.hid k0
  have c0_0 := k0.cell 0
  have c0_1 := k0.cell 1
  have c0_2 := k0.cell 2
  have c0_3 := k0.cell 3
  simp at c0_0 c0_1 c0_2 c0_3
  clear hb k0
  go_wp2_with fail
  refine (to_l 3 n b s kd K N B 0 S _ (E.below A1.out) H.out.1 H.out.2.1 H.out.2.2.1).mono ?_
  rintro x w2 ⟨rfl, hb⟩
  have A2 := Lib.hid (step0 A1.out hb)
  clear c0_0 c0_1 c0_2 c0_3
  have k0 := K0.out.below hb
  clear K0
  have K0 := Lib.hid k0
  have c0_0 := k0.cell 0
  have c0_1 := k0.cell 1
  have c0_2 := k0.cell 2
  have c0_3 := k0.cell 3
  simp at c0_0 c0_1 c0_2 c0_3
  clear hb k0
  have p0_0 := fun o => cap1 c0_0 o
  have p0_1 := fun o => cap1 c0_1 o
  have p0_2 := fun o => cap1 c0_2 o
  have p0_3 := fun o => cap1 c0_3 o
  go_wp2_with fail
  refine (to_l K N B S 3 3 N' B' 0 S' _ ((E.below A2.out).alloc _) H.out.2.2.2.1 H.out.2.2.2.2.1 H.out.2.2.2.2.2).mono ?_
  rintro x w3 ⟨rfl, hb⟩
  have A3 := Lib.hid (step1 A2.out hb)
  clear c0_0 p0_0 c0_1 p0_1 c0_2 p0_2 c0_3 p0_3
  have k0 := (K0.out.alloc _).below hb
  clear K0
  have K0 := Lib.hid k0
  have k1 := (Blk.new w2 #[.int .i64 K, .int .i64 N, .int .u64 B, .string ⟨(S : List UInt8).toArray⟩] 32).below hb
  have K1 := Lib.hid k1
  have c0_0 := k0.cell 0
  have c0_1 := k0.cell 1
  have c0_2 := k0.cell 2
  have c0_3 := k0.cell 3
  simp at c0_0 c0_1 c0_2 c0_3
  have c1_0 := k1.cell 0
  have c1_1 := k1.cell 1
  have c1_2 := k1.cell 2
  have c1_3 := k1.cell 3
  simp at c1_0 c1_1 c1_2 c1_3
  clear hb k0 k1
  have p0_0 := fun o => cap1 c0_0 o
  have p0_1 := fun o => cap1 c0_1 o
  have p0_2 := fun o => cap1 c0_2 o
  have p0_3 := fun o => cap1 c0_3 o
  have p1_0 := fun o => cap1 c1_0 o
  have p1_1 := fun o => cap1 c1_1 o
  have p1_2 := fun o => cap1 c1_2 o
  have p1_3 := fun o => cap1 c1_3 o
  go_wp2_with fail
  refine (refEqual_is B' b true _ Q.out.1 H.out.1 Q.out.2).mono ?_
  rintro x w' ⟨rfl, rfl⟩
  go_wp2_with fail
  refine (awake_any _ ((E.below A3.out).alloc _)).mono ?_
  rintro x w4 ⟨rfl, hb⟩
  have A4 := Lib.hid (step1 A3.out hb)
  clear c0_0 p0_0 c0_1 p0_1 c0_2 p0_2 c0_3 p0_3 c1_0 p1_0 c1_1 p1_1 c1_2 p1_2 c1_3 p1_3
  have k0 := (K0.out.alloc _).below hb
  clear K0
  have K0 := Lib.hid k0
  have k1 := (K1.out.alloc _).below hb
  clear K1
  have K1 := Lib.hid k1
  have k2 := (Blk.new w3 #[.int .i64 3, .int .i64 N', .int .u64 B', .string ⟨(S' : List UInt8).toArray⟩] 32).below hb
  have K2 := Lib.hid k2
  have c0_0 := k0.cell 0
  have c0_1 := k0.cell 1
  have c0_2 := k0.cell 2
  have c0_3 := k0.cell 3
  simp at c0_0 c0_1 c0_2 c0_3
  have c1_0 := k1.cell 0
  have c1_1 := k1.cell 1
  have c1_2 := k1.cell 2
  have c1_3 := k1.cell 3
  simp at c1_0 c1_1 c1_2 c1_3
  have c2_0 := k2.cell 0
  have c2_1 := k2.cell 1
  have c2_2 := k2.cell 2
  have c2_3 := k2.cell 3
  simp at c2_0 c2_1 c2_2 c2_3
  clear hb k0 k1 k2
  go_wp2
  go_ret
  exact ⟨rfl, A4.out⟩

set_option maxHeartbeats 2000000 in
theorem back_nan (n b K N K' N' B' : Int) (s S S' : List UInt8) (w : World) (E : Env w) (hl : s.length ≤ 2000) (hB : Rl.U b) (hI : Cv.I n) (hr : Cv.to 4 n b s 3 = ⟨K, N, 9221120237041090560, S, 0⟩) (hU : Rl.U 9221120237041090560) (hN : Cv.I N) (hq : Cv.to K N 9221120237041090560 S 4 = ⟨K', N', B', S', 0⟩) (h8 : S'.length = 8) :
    Calls Tryd.prog 5 #[.agg #[.int .i64 4, .int .i64 n, .int .u64 b, .string ⟨(s : List UInt8).toArray⟩], .int .i64 3] w fun x w' => x = .returned (.bool true) ∧ Below w.heap.size w w' := by
  have F := Lib.hid hl
  clear hl
  have l8 : (S'.length : Int) = 8 := by omega
  have H := Lib.hid (And.intro hB (And.intro hI (And.intro hr (And.intro hU (And.intro hN hq)))))
  clear hB hI hr hU hN hq
  go_enter Tryd.func5, Tryd.ntmps5
  go_wp2_with fail
  refine (few_1 4 n b s _ F.out).mono ?_
  rintro x w1 ⟨rfl, hb⟩
  have A1 := Lib.hid (old_1 hb)
  have k0 := (Blk.new w #[.int .i64 4, .int .i64 n, .int .u64 b, .string ⟨(s : List UInt8).toArray⟩] 32).below hb
  have K0 := Lib.hid k0
  have c0_0 := k0.cell 0
  have c0_1 := k0.cell 1
  have c0_2 := k0.cell 2
  have c0_3 := k0.cell 3
  simp at c0_0 c0_1 c0_2 c0_3
  clear hb k0
  go_wp2_with fail
  refine (to_l 4 n b s 3 K N 9221120237041090560 0 S _ (E.below A1.out) H.out.1 H.out.2.1 H.out.2.2.1).mono ?_
  rintro x w2 ⟨rfl, hb⟩
  have A2 := Lib.hid (step0 A1.out hb)
  clear c0_0 c0_1 c0_2 c0_3
  have k0 := K0.out.below hb
  clear K0
  have K0 := Lib.hid k0
  have c0_0 := k0.cell 0
  have c0_1 := k0.cell 1
  have c0_2 := k0.cell 2
  have c0_3 := k0.cell 3
  simp at c0_0 c0_1 c0_2 c0_3
  clear hb k0
  have p0_0 := fun o => cap1 c0_0 o
  have p0_1 := fun o => cap1 c0_1 o
  have p0_2 := fun o => cap1 c0_2 o
  have p0_3 := fun o => cap1 c0_3 o
  go_wp2_with fail
  refine (to_l K N 9221120237041090560 S 4 K' N' B' 0 S' _ ((E.below A2.out).alloc _) H.out.2.2.2.1 H.out.2.2.2.2.1 H.out.2.2.2.2.2).mono ?_
  rintro x w3 ⟨rfl, hb⟩
  have A3 := Lib.hid (step1 A2.out hb)
  clear c0_0 p0_0 c0_1 p0_1 c0_2 p0_2 c0_3 p0_3
  have k0 := (K0.out.alloc _).below hb
  clear K0
  have K0 := Lib.hid k0
  have k1 := (Blk.new w2 #[.int .i64 K, .int .i64 N, .int .u64 9221120237041090560, .string ⟨(S : List UInt8).toArray⟩] 32).below hb
  have K1 := Lib.hid k1
  have c0_0 := k0.cell 0
  have c0_1 := k0.cell 1
  have c0_2 := k0.cell 2
  have c0_3 := k0.cell 3
  simp at c0_0 c0_1 c0_2 c0_3
  have c1_0 := k1.cell 0
  have c1_1 := k1.cell 1
  have c1_2 := k1.cell 2
  have c1_3 := k1.cell 3
  simp at c1_0 c1_1 c1_2 c1_3
  clear hb k0 k1
  have p0_0 := fun o => cap1 c0_0 o
  have p0_1 := fun o => cap1 c0_1 o
  have p0_2 := fun o => cap1 c0_2 o
  have p0_3 := fun o => cap1 c0_3 o
  have p1_0 := fun o => cap1 c1_0 o
  have p1_1 := fun o => cap1 c1_1 o
  have p1_2 := fun o => cap1 c1_2 o
  have p1_3 := fun o => cap1 c1_3 o
  go_wp2_with fail
  refine (awake_any _ ((E.below A3.out).alloc _)).mono ?_
  rintro x w4 ⟨rfl, hb⟩
  have A4 := Lib.hid (step1 A3.out hb)
  clear c0_0 p0_0 c0_1 p0_1 c0_2 p0_2 c0_3 p0_3 c1_0 p1_0 c1_1 p1_1 c1_2 p1_2 c1_3 p1_3
  have k0 := (K0.out.alloc _).below hb
  clear K0
  have K0 := Lib.hid k0
  have k1 := (K1.out.alloc _).below hb
  clear K1
  have K1 := Lib.hid k1
  have k2 := (Blk.new w3 #[.int .i64 K', .int .i64 N', .int .u64 B', .string ⟨(S' : List UInt8).toArray⟩] 32).below hb
  have K2 := Lib.hid k2
  have c0_0 := k0.cell 0
  have c0_1 := k0.cell 1
  have c0_2 := k0.cell 2
  have c0_3 := k0.cell 3
  simp at c0_0 c0_1 c0_2 c0_3
  have c1_0 := k1.cell 0
  have c1_1 := k1.cell 1
  have c1_2 := k1.cell 2
  have c1_3 := k1.cell 3
  simp at c1_0 c1_1 c1_2 c1_3
  have c2_0 := k2.cell 0
  have c2_1 := k2.cell 1
  have c2_2 := k2.cell 2
  have c2_3 := k2.cell 3
  simp at c2_0 c2_1 c2_2 c2_3
  clear hb k0 k1 k2
  go_wp2
  go_ret
  exact ⟨rfl, A4.out⟩

set_option maxHeartbeats 2000000 in
theorem back_same_a (k n b kd K N B : Int) (s S : List UInt8) (w : World) (E : Env w) (hl : s.length ≤ 2000) (hB : Rl.U b) (hI : Cv.I n) (hr : Cv.to k n b s kd = ⟨K, N, B, S, 0⟩) (hU : Rl.U B) (hN : Cv.I N) (hq : Cv.to K N B S k = ⟨k, n, b, s, 0⟩) (h3 : k ≠ 3) (h4 : k ≠ 4) :
    Calls Tryd.prog 5 #[.agg #[.int .i64 k, .int .i64 n, .int .u64 b, .string ⟨(s : List UInt8).toArray⟩], .int .i64 kd] w fun x w' => x = .returned (.bool true) ∧ Below w.heap.size w w' := by
  have F := Lib.hid hl
  clear hl
  have d3 := beq_f h3
  have d4 := beq_f h4
  clear h3 h4
  have H := Lib.hid (And.intro hB (And.intro hI (And.intro hr (And.intro hU (And.intro hN hq)))))
  clear hB hI hr hU hN hq
  go_enter Tryd.func5, Tryd.ntmps5
  go_wp2_with fail
  refine (few_1 k n b s _ F.out).mono ?_
  rintro x w1 ⟨rfl, hb⟩
  have A1 := Lib.hid (old_1 hb)
  have k0 := (Blk.new w #[.int .i64 k, .int .i64 n, .int .u64 b, .string ⟨(s : List UInt8).toArray⟩] 32).below hb
  have K0 := Lib.hid k0
  have c0_0 := k0.cell 0
  have c0_1 := k0.cell 1
  have c0_2 := k0.cell 2
  have c0_3 := k0.cell 3
  simp at c0_0 c0_1 c0_2 c0_3
  clear hb k0
  go_wp2_with fail
  refine (to_l k n b s kd K N B 0 S _ (E.below A1.out) H.out.1 H.out.2.1 H.out.2.2.1).mono ?_
  rintro x w2 ⟨rfl, hb⟩
  have A2 := Lib.hid (step0 A1.out hb)
  clear c0_0 c0_1 c0_2 c0_3
  have k0 := K0.out.below hb
  clear K0
  have K0 := Lib.hid k0
  have c0_0 := k0.cell 0
  have c0_1 := k0.cell 1
  have c0_2 := k0.cell 2
  have c0_3 := k0.cell 3
  simp at c0_0 c0_1 c0_2 c0_3
  clear hb k0
  have p0_0 := fun o => cap1 c0_0 o
  have p0_1 := fun o => cap1 c0_1 o
  have p0_2 := fun o => cap1 c0_2 o
  have p0_3 := fun o => cap1 c0_3 o
  go_wp2_with fail
  refine (to_l K N B S k k n b 0 s _ ((E.below A2.out).alloc _) H.out.2.2.2.1 H.out.2.2.2.2.1 H.out.2.2.2.2.2).mono ?_
  rintro x w3 ⟨rfl, hb⟩
  have A3 := Lib.hid (step1 A2.out hb)
  clear c0_0 p0_0 c0_1 p0_1 c0_2 p0_2 c0_3 p0_3
  have k0 := (K0.out.alloc _).below hb
  clear K0
  have K0 := Lib.hid k0
  have k1 := (Blk.new w2 #[.int .i64 K, .int .i64 N, .int .u64 B, .string ⟨(S : List UInt8).toArray⟩] 32).below hb
  have K1 := Lib.hid k1
  have c0_0 := k0.cell 0
  have c0_1 := k0.cell 1
  have c0_2 := k0.cell 2
  have c0_3 := k0.cell 3
  simp at c0_0 c0_1 c0_2 c0_3
  have c1_0 := k1.cell 0
  have c1_1 := k1.cell 1
  have c1_2 := k1.cell 2
  have c1_3 := k1.cell 3
  simp at c1_0 c1_1 c1_2 c1_3
  clear hb k0 k1
  have p0_0 := fun o => cap1 c0_0 o
  have p0_1 := fun o => cap1 c0_1 o
  have p0_2 := fun o => cap1 c0_2 o
  have p0_3 := fun o => cap1 c0_3 o
  have p1_0 := fun o => cap1 c1_0 o
  have p1_1 := fun o => cap1 c1_1 o
  have p1_2 := fun o => cap1 c1_2 o
  have p1_3 := fun o => cap1 c1_3 o
  go_wp2_with fail
  refine (rsame_is k n b s k n b s true _ (by unfold Vl.sm; simp)).mono ?_
  rintro x w4 ⟨rfl, hb⟩
  have A4 := Lib.hid (step1 A3.out hb)
  clear c0_0 p0_0 c0_1 p0_1 c0_2 p0_2 c0_3 p0_3 c1_0 p1_0 c1_1 p1_1 c1_2 p1_2 c1_3 p1_3
  have k0 := (K0.out.alloc _).below hb
  clear K0
  have K0 := Lib.hid k0
  have k1 := (K1.out.alloc _).below hb
  clear K1
  have K1 := Lib.hid k1
  have k2 := (Blk.new w3 #[.int .i64 k, .int .i64 n, .int .u64 b, .string ⟨(s : List UInt8).toArray⟩] 32).below hb
  have K2 := Lib.hid k2
  have c0_0 := k0.cell 0
  have c0_1 := k0.cell 1
  have c0_2 := k0.cell 2
  have c0_3 := k0.cell 3
  simp at c0_0 c0_1 c0_2 c0_3
  have c1_0 := k1.cell 0
  have c1_1 := k1.cell 1
  have c1_2 := k1.cell 2
  have c1_3 := k1.cell 3
  simp at c1_0 c1_1 c1_2 c1_3
  have c2_0 := k2.cell 0
  have c2_1 := k2.cell 1
  have c2_2 := k2.cell 2
  have c2_3 := k2.cell 3
  simp at c2_0 c2_1 c2_2 c2_3
  clear hb k0 k1 k2
  go_wp2_with fail
  refine (awake_any _ (E.below A4.out)).mono ?_
  rintro x w5 ⟨rfl, hb⟩
  have A5 := Lib.hid (step0 A4.out hb)
  clear c0_0 c0_1 c0_2 c0_3 c1_0 c1_1 c1_2 c1_3 c2_0 c2_1 c2_2 c2_3
  have k0 := K0.out.below hb
  clear K0
  have K0 := Lib.hid k0
  have k1 := K1.out.below hb
  clear K1
  have K1 := Lib.hid k1
  have k2 := K2.out.below hb
  clear K2
  have K2 := Lib.hid k2
  have c0_0 := k0.cell 0
  have c0_1 := k0.cell 1
  have c0_2 := k0.cell 2
  have c0_3 := k0.cell 3
  simp at c0_0 c0_1 c0_2 c0_3
  have c1_0 := k1.cell 0
  have c1_1 := k1.cell 1
  have c1_2 := k1.cell 2
  have c1_3 := k1.cell 3
  simp at c1_0 c1_1 c1_2 c1_3
  have c2_0 := k2.cell 0
  have c2_1 := k2.cell 1
  have c2_2 := k2.cell 2
  have c2_3 := k2.cell 3
  simp at c2_0 c2_1 c2_2 c2_3
  clear hb k0 k1 k2
  go_wp2
  go_ret
  exact ⟨rfl, A5.out⟩

set_option maxHeartbeats 2000000 in
theorem back_same_b (n b kd K N B : Int) (s S : List UInt8) (w : World) (E : Env w) (hl : s.length ≤ 2000) (hB : Rl.U b) (hI : Cv.I n) (hr : Cv.to 4 n b s kd = ⟨K, N, B, S, 0⟩) (hU : Rl.U B) (hN : Cv.I N) (hq : Cv.to K N B S 4 = ⟨4, n, b, s, 0⟩) (hk : kd ≠ 3) :
    Calls Tryd.prog 5 #[.agg #[.int .i64 4, .int .i64 n, .int .u64 b, .string ⟨(s : List UInt8).toArray⟩], .int .i64 kd] w fun x w' => x = .returned (.bool true) ∧ Below w.heap.size w w' := by
  have F := Lib.hid hl
  clear hl
  have d3 := beq_f hk
  clear hk
  have H := Lib.hid (And.intro hB (And.intro hI (And.intro hr (And.intro hU (And.intro hN hq)))))
  clear hB hI hr hU hN hq
  go_enter Tryd.func5, Tryd.ntmps5
  go_wp2_with fail
  refine (few_1 4 n b s _ F.out).mono ?_
  rintro x w1 ⟨rfl, hb⟩
  have A1 := Lib.hid (old_1 hb)
  have k0 := (Blk.new w #[.int .i64 4, .int .i64 n, .int .u64 b, .string ⟨(s : List UInt8).toArray⟩] 32).below hb
  have K0 := Lib.hid k0
  have c0_0 := k0.cell 0
  have c0_1 := k0.cell 1
  have c0_2 := k0.cell 2
  have c0_3 := k0.cell 3
  simp at c0_0 c0_1 c0_2 c0_3
  clear hb k0
  go_wp2_with fail
  refine (to_l 4 n b s kd K N B 0 S _ (E.below A1.out) H.out.1 H.out.2.1 H.out.2.2.1).mono ?_
  rintro x w2 ⟨rfl, hb⟩
  have A2 := Lib.hid (step0 A1.out hb)
  clear c0_0 c0_1 c0_2 c0_3
  have k0 := K0.out.below hb
  clear K0
  have K0 := Lib.hid k0
  have c0_0 := k0.cell 0
  have c0_1 := k0.cell 1
  have c0_2 := k0.cell 2
  have c0_3 := k0.cell 3
  simp at c0_0 c0_1 c0_2 c0_3
  clear hb k0
  have p0_0 := fun o => cap1 c0_0 o
  have p0_1 := fun o => cap1 c0_1 o
  have p0_2 := fun o => cap1 c0_2 o
  have p0_3 := fun o => cap1 c0_3 o
  go_wp2_with fail
  refine (to_l K N B S 4 4 n b 0 s _ ((E.below A2.out).alloc _) H.out.2.2.2.1 H.out.2.2.2.2.1 H.out.2.2.2.2.2).mono ?_
  rintro x w3 ⟨rfl, hb⟩
  have A3 := Lib.hid (step1 A2.out hb)
  clear c0_0 p0_0 c0_1 p0_1 c0_2 p0_2 c0_3 p0_3
  have k0 := (K0.out.alloc _).below hb
  clear K0
  have K0 := Lib.hid k0
  have k1 := (Blk.new w2 #[.int .i64 K, .int .i64 N, .int .u64 B, .string ⟨(S : List UInt8).toArray⟩] 32).below hb
  have K1 := Lib.hid k1
  have c0_0 := k0.cell 0
  have c0_1 := k0.cell 1
  have c0_2 := k0.cell 2
  have c0_3 := k0.cell 3
  simp at c0_0 c0_1 c0_2 c0_3
  have c1_0 := k1.cell 0
  have c1_1 := k1.cell 1
  have c1_2 := k1.cell 2
  have c1_3 := k1.cell 3
  simp at c1_0 c1_1 c1_2 c1_3
  clear hb k0 k1
  have p0_0 := fun o => cap1 c0_0 o
  have p0_1 := fun o => cap1 c0_1 o
  have p0_2 := fun o => cap1 c0_2 o
  have p0_3 := fun o => cap1 c0_3 o
  have p1_0 := fun o => cap1 c1_0 o
  have p1_1 := fun o => cap1 c1_1 o
  have p1_2 := fun o => cap1 c1_2 o
  have p1_3 := fun o => cap1 c1_3 o
  go_wp2_with fail
  refine (rsame_is 4 n b s 4 n b s true _ (by unfold Vl.sm; simp)).mono ?_
  rintro x w4 ⟨rfl, hb⟩
  have A4 := Lib.hid (step1 A3.out hb)
  clear c0_0 p0_0 c0_1 p0_1 c0_2 p0_2 c0_3 p0_3 c1_0 p1_0 c1_1 p1_1 c1_2 p1_2 c1_3 p1_3
  have k0 := (K0.out.alloc _).below hb
  clear K0
  have K0 := Lib.hid k0
  have k1 := (K1.out.alloc _).below hb
  clear K1
  have K1 := Lib.hid k1
  have k2 := (Blk.new w3 #[.int .i64 4, .int .i64 n, .int .u64 b, .string ⟨(s : List UInt8).toArray⟩] 32).below hb
  have K2 := Lib.hid k2
  have c0_0 := k0.cell 0
  have c0_1 := k0.cell 1
  have c0_2 := k0.cell 2
  have c0_3 := k0.cell 3
  simp at c0_0 c0_1 c0_2 c0_3
  have c1_0 := k1.cell 0
  have c1_1 := k1.cell 1
  have c1_2 := k1.cell 2
  have c1_3 := k1.cell 3
  simp at c1_0 c1_1 c1_2 c1_3
  have c2_0 := k2.cell 0
  have c2_1 := k2.cell 1
  have c2_2 := k2.cell 2
  have c2_3 := k2.cell 3
  simp at c2_0 c2_1 c2_2 c2_3
  clear hb k0 k1 k2
  go_wp2_with fail
  refine (awake_any _ (E.below A4.out)).mono ?_
  rintro x w5 ⟨rfl, hb⟩
  have A5 := Lib.hid (step0 A4.out hb)
  clear c0_0 c0_1 c0_2 c0_3 c1_0 c1_1 c1_2 c1_3 c2_0 c2_1 c2_2 c2_3
  have k0 := K0.out.below hb
  clear K0
  have K0 := Lib.hid k0
  have k1 := K1.out.below hb
  clear K1
  have K1 := Lib.hid k1
  have k2 := K2.out.below hb
  clear K2
  have K2 := Lib.hid k2
  have c0_0 := k0.cell 0
  have c0_1 := k0.cell 1
  have c0_2 := k0.cell 2
  have c0_3 := k0.cell 3
  simp at c0_0 c0_1 c0_2 c0_3
  have c1_0 := k1.cell 0
  have c1_1 := k1.cell 1
  have c1_2 := k1.cell 2
  have c1_3 := k1.cell 3
  simp at c1_0 c1_1 c1_2 c1_3
  have c2_0 := k2.cell 0
  have c2_1 := k2.cell 1
  have c2_2 := k2.cell 2
  have c2_3 := k2.cell 3
  simp at c2_0 c2_1 c2_2 c2_3
  clear hb k0 k1 k2
  go_wp2
  go_ret
  exact ⟨rfl, A5.out⟩

set_option maxHeartbeats 2000000 in
theorem back_same_c (n b K N B : Int) (s S : List UInt8) (w : World) (E : Env w) (hl : s.length ≤ 2000) (hB : Rl.U b) (hI : Cv.I n) (hr : Cv.to 4 n b s 3 = ⟨K, N, B, S, 0⟩) (hU : Rl.U B) (hN : Cv.I N) (hq : Cv.to K N B S 4 = ⟨4, n, b, s, 0⟩) (hb : B ≠ 9221120237041090560) :
    Calls Tryd.prog 5 #[.agg #[.int .i64 4, .int .i64 n, .int .u64 b, .string ⟨(s : List UInt8).toArray⟩], .int .i64 3] w fun x w' => x = .returned (.bool true) ∧ Below w.heap.size w w' := by
  have F := Lib.hid hl
  clear hl
  have d3 := beq_f hb
  clear hb
  have H := Lib.hid (And.intro hB (And.intro hI (And.intro hr (And.intro hU (And.intro hN hq)))))
  clear hB hI hr hU hN hq
  go_enter Tryd.func5, Tryd.ntmps5
  go_wp2_with fail
  refine (few_1 4 n b s _ F.out).mono ?_
  rintro x w1 ⟨rfl, hb⟩
  have A1 := Lib.hid (old_1 hb)
  have k0 := (Blk.new w #[.int .i64 4, .int .i64 n, .int .u64 b, .string ⟨(s : List UInt8).toArray⟩] 32).below hb
  have K0 := Lib.hid k0
  have c0_0 := k0.cell 0
  have c0_1 := k0.cell 1
  have c0_2 := k0.cell 2
  have c0_3 := k0.cell 3
  simp at c0_0 c0_1 c0_2 c0_3
  clear hb k0
  go_wp2_with fail
  refine (to_l 4 n b s 3 K N B 0 S _ (E.below A1.out) H.out.1 H.out.2.1 H.out.2.2.1).mono ?_
  rintro x w2 ⟨rfl, hb⟩
  have A2 := Lib.hid (step0 A1.out hb)
  clear c0_0 c0_1 c0_2 c0_3
  have k0 := K0.out.below hb
  clear K0
  have K0 := Lib.hid k0
  have c0_0 := k0.cell 0
  have c0_1 := k0.cell 1
  have c0_2 := k0.cell 2
  have c0_3 := k0.cell 3
  simp at c0_0 c0_1 c0_2 c0_3
  clear hb k0
  have p0_0 := fun o => cap1 c0_0 o
  have p0_1 := fun o => cap1 c0_1 o
  have p0_2 := fun o => cap1 c0_2 o
  have p0_3 := fun o => cap1 c0_3 o
  go_wp2_with fail
  refine (to_l K N B S 4 4 n b 0 s _ ((E.below A2.out).alloc _) H.out.2.2.2.1 H.out.2.2.2.2.1 H.out.2.2.2.2.2).mono ?_
  rintro x w3 ⟨rfl, hb⟩
  have A3 := Lib.hid (step1 A2.out hb)
  clear c0_0 p0_0 c0_1 p0_1 c0_2 p0_2 c0_3 p0_3
  have k0 := (K0.out.alloc _).below hb
  clear K0
  have K0 := Lib.hid k0
  have k1 := (Blk.new w2 #[.int .i64 K, .int .i64 N, .int .u64 B, .string ⟨(S : List UInt8).toArray⟩] 32).below hb
  have K1 := Lib.hid k1
  have c0_0 := k0.cell 0
  have c0_1 := k0.cell 1
  have c0_2 := k0.cell 2
  have c0_3 := k0.cell 3
  simp at c0_0 c0_1 c0_2 c0_3
  have c1_0 := k1.cell 0
  have c1_1 := k1.cell 1
  have c1_2 := k1.cell 2
  have c1_3 := k1.cell 3
  simp at c1_0 c1_1 c1_2 c1_3
  clear hb k0 k1
  have p0_0 := fun o => cap1 c0_0 o
  have p0_1 := fun o => cap1 c0_1 o
  have p0_2 := fun o => cap1 c0_2 o
  have p0_3 := fun o => cap1 c0_3 o
  have p1_0 := fun o => cap1 c1_0 o
  have p1_1 := fun o => cap1 c1_1 o
  have p1_2 := fun o => cap1 c1_2 o
  have p1_3 := fun o => cap1 c1_3 o
  go_wp2_with fail
  refine (rsame_is 4 n b s 4 n b s true _ (by unfold Vl.sm; simp)).mono ?_
  rintro x w4 ⟨rfl, hb⟩
  have A4 := Lib.hid (step1 A3.out hb)
  clear c0_0 p0_0 c0_1 p0_1 c0_2 p0_2 c0_3 p0_3 c1_0 p1_0 c1_1 p1_1 c1_2 p1_2 c1_3 p1_3
  have k0 := (K0.out.alloc _).below hb
  clear K0
  have K0 := Lib.hid k0
  have k1 := (K1.out.alloc _).below hb
  clear K1
  have K1 := Lib.hid k1
  have k2 := (Blk.new w3 #[.int .i64 4, .int .i64 n, .int .u64 b, .string ⟨(s : List UInt8).toArray⟩] 32).below hb
  have K2 := Lib.hid k2
  have c0_0 := k0.cell 0
  have c0_1 := k0.cell 1
  have c0_2 := k0.cell 2
  have c0_3 := k0.cell 3
  simp at c0_0 c0_1 c0_2 c0_3
  have c1_0 := k1.cell 0
  have c1_1 := k1.cell 1
  have c1_2 := k1.cell 2
  have c1_3 := k1.cell 3
  simp at c1_0 c1_1 c1_2 c1_3
  have c2_0 := k2.cell 0
  have c2_1 := k2.cell 1
  have c2_2 := k2.cell 2
  have c2_3 := k2.cell 3
  simp at c2_0 c2_1 c2_2 c2_3
  clear hb k0 k1 k2
  go_wp2_with fail
  refine (awake_any _ (E.below A4.out)).mono ?_
  rintro x w5 ⟨rfl, hb⟩
  have A5 := Lib.hid (step0 A4.out hb)
  clear c0_0 c0_1 c0_2 c0_3 c1_0 c1_1 c1_2 c1_3 c2_0 c2_1 c2_2 c2_3
  have k0 := K0.out.below hb
  clear K0
  have K0 := Lib.hid k0
  have k1 := K1.out.below hb
  clear K1
  have K1 := Lib.hid k1
  have k2 := K2.out.below hb
  clear K2
  have K2 := Lib.hid k2
  have c0_0 := k0.cell 0
  have c0_1 := k0.cell 1
  have c0_2 := k0.cell 2
  have c0_3 := k0.cell 3
  simp at c0_0 c0_1 c0_2 c0_3
  have c1_0 := k1.cell 0
  have c1_1 := k1.cell 1
  have c1_2 := k1.cell 2
  have c1_3 := k1.cell 3
  simp at c1_0 c1_1 c1_2 c1_3
  have c2_0 := k2.cell 0
  have c2_1 := k2.cell 1
  have c2_2 := k2.cell 2
  have c2_3 := k2.cell 3
  simp at c2_0 c2_1 c2_2 c2_3
  clear hb k0 k1 k2
  go_wp2
  go_ret
  exact ⟨rfl, A5.out⟩

theorem to_UI {k n b : Int} {s : List UInt8} {kd : Int} (hB : Rl.U b) (hI : Cv.I n) {r : Cv.R} (hr : Cv.to k n b s kd = r) : Rl.U r.b ∧ Cv.I r.n := by
  rcases to_err k n b s kd with h | h
  · rcases to_ok hB hI h with ⟨rfl, h, _⟩ | ⟨_, _, h2, h3, _⟩
    · rw [hr] at h; subst h; exact ⟨hB, hI⟩
    · rw [hr] at h2 h3; exact ⟨h2, h3⟩
  · rw [hr] at h; rw [h]; exact ⟨z0, I0⟩
theorem convertBack_walk (k n b : Int) (s : List UInt8) (kd : Int) (w : World) (hB : Rl.U b) (hI : Cv.I n) (E : Env w) :
    Calls Tryd.prog 5 #[.agg #[.int .i64 k, .int .i64 n, .int .u64 b, .string ⟨(s : List UInt8).toArray⟩], .int .i64 kd] w fun x w' => x = .returned (.bool true) ∧ Below w.heap.size w w' := by
  by_cases hl : s.length ≤ 2000
  case neg => exact back_long k n b s kd w E (by omega)
  obtain ⟨⟨K, N, B, S, e⟩, hr⟩ : ∃ r, Cv.to k n b s kd = r := ⟨_, rfl⟩
  obtain ⟨⟨K', N', B', S', f⟩, hq⟩ : ∃ r, Cv.to K N B S k = r := ⟨_, rfl⟩
  obtain ⟨hU, hN⟩ := to_UI hB hI hr
  obtain ⟨hV, _⟩ := to_UI hU hN hq
  by_cases he : e = 0
  case neg =>
    rcases to_err k n b s kd with h | h
    · rw [hr] at h; exact absurd h he
    · rw [hr] at h
      have h1 : K = 0 := congrArg Cv.R.k h
      have h2 : N = 0 := congrArg Cv.R.n h
      have h3 : B = 0 := congrArg Cv.R.b h
      have h4 : S = [] := congrArg Cv.R.s h
      subst h1 h2 h3 h4
      exact back_err1 k n b kd e K' N' B' f s S' w E hl hB hI hr hU hN hq he
  subst he
  by_cases hf : f = 0
  case neg => exact back_err2 k n b kd K N B K' N' B' f s S S' w E hl hB hI hr hU hN hq hf
  subst hf
  have hk := back_plain hB hI _ hr rfl (by show (Cv.to K N B S k).e = 0; rw [hq])
  rw [show Cv.to (Cv.R.k ⟨K, N, B, S, 0⟩) (Cv.R.n ⟨K, N, B, S, 0⟩) (Cv.R.b ⟨K, N, B, S, 0⟩) (Cv.R.s ⟨K, N, B, S, 0⟩) k = ⟨K', N', B', S', 0⟩ from hq] at hk
  rcases hk with ⟨rfl, e1, e2⟩ | ⟨rfl, rfl, e1, e2⟩ | ⟨h3, h4, e1⟩
  · obtain rfl : K' = 3 := e1
    by_cases hd : B' = b
    · subst hd; exact back_real_same n B' kd K N B N' s S S' w E hl hB hI hr hU hN hq
    · exact back_real_eq n b kd K N B N' B' s S S' w E hl hB hI hr hU hN hq hd hV (e2.resolve_left hd)
  · obtain rfl : B = 9221120237041090560 := e1
    exact back_nan n b K N K' N' B' s S S' w E hl hB hI hr hU hN hq e2
  · injection e1 with e1 e2 e3 e4
    subst e1 e2 e3 e4
    by_cases k4 : K' = 4
    · subst k4
      by_cases k3 : kd = 3
      · subst k3
        exact back_same_c N' B' K N B S' S w E hl hB hI hr hU hN hq (fun g => h4 ⟨rfl, rfl, g⟩)
      · exact back_same_b N' B' kd K N B S' S w E hl hB hI hr hU hN hq k3
    · exact back_same_a K' N' B' kd K N B S' S w E hl hB hI hr hU hN hq h3 k4

end Go.Proofs.YtibopeefhogfcaaDoor
