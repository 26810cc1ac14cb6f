/-
  What the leaves of package tid and of the document answer: says, set, isEpoch, isSeq, bit, bits, one. Conditions: the bounds named in each theorem.
-/
import Derived.Test.YtljgnflmomakaaaRows
import Derived.WalkKit
import Derived.WalkSpells
import Derived.WalkLawsBesides
import Derived.Lib.Hide
import Derived.Test.YtljgnflmomakaaaTdPlain
namespace Go.Proofs.Ytljgnflmomakaaa
open Go.RowKit

theorem ret_int {k : IntKind} {a b : Int} (h : a = b) : Ending.returned (.int k a) = .returned (.int k b) := by rw [h]
theorem ret_bool {a b : Bool} (h : a = b) : Ending.returned (.bool a) = .returned (.bool b) := by rw [h]

theorem rest_u (w m n : Int) (hm : 0 < m) : (IntKind.u64.wrap w / m).tmod n = w % 18446744073709551616 / m % n := by
  rw [IntKind.wrap_u64, Int.tmod_eq_emod_of_nonneg (Int.ediv_nonneg (Int.emod_nonneg _ (by omega)) (by omega))]
theorem wrap_small (x : Int) (h0 : 0 ≤ x) (h1 : x < 1048576) : wrap64 x = x := by
  unfold wrap64; omega

theorem with_num (w r x y z : Int) (l a d : Bool) (hx : (if l then (1 : Int) else 0) = x) (hy : (if a then (1 : Int) else 0) = y) (hz : (if d then (1 : Int) else 0) = z) (hu : Td.U w) (h : Td.wi w l a d = r) :
    wrap64 (wrap64 (wrap64 (wrap64 (IntKind.u64.wrap (IntKind.u64.wrap ((IntKind.u64.wrap w).tdiv 8) * 8)) + x) + wrap64 (2 * y)) + wrap64 (4 * z)) = r := by
  rw [IntKind.wrap_u64, IntKind.wrap_u64, IntKind.wrap_u64, Int.tdiv_eq_ediv_of_nonneg (Int.emod_nonneg _ (by omega)), ← h, ← hx, ← hy, ← hz]
  unfold Td.U at hu
  unfold Td.wi Td.on wrap64
  cases l <;> cases a <;> cases d <;> simp <;> omega

set_option maxHeartbeats 400000 in
theorem says_0 (w : Int) (b : Bool) (W : World) (h : Td.bt w 1 = b) :
    Calls Try.prog 32 #[.int .i64 w, .int .i64 0] W fun e W' => e = .returned (.bool b) ∧ W = W' := by
  go_enter Try.func32, Try.ntmps32
  go_wp2
  go_ret
  refine ⟨ret_bool ?_, rfl⟩
  show (bits BinOp.and IntKind.i64 w 1 == 1) = b
  rw [Td.and1, ← h]
  unfold Td.bt
  rw [Int.ediv_one]
set_option maxHeartbeats 400000 in
theorem set_0t (w : Int) (W : World) (h0 : -9223372036854775808 ≤ w) (h1 : w < 9223372036854775808) :
    Calls Try.prog 38 #[.int .i64 w, .int .i64 0, .bool true] W fun e W' => e = .returned (.int .i64 (Td.st w 1 true)) ∧ W = W' := by
  have H := Lib.hid (Td.set1 w h0 h1)
  clear h0 h1
  go_enter Try.func38, Try.ntmps38
  go_wp2
  go_ret
  exact ⟨ret_int H.out.1, rfl⟩
set_option maxHeartbeats 400000 in
theorem set_0f (w : Int) (W : World) (h0 : -9223372036854775808 ≤ w) (h1 : w < 9223372036854775808) :
    Calls Try.prog 38 #[.int .i64 w, .int .i64 0, .bool false] W fun e W' => e = .returned (.int .i64 (Td.st w 1 false)) ∧ W = W' := by
  have H := Lib.hid (Td.set1 w h0 h1)
  clear h0 h1
  go_enter Try.func38, Try.ntmps38
  go_wp2
  go_ret
  exact ⟨ret_int H.out.2, rfl⟩
theorem set_0 (w r : Int) (b : Bool) (W : World) (h0 : -9223372036854775808 ≤ w) (h1 : w < 9223372036854775808) (h : Td.st w 1 b = r) :
    Calls Try.prog 38 #[.int .i64 w, .int .i64 0, .bool b] W fun e W' => e = .returned (.int .i64 r) ∧ W = W' := by
  subst h
  cases b
  · exact set_0f w W h0 h1
  · exact set_0t w W h0 h1
set_option maxHeartbeats 400000 in
theorem bit_0 (w : Int) (b : Bool) (W : World) (h : Td.bt w 1 = b) :
    Calls Try.prog 33 #[.int .i64 w, .int .i64 0] W fun e W' => e = .returned (.bool b) ∧ W = W' := by
  go_enter Try.func33, Try.ntmps33
  go_wp2
  go_ret
  refine ⟨ret_bool ?_, rfl⟩
  rw [← h]
  unfold Td.bt
  have g := rest_u w 1 2 (by omega)
  rw [Int.ediv_one] at g
  show ((IntKind.u64.wrap w).tmod 2 == 1) = _
  rw [g]
  congr 1
  omega
set_option maxHeartbeats 400000 in
theorem says_1 (w : Int) (b : Bool) (W : World) (h : Td.bt w 2 = b) :
    Calls Try.prog 32 #[.int .i64 w, .int .i64 1] W fun e W' => e = .returned (.bool b) ∧ W = W' := by
  go_enter Try.func32, Try.ntmps32
  go_wp2
  go_ret
  refine ⟨ret_bool ?_, rfl⟩
  show (bits BinOp.and IntKind.i64 (w / 2) 1 == 1) = b
  rw [Td.and1, ← h]
  unfold Td.bt
  rfl
set_option maxHeartbeats 400000 in
theorem set_1t (w : Int) (W : World) (h0 : -9223372036854775808 ≤ w) (h1 : w < 9223372036854775808) :
    Calls Try.prog 38 #[.int .i64 w, .int .i64 1, .bool true] W fun e W' => e = .returned (.int .i64 (Td.st w 2 true)) ∧ W = W' := by
  have H := Lib.hid (Td.set2 w h0 h1)
  clear h0 h1
  go_enter Try.func38, Try.ntmps38
  go_wp2
  go_ret
  exact ⟨ret_int H.out.1, rfl⟩
set_option maxHeartbeats 400000 in
theorem set_1f (w : Int) (W : World) (h0 : -9223372036854775808 ≤ w) (h1 : w < 9223372036854775808) :
    Calls Try.prog 38 #[.int .i64 w, .int .i64 1, .bool false] W fun e W' => e = .returned (.int .i64 (Td.st w 2 false)) ∧ W = W' := by
  have H := Lib.hid (Td.set2 w h0 h1)
  clear h0 h1
  go_enter Try.func38, Try.ntmps38
  go_wp2
  go_ret
  exact ⟨ret_int H.out.2, rfl⟩
theorem set_1 (w r : Int) (b : Bool) (W : World) (h0 : -9223372036854775808 ≤ w) (h1 : w < 9223372036854775808) (h : Td.st w 2 b = r) :
    Calls Try.prog 38 #[.int .i64 w, .int .i64 1, .bool b] W fun e W' => e = .returned (.int .i64 r) ∧ W = W' := by
  subst h
  cases b
  · exact set_1f w W h0 h1
  · exact set_1t w W h0 h1
set_option maxHeartbeats 400000 in
theorem bit_1 (w : Int) (b : Bool) (W : World) (h : Td.bt w 2 = b) :
    Calls Try.prog 33 #[.int .i64 w, .int .i64 1] W fun e W' => e = .returned (.bool b) ∧ W = W' := by
  go_enter Try.func33, Try.ntmps33
  go_wp2
  go_ret
  refine ⟨ret_bool ?_, rfl⟩
  rw [← h]
  unfold Td.bt
  show ((IntKind.u64.wrap w / 2).tmod 2 == 1) = _
  rw [rest_u w 2 2 (by omega)]
  congr 1
  omega
set_option maxHeartbeats 400000 in
theorem says_2 (w : Int) (b : Bool) (W : World) (h : Td.bt w 4 = b) :
    Calls Try.prog 32 #[.int .i64 w, .int .i64 2] W fun e W' => e = .returned (.bool b) ∧ W = W' := by
  go_enter Try.func32, Try.ntmps32
  go_wp2
  go_ret
  refine ⟨ret_bool ?_, rfl⟩
  show (bits BinOp.and IntKind.i64 (w / 4) 1 == 1) = b
  rw [Td.and1, ← h]
  unfold Td.bt
  rfl
set_option maxHeartbeats 400000 in
theorem set_2t (w : Int) (W : World) (h0 : -9223372036854775808 ≤ w) (h1 : w < 9223372036854775808) :
    Calls Try.prog 38 #[.int .i64 w, .int .i64 2, .bool true] W fun e W' => e = .returned (.int .i64 (Td.st w 4 true)) ∧ W = W' := by
  have H := Lib.hid (Td.set4 w h0 h1)
  clear h0 h1
  go_enter Try.func38, Try.ntmps38
  go_wp2
  go_ret
  exact ⟨ret_int H.out.1, rfl⟩
set_option maxHeartbeats 400000 in
theorem set_2f (w : Int) (W : World) (h0 : -9223372036854775808 ≤ w) (h1 : w < 9223372036854775808) :
    Calls Try.prog 38 #[.int .i64 w, .int .i64 2, .bool false] W fun e W' => e = .returned (.int .i64 (Td.st w 4 false)) ∧ W = W' := by
  have H := Lib.hid (Td.set4 w h0 h1)
  clear h0 h1
  go_enter Try.func38, Try.ntmps38
  go_wp2
  go_ret
  exact ⟨ret_int H.out.2, rfl⟩
theorem set_2 (w r : Int) (b : Bool) (W : World) (h0 : -9223372036854775808 ≤ w) (h1 : w < 9223372036854775808) (h : Td.st w 4 b = r) :
    Calls Try.prog 38 #[.int .i64 w, .int .i64 2, .bool b] W fun e W' => e = .returned (.int .i64 r) ∧ W = W' := by
  subst h
  cases b
  · exact set_2f w W h0 h1
  · exact set_2t w W h0 h1
set_option maxHeartbeats 400000 in
theorem bit_2 (w : Int) (b : Bool) (W : World) (h : Td.bt w 4 = b) :
    Calls Try.prog 33 #[.int .i64 w, .int .i64 2] W fun e W' => e = .returned (.bool b) ∧ W = W' := by
  go_enter Try.func33, Try.ntmps33
  go_wp2
  go_ret
  refine ⟨ret_bool ?_, rfl⟩
  rw [← h]
  unfold Td.bt
  show ((IntKind.u64.wrap w / 4).tmod 2 == 1) = _
  rw [rest_u w 4 2 (by omega)]
  congr 1
  omega
set_option maxHeartbeats 400000 in
theorem isEpoch_is (w : Int) (b : Bool) (W : World) (h : Td.ins w = b) :
    Calls Try.prog 29 #[.int .i64 w] W fun e W' => e = .returned (.bool b) ∧ W = W' := by
  have H := Lib.hid h
  clear h
  go_enter Try.func29, Try.ntmps29
  go_wp2
  all_goals go_ret
  all_goals refine ⟨ret_bool ?_, rfl⟩
  · rw [← H.out]; unfold Td.ins; show decide (w < 1048576) = _; congr 1; simp; omega
  · rw [← H.out]; unfold Td.ins; show false = _; symm; simp; omega
set_option maxHeartbeats 400000 in
theorem isSeq_is (w : Int) (b : Bool) (W : World) (h : Td.ins w = b) :
    Calls Try.prog 30 #[.int .i64 w] W fun e W' => e = .returned (.bool b) ∧ W = W' := by
  have H := Lib.hid h
  clear h
  go_enter Try.func30, Try.ntmps30
  go_wp2
  all_goals go_ret
  all_goals refine ⟨ret_bool ?_, rfl⟩
  · rw [← H.out]; unfold Td.ins; show decide (w < 1048576) = _; congr 1; simp; omega
  · rw [← H.out]; unfold Td.ins; show false = _; symm; simp; omega
set_option maxHeartbeats 400000 in
theorem bits_3 (w r : Int) (W : World) (h : Td.sq w = r) :
    Calls Try.prog 31 #[.int .i64 w, .int .i64 3] W fun e W' => e = .returned (.int .i64 r) ∧ W = W' := by
  go_enter Try.func31, Try.ntmps31
  go_wp2
  go_ret
  refine ⟨ret_int ?_, rfl⟩
  show wrap64 ((IntKind.u64.wrap w / 8).tmod 1048576) = r
  rw [rest_u w 8 1048576 (by omega), wrap_small _ (by omega) (by omega), ← h]
  unfold Td.sq
  omega
set_option maxHeartbeats 400000 in
theorem bits_23 (w r : Int) (W : World) (h : Td.ep w = r) :
    Calls Try.prog 31 #[.int .i64 w, .int .i64 23] W fun e W' => e = .returned (.int .i64 r) ∧ W = W' := by
  go_enter Try.func31, Try.ntmps31
  go_wp2
  go_ret
  refine ⟨ret_int ?_, rfl⟩
  show wrap64 ((IntKind.u64.wrap w / 8388608).tmod 1048576) = r
  rw [rest_u w 8388608 1048576 (by omega), wrap_small _ (by omega) (by omega), ← h]
  unfold Td.ep
  omega
set_option maxHeartbeats 400000 in
theorem one_true (W : World) :
    Calls Try.prog 35 #[.bool true] W fun e W' => e = .returned (.int .i64 1) ∧ W = W' := by
  go_enter Try.func35, Try.ntmps35
  go_wp2
  go_ret
  exact ⟨rfl, rfl⟩
set_option maxHeartbeats 400000 in
theorem one_false (W : World) :
    Calls Try.prog 35 #[.bool false] W fun e W' => e = .returned (.int .i64 0) ∧ W = W' := by
  go_enter Try.func35, Try.ntmps35
  go_wp2
  go_ret
  exact ⟨rfl, rfl⟩
theorem one_is (b : Bool) (r : Int) (W : World) (h : (if b then 1 else 0) = r) :
    Calls Try.prog 35 #[.bool b] W fun e W' => e = .returned (.int .i64 r) ∧ W = W' := by
  subst h
  cases b
  · exact one_false W
  · exact one_true W
set_option maxHeartbeats 400000 in
theorem epoch_is (w r : Int) (W : World) (h : Td.ep w = r) :
    Calls Try.prog 11 #[.int .i64 w] W fun e W' => e = .returned (.int .i64 r) ∧ W = W' := by
  go_enter Try.func11, Try.ntmps11
  go_wp2
  go_ret
  refine ⟨ret_int ?_, rfl⟩
  show bits BinOp.and IntKind.i64 (w / 8388608) 1048575 = r
  rw [Td.and20, ← h]
  rfl
set_option maxHeartbeats 400000 in
theorem repoch_is (w r : Int) (W : World) (h : Td.ep w = r) :
    Calls Try.prog 12 #[.int .i64 w] W fun e W' => e = .returned (.int .i64 r) ∧ W = W' := by
  go_enter Try.func12, Try.ntmps12
  go_wp2_with fail
  refine (bits_23 w r _ h).mono ?_
  rintro e w' ⟨rfl, rfl⟩
  go_wp2
  go_ret
  exact ⟨rfl, rfl⟩
set_option maxHeartbeats 400000 in
theorem seq_is (w r : Int) (W : World) (h : Td.sq w = r) :
    Calls Try.prog 13 #[.int .i64 w] W fun e W' => e = .returned (.int .i64 r) ∧ W = W' := by
  go_enter Try.func13, Try.ntmps13
  go_wp2
  go_ret
  refine ⟨ret_int ?_, rfl⟩
  show bits BinOp.and IntKind.i64 (w / 8) 1048575 = r
  rw [Td.and20, ← h]
  rfl
set_option maxHeartbeats 400000 in
theorem rseq_is (w r : Int) (W : World) (h : Td.sq w = r) :
    Calls Try.prog 14 #[.int .i64 w] W fun e W' => e = .returned (.int .i64 r) ∧ W = W' := by
  go_enter Try.func14, Try.ntmps14
  go_wp2_with fail
  refine (bits_3 w r _ h).mono ?_
  rintro e w' ⟨rfl, rfl⟩
  go_wp2
  go_ret
  exact ⟨rfl, rfl⟩
set_option maxHeartbeats 400000 in
theorem locked_is (w : Int) (b : Bool) (W : World) (h : Td.bt w 1 = b) :
    Calls Try.prog 15 #[.int .i64 w] W fun e W' => e = .returned (.bool b) ∧ W = W' := by
  go_enter Try.func15, Try.ntmps15
  go_wp2_with fail
  refine (says_0 w b _ h).mono ?_
  rintro e w' ⟨rfl, rfl⟩
  go_wp2
  go_ret
  exact ⟨rfl, rfl⟩
set_option maxHeartbeats 400000 in
theorem rlocked_is (w : Int) (b : Bool) (W : World) (h : Td.bt w 1 = b) :
    Calls Try.prog 16 #[.int .i64 w] W fun e W' => e = .returned (.bool b) ∧ W = W' := by
  go_enter Try.func16, Try.ntmps16
  go_wp2_with fail
  refine (bit_0 w b _ h).mono ?_
  rintro e w' ⟨rfl, rfl⟩
  go_wp2
  go_ret
  exact ⟨rfl, rfl⟩
set_option maxHeartbeats 400000 in
theorem absent_is (w : Int) (b : Bool) (W : World) (h : Td.bt w 2 = b) :
    Calls Try.prog 17 #[.int .i64 w] W fun e W' => e = .returned (.bool b) ∧ W = W' := by
  go_enter Try.func17, Try.ntmps17
  go_wp2_with fail
  refine (says_1 w b _ h).mono ?_
  rintro e w' ⟨rfl, rfl⟩
  go_wp2
  go_ret
  exact ⟨rfl, rfl⟩
set_option maxHeartbeats 400000 in
theorem rabsent_is (w : Int) (b : Bool) (W : World) (h : Td.bt w 2 = b) :
    Calls Try.prog 18 #[.int .i64 w] W fun e W' => e = .returned (.bool b) ∧ W = W' := by
  go_enter Try.func18, Try.ntmps18
  go_wp2_with fail
  refine (bit_1 w b _ h).mono ?_
  rintro e w' ⟨rfl, rfl⟩
  go_wp2
  go_ret
  exact ⟨rfl, rfl⟩
set_option maxHeartbeats 400000 in
theorem dead_is (w : Int) (b : Bool) (W : World) (h : Td.bt w 4 = b) :
    Calls Try.prog 19 #[.int .i64 w] W fun e W' => e = .returned (.bool b) ∧ W = W' := by
  go_enter Try.func19, Try.ntmps19
  go_wp2_with fail
  refine (says_2 w b _ h).mono ?_
  rintro e w' ⟨rfl, rfl⟩
  go_wp2
  go_ret
  exact ⟨rfl, rfl⟩
set_option maxHeartbeats 400000 in
theorem rdead_is (w : Int) (b : Bool) (W : World) (h : Td.bt w 4 = b) :
    Calls Try.prog 20 #[.int .i64 w] W fun e W' => e = .returned (.bool b) ∧ W = W' := by
  go_enter Try.func20, Try.ntmps20
  go_wp2_with fail
  refine (bit_2 w b _ h).mono ?_
  rintro e w' ⟨rfl, rfl⟩
  go_wp2
  go_ret
  exact ⟨rfl, rfl⟩
end Go.Proofs.Ytljgnflmomakaaa
