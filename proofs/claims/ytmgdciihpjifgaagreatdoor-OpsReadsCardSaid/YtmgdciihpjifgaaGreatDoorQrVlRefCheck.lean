/-
 What the document's Check answers, for every value; it writes nothing that was there. Condition: the bounds named in the theorems.
-/
import Derived.Test.YtmgdciihpjifgaaGreatDoorQrVlWorld
import Derived.Test.YtmgdciihpjifgaaGreatDoorQrUtfRefAll
set_option maxHeartbeats 4000000
namespace Go.Proofs.YtmgdciihpjifgaaGreatDoor
open Go.RowKit
theorem refCanon_is (x r : Int) (w : World) (hx : Rl.U x) (h : Rl.cn x = r) :
  Calls Tryz.prog 102 #[.int .u64 x] w fun e w' => e = .returned (.int .u64 r) ∧ w' = w := by
 rw [← h]; exact (refCanon_any x w hx).mono fun _ _ ⟨a, b⟩ => ⟨a, b.symm⟩
theorem rvalid_is (l : List UInt8) (r : Bool) (w : World) (hs : l.length ≤ 8796093022208) (h : vd l = r) :
  Calls Tryz.prog 103 #[.string ⟨l.toArray⟩] w fun e w' => e = .returned (.bool r) ∧ w = w' := by
 rw [← h]; exact rvalid_any l w hs
theorem rcheck_lo (k n b : Int) (s : List UInt8) (w : World) (h : k < 0) :
  Calls Tryz.prog 74 #[.agg #[.int .i64 k, .int .i64 n, .int .u64 b, .string ⟨(s : List UInt8).toArray⟩]] w fun e w' => e = .returned (.int .i64 5) ∧ Below w.heap.size w w' := by
 have k1 : (k == 1) = false := beq_f (by omega)
 have k2 : (k == 2) = false := beq_f (by omega)
 have k4 : (k == 4) = false := beq_f (by omega)
 have k5 : (k == 5) = false := beq_f (by omega)
 go_enter Tryz.func74, Tryz.ntmps74
 go_wp2
 go_ret
 exact ⟨rfl, by repeat (first | exact below1 _ _ | refine below_drewV _ ?_)⟩
theorem rcheck_hi (k n b : Int) (s : List UInt8) (w : World) (h : 5 < k) :
  Calls Tryz.prog 74 #[.agg #[.int .i64 k, .int .i64 n, .int .u64 b, .string ⟨(s : List UInt8).toArray⟩]] w fun e w' => e = .returned (.int .i64 5) ∧ Below w.heap.size w w' := by
 have k1 : (k == 1) = false := beq_f (by omega)
 have k2 : (k == 2) = false := beq_f (by omega)
 have k4 : (k == 4) = false := beq_f (by omega)
 have k5 : (k == 5) = false := beq_f (by omega)
 have k0 : decide (k < 0) = false := by rw [decide_eq_false_iff_not]; omega
 have k6 : (0 : Int) ≤ k := by omega
 go_enter Tryz.func74, Tryz.ntmps74
 go_wp2
 go_ret
 exact ⟨rfl, by repeat (first | exact below1 _ _ | refine below_drewV _ ?_)⟩
theorem rcheck_n_0 (n b : Int) (s : List UInt8) (w : World) (hn : n ≠ 0) :
  Calls Tryz.prog 74 #[.agg #[.int .i64 0, .int .i64 n, .int .u64 b, .string ⟨(s : List UInt8).toArray⟩]] w fun e w' => e = .returned (.int .i64 4) ∧ Below w.heap.size w w' := by
 have n1 := beq_f hn
 have n2 := bne_t hn
 go_enter Tryz.func74, Tryz.ntmps74
 go_wp2
 go_ret
 exact ⟨rfl, by repeat (first | exact below1 _ _ | refine below_drewV _ ?_)⟩
theorem rcheck_b_0 (b : Int) (s : List UInt8) (w : World) (hb : b ≠ 0) :
  Calls Tryz.prog 74 #[.agg #[.int .i64 0, .int .i64 0, .int .u64 b, .string ⟨(s : List UInt8).toArray⟩]] w fun e w' => e = .returned (.int .i64 4) ∧ Below w.heap.size w w' := by
 have b1 := beq_f hb
 have b2 := bne_t hb
 go_enter Tryz.func74, Tryz.ntmps74
 go_wp2
 go_ret
 exact ⟨rfl, by repeat (first | exact below1 _ _ | refine below_drewV _ ?_)⟩
theorem rcheck_s_0 (s : List UInt8) (w : World) (hs : s ≠ []) :
  Calls Tryz.prog 74 #[.agg #[.int .i64 0, .int .i64 0, .int .u64 0, .string ⟨(s : List UInt8).toArray⟩]] w fun e w' => e = .returned (.int .i64 4) ∧ Below w.heap.size w w' := by
 have s1 : (s == []) = false := by rw [beq_eq_false_iff_ne]; exact hs
 have s2 : (s != []) = true := by simpa using hs
 have s3 : ¬ s = [] := hs
 go_enter Tryz.func74, Tryz.ntmps74
 go_wp2
 go_ret
 exact ⟨rfl, by repeat (first | exact below1 _ _ | refine below_drewV _ ?_)⟩
theorem rcheck_ok_0 (w : World) :
  Calls Tryz.prog 74 #[.agg #[.int .i64 0, .int .i64 0, .int .u64 0, .string ⟨([] : List UInt8).toArray⟩]] w fun e w' => e = .returned (.int .i64 0) ∧ Below w.heap.size w w' := by
 go_enter Tryz.func74, Tryz.ntmps74
 go_wp2_with fail
 go_quiet (fail)
 go_wp2
 go_ret
 exact ⟨rfl, by repeat (first | exact below1 _ _ | refine below_drewV _ ?_)⟩
theorem rcheck_b_1 (b : Int) (s : List UInt8) (w : World) (hb : b ≠ 0) :
  Calls Tryz.prog 74 #[.agg #[.int .i64 1, .int .i64 0, .int .u64 b, .string ⟨(s : List UInt8).toArray⟩]] w fun e w' => e = .returned (.int .i64 4) ∧ Below w.heap.size w w' := by
 have b1 := beq_f hb
 have b2 := bne_t hb
 go_enter Tryz.func74, Tryz.ntmps74
 go_wp2
 go_ret
 exact ⟨rfl, by repeat (first | exact below1 _ _ | refine below_drewV _ ?_)⟩
theorem rcheck_s_1 (s : List UInt8) (w : World) (hs : s ≠ []) :
  Calls Tryz.prog 74 #[.agg #[.int .i64 1, .int .i64 0, .int .u64 0, .string ⟨(s : List UInt8).toArray⟩]] w fun e w' => e = .returned (.int .i64 4) ∧ Below w.heap.size w w' := by
 have s1 : (s == []) = false := by rw [beq_eq_false_iff_ne]; exact hs
 have s2 : (s != []) = true := by simpa using hs
 have s3 : ¬ s = [] := hs
 go_enter Tryz.func74, Tryz.ntmps74
 go_wp2
 go_ret
 exact ⟨rfl, by repeat (first | exact below1 _ _ | refine below_drewV _ ?_)⟩
theorem rcheck_ok_1 (w : World) :
  Calls Tryz.prog 74 #[.agg #[.int .i64 1, .int .i64 0, .int .u64 0, .string ⟨([] : List UInt8).toArray⟩]] w fun e w' => e = .returned (.int .i64 0) ∧ Below w.heap.size w w' := by
 go_enter Tryz.func74, Tryz.ntmps74
 go_wp2_with fail
 go_quiet (fail)
 go_wp2
 go_ret
 exact ⟨rfl, by repeat (first | exact below1 _ _ | refine below_drewV _ ?_)⟩
theorem rcheck_b_1n (n : Int) (b : Int) (s : List UInt8) (w : World) (hn : n ≠ 0) (hb : b ≠ 0) :
  Calls Tryz.prog 74 #[.agg #[.int .i64 1, .int .i64 n, .int .u64 b, .string ⟨(s : List UInt8).toArray⟩]] w fun e w' => e = .returned (.int .i64 4) ∧ Below w.heap.size w w' := by
 have n1 := beq_f hn
 have n2 := bne_t hn
 have b1 := beq_f hb
 have b2 := bne_t hb
 go_enter Tryz.func74, Tryz.ntmps74
 go_wp2
 go_ret
 exact ⟨rfl, by repeat (first | exact below1 _ _ | refine below_drewV _ ?_)⟩
theorem rcheck_s_1n (n : Int) (s : List UInt8) (w : World) (hn : n ≠ 0) (hs : s ≠ []) :
  Calls Tryz.prog 74 #[.agg #[.int .i64 1, .int .i64 n, .int .u64 0, .string ⟨(s : List UInt8).toArray⟩]] w fun e w' => e = .returned (.int .i64 4) ∧ Below w.heap.size w w' := by
 have n1 := beq_f hn
 have n2 := bne_t hn
 have s1 : (s == []) = false := by rw [beq_eq_false_iff_ne]; exact hs
 have s2 : (s != []) = true := by simpa using hs
 have s3 : ¬ s = [] := hs
 go_enter Tryz.func74, Tryz.ntmps74
 go_wp2
 go_ret
 exact ⟨rfl, by repeat (first | exact below1 _ _ | refine below_drewV _ ?_)⟩
theorem rcheck_ok_1one (w : World) :
  Calls Tryz.prog 74 #[.agg #[.int .i64 1, .int .i64 1, .int .u64 0, .string ⟨([] : List UInt8).toArray⟩]] w fun e w' => e = .returned (.int .i64 0) ∧ Below w.heap.size w w' := by
 go_enter Tryz.func74, Tryz.ntmps74
 go_wp2_with fail
 go_quiet (fail)
 go_wp2
 go_ret
 exact ⟨rfl, by repeat (first | exact below1 _ _ | refine below_drewV _ ?_)⟩
theorem rcheck_range (n : Int) (w : World) (hn : n ≠ 0) (h1 : n ≠ 1) :
  Calls Tryz.prog 74 #[.agg #[.int .i64 1, .int .i64 n, .int .u64 0, .string ⟨([] : List UInt8).toArray⟩]] w fun e w' => e = .returned (.int .i64 6) ∧ Below w.heap.size w w' := by
 have n1 := beq_f hn
 have n2 := bne_t hn
 have m1 := beq_f h1
 have m2 := bne_t h1
 go_enter Tryz.func74, Tryz.ntmps74
 go_wp2
 go_ret
 exact ⟨rfl, by repeat (first | exact below1 _ _ | refine below_drewV _ ?_)⟩
theorem rcheck_b_2 (b : Int) (s : List UInt8) (w : World) (hb : b ≠ 0) :
  Calls Tryz.prog 74 #[.agg #[.int .i64 2, .int .i64 0, .int .u64 b, .string ⟨(s : List UInt8).toArray⟩]] w fun e w' => e = .returned (.int .i64 4) ∧ Below w.heap.size w w' := by
 have b1 := beq_f hb
 have b2 := bne_t hb
 go_enter Tryz.func74, Tryz.ntmps74
 go_wp2
 go_ret
 exact ⟨rfl, by repeat (first | exact below1 _ _ | refine below_drewV _ ?_)⟩
theorem rcheck_s_2 (s : List UInt8) (w : World) (hs : s ≠ []) :
  Calls Tryz.prog 74 #[.agg #[.int .i64 2, .int .i64 0, .int .u64 0, .string ⟨(s : List UInt8).toArray⟩]] w fun e w' => e = .returned (.int .i64 4) ∧ Below w.heap.size w w' := by
 have s1 : (s == []) = false := by rw [beq_eq_false_iff_ne]; exact hs
 have s2 : (s != []) = true := by simpa using hs
 have s3 : ¬ s = [] := hs
 go_enter Tryz.func74, Tryz.ntmps74
 go_wp2
 go_ret
 exact ⟨rfl, by repeat (first | exact below1 _ _ | refine below_drewV _ ?_)⟩
theorem rcheck_ok_2 (w : World) :
  Calls Tryz.prog 74 #[.agg #[.int .i64 2, .int .i64 0, .int .u64 0, .string ⟨([] : List UInt8).toArray⟩]] w fun e w' => e = .returned (.int .i64 0) ∧ Below w.heap.size w w' := by
 go_enter Tryz.func74, Tryz.ntmps74
 go_wp2_with fail
 go_quiet (fail)
 go_wp2
 go_ret
 exact ⟨rfl, by repeat (first | exact below1 _ _ | refine below_drewV _ ?_)⟩
theorem rcheck_b_2n (n : Int) (b : Int) (s : List UInt8) (w : World) (hn : n ≠ 0) (hb : b ≠ 0) :
  Calls Tryz.prog 74 #[.agg #[.int .i64 2, .int .i64 n, .int .u64 b, .string ⟨(s : List UInt8).toArray⟩]] w fun e w' => e = .returned (.int .i64 4) ∧ Below w.heap.size w w' := by
 have n1 := beq_f hn
 have n2 := bne_t hn
 have b1 := beq_f hb
 have b2 := bne_t hb
 go_enter Tryz.func74, Tryz.ntmps74
 go_wp2
 go_ret
 exact ⟨rfl, by repeat (first | exact below1 _ _ | refine below_drewV _ ?_)⟩
theorem rcheck_s_2n (n : Int) (s : List UInt8) (w : World) (hn : n ≠ 0) (hs : s ≠ []) :
  Calls Tryz.prog 74 #[.agg #[.int .i64 2, .int .i64 n, .int .u64 0, .string ⟨(s : List UInt8).toArray⟩]] w fun e w' => e = .returned (.int .i64 4) ∧ Below w.heap.size w w' := by
 have n1 := beq_f hn
 have n2 := bne_t hn
 have s1 : (s == []) = false := by rw [beq_eq_false_iff_ne]; exact hs
 have s2 : (s != []) = true := by simpa using hs
 have s3 : ¬ s = [] := hs
 go_enter Tryz.func74, Tryz.ntmps74
 go_wp2
 go_ret
 exact ⟨rfl, by repeat (first | exact below1 _ _ | refine below_drewV _ ?_)⟩
theorem rcheck_ok_2n (n : Int) (w : World) (hn : n ≠ 0) :
  Calls Tryz.prog 74 #[.agg #[.int .i64 2, .int .i64 n, .int .u64 0, .string ⟨([] : List UInt8).toArray⟩]] w fun e w' => e = .returned (.int .i64 0) ∧ Below w.heap.size w w' := by
 have n1 := beq_f hn
 have n2 := bne_t hn
 go_enter Tryz.func74, Tryz.ntmps74
 go_wp2_with fail
 go_quiet (fail)
 go_wp2
 go_ret
 exact ⟨rfl, by repeat (first | exact below1 _ _ | refine below_drewV _ ?_)⟩
theorem rcheck_n_3 (n b : Int) (s : List UInt8) (w : World) (hn : n ≠ 0) :
  Calls Tryz.prog 74 #[.agg #[.int .i64 3, .int .i64 n, .int .u64 b, .string ⟨(s : List UInt8).toArray⟩]] w fun e w' => e = .returned (.int .i64 4) ∧ Below w.heap.size w w' := by
 have n1 := beq_f hn
 have n2 := bne_t hn
 go_enter Tryz.func74, Tryz.ntmps74
 go_wp2
 go_ret
 exact ⟨rfl, by repeat (first | exact below1 _ _ | refine below_drewV _ ?_)⟩
theorem rcheck_s_3 (s : List UInt8) (w : World) (hs : s ≠ []) :
  Calls Tryz.prog 74 #[.agg #[.int .i64 3, .int .i64 0, .int .u64 0, .string ⟨(s : List UInt8).toArray⟩]] w fun e w' => e = .returned (.int .i64 4) ∧ Below w.heap.size w w' := by
 have s1 : (s == []) = false := by rw [beq_eq_false_iff_ne]; exact hs
 have s2 : (s != []) = true := by simpa using hs
 have s3 : ¬ s = [] := hs
 go_enter Tryz.func74, Tryz.ntmps74
 go_wp2
 go_ret
 exact ⟨rfl, by repeat (first | exact below1 _ _ | refine below_drewV _ ?_)⟩
theorem rcheck_ok_3 (w : World) :
  Calls Tryz.prog 74 #[.agg #[.int .i64 3, .int .i64 0, .int .u64 0, .string ⟨([] : List UInt8).toArray⟩]] w fun e w' => e = .returned (.int .i64 0) ∧ Below w.heap.size w w' := by
 have C := zh (show Rl.cn 0 = 0 from by decide)
 go_enter Tryz.func74, Tryz.ntmps74
 go_wp2_with fail
 go_quiet (first | (go_at_call 102; refine Calls.quiet_of_same (refCanon_is _ 0 _ ⟨by decide, by decide⟩ C.out)))
 go_wp2
 go_ret
 exact ⟨rfl, by repeat (first | exact below1 _ _ | refine below_drewV _ ?_)⟩
theorem rcheck_s_3b (b : Int) (s : List UInt8) (w : World) (hb : b ≠ 0) (hs : s ≠ []) :
  Calls Tryz.prog 74 #[.agg #[.int .i64 3, .int .i64 0, .int .u64 b, .string ⟨(s : List UInt8).toArray⟩]] w fun e w' => e = .returned (.int .i64 4) ∧ Below w.heap.size w w' := by
 have b1 := beq_f hb
 have b2 := bne_t hb
 have s1 : (s == []) = false := by rw [beq_eq_false_iff_ne]; exact hs
 have s2 : (s != []) = true := by simpa using hs
 have s3 : ¬ s = [] := hs
 go_enter Tryz.func74, Tryz.ntmps74
 go_wp2
 go_ret
 exact ⟨rfl, by repeat (first | exact below1 _ _ | refine below_drewV _ ?_)⟩
theorem rcheck_ok_3b (b : Int) (w : World) (hb : b ≠ 0) (hB : Rl.U b) (hc : Rl.cn b = b) :
  Calls Tryz.prog 74 #[.agg #[.int .i64 3, .int .i64 0, .int .u64 b, .string ⟨([] : List UInt8).toArray⟩]] w fun e w' => e = .returned (.int .i64 0) ∧ Below w.heap.size w w' := by
 have b1 := beq_f hb
 have b2 := bne_t hb
 have B := zh hB
 have C := zh hc
 clear hB hc
 go_enter Tryz.func74, Tryz.ntmps74
 go_wp2_with fail
 go_quiet (first | (go_at_call 102; refine Calls.quiet_of_same (refCanon_is _ b _ B.out C.out)))
 go_wp2
 go_ret
 exact ⟨rfl, by repeat (first | exact below1 _ _ | refine below_drewV _ ?_)⟩
theorem rcheck_canon (b : Int) (w : World) (hb : b ≠ 0) (hB : Rl.U b) (hc : Rl.cn b ≠ b) :
  Calls Tryz.prog 74 #[.agg #[.int .i64 3, .int .i64 0, .int .u64 b, .string ⟨([] : List UInt8).toArray⟩]] w fun e w' => e = .returned (.int .i64 4) ∧ Below w.heap.size w w' := by
 have b1 := beq_f hb
 have b2 := bne_t hb
 have B := zh hB
 have C1 := beq_f hc
 have C2 := bne_t hc
 clear hB hc
 go_enter Tryz.func74, Tryz.ntmps74
 go_wp2_with fail
 go_quiet (first | (go_at_call 102; refine Calls.quiet_of_same (refCanon_is _ (Rl.cn b) _ B.out rfl)))
 go_wp2
 go_ret
 exact ⟨rfl, by repeat (first | exact below1 _ _ | refine below_drewV _ ?_)⟩
theorem rcheck_n_4 (n b : Int) (s : List UInt8) (w : World) (hn : n ≠ 0) :
  Calls Tryz.prog 74 #[.agg #[.int .i64 4, .int .i64 n, .int .u64 b, .string ⟨(s : List UInt8).toArray⟩]] w fun e w' => e = .returned (.int .i64 4) ∧ Below w.heap.size w w' := by
 have n1 := beq_f hn
 have n2 := bne_t hn
 go_enter Tryz.func74, Tryz.ntmps74
 go_wp2
 go_ret
 exact ⟨rfl, by repeat (first | exact below1 _ _ | refine below_drewV _ ?_)⟩
theorem rcheck_b_4 (b : Int) (s : List UInt8) (w : World) (hb : b ≠ 0) :
  Calls Tryz.prog 74 #[.agg #[.int .i64 4, .int .i64 0, .int .u64 b, .string ⟨(s : List UInt8).toArray⟩]] w fun e w' => e = .returned (.int .i64 4) ∧ Below w.heap.size w w' := by
 have b1 := beq_f hb
 have b2 := bne_t hb
 go_enter Tryz.func74, Tryz.ntmps74
 go_wp2
 go_ret
 exact ⟨rfl, by repeat (first | exact below1 _ _ | refine below_drewV _ ?_)⟩
theorem rcheck_ok_4e (w : World) :
  Calls Tryz.prog 74 #[.agg #[.int .i64 4, .int .i64 0, .int .u64 0, .string ⟨([] : List UInt8).toArray⟩]] w fun e w' => e = .returned (.int .i64 0) ∧ Below w.heap.size w w' := by
 go_enter Tryz.func74, Tryz.ntmps74
 go_wp2_with fail
 go_quiet (fail)
 go_wp2
 go_ret
 exact ⟨rfl, by repeat (first | exact below1 _ _ | refine below_drewV _ ?_)⟩
theorem rcheck_long_4 (s : List UInt8) (w : World) (hs : s ≠ []) (hl : 64 < s.length) :
  Calls Tryz.prog 74 #[.agg #[.int .i64 4, .int .i64 0, .int .u64 0, .string ⟨(s : List UInt8).toArray⟩]] w fun e w' => e = .returned (.int .i64 2) ∧ Below w.heap.size w w' := by
 have s1 : (s == []) = false := by rw [beq_eq_false_iff_ne]; exact hs
 have s2 : (s != []) = true := by simpa using hs
 have s3 : ¬ s = [] := hs
 have l1 : (64 : Int) < (s.length : Int) := by omega
 clear hl
 go_enter Tryz.func74, Tryz.ntmps74
 go_wp2_with fail
 go_quiet (fail)
 go_wp2
 go_ret
 exact ⟨rfl, by repeat (first | exact below1 _ _ | refine below_drewV _ ?_)⟩
theorem rcheck_ok_4 (s : List UInt8) (w : World) (hs : s ≠ []) (hl : s.length ≤ 64) :
  Calls Tryz.prog 74 #[.agg #[.int .i64 4, .int .i64 0, .int .u64 0, .string ⟨(s : List UInt8).toArray⟩]] w fun e w' => e = .returned (.int .i64 0) ∧ Below w.heap.size w w' := by
 have s1 : (s == []) = false := by rw [beq_eq_false_iff_ne]; exact hs
 have s2 : (s != []) = true := by simpa using hs
 have s3 : ¬ s = [] := hs
 have l1 : decide ((64 : Int) < (s.length : Int)) = false := by rw [decide_eq_false_iff_not]; omega
 clear hl
 go_enter Tryz.func74, Tryz.ntmps74
 go_wp2_with fail
 go_quiet (fail)
 go_wp2
 go_ret
 exact ⟨rfl, by repeat (first | exact below1 _ _ | refine below_drewV _ ?_)⟩
theorem rcheck_n_5 (n b : Int) (s : List UInt8) (w : World) (hn : n ≠ 0) :
  Calls Tryz.prog 74 #[.agg #[.int .i64 5, .int .i64 n, .int .u64 b, .string ⟨(s : List UInt8).toArray⟩]] w fun e w' => e = .returned (.int .i64 4) ∧ Below w.heap.size w w' := by
 have n1 := beq_f hn
 have n2 := bne_t hn
 go_enter Tryz.func74, Tryz.ntmps74
 go_wp2
 go_ret
 exact ⟨rfl, by repeat (first | exact below1 _ _ | refine below_drewV _ ?_)⟩
theorem rcheck_b_5 (b : Int) (s : List UInt8) (w : World) (hb : b ≠ 0) :
  Calls Tryz.prog 74 #[.agg #[.int .i64 5, .int .i64 0, .int .u64 b, .string ⟨(s : List UInt8).toArray⟩]] w fun e w' => e = .returned (.int .i64 4) ∧ Below w.heap.size w w' := by
 have b1 := beq_f hb
 have b2 := bne_t hb
 go_enter Tryz.func74, Tryz.ntmps74
 go_wp2
 go_ret
 exact ⟨rfl, by repeat (first | exact below1 _ _ | refine below_drewV _ ?_)⟩
theorem rcheck_ok_5e (w : World) :
  Calls Tryz.prog 74 #[.agg #[.int .i64 5, .int .i64 0, .int .u64 0, .string ⟨([] : List UInt8).toArray⟩]] w fun e w' => e = .returned (.int .i64 0) ∧ Below w.heap.size w w' := by
 have V := zh (show vd [] = true from by decide)
 have M := zh (show ([] : List UInt8).length ≤ 8796093022208 from by simp)
 go_enter Tryz.func74, Tryz.ntmps74
 go_wp2_with fail
 go_quiet (fail)
 go_wp2_with fail
 refine (rvalid_is [] true _ M.out V.out).mono ?_
 rintro e w'' ⟨rfl, rfl⟩
 go_wp2
 go_ret
 exact ⟨rfl, by repeat (first | exact below1 _ _ | refine below_drewV _ ?_)⟩
theorem rcheck_long_5 (s : List UInt8) (w : World) (hs : s ≠ []) (hl : 64 < s.length) :
  Calls Tryz.prog 74 #[.agg #[.int .i64 5, .int .i64 0, .int .u64 0, .string ⟨(s : List UInt8).toArray⟩]] w fun e w' => e = .returned (.int .i64 2) ∧ Below w.heap.size w w' := by
 have s1 : (s == []) = false := by rw [beq_eq_false_iff_ne]; exact hs
 have s2 : (s != []) = true := by simpa using hs
 have s3 : ¬ s = [] := hs
 have l1 : (64 : Int) < (s.length : Int) := by omega
 clear hl
 go_enter Tryz.func74, Tryz.ntmps74
 go_wp2_with fail
 go_quiet (fail)
 go_wp2
 go_ret
 exact ⟨rfl, by repeat (first | exact below1 _ _ | refine below_drewV _ ?_)⟩
theorem rcheck_text_true (s : List UInt8) (w : World) (hs : s ≠ []) (hl : s.length ≤ 64) (hv : vd s = true) :
  Calls Tryz.prog 74 #[.agg #[.int .i64 5, .int .i64 0, .int .u64 0, .string ⟨(s : List UInt8).toArray⟩]] w fun e w' => e = .returned (.int .i64 0) ∧ Below w.heap.size w w' := by
 have s1 : (s == []) = false := by rw [beq_eq_false_iff_ne]; exact hs
 have s2 : (s != []) = true := by simpa using hs
 have s3 : ¬ s = [] := hs
 have l1 : decide ((64 : Int) < (s.length : Int)) = false := by rw [decide_eq_false_iff_not]; omega
 have V := zh hv
 have M := zh (show s.length ≤ 8796093022208 from by omega)
 clear hl hv
 go_enter Tryz.func74, Tryz.ntmps74
 go_wp2_with fail
 go_quiet (fail)
 go_wp2_with fail
 refine (rvalid_is s true _ M.out V.out).mono ?_
 rintro e w'' ⟨rfl, rfl⟩
 go_wp2
 go_ret
 exact ⟨rfl, by repeat (first | exact below1 _ _ | refine below_drewV _ ?_)⟩
theorem rcheck_text_false (s : List UInt8) (w : World) (hs : s ≠ []) (hl : s.length ≤ 64) (hv : vd s = false) :
  Calls Tryz.prog 74 #[.agg #[.int .i64 5, .int .i64 0, .int .u64 0, .string ⟨(s : List UInt8).toArray⟩]] w fun e w' => e = .returned (.int .i64 7) ∧ Below w.heap.size w w' := by
 have s1 : (s == []) = false := by rw [beq_eq_false_iff_ne]; exact hs
 have s2 : (s != []) = true := by simpa using hs
 have s3 : ¬ s = [] := hs
 have l1 : decide ((64 : Int) < (s.length : Int)) = false := by rw [decide_eq_false_iff_not]; omega
 have V := zh hv
 have M := zh (show s.length ≤ 8796093022208 from by omega)
 clear hl hv
 go_enter Tryz.func74, Tryz.ntmps74
 go_wp2_with fail
 go_quiet (fail)
 go_wp2_with fail
 refine (rvalid_is s false _ M.out V.out).mono ?_
 rintro e w'' ⟨rfl, rfl⟩
 go_wp2
 go_ret
 exact ⟨rfl, by repeat (first | exact below1 _ _ | refine below_drewV _ ?_)⟩
theorem rcheck_is (k n b r : Int) (s : List UInt8) (w : World) (hB : Rl.U b) (h : Vl.ck k n b s = r) :
  Calls Tryz.prog 74 #[.agg #[.int .i64 k, .int .i64 n, .int .u64 b, .string ⟨(s : List UInt8).toArray⟩]] w fun e w' => e = .returned (.int .i64 r) ∧ Below w.heap.size w w' := by
 subst h
 by_cases c1 : k < 0
 ·rw [show Vl.ck k n b s = 5 from by unfold Vl.ck; rw [if_pos (.inl c1)]]
  exact rcheck_lo k n b s w c1
 by_cases c2 : 5 < k
 ·rw [show Vl.ck k n b s = 5 from by unfold Vl.ck; rw [if_pos (.inr c2)]]
  exact rcheck_hi k n b s w c2
 have form : ((n ≠ 0 ∧ k ≠ 1 ∧ k ≠ 2) ∨ (b ≠ 0 ∧ k ≠ 3) ∨ (s ≠ [] ∧ k ≠ 4 ∧ k ≠ 5)) → Vl.ck k n b s = 4 := fun h => by unfold Vl.ck; rw [if_neg (by omega), if_pos h]
 have rest : ¬ ((n ≠ 0 ∧ k ≠ 1 ∧ k ≠ 2) ∨ (b ≠ 0 ∧ k ≠ 3) ∨ (s ≠ [] ∧ k ≠ 4 ∧ k ≠ 5)) → Vl.ck k n b s = if k = 1 ∧ n ≠ 0 ∧ n ≠ 1 then 6 else if k = 3 ∧ Rl.cn b ≠ b then 4 else if 64 < s.length then 2 else if k = 5 ∧ Vl.vd s = false then 7 else 0 := fun h => by unfold Vl.ck; rw [if_neg (by omega), if_neg h]
 have c : k = 0 ∨ k = 1 ∨ k = 2 ∨ k = 3 ∨ k = 4 ∨ k = 5 := by omega
 clear c1 c2
 rcases c with rfl | rfl | rfl | rfl | rfl | rfl
 ·by_cases hn : n = 0
  ·subst hn
   by_cases hb : b = 0
   ·subst hb
    by_cases hs : s = []
    ·subst hs
     rw [rest (by simp)]
     exact rcheck_ok_0 w 
    ·rw [form (.inr (.inr ⟨hs, by decide, by decide⟩))]
     exact rcheck_s_0 s w hs
   ·rw [form (.inr (.inl ⟨hb, by decide⟩))]
    exact rcheck_b_0 b s w hb
  ·rw [form (.inl ⟨hn, by decide, by decide⟩)]
   exact rcheck_n_0 n b s w hn
 ·by_cases hn : n = 0
  ·subst hn
   by_cases hb : b = 0
   ·subst hb
    by_cases hs : s = []
    ·subst hs
     rw [rest (by simp)]
     exact rcheck_ok_1 w
    ·rw [form (.inr (.inr ⟨hs, by decide, by decide⟩))]
     exact rcheck_s_1 s w hs
   ·rw [form (.inr (.inl ⟨hb, by decide⟩))]
    exact rcheck_b_1 b s w hb
  ·
   by_cases hb : b = 0
   ·subst hb
    by_cases hs : s = []
    ·subst hs
     rw [rest (by simp)]
     by_cases h1 : n = 1
     ·subst h1; exact rcheck_ok_1one w
     ·rw [if_pos ⟨rfl, hn, h1⟩]; exact rcheck_range n w hn h1
    ·rw [form (.inr (.inr ⟨hs, by decide, by decide⟩))]
     exact rcheck_s_1n n s w hn hs
   ·rw [form (.inr (.inl ⟨hb, by decide⟩))]
    exact rcheck_b_1n n b s w hn hb
 ·by_cases hn : n = 0
  ·subst hn
   by_cases hb : b = 0
   ·subst hb
    by_cases hs : s = []
    ·subst hs
     rw [rest (by simp)]
     exact rcheck_ok_2 w 
    ·rw [form (.inr (.inr ⟨hs, by decide, by decide⟩))]
     exact rcheck_s_2 s w hs
   ·rw [form (.inr (.inl ⟨hb, by decide⟩))]
    exact rcheck_b_2 b s w hb
  ·
   by_cases hb : b = 0
   ·subst hb
    by_cases hs : s = []
    ·subst hs
     rw [rest (by simp)]
     exact rcheck_ok_2n n w hn 
    ·rw [form (.inr (.inr ⟨hs, by decide, by decide⟩))]
     exact rcheck_s_2n n s w hn hs
   ·rw [form (.inr (.inl ⟨hb, by decide⟩))]
    exact rcheck_b_2n n b s w hn hb
 ·by_cases hn : n = 0
  ·subst hn
   by_cases hb : b = 0
   ·subst hb
    by_cases hs : s = []
    ·subst hs
     rw [rest (by simp)]
     rw [if_neg (by decide), if_neg (by decide)]
     exact rcheck_ok_3 w
    ·rw [form (.inr (.inr ⟨hs, by decide, by decide⟩))]
     exact rcheck_s_3 s w hs
   ·
    by_cases hs : s = []
    ·subst hs
     rw [rest (by simp)]
     by_cases hc : Rl.cn b = b
     ·rw [if_neg (by decide), if_neg (by rintro ⟨_, h⟩; exact h hc)]; exact rcheck_ok_3b b w hb hB hc
     ·rw [if_neg (by decide), if_pos ⟨rfl, hc⟩]; exact rcheck_canon b w hb hB hc
    ·rw [form (.inr (.inr ⟨hs, by decide, by decide⟩))]
     exact rcheck_s_3b b s w hb hs
  ·rw [form (.inl ⟨hn, by decide, by decide⟩)]
   exact rcheck_n_3 n b s w hn
 ·by_cases hn : n = 0
  ·subst hn
   by_cases hb : b = 0
   ·subst hb
    by_cases hs : s = []
    ·subst hs
     rw [rest (by simp)]
     exact rcheck_ok_4e w
    ·rw [rest (by simp), if_neg (by omega), if_neg (by omega)]
     by_cases hl : 64 < s.length
     ·rw [if_pos hl]; exact rcheck_long_4 s w hs hl
     ·rw [if_neg hl, if_neg (by omega)]; exact rcheck_ok_4 s w hs (by omega)
   ·rw [form (.inr (.inl ⟨hb, by decide⟩))]
    exact rcheck_b_4 b s w hb
  ·rw [form (.inl ⟨hn, by decide, by decide⟩)]
   exact rcheck_n_4 n b s w hn
 ·by_cases hn : n = 0
  ·subst hn
   by_cases hb : b = 0
   ·subst hb
    by_cases hs : s = []
    ·subst hs
     rw [rest (by simp)]
     exact rcheck_ok_5e w
    ·rw [rest (by simp), if_neg (by omega), if_neg (by omega)]
     by_cases hl : 64 < s.length
     ·rw [if_pos hl]; exact rcheck_long_5 s w hs hl
     ·rw [if_neg hl]
      by_cases hv : Vl.vd s = false
      ·rw [if_pos ⟨rfl, hv⟩]; exact rcheck_text_false s w hs (by omega) hv
      ·rw [if_neg (fun h => hv h.2)]; exact rcheck_text_true s w hs (by omega) (show Vl.vd s = true from by simpa using hv)
   ·rw [form (.inr (.inl ⟨hb, by decide⟩))]
    exact rcheck_b_5 b s w hb
  ·rw [form (.inl ⟨hn, by decide, by decide⟩)]
   exact rcheck_n_5 n b s w hn
end Go.Proofs.YtmgdciihpjifgaaGreatDoor
