/-
 What Check answers, for every value; it writes nothing that was there. Condition: the bounds named in the theorems.
 What Zero answers: a kind's own value, or the error.
 What Few of chapter 4 answers; what boxes hold where only memory was made since.
 A value as an argument, opened and shut.
-/
import Derived.Test.YtmgdciihpjifgaaGreatDoorQrVlSame
import Derived.Test.YtmgdciihpjifgaaGreatDoorQrBase
import Derived.Test.YtmgdciihpjifgaaGreatDoorQrUtfCount
import Derived.Deep.QuietTactic
import Derived.BigQuiet
import Derived.Deep.RegionHeld3
import Derived.Deep.DrawnRows
import Derived.ProofKit
import Derived.OpenShut
import Derived.ShutString
import Derived.Deep.DeepHandedRow
import Derived.Lib.LaidTab
import Derived.Lib.SmallJoins
set_option maxHeartbeats 4000000
namespace Go.Proofs.YtmgdciihpjifgaaGreatDoor
open Go.RowKit
attribute [local go_sem ↓] Go.wp_at_zero Go.wp_at_succ
theorem below1 (w : World) (o : Obj) : Below w.heap.size w (w.alloc o) := (Below.refl _ w).alloc (Nat.le_refl _) o
theorem below_drewV {B : Nat} {a w : World} (n : Nat) (h : Below B a w) : Below B a (w.drewN n) := ⟨h.os, h.tape, h.output, h.size, h.block⟩
theorem below_drew1 {B : Nat} {a w : World} (h : Below B a w) : Below B a w.drew := ⟨h.os, h.tape, h.output, h.size, h.block⟩
theorem below_then {w w' : World} {o : Obj} (h : Below (w.alloc o).drew.heap.size (w.alloc o).drew w') : Below w.heap.size w w' :=
 (below_drew1 (below1 w o)).trans (h.mono (by simp))
theorem box_keep {w1 w2 : World} {g : Nat} {a b c d : Value} (hb : Below w1.heap.size w1 w2) (hg : g < w1.heap.size)
  (h : w1.cell? ⟨g, 0, none⟩ = some a ∧ w1.cell? ⟨g, 1, none⟩ = some b ∧ w1.cell? ⟨g, 2, none⟩ = some c ∧ w1.cell? ⟨g, 3, none⟩ = some d) :
  w2.cell? ⟨g, 0, none⟩ = some a ∧ w2.cell? ⟨g, 1, none⟩ = some b ∧ w2.cell? ⟨g, 2, none⟩ = some c ∧ w2.cell? ⟨g, 3, none⟩ = some d := by
 rw [hb.cell (p := ⟨g, 0, none⟩) hg, hb.cell (p := ⟨g, 1, none⟩) hg, hb.cell (p := ⟨g, 2, none⟩) hg, hb.cell (p := ⟨g, 3, none⟩) hg]
 exact h
theorem canon_is (x r : Int) (w : World) (hx : Rl.U x) (h : Rl.cn x = r) :
  Calls Tryz.prog 98 #[.int .u64 x] w fun e w' => e = .returned (.int .u64 r) ∧ w' = w := by
 rw [← h]; exact (canon_any x w hx).mono fun _ _ ⟨a, b⟩ => ⟨a, b.symm⟩
theorem canon_zero (w : World) :
  Calls Tryz.prog 98 #[.int .u64 0] w fun e w' => e = .returned (.int .u64 0) ∧ w' = w := canon_is 0 0 w ⟨by decide, by decide⟩ (by decide)
theorem valid_is (l : List UInt8) (r : Bool) (w : World) (hs : l.length ≤ maxLen) (h : vd l = r) :
  Calls Tryz.prog 99 #[.string ⟨l.toArray⟩] w fun e w' => e = .returned (.bool r) ∧ w = w' := by
 rw [← h]; exact valid_any l w hs
theorem check_kind (k n b : Int) (s : List UInt8) (w : World) (h : k < 0 ∨ 5 < k) :
  Calls Tryz.prog 72 #[.agg #[.int .i64 k, .int .i64 n, .int .u64 b, .string ⟨(s : List UInt8).toArray⟩]] w fun e w' => e = .returned (.int .i64 5) ∧ Below w.heap.size w w' := by
 have H := zh h
 clear h
 go_enter Tryz.func72, Tryz.ntmps72
 go_wp2_with fail
 refine (isKind_f k _ H.out).mono ?_
 rintro e w' ⟨rfl, rfl⟩
 go_wp2
 go_ret
 exact ⟨rfl, below1 _ _⟩
theorem check_form (k n b : Int) (s : List UInt8) (w : World) (h0 : 0 ≤ k) (h1 : k ≤ 5) (hs : Vl.sm k n b s k (on k n) (ob k b) (os k s) = false) :
  Calls Tryz.prog 72 #[.agg #[.int .i64 k, .int .i64 n, .int .u64 b, .string ⟨(s : List UInt8).toArray⟩]] w fun e w' => e = .returned (.int .i64 4) ∧ Below w.heap.size w w' := by
 have K := zh (za h0 h1)
 clear h0 h1
 have E : ∀ w, (Op.equalIn 10000 25 (.agg #[.int .i64 k, .int .i64 n, .int .u64 b, .string ⟨(s : List UInt8).toArray⟩]) (.agg #[.int .i64 k, .int .i64 (on k n), .int .u64 (ob k b), .string ⟨((os k s) : List UInt8).toArray⟩])).run Tryz.prog w = .ok false w := fun w => by rw [eq24, hs]
 clear hs
 go_enter Tryz.func72, Tryz.ntmps72
 go_wp2_with fail
 refine (isKind_t k _ K.out.1 K.out.2).mono ?_
 rintro e w' ⟨rfl, rfl⟩
 go_wp2_with fail
 go_region_held3 (fun w' => w'.cell? ⟨w.heap.size, 0, none⟩ = some (.int .i64 k) ∧ w'.cell? ⟨w.heap.size, 1, none⟩ = some (.int .i64 n) ∧ w'.cell? ⟨w.heap.size, 2, none⟩ = some (.int .u64 b) ∧ w'.cell? ⟨w.heap.size, 3, none⟩ = some (.string ⟨(s : List UInt8).toArray⟩)) (first | go_keep | (refine box_keep hb (by simp) ?_; go_keep))
  (first | (go_at_call 97; refine (own_any k n b s _ K.out.1 K.out.2).mono ?_; rintro e w' ⟨rfl, hb⟩))
 replace hb := zh (below_then hb)
 obtain ⟨c0, c1, c2, c3⟩ := ‹w'.cell? _ = _ ∧ _›
 go_wp2
 go_ret
 exact ⟨rfl, by repeat (first | exact hb.out | refine below_drewV _ ?_)⟩
theorem check_range (n : Int) (w : World) (h0 : n ≠ 0) (h1 : n ≠ 1) :
  Calls Tryz.prog 72 #[.agg #[.int .i64 1, .int .i64 n, .int .u64 0, .string ⟨([] : List UInt8).toArray⟩]] w fun e w' => e = .returned (.int .i64 6) ∧ Below w.heap.size w w' := by
 have hs : Vl.sm 1 n 0 [] 1 n 0 [] = true := by unfold Vl.sm; simp
 have E : ∀ w, (Op.equalIn 10000 25 (.agg #[.int .i64 1, .int .i64 n, .int .u64 0, .string ⟨([] : List UInt8).toArray⟩]) (.agg #[.int .i64 1, .int .i64 n, .int .u64 0, .string ⟨([] : List UInt8).toArray⟩])).run Tryz.prog w = .ok true w := fun w => by rw [eq24, hs]
 clear hs
 have t0 := beq_f h0
 have t1 := beq_f h1
 have t2 := bne_t h0
 have t3 := bne_t h1
 go_enter Tryz.func72, Tryz.ntmps72
 go_wp2_with fail
 refine (isKind_t 1 _ (by decide) (by decide)).mono ?_
 rintro e w' ⟨rfl, rfl⟩
 go_wp2_with fail
 go_region_held3 (fun w' => w'.cell? ⟨w.heap.size, 0, none⟩ = some (.int .i64 1) ∧ w'.cell? ⟨w.heap.size, 1, none⟩ = some (.int .i64 n) ∧ w'.cell? ⟨w.heap.size, 2, none⟩ = some (.int .u64 0) ∧ w'.cell? ⟨w.heap.size, 3, none⟩ = some (.string ⟨([] : List UInt8).toArray⟩)) (first | go_keep | (refine box_keep hb (by simp) ?_; go_keep))
  (first | (go_at_call 97; refine (own_1 n 0 [] _).mono ?_; rintro e w' ⟨rfl, hb⟩))
 replace hb := zh (below_then hb)
 obtain ⟨c0, c1, c2, c3⟩ := ‹w'.cell? _ = _ ∧ _›
 go_wp2
 go_ret
 exact ⟨rfl, by repeat (first | exact hb.out | refine below_drewV _ ?_)⟩
theorem check_bool0 (w : World) :
  Calls Tryz.prog 72 #[.agg #[.int .i64 1, .int .i64 0, .int .u64 0, .string ⟨([] : List UInt8).toArray⟩]] w fun e w' => e = .returned (.int .i64 0) ∧ Below w.heap.size w w' := by
 have hs : Vl.sm 1 0 0 [] 1 0 0 [] = true := by unfold Vl.sm; simp
 have E : ∀ w, (Op.equalIn 10000 25 (.agg #[.int .i64 1, .int .i64 0, .int .u64 0, .string ⟨([] : List UInt8).toArray⟩]) (.agg #[.int .i64 1, .int .i64 0, .int .u64 0, .string ⟨([] : List UInt8).toArray⟩])).run Tryz.prog w = .ok true w := fun w => by rw [eq24, hs]
 clear hs
 go_enter Tryz.func72, Tryz.ntmps72
 go_wp2_with fail
 refine (isKind_t 1 _ (by decide) (by decide)).mono ?_
 rintro e w' ⟨rfl, rfl⟩
 go_wp2_with fail
 go_region_held3 (fun w' => w'.cell? ⟨w.heap.size, 0, none⟩ = some (.int .i64 1) ∧ w'.cell? ⟨w.heap.size, 1, none⟩ = some (.int .i64 0) ∧ w'.cell? ⟨w.heap.size, 2, none⟩ = some (.int .u64 0) ∧ w'.cell? ⟨w.heap.size, 3, none⟩ = some (.string ⟨([] : List UInt8).toArray⟩)) (first | go_keep | (refine box_keep hb (by simp) ?_; go_keep))
  (first | (go_at_call 97; refine (own_1 0 0 [] _).mono ?_; rintro e w' ⟨rfl, hb⟩))
 replace hb := zh (below_then hb)
 obtain ⟨c0, c1, c2, c3⟩ := ‹w'.cell? _ = _ ∧ _›
 go_wp2_with fail
 go_quiet (first | (go_at_call 98; refine Calls.quiet_of_same (canon_zero _)))
 go_wp2
 go_ret
 exact ⟨rfl, by repeat (first | exact hb.out | refine below_drewV _ ?_)⟩
theorem check_bool1 (w : World) :
  Calls Tryz.prog 72 #[.agg #[.int .i64 1, .int .i64 1, .int .u64 0, .string ⟨([] : List UInt8).toArray⟩]] w fun e w' => e = .returned (.int .i64 0) ∧ Below w.heap.size w w' := by
 have hs : Vl.sm 1 1 0 [] 1 1 0 [] = true := by unfold Vl.sm; simp
 have E : ∀ w, (Op.equalIn 10000 25 (.agg #[.int .i64 1, .int .i64 1, .int .u64 0, .string ⟨([] : List UInt8).toArray⟩]) (.agg #[.int .i64 1, .int .i64 1, .int .u64 0, .string ⟨([] : List UInt8).toArray⟩])).run Tryz.prog w = .ok true w := fun w => by rw [eq24, hs]
 clear hs
 go_enter Tryz.func72, Tryz.ntmps72
 go_wp2_with fail
 refine (isKind_t 1 _ (by decide) (by decide)).mono ?_
 rintro e w' ⟨rfl, rfl⟩
 go_wp2_with fail
 go_region_held3 (fun w' => w'.cell? ⟨w.heap.size, 0, none⟩ = some (.int .i64 1) ∧ w'.cell? ⟨w.heap.size, 1, none⟩ = some (.int .i64 1) ∧ w'.cell? ⟨w.heap.size, 2, none⟩ = some (.int .u64 0) ∧ w'.cell? ⟨w.heap.size, 3, none⟩ = some (.string ⟨([] : List UInt8).toArray⟩)) (first | go_keep | (refine box_keep hb (by simp) ?_; go_keep))
  (first | (go_at_call 97; refine (own_1 1 0 [] _).mono ?_; rintro e w' ⟨rfl, hb⟩))
 replace hb := zh (below_then hb)
 obtain ⟨c0, c1, c2, c3⟩ := ‹w'.cell? _ = _ ∧ _›
 go_wp2_with fail
 go_quiet (first | (go_at_call 98; refine Calls.quiet_of_same (canon_zero _)))
 go_wp2
 go_ret
 exact ⟨rfl, by repeat (first | exact hb.out | refine below_drewV _ ?_)⟩
theorem check_canon (k n b : Int) (s : List UInt8) (w : World) (h0 : 0 ≤ k) (h1 : k ≤ 5) (hs : Vl.sm k n b s k (on k n) (ob k b) (os k s) = true) (hB : Rl.U b) (hk : k ≠ 1) (hc : Rl.cn b ≠ b) :
  Calls Tryz.prog 72 #[.agg #[.int .i64 k, .int .i64 n, .int .u64 b, .string ⟨(s : List UInt8).toArray⟩]] w fun e w' => e = .returned (.int .i64 4) ∧ Below w.heap.size w w' := by
 have K := zh (za h0 h1)
 clear h0 h1
 have E : ∀ w, (Op.equalIn 10000 25 (.agg #[.int .i64 k, .int .i64 n, .int .u64 b, .string ⟨(s : List UInt8).toArray⟩]) (.agg #[.int .i64 k, .int .i64 (on k n), .int .u64 (ob k b), .string ⟨((os k s) : List UInt8).toArray⟩])).run Tryz.prog w = .ok true w := fun w => by rw [eq24, hs]
 clear hs
 have B := zh hB
 clear hB
 have k1 := beq_f hk
 have t := beq_f (fun e : b = Rl.cn b => hc e.symm)
 clear hk hc
 go_enter Tryz.func72, Tryz.ntmps72
 go_wp2_with fail
 refine (isKind_t k _ K.out.1 K.out.2).mono ?_
 rintro e w' ⟨rfl, rfl⟩
 go_wp2_with fail
 go_region_held3 (fun w' => w'.cell? ⟨w.heap.size, 0, none⟩ = some (.int .i64 k) ∧ w'.cell? ⟨w.heap.size, 1, none⟩ = some (.int .i64 n) ∧ w'.cell? ⟨w.heap.size, 2, none⟩ = some (.int .u64 b) ∧ w'.cell? ⟨w.heap.size, 3, none⟩ = some (.string ⟨(s : List UInt8).toArray⟩)) (first | go_keep | (refine box_keep hb (by simp) ?_; go_keep))
  (first | (go_at_call 97; refine (own_any k n b s _ K.out.1 K.out.2).mono ?_; rintro e w' ⟨rfl, hb⟩))
 replace hb := zh (below_then hb)
 obtain ⟨c0, c1, c2, c3⟩ := ‹w'.cell? _ = _ ∧ _›
 go_wp2_with fail
 go_quiet (first | (go_at_call 98; refine Calls.quiet_of_same (canon_is _ (Rl.cn b) _ B.out rfl)))
 go_wp2
 go_ret
 exact ⟨rfl, by repeat (first | exact hb.out | refine below_drewV _ ?_)⟩
theorem check_long (k n b : Int) (s : List UInt8) (w : World) (h0 : 0 ≤ k) (h1 : k ≤ 5) (hs : Vl.sm k n b s k (on k n) (ob k b) (os k s) = true) (hB : Rl.U b) (hk : k ≠ 1) (hc : Rl.cn b = b) (hl : 64 < s.length) :
  Calls Tryz.prog 72 #[.agg #[.int .i64 k, .int .i64 n, .int .u64 b, .string ⟨(s : List UInt8).toArray⟩]] w fun e w' => e = .returned (.int .i64 2) ∧ Below w.heap.size w w' := by
 have K := zh (za h0 h1)
 clear h0 h1
 have E : ∀ w, (Op.equalIn 10000 25 (.agg #[.int .i64 k, .int .i64 n, .int .u64 b, .string ⟨(s : List UInt8).toArray⟩]) (.agg #[.int .i64 k, .int .i64 (on k n), .int .u64 (ob k b), .string ⟨((os k s) : List UInt8).toArray⟩])).run Tryz.prog w = .ok true w := fun w => by rw [eq24, hs]
 clear hs
 have B := zh hB
 clear hB
 have C := zh hc
 clear hc
 have k1 := beq_f hk
 have l1 : (64 : Int) < (s.length : Int) := by omega
 clear hk hl
 go_enter Tryz.func72, Tryz.ntmps72
 go_wp2_with fail
 refine (isKind_t k _ K.out.1 K.out.2).mono ?_
 rintro e w' ⟨rfl, rfl⟩
 go_wp2_with fail
 go_region_held3 (fun w' => w'.cell? ⟨w.heap.size, 0, none⟩ = some (.int .i64 k) ∧ w'.cell? ⟨w.heap.size, 1, none⟩ = some (.int .i64 n) ∧ w'.cell? ⟨w.heap.size, 2, none⟩ = some (.int .u64 b) ∧ w'.cell? ⟨w.heap.size, 3, none⟩ = some (.string ⟨(s : List UInt8).toArray⟩)) (first | go_keep | (refine box_keep hb (by simp) ?_; go_keep))
  (first | (go_at_call 97; refine (own_any k n b s _ K.out.1 K.out.2).mono ?_; rintro e w' ⟨rfl, hb⟩))
 replace hb := zh (below_then hb)
 obtain ⟨c0, c1, c2, c3⟩ := ‹w'.cell? _ = _ ∧ _›
 go_wp2_with fail
 go_quiet (first | (go_at_call 98; refine Calls.quiet_of_same (canon_is _ b _ B.out C.out)))
 go_wp2
 go_ret
 exact ⟨rfl, by repeat (first | exact hb.out | refine below_drewV _ ?_)⟩
theorem check_other (k n b : Int) (s : List UInt8) (w : World) (h0 : 0 ≤ k) (h1 : k ≤ 5) (hs : Vl.sm k n b s k (on k n) (ob k b) (os k s) = true) (hB : Rl.U b) (hk : k ≠ 1) (hk5 : k ≠ 5) (hc : Rl.cn b = b) (hl : s.length ≤ 64) :
  Calls Tryz.prog 72 #[.agg #[.int .i64 k, .int .i64 n, .int .u64 b, .string ⟨(s : List UInt8).toArray⟩]] w fun e w' => e = .returned (.int .i64 0) ∧ Below w.heap.size w w' := by
 have K := zh (za h0 h1)
 clear h0 h1
 have E : ∀ w, (Op.equalIn 10000 25 (.agg #[.int .i64 k, .int .i64 n, .int .u64 b, .string ⟨(s : List UInt8).toArray⟩]) (.agg #[.int .i64 k, .int .i64 (on k n), .int .u64 (ob k b), .string ⟨((os k s) : List UInt8).toArray⟩])).run Tryz.prog w = .ok true w := fun w => by rw [eq24, hs]
 clear hs
 have B := zh hB
 clear hB
 have C := zh hc
 clear hc
 have k1 := beq_f hk
 have k5 := beq_f hk5
 have l1 : decide ((64 : Int) < (s.length : Int)) = false := by rw [decide_eq_false_iff_not]; omega
 clear hk hk5 hl
 go_enter Tryz.func72, Tryz.ntmps72
 go_wp2_with fail
 refine (isKind_t k _ K.out.1 K.out.2).mono ?_
 rintro e w' ⟨rfl, rfl⟩
 go_wp2_with fail
 go_region_held3 (fun w' => w'.cell? ⟨w.heap.size, 0, none⟩ = some (.int .i64 k) ∧ w'.cell? ⟨w.heap.size, 1, none⟩ = some (.int .i64 n) ∧ w'.cell? ⟨w.heap.size, 2, none⟩ = some (.int .u64 b) ∧ w'.cell? ⟨w.heap.size, 3, none⟩ = some (.string ⟨(s : List UInt8).toArray⟩)) (first | go_keep | (refine box_keep hb (by simp) ?_; go_keep))
  (first | (go_at_call 97; refine (own_any k n b s _ K.out.1 K.out.2).mono ?_; rintro e w' ⟨rfl, hb⟩))
 replace hb := zh (below_then hb)
 obtain ⟨c0, c1, c2, c3⟩ := ‹w'.cell? _ = _ ∧ _›
 go_wp2_with fail
 go_quiet (first | (go_at_call 98; refine Calls.quiet_of_same (canon_is _ b _ B.out C.out)))
 go_wp2
 go_ret
 exact ⟨rfl, by repeat (first | exact hb.out | refine below_drewV _ ?_)⟩
theorem check_text_false (s : List UInt8) (w : World) (hl : s.length ≤ 64) (hv : vd s = false) :
  Calls Tryz.prog 72 #[.agg #[.int .i64 5, .int .i64 0, .int .u64 0, .string ⟨(s : List UInt8).toArray⟩]] w fun e w' => e = .returned (.int .i64 7) ∧ Below w.heap.size w w' := by
 have hs : Vl.sm 5 0 0 s 5 0 0 s = true := by unfold Vl.sm; simp
 have E : ∀ w, (Op.equalIn 10000 25 (.agg #[.int .i64 5, .int .i64 0, .int .u64 0, .string ⟨(s : List UInt8).toArray⟩]) (.agg #[.int .i64 5, .int .i64 0, .int .u64 0, .string ⟨(s : List UInt8).toArray⟩])).run Tryz.prog w = .ok true w := fun w => by rw [eq24, hs]
 clear hs
 have V := zh hv
 have M := zh (show s.length ≤ maxLen from by unfold maxLen; omega)
 have l1 : decide ((64 : Int) < (s.length : Int)) = false := by rw [decide_eq_false_iff_not]; omega
 clear hv hl
 go_enter Tryz.func72, Tryz.ntmps72
 go_wp2_with fail
 refine (isKind_t 5 _ (by decide) (by decide)).mono ?_
 rintro e w' ⟨rfl, rfl⟩
 go_wp2_with fail
 go_region_held3 (fun w' => w'.cell? ⟨w.heap.size, 0, none⟩ = some (.int .i64 5) ∧ w'.cell? ⟨w.heap.size, 1, none⟩ = some (.int .i64 0) ∧ w'.cell? ⟨w.heap.size, 2, none⟩ = some (.int .u64 0) ∧ w'.cell? ⟨w.heap.size, 3, none⟩ = some (.string ⟨(s : List UInt8).toArray⟩)) (first | go_keep | (refine box_keep hb (by simp) ?_; go_keep))
  (first | (go_at_call 97; refine (own_5 0 0 s _).mono ?_; rintro e w' ⟨rfl, hb⟩))
 replace hb := zh (below_then hb)
 obtain ⟨c0, c1, c2, c3⟩ := ‹w'.cell? _ = _ ∧ _›
 go_wp2_with fail
 go_quiet (first | (go_at_call 98; refine Calls.quiet_of_same (canon_zero _)))
 go_wp2_with fail
 refine (valid_is s false _ M.out V.out).mono ?_
 rintro e w'' ⟨rfl, rfl⟩
 go_wp2
 go_ret
 exact ⟨rfl, by repeat (first | exact hb.out | refine below_drewV _ ?_)⟩
theorem check_text_true (s : List UInt8) (w : World) (hl : s.length ≤ 64) (hv : vd s = true) :
  Calls Tryz.prog 72 #[.agg #[.int .i64 5, .int .i64 0, .int .u64 0, .string ⟨(s : List UInt8).toArray⟩]] w fun e w' => e = .returned (.int .i64 0) ∧ Below w.heap.size w w' := by
 have hs : Vl.sm 5 0 0 s 5 0 0 s = true := by unfold Vl.sm; simp
 have E : ∀ w, (Op.equalIn 10000 25 (.agg #[.int .i64 5, .int .i64 0, .int .u64 0, .string ⟨(s : List UInt8).toArray⟩]) (.agg #[.int .i64 5, .int .i64 0, .int .u64 0, .string ⟨(s : List UInt8).toArray⟩])).run Tryz.prog w = .ok true w := fun w => by rw [eq24, hs]
 clear hs
 have V := zh hv
 have M := zh (show s.length ≤ maxLen from by unfold maxLen; omega)
 have l1 : decide ((64 : Int) < (s.length : Int)) = false := by rw [decide_eq_false_iff_not]; omega
 clear hv hl
 go_enter Tryz.func72, Tryz.ntmps72
 go_wp2_with fail
 refine (isKind_t 5 _ (by decide) (by decide)).mono ?_
 rintro e w' ⟨rfl, rfl⟩
 go_wp2_with fail
 go_region_held3 (fun w' => w'.cell? ⟨w.heap.size, 0, none⟩ = some (.int .i64 5) ∧ w'.cell? ⟨w.heap.size, 1, none⟩ = some (.int .i64 0) ∧ w'.cell? ⟨w.heap.size, 2, none⟩ = some (.int .u64 0) ∧ w'.cell? ⟨w.heap.size, 3, none⟩ = some (.string ⟨(s : List UInt8).toArray⟩)) (first | go_keep | (refine box_keep hb (by simp) ?_; go_keep))
  (first | (go_at_call 97; refine (own_5 0 0 s _).mono ?_; rintro e w' ⟨rfl, hb⟩))
 replace hb := zh (below_then hb)
 obtain ⟨c0, c1, c2, c3⟩ := ‹w'.cell? _ = _ ∧ _›
 go_wp2_with fail
 go_quiet (first | (go_at_call 98; refine Calls.quiet_of_same (canon_zero _)))
 go_wp2_with fail
 refine (valid_is s true _ M.out V.out).mono ?_
 rintro e w'' ⟨rfl, rfl⟩
 go_wp2
 go_ret
 exact ⟨rfl, by repeat (first | exact hb.out | refine below_drewV _ ?_)⟩
theorem sm_own (k n b : Int) (s : List UInt8) : Vl.sm k n b s k (on k n) (ob k b) (os k s) = decide (¬ ((n ≠ 0 ∧ k ≠ 1 ∧ k ≠ 2) ∨ (b ≠ 0 ∧ k ≠ 3) ∨ (s ≠ [] ∧ k ≠ 4 ∧ k ≠ 5))) := by
 unfold Vl.sm on ob os
 rw [decide_eq_decide]
 by_cases e : s = [] <;> by_cases h3 : k = 3 <;> by_cases h4 : k = 4 ∨ k = 5 <;> by_cases h1 : k = 1 ∨ k = 2 <;> simp [e, h1, h3, h4] <;> omega
theorem check_is (k n b r : Int) (s : List UInt8) (w : World) (hB : Rl.U b) (h : Vl.ck k n b s = r) :
  Calls Tryz.prog 72 #[.agg #[.int .i64 k, .int .i64 n, .int .u64 b, .string ⟨(s : List UInt8).toArray⟩]] w fun e w' => e = .returned (.int .i64 r) ∧ Below w.heap.size w w' := by
 subst h
 by_cases c1 : k < 0 ∨ 5 < k
 ·rw [show Vl.ck k n b s = 5 from by unfold Vl.ck; rw [if_pos c1]]
  exact check_kind k n b s w c1
 have h0 : 0 ≤ k := by omega
 have h1 : k ≤ 5 := by omega
 by_cases c2 : (n ≠ 0 ∧ k ≠ 1 ∧ k ≠ 2) ∨ (b ≠ 0 ∧ k ≠ 3) ∨ (s ≠ [] ∧ k ≠ 4 ∧ k ≠ 5)
 ·rw [show Vl.ck k n b s = 4 from by unfold Vl.ck; rw [if_neg c1, if_pos c2]]
  exact check_form k n b s w h0 h1 (by rw [sm_own]; simp only [decide_eq_false_iff_not, Decidable.not_not]; exact c2)
 have hs : Vl.sm k n b s k (on k n) (ob k b) (os k s) = true := by rw [sm_own]; simp only [decide_eq_true_eq]; exact c2
 have e0 : Vl.ck k n b s = if k = 1 ∧ n ≠ 0 ∧ n ≠ 1 then 6 else if k = 3 ∧ Rl.cn b ≠ b then 4 else if 64 < s.length then 2 else if k = 5 ∧ Vl.vd s = false then 7 else 0 := by unfold Vl.ck; rw [if_neg c1, if_neg c2]
 by_cases k1 : k = 1
 ·subst k1
  obtain rfl : b = 0 := by omega
  obtain rfl : s = [] := Decidable.byContradiction fun g => c2 (.inr (.inr ⟨g, by decide, by decide⟩))
  by_cases n0 : n = 0
  ·subst n0
   rw [e0]; exact check_bool0 w
  by_cases n1 : n = 1
  ·subst n1
   rw [e0]; exact check_bool1 w
  rw [e0, if_pos ⟨rfl, n0, n1⟩]
  exact check_range n w n0 n1
 rw [if_neg (by omega)] at e0
 by_cases c3 : Rl.cn b = b
 ·rw [if_neg (by omega)] at e0
  by_cases c4 : 64 < s.length
  ·rw [e0, if_pos c4]
   exact check_long k n b s w h0 h1 hs hB k1 c3 c4
  rw [if_neg c4] at e0
  by_cases k5 : k = 5
  ·subst k5
   obtain rfl : b = 0 := by omega
   obtain rfl : n = 0 := by omega
   by_cases c5 : Vl.vd s = false
   ·rw [e0, if_pos ⟨rfl, c5⟩]
    exact check_text_false s w (by omega) c5
   ·rw [e0, if_neg (fun h => c5 h.2)]
    exact check_text_true s w (by omega) (show Vl.vd s = true from by simpa using c5)
  rw [e0, if_neg (fun h => k5 h.1)]
  exact check_other k n b s w h0 h1 hs hB k1 k5 c3 (by omega)
 ·have k3 : k = 3 := Decidable.byContradiction fun g => by
   have : b = 0 := by omega
   subst this
   exact c3 (by decide)
  rw [e0, if_pos ⟨k3, c3⟩]
  exact check_canon k n b s w h0 h1 hs hB k1 c3
end Go.Proofs.YtmgdciihpjifgaaGreatDoor
namespace Go.Proofs.YtmgdciihpjifgaaGreatDoor
open Go.RowKit
theorem zero_t (k : Int) (w : World) (h0 : 0 ≤ k) (h1 : k ≤ 5) :
  Calls Tryz.prog 150 #[.int .i64 k] w fun e w' => e = .returned (.tuple #[.agg #[.int .i64 k, .int .i64 0, .int .u64 0, .string ⟨#[]⟩], .int .i64 0]) ∧ Below w.heap.size w w' := by
 have H := zh (za h0 h1)
 clear h0 h1
 go_enter Tryz.func150, Tryz.ntmps150
 go_wp2_with fail
 refine (isKind_t k _ H.out.1 H.out.2).mono ?_
 rintro e w'' ⟨rfl, rfl⟩
 go_wp2
 exact bodyPost_ret (v := .tuple #[.agg #[.int .i64 k, .int .i64 0, .int .u64 0, .string ⟨#[]⟩], .int .i64 0]) (by simp [results, Tryz.results150, go_sem]) rfl ⟨rfl, below1 _ _⟩
theorem zero_f (k : Int) (w : World) (h : k < 0 ∨ 5 < k) :
  Calls Tryz.prog 150 #[.int .i64 k] w fun e w' => e = .returned (.tuple #[.agg #[.int .i64 0, .int .i64 0, .int .u64 0, .string ⟨#[]⟩], .int .i64 5]) ∧ Below w.heap.size w w' := by
 have H := zh h
 clear h
 go_enter Tryz.func150, Tryz.ntmps150
 go_wp2_with fail
 refine (isKind_f k _ H.out).mono ?_
 rintro e w'' ⟨rfl, rfl⟩
 go_wp2
 exact bodyPost_ret (v := .tuple #[.agg #[.int .i64 0, .int .i64 0, .int .u64 0, .string ⟨#[]⟩], .int .i64 5]) (by simp [results, Tryz.results150, go_sem]) rfl ⟨rfl, below1 _ _⟩
end Go.Proofs.YtmgdciihpjifgaaGreatDoor
namespace Go.Proofs.YtmgdciihpjifgaaGreatDoor
open Go.RowKit
theorem step1 {w a v : World} {o : Obj} (h : Below w.heap.size w a) (g : Below (a.alloc o).heap.size (a.alloc o) v) : Below w.heap.size w v := (h.alloc h.size o).trans (g.mono (h.alloc h.size o).size)
theorem step0 {w a v : World} (h : Below w.heap.size w a) (g : Below a.heap.size a v) : Below w.heap.size w v := h.trans (g.mono h.size)
theorem cell_lt {w : World} {p : Addr} {x : Value} (h : w.cell? p = some x) : p.block < w.heap.size := by
 rcases Nat.lt_or_ge p.block w.heap.size with e | e
 ·exact e
 ·exfalso
  unfold World.cell? at h
  simp [Array.getElem?_eq_none e] at h
theorem keep0 {a v : World} {p : Addr} {x : Value} (c : a.cell? p = some x) (h : Below a.heap.size a v) : v.cell? p = some x := (h.cell (cell_lt c)).trans c
theorem fresh {v : World} {g : Nat} {k n b : Int} {s : List UInt8} (hg : v.heap.size = g) :
  (v.alloc (Obj.cells #[.int .i64 k, .int .i64 n, .int .u64 b, .string ⟨(s : List UInt8).toArray⟩] 25)).cell? ⟨g, 0, none⟩ = some (.int .i64 k) ∧ (v.alloc (Obj.cells #[.int .i64 k, .int .i64 n, .int .u64 b, .string ⟨(s : List UInt8).toArray⟩] 25)).cell? ⟨g, 1, none⟩ = some (.int .i64 n) ∧ (v.alloc (Obj.cells #[.int .i64 k, .int .i64 n, .int .u64 b, .string ⟨(s : List UInt8).toArray⟩] 25)).cell? ⟨g, 2, none⟩ = some (.int .u64 b) ∧ (v.alloc (Obj.cells #[.int .i64 k, .int .i64 n, .int .u64 b, .string ⟨(s : List UInt8).toArray⟩] 25)).cell? ⟨g, 3, none⟩ = some (.string ⟨(s : List UInt8).toArray⟩) := by subst hg; simp
theorem boxes_1 {w v : World} {k n b : Int} {s : List UInt8} (h : Below (w.alloc (Obj.cells #[.int .i64 k, .int .i64 n, .int .u64 b, .string ⟨(s : List UInt8).toArray⟩] 25)).heap.size (w.alloc (Obj.cells #[.int .i64 k, .int .i64 n, .int .u64 b, .string ⟨(s : List UInt8).toArray⟩] 25)) v) :
  Below (w.alloc (Obj.cells #[.int .i64 k, .int .i64 n, .int .u64 b, .string ⟨(s : List UInt8).toArray⟩] 25)).heap.size (w.alloc (Obj.cells #[.int .i64 k, .int .i64 n, .int .u64 b, .string ⟨(s : List UInt8).toArray⟩] 25)) v ∧ v.cell? ⟨w.heap.size, 0, none⟩ = some (.int .i64 k) ∧ v.cell? ⟨w.heap.size, 1, none⟩ = some (.int .i64 n) ∧ v.cell? ⟨w.heap.size, 2, none⟩ = some (.int .u64 b) ∧ v.cell? ⟨w.heap.size, 3, none⟩ = some (.string ⟨(s : List UInt8).toArray⟩) :=
 ⟨h, keep0 ((fresh rfl).1) h, keep0 ((fresh rfl).2.1) h, keep0 ((fresh rfl).2.2.1) h, keep0 ((fresh rfl).2.2.2) h⟩
theorem old_1 {w v : World} {o0 : Obj} (h : Below (w.alloc o0).heap.size (w.alloc o0) v) : Below w.heap.size w v := step1 (Below.refl _ w) h
theorem old_2 {w v : World} {o0 o1 : Obj} (h : Below ((w.alloc o0).alloc o1).heap.size ((w.alloc o0).alloc o1) v) : Below w.heap.size w v := step1 (below1 w o0) h
end Go.Proofs.YtmgdciihpjifgaaGreatDoor
namespace Go.Proofs.YtmgdciihpjifgaaGreatDoor
open Go.ChangeShapes Go.WideShapes Go.ChangeAt Go.RowKit Go.Joins Go.Deep
section
variable {H : Type} {enc : TypeId × Value → H} {W : World}
end
end Go.Proofs.YtmgdciihpjifgaaGreatDoor
