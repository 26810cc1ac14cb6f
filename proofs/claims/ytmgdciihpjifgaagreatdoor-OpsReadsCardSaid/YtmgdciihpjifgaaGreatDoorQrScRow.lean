/-
 Columns in memory, and whether one may be: whyNoCol, CheckCol, the document's CheckCol. Conditions: a column's Default keeps a value's bounds.
 Rows of columns and of texts that a call owns: made, one more, one stored. Conditions: the bounds named in each theorem.
-/
import Derived.Test.YtmgdciihpjifgaaGreatDoorQrScErr
import Derived.Test.YtmgdciihpjifgaaGreatDoorQrScPlain
import Derived.Test.YtmgdciihpjifgaaGreatDoorQrNmCheck
import Derived.Test.YtmgdciihpjifgaaGreatDoorQrVlRefCheck
import Derived.Laws.OwnMore
import Derived.OwnWalk
set_option maxHeartbeats 1000000
namespace Go.Proofs.YtmgdciihpjifgaaGreatDoor
open Go.RowKit
def C.val (c : C) : Value := .agg #[.string ⟨c.name.toArray⟩, .int .i64 c.kind, .bool c.null, .int .i64 c.d.k, .int .i64 c.d.n, .int .u64 c.d.b, .string ⟨c.d.s.toArray⟩]
def C.cells (c : C) : List Value := [.string ⟨c.name.toArray⟩, .int .i64 c.kind, .bool c.null, .int .i64 c.d.k, .int .i64 c.d.n, .int .u64 c.d.b, .string ⟨c.d.s.toArray⟩]
def AtC (W : World) (p : Addr) (c : C) : Prop :=
 W.cell? p = some (.string ⟨c.name.toArray⟩) ∧ W.cell? ⟨p.block, p.off + 1, none⟩ = some (.int .i64 c.kind) ∧ W.cell? ⟨p.block, p.off + 2, none⟩ = some (.bool c.null) ∧ W.cell? ⟨p.block, p.off + 3, none⟩ = some (.int .i64 c.d.k) ∧ W.cell? ⟨p.block, p.off + 4, none⟩ = some (.int .i64 c.d.n) ∧ W.cell? ⟨p.block, p.off + 5, none⟩ = some (.int .u64 c.d.b) ∧ W.cell? ⟨p.block, p.off + 6, none⟩ = some (.string ⟨c.d.s.toArray⟩)
def SlC (W : World) (ao : Option Addr) (cs : List C) : Prop := ∀ (i : Nat) (c : C), cs[i]? = some c → ∃ a, ao = some a ∧ AtC W (a.add (i * 7)) c
theorem SlC.below {W W' : World} {ao : Option Addr} {cs : List C} (h : SlC W ao cs) (hb : Below W.heap.size W W') : SlC W' ao cs := by
 intro i c hi
 obtain ⟨a, ha, h0, h1, h2, h3, h4, h5, h6⟩ := h i c hi
 exact ⟨a, ha, keep0 h0 hb, keep0 h1 hb, keep0 h2 hb, keep0 h3 hb, keep0 h4 hb, keep0 h5 hb, keep0 h6 hb⟩
theorem cbox {w v : World} {nm : List UInt8} {kd : Int} {nu : Bool} {k n b : Int} {s : List UInt8} (h : Below (w.alloc (.cells #[.string ⟨nm.toArray⟩, .int .i64 kd, .bool nu, .int .i64 k, .int .i64 n, .int .u64 b, .string ⟨s.toArray⟩] 27)).heap.size (w.alloc (.cells #[.string ⟨nm.toArray⟩, .int .i64 kd, .bool nu, .int .i64 k, .int .i64 n, .int .u64 b, .string ⟨s.toArray⟩] 27)) v) :
  v.cell? ⟨w.heap.size, 0, none⟩ = some (.string ⟨nm.toArray⟩) ∧ v.cell? ⟨w.heap.size, 1, none⟩ = some (.int .i64 kd) ∧ v.cell? ⟨w.heap.size, 2, none⟩ = some (.bool nu) ∧ v.cell? ⟨w.heap.size, 3, none⟩ = some (.int .i64 k) ∧ v.cell? ⟨w.heap.size, 4, none⟩ = some (.int .i64 n) ∧ v.cell? ⟨w.heap.size, 5, none⟩ = some (.int .u64 b) ∧ v.cell? ⟨w.heap.size, 6, none⟩ = some (.string ⟨s.toArray⟩) := by
 have g := (Blk.new w #[.string ⟨nm.toArray⟩, .int .i64 kd, .bool nu, .int .i64 k, .int .i64 n, .int .u64 b, .string ⟨s.toArray⟩] 27).below h
 exact ⟨g.cell 0, g.cell 1, g.cell 2, g.cell 3, g.cell 4, g.cell 5, g.cell 6⟩
theorem why_name (nm : List UInt8) (kd : Int) (nu : Bool) (k n b : Int) (s : List UInt8) (E : Int) (h0 : Nm.ck nm = E) (hE : ¬ E = 0) (w : World) :
  Calls Tryz.prog 127 #[.agg #[.string ⟨nm.toArray⟩, .int .i64 kd, .bool nu, .int .i64 k, .int .i64 n, .int .u64 b, .string ⟨s.toArray⟩]] w fun e w' => e = .returned (.iface 171 (.agg #[.int .i64 E])) ∧ Below w.heap.size w w' := by
 go_enter Tryz.func127, Tryz.ntmps127
 go_wp2_with fail
 refine (nm_check_is nm _ _ h0).mono ?_
 rintro e w1 ⟨rfl, rfl⟩
 go_wp2
 go_ret
 exact ⟨rfl, below1 _ _⟩
theorem why_lo (nm : List UInt8) (kd : Int) (nu : Bool) (k n b : Int) (s : List UInt8) (h0 : Nm.ck nm = 0) (h1 : kd < 1) (w : World) :
  Calls Tryz.prog 127 #[.agg #[.string ⟨nm.toArray⟩, .int .i64 kd, .bool nu, .int .i64 k, .int .i64 n, .int .u64 b, .string ⟨s.toArray⟩]] w fun e w' => e = .returned (.iface 171 (.agg #[.int .i64 5])) ∧ Below w.heap.size w w' := by
 go_enter Tryz.func127, Tryz.ntmps127
 go_wp2_with fail
 refine (nm_check_is nm _ _ h0).mono ?_
 rintro e w1 ⟨rfl, rfl⟩
 go_wp2
 go_ret
 exact ⟨rfl, below1 _ _⟩
theorem why_hi (nm : List UInt8) (kd : Int) (nu : Bool) (k n b : Int) (s : List UInt8) (h0 : Nm.ck nm = 0) (h1 : 1 ≤ kd) (h2 : 5 < kd) (w : World) :
  Calls Tryz.prog 127 #[.agg #[.string ⟨nm.toArray⟩, .int .i64 kd, .bool nu, .int .i64 k, .int .i64 n, .int .u64 b, .string ⟨s.toArray⟩]] w fun e w' => e = .returned (.iface 171 (.agg #[.int .i64 5])) ∧ Below w.heap.size w w' := by
 have k1 : decide (kd < 1) = false := by have := h1; rw [decide_eq_false_iff_not]; omega
 go_enter Tryz.func127, Tryz.ntmps127
 go_wp2_with fail
 refine (nm_check_is nm _ _ h0).mono ?_
 rintro e w1 ⟨rfl, rfl⟩
 go_wp2
 go_ret
 exact ⟨rfl, below1 _ _⟩
theorem why_val (nm : List UInt8) (kd : Int) (nu : Bool) (k n b : Int) (s : List UInt8) (h0 : Nm.ck nm = 0) (h1 : 1 ≤ kd) (h2 : kd ≤ 5) (hU : Rl.U b) (E : Int) (h3 : Vl.ck k n b s = E) (hE : ¬ E = 0) (w : World) :
  Calls Tryz.prog 127 #[.agg #[.string ⟨nm.toArray⟩, .int .i64 kd, .bool nu, .int .i64 k, .int .i64 n, .int .u64 b, .string ⟨s.toArray⟩]] w fun e w' => e = .returned (.iface 171 (.agg #[.int .i64 E])) ∧ Below w.heap.size w w' := by
 have k1 : decide (kd < 1) = false := by rw [decide_eq_false_iff_not]; omega
 have k2 : decide ((5 : Int) < kd) = false := by rw [decide_eq_false_iff_not]; omega
 go_enter Tryz.func127, Tryz.ntmps127
 go_wp2_with fail
 refine (nm_check_is nm _ _ h0).mono ?_
 rintro e w1 ⟨rfl, rfl⟩
 go_wp2_with fail
 refine (check_is k n b _ s _ hU h3).mono ?_
 rintro e w2 ⟨rfl, hb2⟩
 have c := cbox hb2
 obtain ⟨c0, c1, c2, c3, c4, c5, c6⟩ := c
 have HB := zh (step1 (Below.refl _ w) hb2)
 clear hb2
 go_wp2
 go_ret
 exact ⟨rfl, HB.out⟩
theorem why_type (nm : List UInt8) (kd : Int) (nu : Bool) (k n b : Int) (s : List UInt8) (h0 : Nm.ck nm = 0) (h1 : 1 ≤ kd) (h2 : kd ≤ 5) (hU : Rl.U b) (h3 : Vl.ck k n b s = 0) (h4 : ¬ k = 0) (h5 : ¬ k = kd) (w : World) :
  Calls Tryz.prog 127 #[.agg #[.string ⟨nm.toArray⟩, .int .i64 kd, .bool nu, .int .i64 k, .int .i64 n, .int .u64 b, .string ⟨s.toArray⟩]] w fun e w' => e = .returned (.iface 171 (.agg #[.int .i64 11])) ∧ Below w.heap.size w w' := by
 have k1 : decide (kd < 1) = false := by rw [decide_eq_false_iff_not]; omega
 have k2 : decide ((5 : Int) < kd) = false := by rw [decide_eq_false_iff_not]; omega
 go_enter Tryz.func127, Tryz.ntmps127
 go_wp2_with fail
 refine (nm_check_is nm _ _ h0).mono ?_
 rintro e w1 ⟨rfl, rfl⟩
 go_wp2_with fail
 refine (check_is k n b _ s _ hU h3).mono ?_
 rintro e w2 ⟨rfl, hb2⟩
 have c := cbox hb2
 obtain ⟨c0, c1, c2, c3, c4, c5, c6⟩ := c
 have HB := zh (step1 (Below.refl _ w) hb2)
 clear hb2
 go_wp2
 ·go_ret
  exact ⟨rfl, HB.out⟩
 ·rename_i g
  exfalso
  rcases g with g | g
  ·exact h4 (by simpa using g)
  ·exact h5 (by simpa using g)
theorem why_ok0 (nm : List UInt8) (kd : Int) (nu : Bool) (k n b : Int) (s : List UInt8) (h0 : Nm.ck nm = 0) (h1 : 1 ≤ kd) (h2 : kd ≤ 5) (hU : Rl.U b) (h3 : Vl.ck k n b s = 0) (h4 : k = 0) (w : World) :
  Calls Tryz.prog 127 #[.agg #[.string ⟨nm.toArray⟩, .int .i64 kd, .bool nu, .int .i64 k, .int .i64 n, .int .u64 b, .string ⟨s.toArray⟩]] w fun e w' => e = .returned (.nilIface) ∧ Below w.heap.size w w' := by
 have k1 : decide (kd < 1) = false := by rw [decide_eq_false_iff_not]; omega
 have k2 : decide ((5 : Int) < kd) = false := by rw [decide_eq_false_iff_not]; omega
 subst h4
 go_enter Tryz.func127, Tryz.ntmps127
 go_wp2_with fail
 refine (nm_check_is nm _ _ h0).mono ?_
 rintro e w1 ⟨rfl, rfl⟩
 go_wp2_with fail
 refine (check_is 0 n b _ s _ hU h3).mono ?_
 rintro e w2 ⟨rfl, hb2⟩
 have c := cbox hb2
 obtain ⟨c0, c1, c2, c3, c4, c5, c6⟩ := c
 have HB := zh (step1 (Below.refl _ w) hb2)
 clear hb2
 go_wp2
 go_ret
 exact ⟨rfl, HB.out⟩
theorem why_ok1 (nm : List UInt8) (kd : Int) (nu : Bool) (k n b : Int) (s : List UInt8) (h0 : Nm.ck nm = 0) (h1 : 1 ≤ kd) (h2 : kd ≤ 5) (hU : Rl.U b) (h3 : Vl.ck k n b s = 0) (h4 : ¬ k = 0) (h5 : k = kd) (w : World) :
  Calls Tryz.prog 127 #[.agg #[.string ⟨nm.toArray⟩, .int .i64 kd, .bool nu, .int .i64 k, .int .i64 n, .int .u64 b, .string ⟨s.toArray⟩]] w fun e w' => e = .returned (.nilIface) ∧ Below w.heap.size w w' := by
 have k1 : decide (kd < 1) = false := by rw [decide_eq_false_iff_not]; omega
 have k2 : decide ((5 : Int) < kd) = false := by rw [decide_eq_false_iff_not]; omega
 subst h5
 go_enter Tryz.func127, Tryz.ntmps127
 go_wp2_with fail
 refine (nm_check_is nm _ _ h0).mono ?_
 rintro e w1 ⟨rfl, rfl⟩
 go_wp2_with fail
 refine (check_is k n b _ s _ hU h3).mono ?_
 rintro e w2 ⟨rfl, hb2⟩
 have c := cbox hb2
 obtain ⟨c0, c1, c2, c3, c4, c5, c6⟩ := c
 have HB := zh (step1 (Below.refl _ w) hb2)
 clear hb2
 go_wp2
 go_ret
 exact ⟨rfl, HB.out⟩
theorem rcol_name (nm : List UInt8) (kd : Int) (nu : Bool) (k n b : Int) (s : List UInt8) (E : Int) (h0 : Nm.ck nm = E) (hE : ¬ E = 0) (w : World) :
  Calls Tryz.prog 87 #[.agg #[.string ⟨nm.toArray⟩, .int .i64 kd, .bool nu, .int .i64 k, .int .i64 n, .int .u64 b, .string ⟨s.toArray⟩]] w fun e w' => e = .returned (.int .i64 E) ∧ Below w.heap.size w w' := by
 go_enter Tryz.func87, Tryz.ntmps87
 go_wp2_with fail
 refine (nm_rcheck_is nm _ _ h0).mono ?_
 rintro e w1 ⟨rfl, rfl⟩
 go_wp2
 go_ret
 exact ⟨rfl, below1 _ _⟩
theorem rcol_lo (nm : List UInt8) (kd : Int) (nu : Bool) (k n b : Int) (s : List UInt8) (h0 : Nm.ck nm = 0) (h1 : kd < 1) (w : World) :
  Calls Tryz.prog 87 #[.agg #[.string ⟨nm.toArray⟩, .int .i64 kd, .bool nu, .int .i64 k, .int .i64 n, .int .u64 b, .string ⟨s.toArray⟩]] w fun e w' => e = .returned (.int .i64 5) ∧ Below w.heap.size w w' := by
 go_enter Tryz.func87, Tryz.ntmps87
 go_wp2_with fail
 refine (nm_rcheck_is nm _ _ h0).mono ?_
 rintro e w1 ⟨rfl, rfl⟩
 go_wp2
 go_ret
 exact ⟨rfl, below1 _ _⟩
theorem rcol_hi (nm : List UInt8) (kd : Int) (nu : Bool) (k n b : Int) (s : List UInt8) (h0 : Nm.ck nm = 0) (h1 : 1 ≤ kd) (h2 : 5 < kd) (w : World) :
  Calls Tryz.prog 87 #[.agg #[.string ⟨nm.toArray⟩, .int .i64 kd, .bool nu, .int .i64 k, .int .i64 n, .int .u64 b, .string ⟨s.toArray⟩]] w fun e w' => e = .returned (.int .i64 5) ∧ Below w.heap.size w w' := by
 have k1 : decide (kd < 1) = false := by have := h1; rw [decide_eq_false_iff_not]; omega
 go_enter Tryz.func87, Tryz.ntmps87
 go_wp2_with fail
 refine (nm_rcheck_is nm _ _ h0).mono ?_
 rintro e w1 ⟨rfl, rfl⟩
 go_wp2
 go_ret
 exact ⟨rfl, below1 _ _⟩
theorem rcol_val (nm : List UInt8) (kd : Int) (nu : Bool) (k n b : Int) (s : List UInt8) (h0 : Nm.ck nm = 0) (h1 : 1 ≤ kd) (h2 : kd ≤ 5) (hU : Rl.U b) (E : Int) (h3 : Vl.ck k n b s = E) (hE : ¬ E = 0) (w : World) :
  Calls Tryz.prog 87 #[.agg #[.string ⟨nm.toArray⟩, .int .i64 kd, .bool nu, .int .i64 k, .int .i64 n, .int .u64 b, .string ⟨s.toArray⟩]] w fun e w' => e = .returned (.int .i64 E) ∧ Below w.heap.size w w' := by
 have k1 : decide (kd < 1) = false := by rw [decide_eq_false_iff_not]; omega
 have k2 : decide ((5 : Int) < kd) = false := by rw [decide_eq_false_iff_not]; omega
 go_enter Tryz.func87, Tryz.ntmps87
 go_wp2_with fail
 refine (nm_rcheck_is nm _ _ h0).mono ?_
 rintro e w1 ⟨rfl, rfl⟩
 go_wp2_with fail
 refine (rcheck_is k n b _ s _ hU h3).mono ?_
 rintro e w2 ⟨rfl, hb2⟩
 have c := cbox hb2
 obtain ⟨c0, c1, c2, c3, c4, c5, c6⟩ := c
 have HB := zh (step1 (Below.refl _ w) hb2)
 clear hb2
 go_wp2
 go_ret
 exact ⟨rfl, HB.out⟩
theorem rcol_type (nm : List UInt8) (kd : Int) (nu : Bool) (k n b : Int) (s : List UInt8) (h0 : Nm.ck nm = 0) (h1 : 1 ≤ kd) (h2 : kd ≤ 5) (hU : Rl.U b) (h3 : Vl.ck k n b s = 0) (h4 : ¬ k = 0) (h5 : ¬ k = kd) (w : World) :
  Calls Tryz.prog 87 #[.agg #[.string ⟨nm.toArray⟩, .int .i64 kd, .bool nu, .int .i64 k, .int .i64 n, .int .u64 b, .string ⟨s.toArray⟩]] w fun e w' => e = .returned (.int .i64 11) ∧ Below w.heap.size w w' := by
 have k1 : decide (kd < 1) = false := by rw [decide_eq_false_iff_not]; omega
 have k2 : decide ((5 : Int) < kd) = false := by rw [decide_eq_false_iff_not]; omega
 go_enter Tryz.func87, Tryz.ntmps87
 go_wp2_with fail
 refine (nm_rcheck_is nm _ _ h0).mono ?_
 rintro e w1 ⟨rfl, rfl⟩
 go_wp2_with fail
 refine (rcheck_is k n b _ s _ hU h3).mono ?_
 rintro e w2 ⟨rfl, hb2⟩
 have c := cbox hb2
 obtain ⟨c0, c1, c2, c3, c4, c5, c6⟩ := c
 have HB := zh (step1 (Below.refl _ w) hb2)
 clear hb2
 go_wp2
 ·go_ret
  exact ⟨rfl, HB.out⟩
 ·rename_i g
  exfalso
  rcases g with g | g
  ·exact h4 (by simpa using g)
  ·exact h5 (by simpa using g)
theorem rcol_ok0 (nm : List UInt8) (kd : Int) (nu : Bool) (k n b : Int) (s : List UInt8) (h0 : Nm.ck nm = 0) (h1 : 1 ≤ kd) (h2 : kd ≤ 5) (hU : Rl.U b) (h3 : Vl.ck k n b s = 0) (h4 : k = 0) (w : World) :
  Calls Tryz.prog 87 #[.agg #[.string ⟨nm.toArray⟩, .int .i64 kd, .bool nu, .int .i64 k, .int .i64 n, .int .u64 b, .string ⟨s.toArray⟩]] w fun e w' => e = .returned (.int .i64 0) ∧ Below w.heap.size w w' := by
 have k1 : decide (kd < 1) = false := by rw [decide_eq_false_iff_not]; omega
 have k2 : decide ((5 : Int) < kd) = false := by rw [decide_eq_false_iff_not]; omega
 subst h4
 go_enter Tryz.func87, Tryz.ntmps87
 go_wp2_with fail
 refine (nm_rcheck_is nm _ _ h0).mono ?_
 rintro e w1 ⟨rfl, rfl⟩
 go_wp2_with fail
 refine (rcheck_is 0 n b _ s _ hU h3).mono ?_
 rintro e w2 ⟨rfl, hb2⟩
 have c := cbox hb2
 obtain ⟨c0, c1, c2, c3, c4, c5, c6⟩ := c
 have HB := zh (step1 (Below.refl _ w) hb2)
 clear hb2
 go_wp2
 go_ret
 exact ⟨rfl, HB.out⟩
theorem rcol_ok1 (nm : List UInt8) (kd : Int) (nu : Bool) (k n b : Int) (s : List UInt8) (h0 : Nm.ck nm = 0) (h1 : 1 ≤ kd) (h2 : kd ≤ 5) (hU : Rl.U b) (h3 : Vl.ck k n b s = 0) (h4 : ¬ k = 0) (h5 : k = kd) (w : World) :
  Calls Tryz.prog 87 #[.agg #[.string ⟨nm.toArray⟩, .int .i64 kd, .bool nu, .int .i64 k, .int .i64 n, .int .u64 b, .string ⟨s.toArray⟩]] w fun e w' => e = .returned (.int .i64 0) ∧ Below w.heap.size w w' := by
 have k1 : decide (kd < 1) = false := by rw [decide_eq_false_iff_not]; omega
 have k2 : decide ((5 : Int) < kd) = false := by rw [decide_eq_false_iff_not]; omega
 subst h5
 go_enter Tryz.func87, Tryz.ntmps87
 go_wp2_with fail
 refine (nm_rcheck_is nm _ _ h0).mono ?_
 rintro e w1 ⟨rfl, rfl⟩
 go_wp2_with fail
 refine (rcheck_is k n b _ s _ hU h3).mono ?_
 rintro e w2 ⟨rfl, hb2⟩
 have c := cbox hb2
 obtain ⟨c0, c1, c2, c3, c4, c5, c6⟩ := c
 have HB := zh (step1 (Below.refl _ w) hb2)
 clear hb2
 go_wp2
 go_ret
 exact ⟨rfl, HB.out⟩
theorem C.ways (c : C) : (∃ E, Nm.ck c.name = E ∧ E ≠ 0 ∧ c.ck = E) ∨ (Nm.ck c.name = 0 ∧ c.kind < 1 ∧ c.ck = 5) ∨ (Nm.ck c.name = 0 ∧ 1 ≤ c.kind ∧ 5 < c.kind ∧ c.ck = 5) ∨
  (Nm.ck c.name = 0 ∧ 1 ≤ c.kind ∧ c.kind ≤ 5 ∧ ((∃ E, c.d.ck = E ∧ E ≠ 0 ∧ c.ck = E) ∨ (c.d.ck = 0 ∧ c.d.k ≠ 0 ∧ c.d.k ≠ c.kind ∧ c.ck = 11) ∨ (c.d.ck = 0 ∧ c.d.k = 0 ∧ c.ck = 0) ∨ (c.d.ck = 0 ∧ c.d.k ≠ 0 ∧ c.d.k = c.kind ∧ c.ck = 0))) := by
 unfold C.ck
 by_cases h0 : Nm.ck c.name = 0
 ·rw [if_neg (by simpa using h0)]
  by_cases h1 : c.kind < 1
  ·exact .inr (.inl ⟨h0, h1, by rw [if_pos (.inl h1)]⟩)
  ·by_cases h2 : 5 < c.kind
   ·exact .inr (.inr (.inl ⟨h0, by omega, h2, by rw [if_pos (.inr h2)]⟩))
   ·refine .inr (.inr (.inr ⟨h0, by omega, by omega, ?_⟩))
    rw [if_neg (by omega)]
    by_cases h3 : c.d.ck = 0
    ·rw [if_neg (by simpa using h3)]
     by_cases h4 : c.d.k = 0
     ·exact .inr (.inr (.inl ⟨h3, h4, by rw [if_neg (by simp [h4])]⟩))
     ·by_cases h5 : c.d.k = c.kind
      ·exact .inr (.inr (.inr ⟨h3, h4, h5, by rw [if_neg (by simp [h5])]⟩))
      ·exact .inr (.inl ⟨h3, h4, h5, by rw [if_pos ⟨h4, h5⟩]⟩)
    ·exact .inl ⟨_, rfl, h3, by rw [if_pos h3]⟩
 ·exact .inl ⟨_, rfl, h0, by rw [if_pos h0]⟩
def C.why (c : C) : Value := if c.ck = 0 then .nilIface else .iface 171 (.agg #[.int .i64 c.ck])
theorem C.why_ok {c : C} (h : c.ck = 0) : c.why = .nilIface := by unfold C.why; rw [if_pos h]
theorem C.why_bad {c : C} {E : Int} (h : c.ck = E) (hE : E ≠ 0) : c.why = .iface 171 (.agg #[.int .i64 E]) := by unfold C.why; rw [if_neg (by omega), h]
theorem whyNoCol_is (c : C) (w : World) (ho : c.d.ok) :
  Calls Tryz.prog 127 #[c.val] w fun e w' => e = .returned c.why ∧ Below w.heap.size w w' := by
 rcases c.ways with ⟨E, h0, hE, e⟩ | ⟨h0, h1, e⟩ | ⟨h0, h1, h2, e⟩ | ⟨h0, h1, h2, ⟨E, h3, hE, e⟩ | ⟨h3, h4, h5, e⟩ | ⟨h3, h4, e⟩ | ⟨h3, h4, h5, e⟩⟩
 ·rw [C.why_bad e hE]; exact why_name _ _ _ _ _ _ _ _ h0 hE w
 ·rw [C.why_bad e (by decide)]; exact why_lo _ _ _ _ _ _ _ h0 h1 w
 ·rw [C.why_bad e (by decide)]; exact why_hi _ _ _ _ _ _ _ h0 h1 h2 w
 ·rw [C.why_bad e hE]; exact why_val _ _ _ _ _ _ _ h0 h1 h2 ho.1 _ h3 hE w
 ·rw [C.why_bad e (by decide)]; exact why_type _ _ _ _ _ _ _ h0 h1 h2 ho.1 h3 h4 h5 w
 ·rw [C.why_ok e]; exact why_ok0 _ _ _ _ _ _ _ h0 h1 h2 ho.1 h3 h4 w
 ·rw [C.why_ok e]; exact why_ok1 _ _ _ _ _ _ _ h0 h1 h2 ho.1 h3 h4 h5 w
theorem rcheckCol_is (c : C) (E : Int) (w : World) (ho : c.d.ok) (hE : c.ck = E) :
  Calls Tryz.prog 87 #[.agg #[.string ⟨c.name.toArray⟩, .int .i64 c.kind, .bool c.null, .int .i64 c.d.k, .int .i64 c.d.n, .int .u64 c.d.b, .string ⟨c.d.s.toArray⟩]] w fun e w' => e = .returned (.int .i64 E) ∧ Below w.heap.size w w' := by
 subst hE
 rcases c.ways with ⟨E, h0, hE, e⟩ | ⟨h0, h1, e⟩ | ⟨h0, h1, h2, e⟩ | ⟨h0, h1, h2, ⟨E, h3, hE, e⟩ | ⟨h3, h4, h5, e⟩ | ⟨h3, h4, e⟩ | ⟨h3, h4, h5, e⟩⟩
 ·rw [e]; exact rcol_name _ _ _ _ _ _ _ _ h0 hE w
 ·rw [e]; exact rcol_lo _ _ _ _ _ _ _ h0 h1 w
 ·rw [e]; exact rcol_hi _ _ _ _ _ _ _ h0 h1 h2 w
 ·rw [e]; exact rcol_val _ _ _ _ _ _ _ h0 h1 h2 ho.1 _ h3 hE w
 ·rw [e]; exact rcol_type _ _ _ _ _ _ _ h0 h1 h2 ho.1 h3 h4 h5 w
 ·rw [e]; exact rcol_ok0 _ _ _ _ _ _ _ h0 h1 h2 ho.1 h3 h4 w
 ·rw [e]; exact rcol_ok1 _ _ _ _ _ _ _ h0 h1 h2 ho.1 h3 h4 h5 w
end Go.Proofs.YtmgdciihpjifgaaGreatDoor
namespace Go.Proofs.YtmgdciihpjifgaaGreatDoor
open Go.RowKit
theorem Tryz.infoC : (Tryz.prog.info? 27).map (fun i => (i.zero, i.size, i.bytes)) = some (some (.agg #[.string ⟨#[]⟩, .int .i64 0, .bool false, .int .i64 0, .int .i64 0, .int .u64 0, .string ⟨#[]⟩]), 7, 72) := by kernel_rfl
def ccs : List C → List Value
 | [] => []
 | x :: xs => x.cells ++ ccs xs
theorem ccs_append (a b : List C) : ccs (a ++ b) = ccs a ++ ccs b := by
 induction a with
 | nil => rfl
 | cons x a ih => simp [ccs, ih]
theorem ccs_len (a : List C) : (ccs a).length = a.length * 7 := by
 induction a with
 | nil => rfl
 | cons x a ih => rw [ccs, List.length_append, ih]; simp [C.cells]; omega
theorem ccs_at : ∀ (xs : List C) (i : Nat) (x : C) (j : Nat), xs[i]? = some x → j < 7 → (ccs xs)[i * 7 + j]? = x.cells[j]?
 | [], i, x, j, h, _ => by simp at h
 | y :: xs, 0, x, j, h, hj => by
  obtain rfl : y = x := by simpa using h
  rw [ccs, List.getElem?_append_left (by simp [C.cells]; omega)]; simp
 | y :: xs, i + 1, x, j, h, hj => by
  rw [ccs, List.getElem?_append_right (by simp [C.cells]; omega), show (i + 1) * 7 + j - y.cells.length = i * 7 + j by simp [C.cells]; omega]
  exact ccs_at xs i x j (by simpa using h) hj
theorem ccs_set : ∀ (xs : List C) (j : Nat) (x : C), j < xs.length → ((((((((ccs xs).set (j * 7) (.string ⟨x.name.toArray⟩)).set (j * 7 + 1) (.int .i64 x.kind)).set (j * 7 + 2) (.bool x.null)).set (j * 7 + 3) (.int .i64 x.d.k)).set (j * 7 + 4) (.int .i64 x.d.n)).set (j * 7 + 5) (.int .u64 x.d.b)).set (j * 7 + 6) (.string ⟨x.d.s.toArray⟩)) = ccs (xs.set j x)
 | [], j, x, h => by simp at h
 | y :: xs, 0, x, _ => by simp [ccs, C.cells]
 | y :: xs, j + 1, x, h => by
  have ih := ccs_set xs j x (by simpa using h)
  have hc : y.cells.length = 7 := rfl
  rw [List.set_cons_succ, ccs, ccs, ← ih]
  rw [List.set_append_right _ _ (by rw [hc]; omega), List.set_append_right _ _ (by rw [hc]; omega), List.set_append_right _ _ (by rw [hc]; omega), List.set_append_right _ _ (by rw [hc]; omega), List.set_append_right _ _ (by rw [hc]; omega), List.set_append_right _ _ (by rw [hc]; omega), List.set_append_right _ _ (by rw [hc]; omega), hc]
  rw [show (j + 1) * 7 - 7 = j * 7 by omega, show (j + 1) * 7 + 1 - 7 = j * 7 + 1 by omega, show (j + 1) * 7 + 2 - 7 = j * 7 + 2 by omega, show (j + 1) * 7 + 3 - 7 = j * 7 + 3 by omega, show (j + 1) * 7 + 4 - 7 = j * 7 + 4 by omega, show (j + 1) * 7 + 5 - 7 = j * 7 + 5 by omega, show (j + 1) * 7 + 6 - 7 = j * 7 + 6 by omega]
def OwC (w : World) (base : Nat) (v : Value) (xs : List C) : Prop := w.ownsRow base 27 7 v xs.length (ccs xs)
theorem owc_nil (w : World) (base : Nat) : OwC w base (.slice none 0 0) [] := World.ownsRow_nil _ _ _ _
theorem OwC.keep {w w' : World} {b : Nat} {v : Value} {l : List C} (h : OwC w b v l) (hb : Below w.heap.size w w') : OwC w' b v l := by
 refine ⟨h.1, ?_⟩
 rcases h.2 with hn | ⟨g, cap, cur, hv, hbg, hg, rest⟩
 ·exact .inl hn
 ·exact .inr ⟨g, cap, cur, hv, hbg, (hb.block g (Array.getElem?_eq_some_iff.1 hg).1).trans hg, rest⟩
theorem OwC.base {w : World} {b b' : Nat} {v : Value} {l : List C} (h : OwC w b v l) (hb : b' ≤ b) : OwC w b' v l := by
 refine ⟨h.1, ?_⟩
 rcases h.2 with hn | ⟨g, cap, cur, hv, hbg, rest⟩
 ·exact .inl hn
 ·exact .inr ⟨g, cap, cur, hv, Nat.le_trans hb hbg, rest⟩
theorem OwC.sl {w : World} {b : Nat} {v : Value} {xs : List C} (h : OwC w b v xs) : ∃ ao cap, v = .slice ao xs.length cap ∧ xs.length ≤ cap ∧ SlC w ao xs := by
 have h' := h
 rcases h.2 with ⟨hv, hn⟩ | ⟨g, cap, cur, hv, _, hg, h1, h2, h3, h4⟩
 ·have e := List.eq_nil_of_length_eq_zero hn
  subst e
  exact ⟨none, 0, hv, Nat.le_refl _, fun i x hi => by simp at hi⟩
 ·refine ⟨some ⟨g, 0, none⟩, cap, hv, ?_, fun i x hi => ⟨⟨g, 0, none⟩, rfl, ?_⟩⟩
  ·first | exact h1 | omega
  ·have c : ∀ j u, j < 7 → x.cells[j]? = some u → w.cell? ⟨g, i * 7 + j, none⟩ = some u := fun j u hj hu => by
    have := World.ownsRow.cells h' (g := g) (by rw [hv]; rfl) (i * 7 + j) u ((ccs_at xs i x j hi hj).trans hu)
    rwa [add_none] at this
   rw [add_none]
   exact ⟨c 0 _ (by decide) rfl, c 1 _ (by decide) rfl, c 2 _ (by decide) rfl, c 3 _ (by decide) rfl, c 4 _ (by decide) rfl, c 5 _ (by decide) rfl, c 6 _ (by decide) rfl⟩
theorem ccs_made (n : Nat) : (madeCells (Value.agg #[.string ⟨#[]⟩, .int .i64 0, .bool false, .int .i64 0, .int .i64 0, .int .u64 0, .string ⟨#[]⟩]).cells (n * 7)).toList = ccs (List.replicate n C0) := by
 have hz : (Value.agg #[.string ⟨#[]⟩, .int .i64 0, .bool false, .int .i64 0, .int .i64 0, .int .u64 0, .string ⟨#[]⟩]).cells = #[.string ⟨#[]⟩, .int .i64 0, .bool false, .int .i64 0, .int .i64 0, .int .u64 0, .string ⟨#[]⟩] := by simp [Value.cells]
 apply List.ext_getElem?
 intro m
 by_cases hm : m < n * 7
 ·obtain ⟨i, j, rfl, hj⟩ : ∃ i j, m = i * 7 + j ∧ j < 7 := ⟨m / 7, m % 7, by omega, by omega⟩
  have hi : i < n := by omega
  rw [ccs_at (List.replicate n C0) i C0 j (by simp [hi]) hj, hz]
  have e : ∀ z : Array Value, (madeCells z (n * 7)).toList[i * 7 + j]? = some (z[(i * 7 + j) % z.size]!) := fun z => by simp [madeCells, hm]
  rw [e]
  show some ((#[.string ⟨#[]⟩, .int .i64 0, .bool false, .int .i64 0, .int .i64 0, .int .u64 0, .string ⟨#[]⟩] : Array Value)[(i * 7 + j) % 7]!) = _
  rw [show (i * 7 + j) % 7 = j by omega]
  have c : j = 0 ∨ j = 1 ∨ j = 2 ∨ j = 3 ∨ j = 4 ∨ j = 5 ∨ j = 6 := by omega
  rcases c with rfl | rfl | rfl | rfl | rfl | rfl | rfl <;> rfl
 ·rw [List.getElem?_eq_none (by simp [madeCells]; omega), List.getElem?_eq_none (by rw [ccs_len]; simp; omega)]
theorem OwC.store {w : World} {b g n cap : Nat} {ys : List C} (h : OwC w b (.slice (some ⟨g, 0, none⟩) n cap) ys) (hn : n = ys.length) (j : Nat) (hj : j < ys.length) (x : C) :
  OwC (((((((w.setCell ⟨g, j * 7, none⟩ (.string ⟨x.name.toArray⟩)).setCell ⟨g, j * 7 + 1, none⟩ (.int .i64 x.kind)).setCell ⟨g, j * 7 + 2, none⟩ (.bool x.null)).setCell ⟨g, j * 7 + 3, none⟩ (.int .i64 x.d.k)).setCell ⟨g, j * 7 + 4, none⟩ (.int .i64 x.d.n)).setCell ⟨g, j * 7 + 5, none⟩ (.int .u64 x.d.b)).setCell ⟨g, j * 7 + 6, none⟩ (.string ⟨x.d.s.toArray⟩)) b (.slice (some ⟨g, 0, none⟩) n cap) (ys.set j x) ∧ b ≤ g ∧ g < w.heap.size ∧ (∀ i, w.frozen? ⟨g, i, none⟩ = false) := by
 subst hn
 unfold OwC at h ⊢
 have h0 := World.ownsRow.stored h (j * 7) (.string ⟨x.name.toArray⟩)
 have h1 := World.ownsRow.stored h0.1 (j * 7 + 1) (.int .i64 x.kind)
 have h2 := World.ownsRow.stored h1.1 (j * 7 + 2) (.bool x.null)
 have h3 := World.ownsRow.stored h2.1 (j * 7 + 3) (.int .i64 x.d.k)
 have h4 := World.ownsRow.stored h3.1 (j * 7 + 4) (.int .i64 x.d.n)
 have h5 := World.ownsRow.stored h4.1 (j * 7 + 5) (.int .u64 x.d.b)
 have h6 := World.ownsRow.stored h5.1 (j * 7 + 6) (.string ⟨x.d.s.toArray⟩)
 have l := World.ownsRow.lt h g rfl
 rw [List.length_set, ← ccs_set ys j x hj]
 exact ⟨h6.1, l.1, l.2, fun i => World.ownsRow.frozenAt h i⟩
theorem OwC.at {w : World} {b g n cap : Nat} {ys : List C} (h : OwC w b (.slice (some ⟨g, 0, none⟩) n cap) ys) (j : Nat) (y : C) (hj : ys[j]? = some y) :
  w.cell? ⟨g, j * 7, none⟩ = some (.string ⟨y.name.toArray⟩) ∧ w.cell? ⟨g, j * 7 + 1, none⟩ = some (.int .i64 y.kind) ∧ w.cell? ⟨g, j * 7 + 2, none⟩ = some (.bool y.null) ∧ w.cell? ⟨g, j * 7 + 3, none⟩ = some (.int .i64 y.d.k) ∧ w.cell? ⟨g, j * 7 + 4, none⟩ = some (.int .i64 y.d.n) ∧ w.cell? ⟨g, j * 7 + 5, none⟩ = some (.int .u64 y.d.b) ∧ w.cell? ⟨g, j * 7 + 6, none⟩ = some (.string ⟨y.d.s.toArray⟩) := by
 have c : ∀ i u, i < 7 → y.cells[i]? = some u → w.cell? ⟨g, j * 7 + i, none⟩ = some u := fun i u hi hu => by
  have := World.ownsRow.cells h (g := g) rfl (j * 7 + i) u ((ccs_at ys j y i hj hi).trans hu)
  rwa [add_none] at this
 exact ⟨c 0 _ (by decide) rfl, c 1 _ (by decide) rfl, c 2 _ (by decide) rfl, c 3 _ (by decide) rfl, c 4 _ (by decide) rfl, c 5 _ (by decide) rfl, c 6 _ (by decide) rfl⟩
theorem below_set {B g : Nat} {a w : World} (h : Below B a w) (hg : B ≤ g) (i : Nat) (v : Value) : Below B a (w.setCell ⟨g, i, none⟩ v) := h.setCell (p := ⟨g, i, none⟩) hg v
theorem set7 {b g : Nat} {w w3 : World} {o0 o1 o2 o3 o4 o5 o6 : Nat} {u0 u1 u2 u3 u4 u5 u6 : Value} (h : Below b w w3) (hg : b ≤ g) : Below b w (((((((w3.setCell ⟨g, o0, none⟩ u0).setCell ⟨g, o1, none⟩ u1).setCell ⟨g, o2, none⟩ u2).setCell ⟨g, o3, none⟩ u3).setCell ⟨g, o4, none⟩ u4).setCell ⟨g, o5, none⟩ u5).setCell ⟨g, o6, none⟩ u6) :=
 ((((((h.setCell (p := ⟨g, o0, none⟩) hg u0).setCell (p := ⟨g, o1, none⟩) hg u1).setCell (p := ⟨g, o2, none⟩) hg u2).setCell (p := ⟨g, o3, none⟩) hg u3).setCell (p := ⟨g, o4, none⟩) hg u4).setCell (p := ⟨g, o5, none⟩) hg u5).setCell (p := ⟨g, o6, none⟩) hg u6
theorem cset_next (done : List C) (N j : Nat) (x : C) (hd : done.length = j) (hj : j < N) : (done ++ List.replicate (N - j) C0).set j x = (done ++ [x]) ++ List.replicate (N - (j + 1)) C0 := by
 rw [List.set_append_right _ _ (by omega), hd, Nat.sub_self, show N - j = (N - (j + 1)) + 1 by omega, List.replicate_succ, List.set_cons_zero, List.append_assoc]
 rfl
section
variable {ops : Array Oper} {rest : List Oper} {o : Oper} {a : Act} {Q : Exit → Act → World → Prop}
theorem appC (hgd : o.guard = none) (s x : Operand) (ho : o.op = .call { callee := .builtin .append, args := #[s, x], argTypes := #[28, 28] })
  (base : Nat) (v : Value) (l : List C) (b : C) (w0 : World) (hs : a.eval s = v) (hown : OwC w0 base v l)
  (G : Nat) (hG : w0.heap.size = G) (hx : a.eval x = .slice (some ⟨G, 0, none⟩) 1 1) (hlen : l.length ≤ 1000000000) (hb : base ≤ w0.heap.size)
  (h : ∀ v' w', OwC w' base v' (l ++ [b]) → Below base w0 w' → wpList Tryz.prog ops Q rest (a.put o.dst v') w') : wpList Tryz.prog ops Q (o :: rest) a (w0.alloc (.cells #[.string ⟨b.name.toArray⟩, .int .i64 b.kind, .bool b.null, .int .i64 b.d.k, .int .i64 b.d.n, .int .u64 b.d.b, .string ⟨b.d.s.toArray⟩] 27)) := by
 subst hG
 obtain ⟨i0, hi, hz0, hz1, hz2⟩ := info_parts Tryz.infoC
 refine wpList_append_own _ hgd s x 28 ho base 27 i0 _ 7 72 Tryz.underlying28 hi hz0 hz1 hz2 rfl (by decide) v _ _ hs (World.ownsRow.alloc hown _) ⟨w0.heap.size, 0, none⟩ 1 1 b.cells hx rfl ?_ ?_ (by unfold maxLen; omega) (by omega) (by simp; omega) ?_
 ·intro j u hj
  match j, hj with
  | 0, hj => simp [C.cells] at hj; subst hj; simp [Addr.add]
  | 1, hj => simp [C.cells] at hj; subst hj; simp [Addr.add]
  | 2, hj => simp [C.cells] at hj; subst hj; simp [Addr.add]
  | 3, hj => simp [C.cells] at hj; subst hj; simp [Addr.add]
  | 4, hj => simp [C.cells] at hj; subst hj; simp [Addr.add]
  | 5, hj => simp [C.cells] at hj; subst hj; simp [Addr.add]
  | 6, hj => simp [C.cells] at hj; subst hj; simp [Addr.add]
  | (j + 7), hj => simp [C.cells] at hj
 ·intro u hu; simp [C.cells] at hu; rcases hu with rfl | rfl | rfl | rfl | rfl | rfl | rfl <;> rfl
 ·intro v' w' hown' hgrow _
  refine h v' w' ?_ (((Below.refl base w0).alloc hb _).grown hgrow (by simp; omega) (fun k hk => (World.ownsRow.lt hown k hk).1))
  unfold OwC
  rw [List.length_append, ccs_append]
  have : ccs [b] = b.cells := by simp [ccs]
  rw [this]; exact hown'
theorem makeC (w : World) (hgd : o.guard = none) (l c : Operand) (ho : o.op = Op.makeSlice 28 l c) (kl kc : IntKind) (L C : Int) (n : Nat) (hl : a.eval l = .int kl L) (hc : a.eval c = .int kc C) (hL : L = (n : Int)) (hC : C = (n : Int)) (hn : n ≤ 1000)
  (h : ∀ g w', w.heap.size = g → OwC w' w.heap.size (.slice (some ⟨g, 0, none⟩) n n) (List.replicate n C0) → Below w.heap.size w w' → wpList Tryz.prog ops Q rest (a.put o.dst (.slice (some ⟨g, 0, none⟩) n n)) w') : wpList Tryz.prog ops Q (o :: rest) a w := by
 obtain ⟨i0, hi, hz0, hz1, hz2⟩ := info_parts Tryz.infoC
 refine wpList_make_full w hgd l c 28 ho w.heap.size 27 i0 _ 7 Tryz.underlying28 hi hz0 hz1 kl kc L C n hl hc hL hC (by rw [hz2]; omega) (by unfold maxLen; omega) (Nat.le_refl _) ?_
 intro w' hown hgr
 refine h _ w' rfl ?_ ((Below.refl _ w).grown hgr (Nat.le_refl _) (fun k hk => by cases hk))
 unfold OwC
 rw [List.length_replicate, ← ccs_made]
 exact hown
theorem makeT (w : World) (hgd : o.guard = none) (l c : Operand) (ho : o.op = Op.makeSlice 22 l c) (kl kc : IntKind) (L C : Int) (n : Nat) (hl : a.eval l = .int kl L) (hc : a.eval c = .int kc C) (hL : L = (n : Int)) (hC : C = (n : Int)) (hn : n ≤ 1000)
  (h : ∀ g w', w.heap.size = g → OwS w' w.heap.size (.slice (some ⟨g, 0, none⟩) n n) (List.replicate n []) → Below w.heap.size w w' → wpList Tryz.prog ops Q rest (a.put o.dst (.slice (some ⟨g, 0, none⟩) n n)) w') : wpList Tryz.prog ops Q (o :: rest) a w := by
 obtain ⟨i0, hi, hz0, hz1, hz2⟩ := info_parts Tryz.infoS
 refine wpList_make_full w hgd l c 22 ho w.heap.size 9 i0 _ 1 Tryz.underlying22 hi hz0 hz1 kl kc L C n hl hc hL hC (by rw [hz2]; omega) (by unfold maxLen; omega) (Nat.le_refl _) ?_
 intro w' hown hgr
 refine h _ w' rfl ?_ ((Below.refl _ w).grown hgr (Nat.le_refl _) (fun k hk => by cases hk))
 unfold OwS
 rw [List.length_replicate, List.map_replicate]
 have e : (madeCells (Value.string ⟨#[]⟩).cells (n * 1)).toList = List.replicate n (tv []) := by
  have hz : (Value.string ⟨#[]⟩).cells = #[.string ⟨#[]⟩] := by simp [Value.cells]
  rw [hz, Nat.mul_one]
  apply List.ext_getElem?
  intro m
  by_cases hm : m < n
  ·have e : ∀ z : Array Value, (madeCells z n).toList[m]? = some (z[m % z.size]!) := fun z => by simp [madeCells, hm]
   rw [e, List.getElem?_replicate, if_pos hm]
   show some ((#[.string ⟨#[]⟩] : Array Value)[m % 1]!) = _
   rw [Nat.mod_one]; rfl
  ·rw [List.getElem?_eq_none (by simp [madeCells]; omega), List.getElem?_eq_none (by simp; omega)]
 rw [← e]
 exact hown
end
theorem OwS.store {w : World} {b g n cap : Nat} {ys : List (List UInt8)} (h : OwS w b (.slice (some ⟨g, 0, none⟩) n cap) ys) (hn : n = ys.length) (j : Nat) (y : List UInt8) (hj : ys[j]? = some y) (x : List UInt8) :
  OwS (w.setCell ⟨g, j, none⟩ (.string ⟨x.toArray⟩)) b (.slice (some ⟨g, 0, none⟩) n cap) (ys.set j x) ∧ b ≤ g ∧ g < w.heap.size ∧ w.frozen? ⟨g, j, none⟩ = false ∧ w.cell? ⟨g, j, none⟩ = some (.string ⟨y.toArray⟩) := by
 subst hn
 have c : w.cell? ⟨g, j, none⟩ = some (.string ⟨y.toArray⟩) := by
  have := World.ownsRow.cells h (g := g) rfl j (tv y) (by rw [List.getElem?_map, hj]; rfl)
  rwa [add_none] at this
 unfold OwS at h ⊢
 have h0 := World.ownsRow.stored h j (.string ⟨x.toArray⟩)
 have l := World.ownsRow.lt h g rfl
 rw [List.length_set, List.map_set]
 exact ⟨h0.1, l.1, l.2, World.ownsRow.frozenAt h j, c⟩
theorem tset_next (done : List (List UInt8)) (N j : Nat) (x : List UInt8) (hd : done.length = j) (hj : j < N) : (done ++ List.replicate (N - j) []).set j x = (done ++ [x]) ++ List.replicate (N - (j + 1)) [] := by
 rw [List.set_append_right _ _ (by omega), hd, Nat.sub_self, show N - j = (N - (j + 1)) + 1 by omega, List.replicate_succ, List.set_cons_zero, List.append_assoc]
 rfl
end Go.Proofs.YtmgdciihpjifgaaGreatDoor
