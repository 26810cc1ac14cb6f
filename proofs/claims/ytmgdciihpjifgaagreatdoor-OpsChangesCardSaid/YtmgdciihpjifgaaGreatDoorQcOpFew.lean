/-
  Few of changes and of what is asked. Conditions: the bounds named in each theorem.
-/
import Derived.Test.YtmgdciihpjifgaaGreatDoorQcOpMemO
import Derived.Test.YtmgdciihpjifgaaGreatDoorQcScRead
import Derived.Test.YtmgdciihpjifgaaGreatDoorQcOpSame
set_option maxHeartbeats 2000000
namespace Go.Proofs.YtmgdciihpjifgaaGreatDoor
open Go.RowKit
set_option linter.unusedVariables false
theorem Blk.e18 {W : World} {B : Nat} {u0 u1 u2 u3 u4 u5 u6 u7 u8 u9 u10 u11 u12 u13 u14 u15 u16 u17 : Value} {t : TypeId} (h : Blk W B #[u0, u1, u2, u3, u4, u5, u6, u7, u8, u9, u10, u11, u12, u13, u14, u15, u16, u17] t) : W.cell? ⟨B, 0, none⟩ = some u0 ∧ W.cell? ⟨B, 1, none⟩ = some u1 ∧ W.cell? ⟨B, 2, none⟩ = some u2 ∧ W.cell? ⟨B, 3, none⟩ = some u3 ∧ W.cell? ⟨B, 4, none⟩ = some u4 ∧ W.cell? ⟨B, 5, none⟩ = some u5 ∧ W.cell? ⟨B, 6, none⟩ = some u6 ∧ W.cell? ⟨B, 7, none⟩ = some u7 ∧ W.cell? ⟨B, 8, none⟩ = some u8 ∧ W.cell? ⟨B, 9, none⟩ = some u9 ∧ W.cell? ⟨B, 10, none⟩ = some u10 ∧ W.cell? ⟨B, 11, none⟩ = some u11 ∧ W.cell? ⟨B, 12, none⟩ = some u12 ∧ W.cell? ⟨B, 13, none⟩ = some u13 ∧ W.cell? ⟨B, 14, none⟩ = some u14 ∧ W.cell? ⟨B, 15, none⟩ = some u15 ∧ W.cell? ⟨B, 16, none⟩ = some u16 ∧ W.cell? ⟨B, 17, none⟩ = some u17 := ⟨h.cell 0, h.cell 1, h.cell 2, h.cell 3, h.cell 4, h.cell 5, h.cell 6, h.cell 7, h.cell 8, h.cell 9, h.cell 10, h.cell 11, h.cell 12, h.cell 13, h.cell 14, h.cell 15, h.cell 16, h.cell 17⟩
theorem Blk.newB (W : World) (B : Nat) (cs : Array Value) (t : TypeId) (h : W.heap.size = B) : Blk (W.alloc (.cells cs t)) B cs t := h ▸ Blk.new W cs t
theorem sls_six {W : World} {G : Nat} {s0 s1 s2 s3 s4 s5 : Nm.S} (h : Blk W G #[.string ⟨s0.toArray⟩, .string ⟨s1.toArray⟩, .string ⟨s2.toArray⟩, .string ⟨s3.toArray⟩, .string ⟨s4.toArray⟩, .string ⟨s5.toArray⟩] 9) : SlS W (some ⟨G, 0, none⟩) [s0, s1, s2, s3, s4, s5] := by
  intro i x hi
  refine ⟨⟨G, 0, none⟩, rfl, ?_⟩
  rw [add_none]
  match i, hi with
  | 0, hi => obtain rfl : s0 = x := by simpa using hi
             exact h.cell 0
  | 1, hi => obtain rfl : s1 = x := by simpa using hi
             exact h.cell 1
  | 2, hi => obtain rfl : s2 = x := by simpa using hi
             exact h.cell 2
  | 3, hi => obtain rfl : s3 = x := by simpa using hi
             exact h.cell 3
  | 4, hi => obtain rfl : s4 = x := by simpa using hi
             exact h.cell 4
  | 5, hi => obtain rfl : s5 = x := by simpa using hi
             exact h.cell 5
  | (i + 6), hi => simp at hi
def Ch.few (c : Ch) : Prop := Fw c.names ∧ Fw [c.table, c.other, c.to, c.also, c.name, c.col.name] ∧ Tb c.df ∧ c.col.d.s.length ≤ 2000
theorem cfew_1 (c : Ch) (no : Option Addr) (nc : Nat) (dO : Option Addr) (dc : Nat) (w : World) (hns : SlS w no c.names) (hdf : SlC w dO c.df.cs) (h1 : ¬ Fw c.names) :
    Calls Tryz.prog 8 #[.agg #[.int .i64 c.kind, .string ⟨c.table.toArray⟩, .string ⟨c.other.toArray⟩, .string ⟨c.to.toArray⟩, .string ⟨c.also.toArray⟩, .string ⟨c.name.toArray⟩, .int .i64 c.type, .slice no c.names.length nc, .string ⟨c.col.name.toArray⟩, .int .i64 c.col.kind, .bool c.col.null, .int .i64 c.col.d.k, .int .i64 c.col.d.n, .int .u64 c.col.d.b, .string ⟨c.col.d.s.toArray⟩, .string ⟨c.df.name.toArray⟩, .int .i64 c.df.keys, .slice dO c.df.cs.length dc]] w fun e w' => e = .returned (.int .i64 0) ∧ Below w.heap.size w w' := by
  have H := Lib.hid (And.intro hns (And.intro hdf (And.intro h1 trivial)))
  obtain ⟨W2, hW2⟩ : ∃ W2, (w.alloc (.cells #[.int .i64 c.kind, .string ⟨c.table.toArray⟩, .string ⟨c.other.toArray⟩, .string ⟨c.to.toArray⟩, .string ⟨c.also.toArray⟩, .string ⟨c.name.toArray⟩, .int .i64 c.type, .slice no c.names.length nc, .string ⟨c.col.name.toArray⟩, .int .i64 c.col.kind, .bool c.col.null, .int .i64 c.col.d.k, .int .i64 c.col.d.n, .int .u64 c.col.d.b, .string ⟨c.col.d.s.toArray⟩, .string ⟨c.df.name.toArray⟩, .int .i64 c.df.keys, .slice dO c.df.cs.length dc] 32)).alloc (.cells #[.string ⟨c.table.toArray⟩, .string ⟨c.other.toArray⟩, .string ⟨c.to.toArray⟩, .string ⟨c.also.toArray⟩, .string ⟨c.name.toArray⟩, .string ⟨c.col.name.toArray⟩] 9) = W2 := ⟨_, rfl⟩
  have q0 : Blk W2 w.heap.size #[.int .i64 c.kind, .string ⟨c.table.toArray⟩, .string ⟨c.other.toArray⟩, .string ⟨c.to.toArray⟩, .string ⟨c.also.toArray⟩, .string ⟨c.name.toArray⟩, .int .i64 c.type, .slice no c.names.length nc, .string ⟨c.col.name.toArray⟩, .int .i64 c.col.kind, .bool c.col.null, .int .i64 c.col.d.k, .int .i64 c.col.d.n, .int .u64 c.col.d.b, .string ⟨c.col.d.s.toArray⟩, .string ⟨c.df.name.toArray⟩, .int .i64 c.df.keys, .slice dO c.df.cs.length dc] 32 := hW2 ▸ (Blk.new w _ _).alloc _
  have q1 : Blk W2 (w.heap.size + 1) #[.string ⟨c.table.toArray⟩, .string ⟨c.other.toArray⟩, .string ⟨c.to.toArray⟩, .string ⟨c.also.toArray⟩, .string ⟨c.name.toArray⟩, .string ⟨c.col.name.toArray⟩] 9 := hW2 ▸ Blk.newB (w.alloc (.cells #[.int .i64 c.kind, .string ⟨c.table.toArray⟩, .string ⟨c.other.toArray⟩, .string ⟨c.to.toArray⟩, .string ⟨c.also.toArray⟩, .string ⟨c.name.toArray⟩, .int .i64 c.type, .slice no c.names.length nc, .string ⟨c.col.name.toArray⟩, .int .i64 c.col.kind, .bool c.col.null, .int .i64 c.col.d.k, .int .i64 c.col.d.n, .int .u64 c.col.d.b, .string ⟨c.col.d.s.toArray⟩, .string ⟨c.df.name.toArray⟩, .int .i64 c.df.keys, .slice dO c.df.cs.length dc] 32)) (w.heap.size + 1) _ _ (by simp)
  have K := Lib.hid (And.intro (show Below w.heap.size w W2 from hW2 ▸ below2s w _ _) (And.intro q0 (sls_six q1)))
  obtain ⟨_, _, _, _, _, _, _, x7, _, _, _, x11, x12, x13, x14, x15, x16, x17⟩ := q0.e18
  clear q0 q1 hns hdf h1
  go_enter Tryz.func8, Tryz.ntmps8
  go_wp2_with fail
  refine (nm_few_no c.names no nc _ (H.out.1.below K.out.1) H.out.2.2.1).mono ?_
  rintro e w1 ⟨rfl, rfl⟩
  go_wp2
  go_ret
  exact ⟨rfl, K.out.1⟩
theorem cfew_2 (c : Ch) (no : Option Addr) (nc : Nat) (dO : Option Addr) (dc : Nat) (w : World) (hns : SlS w no c.names) (hdf : SlC w dO c.df.cs) (h1 : Fw c.names) (h2 : ¬ Fw [c.table, c.other, c.to, c.also, c.name, c.col.name]) :
    Calls Tryz.prog 8 #[.agg #[.int .i64 c.kind, .string ⟨c.table.toArray⟩, .string ⟨c.other.toArray⟩, .string ⟨c.to.toArray⟩, .string ⟨c.also.toArray⟩, .string ⟨c.name.toArray⟩, .int .i64 c.type, .slice no c.names.length nc, .string ⟨c.col.name.toArray⟩, .int .i64 c.col.kind, .bool c.col.null, .int .i64 c.col.d.k, .int .i64 c.col.d.n, .int .u64 c.col.d.b, .string ⟨c.col.d.s.toArray⟩, .string ⟨c.df.name.toArray⟩, .int .i64 c.df.keys, .slice dO c.df.cs.length dc]] w fun e w' => e = .returned (.int .i64 0) ∧ Below w.heap.size w w' := by
  have H := Lib.hid (And.intro hns (And.intro hdf (And.intro h1 h2)))
  obtain ⟨W2, hW2⟩ : ∃ W2, (w.alloc (.cells #[.int .i64 c.kind, .string ⟨c.table.toArray⟩, .string ⟨c.other.toArray⟩, .string ⟨c.to.toArray⟩, .string ⟨c.also.toArray⟩, .string ⟨c.name.toArray⟩, .int .i64 c.type, .slice no c.names.length nc, .string ⟨c.col.name.toArray⟩, .int .i64 c.col.kind, .bool c.col.null, .int .i64 c.col.d.k, .int .i64 c.col.d.n, .int .u64 c.col.d.b, .string ⟨c.col.d.s.toArray⟩, .string ⟨c.df.name.toArray⟩, .int .i64 c.df.keys, .slice dO c.df.cs.length dc] 32)).alloc (.cells #[.string ⟨c.table.toArray⟩, .string ⟨c.other.toArray⟩, .string ⟨c.to.toArray⟩, .string ⟨c.also.toArray⟩, .string ⟨c.name.toArray⟩, .string ⟨c.col.name.toArray⟩] 9) = W2 := ⟨_, rfl⟩
  have q0 : Blk W2 w.heap.size #[.int .i64 c.kind, .string ⟨c.table.toArray⟩, .string ⟨c.other.toArray⟩, .string ⟨c.to.toArray⟩, .string ⟨c.also.toArray⟩, .string ⟨c.name.toArray⟩, .int .i64 c.type, .slice no c.names.length nc, .string ⟨c.col.name.toArray⟩, .int .i64 c.col.kind, .bool c.col.null, .int .i64 c.col.d.k, .int .i64 c.col.d.n, .int .u64 c.col.d.b, .string ⟨c.col.d.s.toArray⟩, .string ⟨c.df.name.toArray⟩, .int .i64 c.df.keys, .slice dO c.df.cs.length dc] 32 := hW2 ▸ (Blk.new w _ _).alloc _
  have q1 : Blk W2 (w.heap.size + 1) #[.string ⟨c.table.toArray⟩, .string ⟨c.other.toArray⟩, .string ⟨c.to.toArray⟩, .string ⟨c.also.toArray⟩, .string ⟨c.name.toArray⟩, .string ⟨c.col.name.toArray⟩] 9 := hW2 ▸ Blk.newB (w.alloc (.cells #[.int .i64 c.kind, .string ⟨c.table.toArray⟩, .string ⟨c.other.toArray⟩, .string ⟨c.to.toArray⟩, .string ⟨c.also.toArray⟩, .string ⟨c.name.toArray⟩, .int .i64 c.type, .slice no c.names.length nc, .string ⟨c.col.name.toArray⟩, .int .i64 c.col.kind, .bool c.col.null, .int .i64 c.col.d.k, .int .i64 c.col.d.n, .int .u64 c.col.d.b, .string ⟨c.col.d.s.toArray⟩, .string ⟨c.df.name.toArray⟩, .int .i64 c.df.keys, .slice dO c.df.cs.length dc] 32)) (w.heap.size + 1) _ _ (by simp)
  have K := Lib.hid (And.intro (show Below w.heap.size w W2 from hW2 ▸ below2s w _ _) (And.intro q0 (sls_six q1)))
  obtain ⟨_, _, _, _, _, _, _, x7, _, _, _, x11, x12, x13, x14, x15, x16, x17⟩ := q0.e18
  clear q0 q1 hns hdf h1 h2
  go_enter Tryz.func8, Tryz.ntmps8
  go_wp2_with fail
  refine (nm_few_yes c.names no nc _ (H.out.1.below K.out.1) H.out.2.2.1).mono ?_
  rintro e w1 ⟨rfl, rfl⟩
  go_wp2_with fail
  refine (nm_few_no [c.table, c.other, c.to, c.also, c.name, c.col.name] (some ⟨w.heap.size + 1, 0, none⟩) 6 _ K.out.2.2 H.out.2.2.2).mono ?_
  rintro e w1 ⟨rfl, rfl⟩
  go_wp2
  go_ret
  exact ⟨rfl, K.out.1⟩
theorem cfew_3 (c : Ch) (no : Option Addr) (nc : Nat) (dO : Option Addr) (dc : Nat) (w : World) (hns : SlS w no c.names) (hdf : SlC w dO c.df.cs) (h1 : Fw c.names) (h2 : Fw [c.table, c.other, c.to, c.also, c.name, c.col.name]) (h3 : ¬ Tb c.df) :
    Calls Tryz.prog 8 #[.agg #[.int .i64 c.kind, .string ⟨c.table.toArray⟩, .string ⟨c.other.toArray⟩, .string ⟨c.to.toArray⟩, .string ⟨c.also.toArray⟩, .string ⟨c.name.toArray⟩, .int .i64 c.type, .slice no c.names.length nc, .string ⟨c.col.name.toArray⟩, .int .i64 c.col.kind, .bool c.col.null, .int .i64 c.col.d.k, .int .i64 c.col.d.n, .int .u64 c.col.d.b, .string ⟨c.col.d.s.toArray⟩, .string ⟨c.df.name.toArray⟩, .int .i64 c.df.keys, .slice dO c.df.cs.length dc]] w fun e w' => e = .returned (.int .i64 0) ∧ Below w.heap.size w w' := by
  have H := Lib.hid (And.intro hns (And.intro hdf (And.intro h1 (And.intro h2 h3))))
  obtain ⟨W2, hW2⟩ : ∃ W2, (w.alloc (.cells #[.int .i64 c.kind, .string ⟨c.table.toArray⟩, .string ⟨c.other.toArray⟩, .string ⟨c.to.toArray⟩, .string ⟨c.also.toArray⟩, .string ⟨c.name.toArray⟩, .int .i64 c.type, .slice no c.names.length nc, .string ⟨c.col.name.toArray⟩, .int .i64 c.col.kind, .bool c.col.null, .int .i64 c.col.d.k, .int .i64 c.col.d.n, .int .u64 c.col.d.b, .string ⟨c.col.d.s.toArray⟩, .string ⟨c.df.name.toArray⟩, .int .i64 c.df.keys, .slice dO c.df.cs.length dc] 32)).alloc (.cells #[.string ⟨c.table.toArray⟩, .string ⟨c.other.toArray⟩, .string ⟨c.to.toArray⟩, .string ⟨c.also.toArray⟩, .string ⟨c.name.toArray⟩, .string ⟨c.col.name.toArray⟩] 9) = W2 := ⟨_, rfl⟩
  have q0 : Blk W2 w.heap.size #[.int .i64 c.kind, .string ⟨c.table.toArray⟩, .string ⟨c.other.toArray⟩, .string ⟨c.to.toArray⟩, .string ⟨c.also.toArray⟩, .string ⟨c.name.toArray⟩, .int .i64 c.type, .slice no c.names.length nc, .string ⟨c.col.name.toArray⟩, .int .i64 c.col.kind, .bool c.col.null, .int .i64 c.col.d.k, .int .i64 c.col.d.n, .int .u64 c.col.d.b, .string ⟨c.col.d.s.toArray⟩, .string ⟨c.df.name.toArray⟩, .int .i64 c.df.keys, .slice dO c.df.cs.length dc] 32 := hW2 ▸ (Blk.new w _ _).alloc _
  have q1 : Blk W2 (w.heap.size + 1) #[.string ⟨c.table.toArray⟩, .string ⟨c.other.toArray⟩, .string ⟨c.to.toArray⟩, .string ⟨c.also.toArray⟩, .string ⟨c.name.toArray⟩, .string ⟨c.col.name.toArray⟩] 9 := hW2 ▸ Blk.newB (w.alloc (.cells #[.int .i64 c.kind, .string ⟨c.table.toArray⟩, .string ⟨c.other.toArray⟩, .string ⟨c.to.toArray⟩, .string ⟨c.also.toArray⟩, .string ⟨c.name.toArray⟩, .int .i64 c.type, .slice no c.names.length nc, .string ⟨c.col.name.toArray⟩, .int .i64 c.col.kind, .bool c.col.null, .int .i64 c.col.d.k, .int .i64 c.col.d.n, .int .u64 c.col.d.b, .string ⟨c.col.d.s.toArray⟩, .string ⟨c.df.name.toArray⟩, .int .i64 c.df.keys, .slice dO c.df.cs.length dc] 32)) (w.heap.size + 1) _ _ (by simp)
  have K := Lib.hid (And.intro (show Below w.heap.size w W2 from hW2 ▸ below2s w _ _) (And.intro q0 (sls_six q1)))
  obtain ⟨_, _, _, _, _, _, _, x7, _, _, _, x11, x12, x13, x14, x15, x16, x17⟩ := q0.e18
  clear q0 q1 hns hdf h1 h2 h3
  go_enter Tryz.func8, Tryz.ntmps8
  go_wp2_with fail
  refine (nm_few_yes c.names no nc _ (H.out.1.below K.out.1) H.out.2.2.1).mono ?_
  rintro e w1 ⟨rfl, rfl⟩
  go_wp2_with fail
  refine (nm_few_yes [c.table, c.other, c.to, c.also, c.name, c.col.name] (some ⟨w.heap.size + 1, 0, none⟩) 6 _ K.out.2.2 H.out.2.2.2.1).mono ?_
  rintro e w1 ⟨rfl, rfl⟩
  go_wp2_with fail
  refine (few_n c.df dO dc _ (H.out.2.1.below K.out.1) H.out.2.2.2.2).mono ?_
  rintro e w3 ⟨rfl, hb⟩
  have K3 := Lib.hid (And.intro (step0 K.out.1 hb) (K.out.2.1.below hb))
  clear hb x7 x11 x12 x13 x14 x15 x16 x17
  obtain ⟨_, _, _, _, _, _, _, _, _, _, _, x11, x12, x13, x14, _, _, _⟩ := K3.out.2.e18
  go_wp2
  go_ret
  exact ⟨rfl, K3.out.1⟩
theorem cfew_4 (c : Ch) (no : Option Addr) (nc : Nat) (dO : Option Addr) (dc : Nat) (w : World) (hns : SlS w no c.names) (hdf : SlC w dO c.df.cs) (h1 : Fw c.names) (h2 : Fw [c.table, c.other, c.to, c.also, c.name, c.col.name]) (h3 : Tb c.df) (h4 : 2000 < c.col.d.s.length) :
    Calls Tryz.prog 8 #[.agg #[.int .i64 c.kind, .string ⟨c.table.toArray⟩, .string ⟨c.other.toArray⟩, .string ⟨c.to.toArray⟩, .string ⟨c.also.toArray⟩, .string ⟨c.name.toArray⟩, .int .i64 c.type, .slice no c.names.length nc, .string ⟨c.col.name.toArray⟩, .int .i64 c.col.kind, .bool c.col.null, .int .i64 c.col.d.k, .int .i64 c.col.d.n, .int .u64 c.col.d.b, .string ⟨c.col.d.s.toArray⟩, .string ⟨c.df.name.toArray⟩, .int .i64 c.df.keys, .slice dO c.df.cs.length dc]] w fun e w' => e = .returned (.int .i64 0) ∧ Below w.heap.size w w' := by
  have H := Lib.hid (And.intro hns (And.intro hdf (And.intro h1 (And.intro h2 (And.intro h3 h4)))))
  obtain ⟨W2, hW2⟩ : ∃ W2, (w.alloc (.cells #[.int .i64 c.kind, .string ⟨c.table.toArray⟩, .string ⟨c.other.toArray⟩, .string ⟨c.to.toArray⟩, .string ⟨c.also.toArray⟩, .string ⟨c.name.toArray⟩, .int .i64 c.type, .slice no c.names.length nc, .string ⟨c.col.name.toArray⟩, .int .i64 c.col.kind, .bool c.col.null, .int .i64 c.col.d.k, .int .i64 c.col.d.n, .int .u64 c.col.d.b, .string ⟨c.col.d.s.toArray⟩, .string ⟨c.df.name.toArray⟩, .int .i64 c.df.keys, .slice dO c.df.cs.length dc] 32)).alloc (.cells #[.string ⟨c.table.toArray⟩, .string ⟨c.other.toArray⟩, .string ⟨c.to.toArray⟩, .string ⟨c.also.toArray⟩, .string ⟨c.name.toArray⟩, .string ⟨c.col.name.toArray⟩] 9) = W2 := ⟨_, rfl⟩
  have q0 : Blk W2 w.heap.size #[.int .i64 c.kind, .string ⟨c.table.toArray⟩, .string ⟨c.other.toArray⟩, .string ⟨c.to.toArray⟩, .string ⟨c.also.toArray⟩, .string ⟨c.name.toArray⟩, .int .i64 c.type, .slice no c.names.length nc, .string ⟨c.col.name.toArray⟩, .int .i64 c.col.kind, .bool c.col.null, .int .i64 c.col.d.k, .int .i64 c.col.d.n, .int .u64 c.col.d.b, .string ⟨c.col.d.s.toArray⟩, .string ⟨c.df.name.toArray⟩, .int .i64 c.df.keys, .slice dO c.df.cs.length dc] 32 := hW2 ▸ (Blk.new w _ _).alloc _
  have q1 : Blk W2 (w.heap.size + 1) #[.string ⟨c.table.toArray⟩, .string ⟨c.other.toArray⟩, .string ⟨c.to.toArray⟩, .string ⟨c.also.toArray⟩, .string ⟨c.name.toArray⟩, .string ⟨c.col.name.toArray⟩] 9 := hW2 ▸ Blk.newB (w.alloc (.cells #[.int .i64 c.kind, .string ⟨c.table.toArray⟩, .string ⟨c.other.toArray⟩, .string ⟨c.to.toArray⟩, .string ⟨c.also.toArray⟩, .string ⟨c.name.toArray⟩, .int .i64 c.type, .slice no c.names.length nc, .string ⟨c.col.name.toArray⟩, .int .i64 c.col.kind, .bool c.col.null, .int .i64 c.col.d.k, .int .i64 c.col.d.n, .int .u64 c.col.d.b, .string ⟨c.col.d.s.toArray⟩, .string ⟨c.df.name.toArray⟩, .int .i64 c.df.keys, .slice dO c.df.cs.length dc] 32)) (w.heap.size + 1) _ _ (by simp)
  have K := Lib.hid (And.intro (show Below w.heap.size w W2 from hW2 ▸ below2s w _ _) (And.intro q0 (sls_six q1)))
  obtain ⟨_, _, _, _, _, _, _, x7, _, _, _, x11, x12, x13, x14, x15, x16, x17⟩ := q0.e18
  clear q0 q1 hns hdf h1 h2 h3 h4
  go_enter Tryz.func8, Tryz.ntmps8
  go_wp2_with fail
  refine (nm_few_yes c.names no nc _ (H.out.1.below K.out.1) H.out.2.2.1).mono ?_
  rintro e w1 ⟨rfl, rfl⟩
  go_wp2_with fail
  refine (nm_few_yes [c.table, c.other, c.to, c.also, c.name, c.col.name] (some ⟨w.heap.size + 1, 0, none⟩) 6 _ K.out.2.2 H.out.2.2.2.1).mono ?_
  rintro e w1 ⟨rfl, rfl⟩
  go_wp2_with fail
  refine (few_t c.df dO dc _ (H.out.2.1.below K.out.1) H.out.2.2.2.2.1).mono ?_
  rintro e w3 ⟨rfl, hb⟩
  have K3 := Lib.hid (And.intro (step0 K.out.1 hb) (K.out.2.1.below hb))
  clear hb x7 x11 x12 x13 x14 x15 x16 x17
  obtain ⟨_, _, _, _, _, _, _, _, _, _, _, x11, x12, x13, x14, _, _, _⟩ := K3.out.2.e18
  go_wp2_with fail
  refine (few_0 c.col.d.k c.col.d.n c.col.d.b c.col.d.s _ H.out.2.2.2.2.2).mono ?_
  rintro e w4 ⟨rfl, hb⟩
  have K4 := Lib.hid (step0 K3.out.1 hb)
  clear hb
  go_wp2
  go_ret
  exact ⟨rfl, K4.out⟩
theorem cfew_yes (c : Ch) (no : Option Addr) (nc : Nat) (dO : Option Addr) (dc : Nat) (w : World) (hns : SlS w no c.names) (hdf : SlC w dO c.df.cs) (h1 : Fw c.names) (h2 : Fw [c.table, c.other, c.to, c.also, c.name, c.col.name]) (h3 : Tb c.df) (h4 : c.col.d.s.length ≤ 2000) :
    Calls Tryz.prog 8 #[.agg #[.int .i64 c.kind, .string ⟨c.table.toArray⟩, .string ⟨c.other.toArray⟩, .string ⟨c.to.toArray⟩, .string ⟨c.also.toArray⟩, .string ⟨c.name.toArray⟩, .int .i64 c.type, .slice no c.names.length nc, .string ⟨c.col.name.toArray⟩, .int .i64 c.col.kind, .bool c.col.null, .int .i64 c.col.d.k, .int .i64 c.col.d.n, .int .u64 c.col.d.b, .string ⟨c.col.d.s.toArray⟩, .string ⟨c.df.name.toArray⟩, .int .i64 c.df.keys, .slice dO c.df.cs.length dc]] w fun e w' => e = .returned (.int .i64 1) ∧ Below w.heap.size w w' := by
  have H := Lib.hid (And.intro hns (And.intro hdf (And.intro h1 (And.intro h2 (And.intro h3 h4)))))
  obtain ⟨W2, hW2⟩ : ∃ W2, (w.alloc (.cells #[.int .i64 c.kind, .string ⟨c.table.toArray⟩, .string ⟨c.other.toArray⟩, .string ⟨c.to.toArray⟩, .string ⟨c.also.toArray⟩, .string ⟨c.name.toArray⟩, .int .i64 c.type, .slice no c.names.length nc, .string ⟨c.col.name.toArray⟩, .int .i64 c.col.kind, .bool c.col.null, .int .i64 c.col.d.k, .int .i64 c.col.d.n, .int .u64 c.col.d.b, .string ⟨c.col.d.s.toArray⟩, .string ⟨c.df.name.toArray⟩, .int .i64 c.df.keys, .slice dO c.df.cs.length dc] 32)).alloc (.cells #[.string ⟨c.table.toArray⟩, .string ⟨c.other.toArray⟩, .string ⟨c.to.toArray⟩, .string ⟨c.also.toArray⟩, .string ⟨c.name.toArray⟩, .string ⟨c.col.name.toArray⟩] 9) = W2 := ⟨_, rfl⟩
  have q0 : Blk W2 w.heap.size #[.int .i64 c.kind, .string ⟨c.table.toArray⟩, .string ⟨c.other.toArray⟩, .string ⟨c.to.toArray⟩, .string ⟨c.also.toArray⟩, .string ⟨c.name.toArray⟩, .int .i64 c.type, .slice no c.names.length nc, .string ⟨c.col.name.toArray⟩, .int .i64 c.col.kind, .bool c.col.null, .int .i64 c.col.d.k, .int .i64 c.col.d.n, .int .u64 c.col.d.b, .string ⟨c.col.d.s.toArray⟩, .string ⟨c.df.name.toArray⟩, .int .i64 c.df.keys, .slice dO c.df.cs.length dc] 32 := hW2 ▸ (Blk.new w _ _).alloc _
  have q1 : Blk W2 (w.heap.size + 1) #[.string ⟨c.table.toArray⟩, .string ⟨c.other.toArray⟩, .string ⟨c.to.toArray⟩, .string ⟨c.also.toArray⟩, .string ⟨c.name.toArray⟩, .string ⟨c.col.name.toArray⟩] 9 := hW2 ▸ Blk.newB (w.alloc (.cells #[.int .i64 c.kind, .string ⟨c.table.toArray⟩, .string ⟨c.other.toArray⟩, .string ⟨c.to.toArray⟩, .string ⟨c.also.toArray⟩, .string ⟨c.name.toArray⟩, .int .i64 c.type, .slice no c.names.length nc, .string ⟨c.col.name.toArray⟩, .int .i64 c.col.kind, .bool c.col.null, .int .i64 c.col.d.k, .int .i64 c.col.d.n, .int .u64 c.col.d.b, .string ⟨c.col.d.s.toArray⟩, .string ⟨c.df.name.toArray⟩, .int .i64 c.df.keys, .slice dO c.df.cs.length dc] 32)) (w.heap.size + 1) _ _ (by simp)
  have K := Lib.hid (And.intro (show Below w.heap.size w W2 from hW2 ▸ below2s w _ _) (And.intro q0 (sls_six q1)))
  obtain ⟨_, _, _, _, _, _, _, x7, _, _, _, x11, x12, x13, x14, x15, x16, x17⟩ := q0.e18
  clear q0 q1 hns hdf h1 h2 h3 h4
  go_enter Tryz.func8, Tryz.ntmps8
  go_wp2_with fail
  refine (nm_few_yes c.names no nc _ (H.out.1.below K.out.1) H.out.2.2.1).mono ?_
  rintro e w1 ⟨rfl, rfl⟩
  go_wp2_with fail
  refine (nm_few_yes [c.table, c.other, c.to, c.also, c.name, c.col.name] (some ⟨w.heap.size + 1, 0, none⟩) 6 _ K.out.2.2 H.out.2.2.2.1).mono ?_
  rintro e w1 ⟨rfl, rfl⟩
  go_wp2_with fail
  refine (few_t c.df dO dc _ (H.out.2.1.below K.out.1) H.out.2.2.2.2.1).mono ?_
  rintro e w3 ⟨rfl, hb⟩
  have K3 := Lib.hid (And.intro (step0 K.out.1 hb) (K.out.2.1.below hb))
  clear hb x7 x11 x12 x13 x14 x15 x16 x17
  obtain ⟨_, _, _, _, _, _, _, _, _, _, _, x11, x12, x13, x14, _, _, _⟩ := K3.out.2.e18
  go_wp2_with fail
  refine (few_1 c.col.d.k c.col.d.n c.col.d.b c.col.d.s _ H.out.2.2.2.2.2).mono ?_
  rintro e w4 ⟨rfl, hb⟩
  have K4 := Lib.hid (step0 K3.out.1 hb)
  clear hb
  go_wp2
  go_ret
  exact ⟨rfl, K4.out⟩
theorem cfew_no (c : Ch) (no : Option Addr) (nc : Nat) (dO : Option Addr) (dc : Nat) (w : World) (hns : SlS w no c.names) (hdf : SlC w dO c.df.cs) (h : ¬ c.few) :
    Calls Tryz.prog 8 #[.agg #[.int .i64 c.kind, .string ⟨c.table.toArray⟩, .string ⟨c.other.toArray⟩, .string ⟨c.to.toArray⟩, .string ⟨c.also.toArray⟩, .string ⟨c.name.toArray⟩, .int .i64 c.type, .slice no c.names.length nc, .string ⟨c.col.name.toArray⟩, .int .i64 c.col.kind, .bool c.col.null, .int .i64 c.col.d.k, .int .i64 c.col.d.n, .int .u64 c.col.d.b, .string ⟨c.col.d.s.toArray⟩, .string ⟨c.df.name.toArray⟩, .int .i64 c.df.keys, .slice dO c.df.cs.length dc]] w fun e w' => e = .returned (.int .i64 0) ∧ Below w.heap.size w w' := by
  by_cases h1 : Fw c.names
  case neg => exact cfew_1 c no nc dO dc w hns hdf h1
  by_cases h2 : Fw [c.table, c.other, c.to, c.also, c.name, c.col.name]
  case neg => exact cfew_2 c no nc dO dc w hns hdf h1 h2
  by_cases h3 : Tb c.df
  case neg => exact cfew_3 c no nc dO dc w hns hdf h1 h2 h3
  refine cfew_4 c no nc dO dc w hns hdf h1 h2 h3 ?_
  rcases Nat.lt_or_ge 2000 c.col.d.s.length with g | g
  · exact g
  · exact absurd ⟨h1, h2, h3, g⟩ h
def fv (xs : List V) : Prop := xs.length ≤ 30 ∧ ∀ x ∈ xs, x.s.length ≤ 2000
def O.few (o : O) : Prop := o.table.length ≤ 500 ∧ fv o.row ∧ fv o.lo ∧ fv o.hi ∧ o.ch.few
end Go.Proofs.YtmgdciihpjifgaaGreatDoor
