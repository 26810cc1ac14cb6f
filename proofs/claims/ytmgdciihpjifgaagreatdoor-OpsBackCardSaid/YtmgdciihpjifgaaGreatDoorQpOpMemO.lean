/-
  Rows of rows of values in memory; what is asked in memory, as one block. Conditions: the bounds named in each theorem.
-/
import Derived.Test.YtmgdciihpjifgaaGreatDoorQpOpMem
import Derived.Test.YtmgdciihpjifgaaGreatDoorQpOpReadF
import Derived.Test.YtmgdciihpjifgaaGreatDoorQpRkReadRow
import Derived.Test.YtmgdciihpjifgaaGreatDoorQpRkAwake
import Derived.Deep.RegionHeld3
import Derived.Maps.AppendAt
import Derived.Laws.CopyOwn
import Derived.Lib.SlBuf
namespace Go.Proofs.YtmgdciihpjifgaaGreatDoor
open Go.RowKit
set_option linter.unusedVariables false

structure RV where
  xs : List V
  ao : Option Addr
  cap : Nat
def RV.val (y : RV) : Value := .slice y.ao y.xs.length y.cap
def rxs (ys : List RV) : List (List V) := ys.map RV.xs
def SlR (W : World) (ao : Option Addr) (ys : List RV) : Prop := ∀ (i : Nat) (y : RV), ys[i]? = some y → ∃ a, ao = some a ∧ W.cell? (a.add i) = some (.slice y.ao y.xs.length y.cap)
theorem SlR.below {W W' : World} {ao : Option Addr} {ys : List RV} (h : SlR W ao ys) (hb : Below W.heap.size W W') : SlR W' ao ys := by
  intro i x hi
  obtain ⟨a, ha, h0⟩ := h i x hi
  exact ⟨a, ha, keep0 h0 hb⟩
theorem SlR.nil (W : World) (ao : Option Addr) : SlR W ao [] := fun i x h => by simp at h
def InR (W : World) (ys : List RV) : Prop := ∀ y ∈ ys, Sl W y.ao y.xs
theorem InR.below {W W' : World} {ys : List RV} (h : InR W ys) (hb : Below W.heap.size W W') : InR W' ys := fun y hy => (h y hy).below hb
/-- Where the slices of what is asked lie. -/
structure Ps where
  r : Option Addr
  rc : Nat
  l : Option Addr
  lc : Nat
  h : Option Addr
  hc : Nat
  n : Option Addr
  nc : Nat
  d : Option Addr
  dc : Nat
def P0 : Ps := ⟨none, 0, none, 0, none, 0, none, 0, none, 0⟩
def O.pre (o : O) (p : Ps) : List Value := [.int .i64 o.kind, .string ⟨o.table.toArray⟩, .slice p.r o.row.length p.rc, .slice p.l o.lo.length p.lc, .slice p.h o.hi.length p.hc, .int .i64 o.max]
def O.a (o : O) (p : Ps) : Array Value := (o.pre p ++ ((o.ch.a p.n p.nc p.d p.dc).toList ++ [])).toArray
section
variable (o : O) (p : Ps)
@[go_sem] theorem O.a_0 : (o.a p)[0]? = some (.int .i64 o.kind) := rfl
@[go_sem] theorem O.a_1 : (o.a p)[1]? = some (.string ⟨o.table.toArray⟩) := rfl
@[go_sem] theorem O.a_2 : (o.a p)[2]? = some (.slice p.r o.row.length p.rc) := rfl
@[go_sem] theorem O.a_3 : (o.a p)[3]? = some (.slice p.l o.lo.length p.lc) := rfl
@[go_sem] theorem O.a_4 : (o.a p)[4]? = some (.slice p.h o.hi.length p.hc) := rfl
@[go_sem] theorem O.a_5 : (o.a p)[5]? = some (.int .i64 o.max) := rfl
theorem O.set0 (v : Int) : (o.a p).setIfInBounds 0 (.int .i64 v) = (⟨v, o.table, o.row, o.lo, o.hi, o.max, o.ch⟩ : O).a p := rfl
theorem O.set1 (s : Nm.S) : (o.a p).setIfInBounds 1 (.string ⟨s.toArray⟩) = (⟨o.kind, s, o.row, o.lo, o.hi, o.max, o.ch⟩ : O).a p := rfl
theorem O.set5 (v : Int) : (o.a p).setIfInBounds 5 (.int .i64 v) = (⟨o.kind, o.table, o.row, o.lo, o.hi, v, o.ch⟩ : O).a p := rfl
end
theorem infoO : (Tryz.prog.info? 48).map (·.size) = some 24 := by kernel_rfl
theorem O.size (o : O) (p : Ps) : (o.a p).size = 24 := rfl
theorem O.a_one (o : O) (p : Ps) : (o.a p).all (·.oneCell') = true := by
  unfold O.a
  refine all_oneCell_toArray fun v hv => ?_
  rw [List.append_nil] at hv
  rcases List.mem_append.1 hv with h | h
  · simp only [O.pre, List.mem_cons, List.not_mem_nil, or_false] at h
    rcases h with rfl | rfl | rfl | rfl | rfl | rfl <;> rfl
  · exact (Array.all_eq_true_iff_forall_mem.1 (o.ch.a_one p.n p.nc p.d p.dc)) v (by simpa using h)
theorem loadO {w : World} {b : Nat} {o : O} {p : Ps} (hc : Blk w b (o.a p) 48) : (loadVar 48 ⟨b, 0, none⟩).run Tryz.prog w = .ok (.agg (o.a p)) w :=
  run_loadVar_blk hc Tryz.underlying48 rfl infoO
/-- What is asked lies in memory. -/
def InO (W : World) (o : O) (p : Ps) : Prop := Sl W p.r o.row ∧ Sl W p.l o.lo ∧ Sl W p.h o.hi ∧ InC W o.ch p.n p.d p.dc ∧ o.okv
theorem InO.below {W W' : World} {o : O} {p : Ps} (h : InO W o p) (hb : Below W.heap.size W W') : InO W' o p := ⟨h.1.below hb, h.2.1.below hb, h.2.2.1.below hb, h.2.2.2.1.below hb, h.2.2.2.2⟩
/-- Cells in the middle of a block, loaded. -/
theorem wpList_load_part {ops : Array Oper} {rest : List Oper} {op : Oper} {a : Act} {w : World} {Q : Exit → Act → World → Prop} (hgd : op.guard = none) (ty T : TypeId) (x : Operand) (ho : op.op = .load ty x)
    (b n : Nat) (hx : a.eval x = .pointer (some ⟨b, n, none⟩)) (pre post : List Value) (cs : Array Value) (d : TypeDesc) (hc : Blk w b (pre ++ (cs.toList ++ post)).toArray T) (hpo : pre.length = n)
    (hu : Tryz.prog.underlying ty = some d) (hd : d.isRow = true) (hi : (Tryz.prog.info? ty).map (·.size) = some cs.size)
    (h : wpList Tryz.prog ops Q rest (a.put op.dst (.agg cs)) w) : wpList Tryz.prog ops Q (op :: rest) a w := by
  subst hpo
  refine wpList_load_mid hgd ty x ho b pre.length hx cs.toList d (fun j v hv => ?_) hu hd (by simpa using hi) (by simpa using h)
  rw [hc.cell]
  rw [List.getElem?_toArray, List.getElem?_append_right (by omega), Nat.add_sub_cancel_left]
  have hj := (List.getElem?_eq_some_iff.1 hv).1
  rw [List.getElem?_append_left hj]
  exact hv
/-- An array of slices of values. -/
def va (l : List RV) : Array Value := (l.map RV.val).toArray
theorem va_at {l : List RV} {j : Nat} (h : j < l.length) : (va l)[j]? = some l[j].val := by simp [va, h]
theorem va_size (l : List RV) : (va l).size = l.length := by simp [va]
theorem va_set (l : List RV) (j : Nat) (y : RV) : (va l).setIfInBounds j y.val = va (l.set j y) := by
  unfold va
  rw [List.setIfInBounds_toArray, List.map_set]
theorem va_one (l : List RV) : (va l).all (·.oneCell') = true := by
  unfold va
  refine all_oneCell_toArray fun v hv => ?_
  obtain ⟨s, _, rfl⟩ := List.mem_map.1 hv
  rfl
theorem infoV3 {l : List RV} (h : l.length = 3) : (Tryz.prog.info? 90).map (·.size) = some (va l).size := by
  rw [va_size, h]; kernel_rfl
def RV0 : RV := ⟨[], none, 0⟩
/-- The three rows. -/
def O.rv (o : O) (p : Ps) : List RV := [⟨o.row, p.r, p.rc⟩, ⟨o.lo, p.l, p.lc⟩, ⟨o.hi, p.h, p.hc⟩]
theorem rv_in {W : World} {o : O} {p : Ps} (h : InO W o p) : InR W (o.rv p) := by
  intro y hy
  simp only [O.rv, List.mem_cons, List.not_mem_nil, or_false] at hy
  rcases hy with rfl | rfl | rfl
  · exact h.1
  · exact h.2.1
  · exact h.2.2.1
theorem rowsOf_is (o : O) (p : Ps) (w : World) :
    Calls Tryz.prog 47 #[.agg (o.a p)] w fun e w' => e = .returned (.agg (va (o.rv p))) ∧ Below w.heap.size w w' := by
  go_enter Tryz.func47, Tryz.ntmps47
  go_wp2
  refine bodyPost_ret (v := .agg (va (o.rv p))) ?_ rfl ⟨rfl, below2s _ _ _⟩
  simp [results, Tryz.results47, go_sem, va, O.rv, RV.val]

end Go.Proofs.YtmgdciihpjifgaaGreatDoor
