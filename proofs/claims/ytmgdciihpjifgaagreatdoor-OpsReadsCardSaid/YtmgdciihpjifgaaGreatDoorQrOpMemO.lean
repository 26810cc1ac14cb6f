/-
 Rows of rows of values in memory; what is asked in memory, as one block. Conditions: the bounds named in each theorem.
 A change, and what is asked, as arguments, opened.
 What is asked, as bytes: Put. Conditions: what is asked lies in memory and keeps a value's bounds.
-/
import Derived.Test.YtmgdciihpjifgaaGreatDoorQrOpMem
import Derived.Test.YtmgdciihpjifgaaGreatDoorQrOpPutC
import Derived.Test.YtmgdciihpjifgaaGreatDoorQrOpReadC
import Derived.Test.YtmgdciihpjifgaaGreatDoorQrRkVals
import Derived.Test.YtmgdciihpjifgaaGreatDoorQrRkAwake
import Derived.Deep.RegionHeld3
import Derived.Maps.AppendAt
import Derived.Laws.CopyOwn
import Derived.Lib.SlBuf
import Derived.Test.YtmgdciihpjifgaaGreatDoorQrScCheck
import Derived.Test.YtmgdciihpjifgaaGreatDoorQrNmCheck
import Derived.Test.YtmgdciihpjifgaaGreatDoorQrKcVals
set_option maxHeartbeats 8000000
namespace Go.Proofs.YtmgdciihpjifgaaGreatDoor
open Go.RowKit
set_option linter.unusedVariables false
structure RV where
 xs : List V
 ao : Option Addr
 cap : Nat
def RV.val (y : RV) : Value := .slice y.ao y.xs.length y.cap
def rxs (ys : List RV) : List (List V) := ys.map RV.xs
def SlR (W : World) (ao : Option Addr) (ys : List RV) : Prop := ∀ (i : Nat) (y : RV), ys[i]? = some y → ∃ a, ao = some a ∧ W.cell? (a.add i) = some (.slice y.ao y.xs.length y.cap)
theorem SlR.below {W W' : World} {ao : Option Addr} {ys : List RV} (h : SlR W ao ys) (hb : Below W.heap.size W W') : SlR W' ao ys := by
 intro i x hi
 obtain ⟨a, ha, h0⟩ := h i x hi
 exact ⟨a, ha, keep0 h0 hb⟩
def InR (W : World) (ys : List RV) : Prop := ∀ y ∈ ys, Sl W y.ao y.xs
theorem Tryz.infoR : (Tryz.prog.info? 46).map (fun i => (i.zero, i.size, i.bytes)) = some (some (.slice none 0 0), 1, 24) := by kernel_rfl
def OwR (w : World) (base : Nat) (v : Value) (l : List RV) : Prop := w.ownsRow base 46 1 v l.length (l.map RV.val)
theorem owr_nil (w : World) (base : Nat) : OwR w base (.slice none 0 0) [] := World.ownsRow_nil _ _ _ _
theorem OwR.keep {w w' : World} {b : Nat} {v : Value} {l : List RV} (h : OwR w b v l) (hb : Below w.heap.size w w') : OwR w' b v l := by
 refine ⟨h.1, ?_⟩
 rcases h.2 with hn | ⟨g, cap, cur, hv, hbg, hg, rest⟩
 ·exact .inl hn
 ·exact .inr ⟨g, cap, cur, hv, hbg, (hb.block g (Array.getElem?_eq_some_iff.1 hg).1).trans hg, rest⟩
theorem OwR.sl {w : World} {b : Nat} {v : Value} {l : List RV} (h : OwR w b v l) : ∃ ao cap, v = .slice ao l.length cap ∧ l.length ≤ cap ∧ SlR w ao l := by
 have h' := h
 rcases h.2 with ⟨hv, hn⟩ | ⟨g, cap, cur, hv, _, hg, h1, _⟩
 ·have e := List.eq_nil_of_length_eq_zero hn
  subst e
  exact ⟨none, 0, hv, Nat.le_refl _, fun i x hi => by simp at hi⟩
 ·refine ⟨some ⟨g, 0, none⟩, cap, hv, ?_, fun i x hi => ⟨⟨g, 0, none⟩, rfl, ?_⟩⟩
  ·first | exact h1 | omega
  ·exact World.ownsRow.cells h' (g := g) (by rw [hv]; rfl) i _ (by rw [List.getElem?_map, hi]; rfl)
theorem OwR.lt {w : World} {b : Nat} {v : Value} {l : List RV} (h : OwR w b v l) : ∀ k, v.ownBlock = some k → b ≤ k ∧ k < w.heap.size := fun k hk => World.ownsRow.lt h k hk
structure Ps where
 r : Option Addr
 rc : Nat
 l : Option Addr
 lc : Nat
 h : Option Addr
 hc : Nat
 n : Option Addr
 nc : Nat
 d : Option Addr
 dc : Nat
def P0 : Ps := ⟨none, 0, none, 0, none, 0, none, 0, none, 0⟩
def O.pre (o : O) (p : Ps) : List Value := [.int .i64 o.kind, .string ⟨o.table.toArray⟩, .slice p.r o.row.length p.rc, .slice p.l o.lo.length p.lc, .slice p.h o.hi.length p.hc, .int .i64 o.max]
def O.a (o : O) (p : Ps) : Array Value := (o.pre p ++ ((o.ch.a p.n p.nc p.d p.dc).toList ++ [])).toArray
section
variable (o : O) (p : Ps)
@[go_sem] theorem O.a_0 : (o.a p)[0]? = some (.int .i64 o.kind) := rfl
@[go_sem] theorem O.a_1 : (o.a p)[1]? = some (.string ⟨o.table.toArray⟩) := rfl
@[go_sem] theorem O.a_2 : (o.a p)[2]? = some (.slice p.r o.row.length p.rc) := rfl
@[go_sem] theorem O.a_3 : (o.a p)[3]? = some (.slice p.l o.lo.length p.lc) := rfl
@[go_sem] theorem O.a_4 : (o.a p)[4]? = some (.slice p.h o.hi.length p.hc) := rfl
@[go_sem] theorem O.a_5 : (o.a p)[5]? = some (.int .i64 o.max) := rfl
theorem O.set0 (v : Int) : (o.a p).setIfInBounds 0 (.int .i64 v) = (⟨v, o.table, o.row, o.lo, o.hi, o.max, o.ch⟩ : O).a p := rfl
theorem O.set1 (s : Nm.S) : (o.a p).setIfInBounds 1 (.string ⟨s.toArray⟩) = (⟨o.kind, s, o.row, o.lo, o.hi, o.max, o.ch⟩ : O).a p := rfl
theorem O.set5 (v : Int) : (o.a p).setIfInBounds 5 (.int .i64 v) = (⟨o.kind, o.table, o.row, o.lo, o.hi, v, o.ch⟩ : O).a p := rfl
end
theorem infoO : (Tryz.prog.info? 48).map (·.size) = some 24 := by kernel_rfl
theorem O.size (o : O) (p : Ps) : (o.a p).size = 24 := rfl
theorem O.a_one (o : O) (p : Ps) : (o.a p).all (·.oneCell') = true := by
 unfold O.a
 refine all_oneCell_toArray fun v hv => ?_
 rw [List.append_nil] at hv
 rcases List.mem_append.1 hv with h | h
 ·simp only [O.pre, List.mem_cons, List.not_mem_nil, or_false] at h
  rcases h with rfl | rfl | rfl | rfl | rfl | rfl <;> rfl
 ·exact (Array.all_eq_true_iff_forall_mem.1 (o.ch.a_one p.n p.nc p.d p.dc)) v (by simpa using h)
theorem loadO {w : World} {b : Nat} {o : O} {p : Ps} (hc : Blk w b (o.a p) 48) : (loadVar 48 ⟨b, 0, none⟩).run Tryz.prog w = .ok (.agg (o.a p)) w :=
 run_loadVar_blk hc Tryz.underlying48 rfl infoO
def InO (W : World) (o : O) (p : Ps) : Prop := Sl W p.r o.row ∧ Sl W p.l o.lo ∧ Sl W p.h o.hi ∧ InC W o.ch p.n p.d p.dc ∧ o.okv
theorem InO.below {W W' : World} {o : O} {p : Ps} (h : InO W o p) (hb : Below W.heap.size W W') : InO W' o p := ⟨h.1.below hb, h.2.1.below hb, h.2.2.1.below hb, h.2.2.2.1.below hb, h.2.2.2.2⟩
theorem wpList_load_part {ops : Array Oper} {rest : List Oper} {op : Oper} {a : Act} {w : World} {Q : Exit → Act → World → Prop} (hgd : op.guard = none) (ty T : TypeId) (x : Operand) (ho : op.op = .load ty x)
  (b n : Nat) (hx : a.eval x = .pointer (some ⟨b, n, none⟩)) (pre post : List Value) (cs : Array Value) (d : TypeDesc) (hc : Blk w b (pre ++ (cs.toList ++ post)).toArray T) (hpo : pre.length = n)
  (hu : Tryz.prog.underlying ty = some d) (hd : d.isRow = true) (hi : (Tryz.prog.info? ty).map (·.size) = some cs.size)
  (h : wpList Tryz.prog ops Q rest (a.put op.dst (.agg cs)) w) : wpList Tryz.prog ops Q (op :: rest) a w := by
 subst hpo
 refine wpList_load_mid hgd ty x ho b pre.length hx cs.toList d (fun j v hv => ?_) hu hd (by simpa using hi) (by simpa using h)
 rw [hc.cell]
 rw [List.getElem?_toArray, List.getElem?_append_right (by omega), Nat.add_sub_cancel_left]
 have hj := (List.getElem?_eq_some_iff.1 hv).1
 rw [List.getElem?_append_left hj]
 exact hv
def va (l : List RV) : Array Value := (l.map RV.val).toArray
theorem va_at {l : List RV} {j : Nat} (h : j < l.length) : (va l)[j]? = some l[j].val := by simp [va, h]
theorem va_size (l : List RV) : (va l).size = l.length := by simp [va]
theorem va_set (l : List RV) (j : Nat) (y : RV) : (va l).setIfInBounds j y.val = va (l.set j y) := by
 unfold va
 rw [List.setIfInBounds_toArray, List.map_set]
theorem va_one (l : List RV) : (va l).all (·.oneCell') = true := by
 unfold va
 refine all_oneCell_toArray fun v hv => ?_
 obtain ⟨s, _, rfl⟩ := List.mem_map.1 hv
 rfl
theorem infoV3 {l : List RV} (h : l.length = 3) : (Tryz.prog.info? 90).map (·.size) = some (va l).size := by
 rw [va_size, h]; kernel_rfl
def RV0 : RV := ⟨[], none, 0⟩
def O.rv (o : O) (p : Ps) : List RV := [⟨o.row, p.r, p.rc⟩, ⟨o.lo, p.l, p.lc⟩, ⟨o.hi, p.h, p.hc⟩]
theorem rv_in {W : World} {o : O} {p : Ps} (h : InO W o p) : InR W (o.rv p) := by
 intro y hy
 simp only [O.rv, List.mem_cons, List.not_mem_nil, or_false] at hy
 rcases hy with rfl | rfl | rfl
 ·exact h.1
 ·exact h.2.1
 ·exact h.2.2.1
theorem rowsOf_is (o : O) (p : Ps) (w : World) :
  Calls Tryz.prog 47 #[.agg (o.a p)] w fun e w' => e = .returned (.agg (va (o.rv p))) ∧ Below w.heap.size w w' := by
 go_enter Tryz.func47, Tryz.ntmps47
 go_wp2
 refine bodyPost_ret (v := .agg (va (o.rv p))) ?_ rfl ⟨rfl, below2s _ _ _⟩
 simp [results, Tryz.results47, go_sem, va, O.rv, RV.val]
end Go.Proofs.YtmgdciihpjifgaaGreatDoor
namespace Go.Proofs.YtmgdciihpjifgaaGreatDoor
open Go.ChangeShapes Go.WideShapes Go.ChangeAt Go.RowKit Go.Joins Go.Deep
set_option linter.unusedVariables false
section
variable {H : Type} {enc : TypeId × Value → H} {W : World}
end
end Go.Proofs.YtmgdciihpjifgaaGreatDoor
namespace Go.Proofs.YtmgdciihpjifgaaGreatDoor
open Go.RowKit
set_option linter.unusedVariables false
def rpe : List RV → Int
 | [] => 0
 | y :: l => if Rk.pe y.xs ≠ 0 then Rk.pe y.xs else rpe l
def rpt : List RV → List UInt8
 | [] => []
 | y :: l => Pk.tx (Rk.pw y.xs) ++ rpt l
theorem rpe_next {l : List RV} {j : Nat} (hj : j < l.length) (h : rpe (l.take j) = 0) (g : Rk.pe l[j].xs = 0) : rpe (l.take (j + 1)) = 0 := by
 induction l generalizing j with
 | nil => simp at hj
 | cons y l ih =>
  cases j with
  | zero =>
   have g' : Rk.pe y.xs = 0 := g
   simp [rpe, g']
  | succ j =>
   rw [List.take_succ_cons, rpe] at h ⊢
   split at h
   ·rename_i q; exact absurd h q
   ·rename_i q
    rw [if_neg q]
    exact ih (by simpa using hj) h (by simpa using g)
theorem rpe_stop {l : List RV} {j : Nat} (hj : j < l.length) (h : rpe (l.take j) = 0) (g : ¬ Rk.pe l[j].xs = 0) : rpe l = Rk.pe l[j].xs := by
 induction l generalizing j with
 | nil => simp at hj
 | cons y l ih =>
  cases j with
  | zero => rw [rpe, if_pos (by simpa using g)]; rfl
  | succ j =>
   rw [List.take_succ_cons, rpe] at h
   split at h
   ·rename_i q; exact absurd h q
   ·rename_i q
    rw [rpe, if_neg q]
    exact ih (by simpa using hj) h (by simpa using g)
theorem rpt_append (a b : List RV) : rpt (a ++ b) = rpt a ++ rpt b := by
 induction a with
 | nil => rfl
 | cons x a ih => rw [List.cons_append, rpt, rpt, ih, List.append_assoc]
theorem rpt_next {l : List RV} {j : Nat} (hj : j < l.length) : rpt (l.take (j + 1)) = rpt (l.take j) ++ Pk.tx (Rk.pw l[j].xs) := by
 rw [List.take_succ_eq_append_getElem hj, rpt_append]
 simp [rpt]
theorem tpw_le (xs : List V) : (Pk.tx (Rk.pw xs)).length ≤ 620 := by
 have := Rk.pw_len xs
 have := un_le (Rk.pw xs).length
 unfold Pk.tx
 rw [List.length_append]
 omega
theorem rpt_le (l : List RV) : (rpt l).length ≤ 620 * l.length := by
 induction l with
 | nil => simp [rpt]
 | cons y l ih =>
  have := tpw_le y.xs
  rw [rpt, List.length_append, List.length_cons]
  omega
theorem pe_rv (o : O) (p : Ps) (h1 : 1 ≤ o.kind ∧ o.kind ≤ 9) (h2 : 0 ≤ o.max ∧ o.max ≤ 64) (h3 : o.table.length ≤ 16) : o.pe = if rpe (o.rv p) ≠ 0 then rpe (o.rv p) else if o.kind = 6 then o.ch.pe else 0 := by
 unfold O.pe
 rw [if_neg (by omega), if_neg (by omega)]
 simp only [O.rv, rpe]
 by_cases a : Rk.pe o.row = 0
 ·by_cases b : Rk.pe o.lo = 0
  ·by_cases c : Rk.pe o.hi = 0
   ·simp [a, b, c]
   ·simp [a, b, c]
  ·simp [a, b]
 ·simp [a]
theorem hd_rv (o : O) (p : Ps) : o.hd = Pk.un o.kind.toNat ++ Pk.tx o.table ++ rpt (o.rv p) ++ Pk.un o.max.toNat := by
 unfold O.hd
 simp [O.rv, rpt]
theorem opb_bad {o : O} (h : ¬ o.pe = 0) : o.pb = [] := by unfold O.pb; rw [if_pos h]
theorem rv_ok {o : O} {p : Ps} (h : o.okv) : ∀ y ∈ o.rv p, ∀ x ∈ y.xs, x.ok := by
 intro y hy
 simp only [O.rv, List.mem_cons, List.not_mem_nil, or_false] at hy
 rcases hy with rfl | rfl | rfl
 ·exact h.1
 ·exact h.2.1
 ·exact h.2.2.1
theorem po_1 (o : O) (p : Ps) (w : World) (h1 : o.kind < 1) :
  Calls Tryz.prog 16 #[.agg (o.a p)] w fun e w' => e = .returned (.tuple #[.string ⟨([] : List UInt8).toArray⟩, .int .i64 1]) ∧ Below w.heap.size w w' := by
 go_enter Tryz.func16, Tryz.ntmps16
 go_wp2
 go_ret2
 exact ⟨rfl, below1 _ _⟩
theorem po_2 (o : O) (p : Ps) (w : World) (h1 : decide (o.kind < 1) = false) (h2 : 9 < o.kind) :
  Calls Tryz.prog 16 #[.agg (o.a p)] w fun e w' => e = .returned (.tuple #[.string ⟨([] : List UInt8).toArray⟩, .int .i64 1]) ∧ Below w.heap.size w w' := by
 go_enter Tryz.func16, Tryz.ntmps16
 go_wp2
 go_ret2
 exact ⟨rfl, below1 _ _⟩
theorem po_3 (o : O) (p : Ps) (w : World) (h1 : decide (o.kind < 1) = false) (h2 : decide (9 < o.kind) = false) (h3 : o.max < 0) :
  Calls Tryz.prog 16 #[.agg (o.a p)] w fun e w' => e = .returned (.tuple #[.string ⟨([] : List UInt8).toArray⟩, .int .i64 1]) ∧ Below w.heap.size w w' := by
 go_enter Tryz.func16, Tryz.ntmps16
 go_wp2
 go_ret2
 exact ⟨rfl, below1 _ _⟩
theorem po_4 (o : O) (p : Ps) (w : World) (h1 : decide (o.kind < 1) = false) (h2 : decide (9 < o.kind) = false) (h3 : decide (o.max < 0) = false) (h4 : 64 < o.max) :
  Calls Tryz.prog 16 #[.agg (o.a p)] w fun e w' => e = .returned (.tuple #[.string ⟨([] : List UInt8).toArray⟩, .int .i64 1]) ∧ Below w.heap.size w w' := by
 go_enter Tryz.func16, Tryz.ntmps16
 go_wp2
 go_ret2
 exact ⟨rfl, below1 _ _⟩
theorem po_5 (o : O) (p : Ps) (w : World) (h1 : decide (o.kind < 1) = false) (h2 : decide (9 < o.kind) = false) (h3 : decide (o.max < 0) = false) (h4 : decide (64 < o.max) = false) (h5 : (16 : Int) < (o.table.length : Int)) :
  Calls Tryz.prog 16 #[.agg (o.a p)] w fun e w' => e = .returned (.tuple #[.string ⟨([] : List UInt8).toArray⟩, .int .i64 8]) ∧ Below w.heap.size w w' := by
 go_enter Tryz.func16, Tryz.ntmps16
 go_wp2
 go_ret2
 exact ⟨rfl, below1 _ _⟩
theorem po_6 (o : O) (p : Ps) (T : List UInt8) (E : Int) (w : World) (hg : Env w) (hi : InO w o p) (h1 : decide (o.kind < 1) = false) (h2 : decide (9 < o.kind) = false) (h3 : decide (o.max < 0) = false) (h4 : decide (64 < o.max) = false) (h5 : decide ((16 : Int) < (o.table.length : Int)) = false) (hT : o.pb = T) (hE : o.pe = E) :
  Calls Tryz.prog 16 #[.agg (o.a p)] w fun e w' => e = .returned (.tuple #[.string ⟨T.toArray⟩, .int .i64 E]) ∧ Below w.heap.size w w' := by
 have hmx : Tryz.prog.follows .mixedOrders = true := by kernel_rfl
 have X : 1 ≤ o.kind ∧ o.kind ≤ 9 ∧ 0 ≤ o.max ∧ o.max ≤ 64 ∧ o.table.length ≤ 16 := by simp only [decide_eq_false_iff_not] at h1 h2 h3 h4 h5; omega
 have hpe := pe_rv o p ⟨X.1, X.2.1⟩ ⟨X.2.2.1, X.2.2.2.1⟩ X.2.2.2.2
 have k1 : IntKind.u64.wrap o.kind = o.kind := pk_wrap_u64 _ (by omega) (by omega)
 have k2 : IntKind.u64.wrap o.max = o.max := pk_wrap_u64 _ (by omega) (by omega)
 obtain ⟨N1, hN1⟩ : ∃ N, Pk.un o.kind.toNat = N := ⟨_, rfl⟩
 obtain ⟨N2, hN2⟩ : ∃ N, Pk.tx o.table = N := ⟨_, rfl⟩
 obtain ⟨N3, hN3⟩ : ∃ N, Pk.un o.max.toNat = N := ⟨_, rfl⟩
 have hhd := hd_rv o p
 rw [hN1, hN2, hN3] at hhd
 have L := zh (show N1.length ≤ 10 ∧ N2.length ≤ 26 ∧ N3.length ≤ 10 from ⟨hN1 ▸ un_le _, hN2 ▸ tx_le X.2.2.2.2, hN3 ▸ un_le _⟩)
 have l1 : (9223372036854775807 < N1.length + N2.length) = False := by have := L.out; simp; omega
 have U := zh (za hN1 (za hN2 (za hN3 (za hhd (za hpe (za hT hE))))))
 have H := zh (za hg (za hi X))
 clear hN1 hN2 hN3 hhd hpe hT hE hg hi X
 go_enter Tryz.func16, Tryz.ntmps16
 go_wp2
 have q1 := Blk.new w (o.a p) 48
 go_region_held3 (fun v => Below (w.alloc (.cells (o.a p) 48)).heap.size (w.alloc (.cells (o.a p) 48)) v ∧ v.cell? ⟨w.heap.size, 0, none⟩ = some (.int .i64 o.kind) ∧ v.cell? ⟨w.heap.size, 1, none⟩ = some (.string ⟨o.table.toArray⟩))
  (first | exact ⟨(Below.refl _ _).drew, q1.cell 0, q1.cell 1⟩ | exact ⟨step0 ‹Below (w.alloc _).heap.size (w.alloc _) _ ∧ _›.1 hb, (q1.below (step0 ‹Below (w.alloc _).heap.size (w.alloc _) _ ∧ _›.1 hb)).cell 0, (q1.below (step0 ‹Below (w.alloc _).heap.size (w.alloc _) _ ∧ _›.1 hb)).cell 1⟩)
  (first | (go_at_call 30; refine (uint_is o.kind N1 _ (by have := H.out.2.2; omega) (by have := H.out.2.2; omega) U.out.1).mono ?_; rintro e v3 ⟨rfl, hb⟩) | (go_at_call 32; refine (text_is o.table N2 _ (by have := H.out.2.2; omega) U.out.2.1).mono ?_; rintro e v3 ⟨rfl, hb⟩))
 have B3 := zh (show Below (w.alloc (.cells (o.a p) 48)).heap.size (w.alloc (.cells (o.a p) 48)) v3 from ‹Below (w.alloc _).heap.size (w.alloc _) v3 ∧ _›.1)
 rw [cat_list]
 obtain ⟨A, hA⟩ : ∃ A, N1 ++ N2 = A := ⟨_, rfl⟩
 have lA : A.length ≤ 36 := by rw [← hA, List.length_append]; have := L.out; omega
 have HA := zh (za hA lA)
 rw [hA]
 have K3 := zh (za (step1 (Below.refl _ w) B3.out) (q1.below B3.out))
 clear hA lA l1 q1
 go_wp2_with ((refine (?_ : wpList _ _ _ (Oper.mk _ (Op.load 48 _) _ _ _ _ :: _) _ _)); refine wpList_load_blk rfl 48 _ rfl (w.heap.size) rfl (o.a p) _ (K3.out.2) Tryz.underlying48 rfl (infoO) ?_; go_frame)
 refine (rowsOf_is o p _).mono ?_
 rintro e w4 ⟨rfl, hb⟩
 have K4 := zh (za (step0 K3.out.1 hb) (K3.out.2.below hb))
 clear hb
 go_wp2_with ((refine (?_ : wpList _ _ _ (Oper.mk _ (Op.store 90 _ _) _ _ _ _ :: _) _ _)); refine wpList_store_blk rfl 90 _ _ rfl (w4.heap.size) (va [RV0, RV0, RV0]) (va (o.rv p)) rfl rfl (Blk.new' _ _ _ _ (by first | rfl | simp)) (by first | rfl | simp [va_size]) (infoV3 rfl) (va_one _) ?_)
 intro w5 q5 r5
 have bb := r5.below _ _ (Nat.le_refl _) (below1 w4 _)
 have K := zh (za (step0 K4.out.1 bb) (za (K4.out.2.below bb) q5))
 clear q5 r5 bb
 go_wp2
 go_loopw [4, 43] (fun q i wr => ∃ j : Nat, q = .string ⟨(A ++ rpt ((o.rv p).take j)).toArray⟩ ∧ i = .int .i64 j ∧ j ≤ 3 ∧ rpe ((o.rv p).take j) = 0 ∧ Below w.heap.size w wr ∧ Blk wr w.heap.size (o.a p) 48 ∧ Blk wr w4.heap.size (va (o.rv p)) 90) (fun _ i _ => 3 - (intOf i).toNat)
 case atStart => exact ⟨0, by simp [rpt], rfl, by omega, rfl, K.out⟩
 case round =>
  obtain ⟨j, rfl, rfl, hj, hr0, hbel, hbo, hbv⟩ := hrel
  have J := zh (za hbel (za hbo (za hbv hr0)))
  have qv := hbv.cell
  clear hbel hbo hbv hr0
  by_cases hlt : j < 3
  ·have hlt' : j < (o.rv p).length := hlt
   obtain ⟨y, hy⟩ : ∃ y, (o.rv p)[j] = y := ⟨_, rfl⟩
   have hm : y ∈ o.rv p := hy ▸ List.getElem_mem hlt'
   have hx : (va (o.rv p))[j]? = some (.slice y.ao y.xs.length y.cap) := by rw [va_at hlt', hy]; rfl
   obtain ⟨R, hR⟩ : ∃ R, A ++ rpt ((o.rv p).take j) = R := ⟨_, rfl⟩
   obtain ⟨W, hW⟩ : ∃ W, Rk.pw y.xs = W := ⟨_, rfl⟩
   obtain ⟨S, hS⟩ : ∃ S, Pk.tx W = S := ⟨_, rfl⟩
   obtain ⟨e, he⟩ : ∃ e, Rk.pe y.xs = e := ⟨_, rfl⟩
   have lS : S.length ≤ 620 := by rw [← hS, ← hW]; exact tpw_le _
   have lR : R.length ≤ 2000 := by rw [← hR, List.length_append]; have := rpt_le ((o.rv p).take j); have : ((o.rv p).take j).length ≤ 3 := by rw [List.length_take]; omega
                                   have := HA.out.2; omega
   have q9 : (9223372036854775807 < R.length + S.length) = False := by simp; omega
   have nx : A ++ rpt ((o.rv p).take (j + 1)) = R ++ S := by rw [rpt_next hlt', ← List.append_assoc, hR, hy, hW, hS]
   have HX := zh (za nx (za hS (za hW (za he (za hm hy)))))
   have lW := zh (show W.length ≤ 610 from hW ▸ Rk.pw_len _)
   rw [hR]
   clear hR hS nx lS lR hW hm hy he
   go_wp2_with fail
   refine (Rk.put_x y.xs W e y.xs.length y.ao y.cap _ rfl (rv_in (H.out.2.1.below J.out.1) y HX.out.2.2.2.2.1) (rv_ok H.out.2.1.2.2.2.2 y HX.out.2.2.2.2.1) HX.out.2.2.1 HX.out.2.2.2.1).mono ?_
   rintro e' w6 ⟨rfl, hb⟩
   have K6 := zh (za (step0 J.out.1 hb) (za (J.out.2.1.below hb) (J.out.2.2.1.below hb)))
   clear hb qv
   by_cases hz : e = 0
   ·subst hz
    have NX := zh (rpe_next hlt' J.out.2.2.2 (by rw [HX.out.2.2.2.2.2]; exact HX.out.2.2.2.1))
    go_wp2_with fail
    refine (text_is W S _ (by have := lW.out; omega) HX.out.2.1).mono ?_
    rintro e w7 ⟨rfl, hb⟩
    have K7 := zh (za (step0 K6.out.1 hb) (za (K6.out.2.1.below hb) (K6.out.2.2.below hb)))
    clear hb
    go_wp2
    go_roundw
    case rel => exact ⟨j + 1, by rw [HX.out.1]; first | rfl | simp, by go_num, hlt, NX.out, K7.out⟩
    case measure => simp [intOf]; omega
   ·have e1 := bne_t hz
    have NX := zh (show E = e ∧ T = [] from by
     have g := rpe_stop hlt' J.out.2.2.2 (by rw [HX.out.2.2.2.2.2, HX.out.2.2.2.1]; exact hz)
     rw [HX.out.2.2.2.2.2, HX.out.2.2.2.1] at g
     have g2 : o.pe = e := by rw [U.out.2.2.2.2.1, g, if_pos hz]
     exact ⟨U.out.2.2.2.2.2.2.symm.trans g2, U.out.2.2.2.2.2.1.symm.trans (opb_bad (by rw [g2]; exact hz))⟩)
    clear hz
    go_wp2
    go_ret2
    rw [NX.out.1, NX.out.2]
    exact ⟨rfl, K6.out.1⟩
  ·obtain rfl : j = 3 := by omega
   have hr : rpe (o.rv p) = 0 := J.out.2.2.2
   rw [show (o.rv p).take 3 = o.rv p from rfl]
   obtain ⟨R, hR⟩ : ∃ R, A ++ rpt (o.rv p) = R := ⟨_, rfl⟩
   have lR : R.length ≤ 2000 := by rw [← hR, List.length_append]; have := rpt_le (o.rv p); have : (o.rv p).length = 3 := rfl
                                   have := HA.out.2; omega
   have l3 : (9223372036854775807 < R.length + N3.length) = False := by have := L.out; simp; omega
   have ghd : o.hd = R ++ N3 := by rw [U.out.2.2.2.1, ← hR, ← HA.out.1]
   have gpe : o.pe = if o.kind = 6 then o.ch.pe else 0 := by rw [U.out.2.2.2.2.1, if_neg (by simpa using hr)]
   have Y := zh (za ghd (za gpe lR))
   rw [hR]
   clear hR lR hr ghd gpe hlt hj qv
   have qc := J.out.2.1.cell
   go_wp2_with fail
   refine (uint_is o.max N3 _ (by have := H.out.2.2; omega) (by have := H.out.2.2; omega) U.out.2.2.1).mono ?_
   rintro e w8 ⟨rfl, hb⟩
   have K8 := zh (za (step0 J.out.1 hb) (J.out.2.1.below hb))
   clear hb qc
   have qc := K8.out.2.cell
   by_cases h6 : o.kind = 6
   ·have e6 : (o.kind != 6) = false := by simpa using h6
    have gpe : o.pe = o.ch.pe := by rw [Y.out.2.1, if_pos h6]
    obtain ⟨C, hC⟩ : ∃ C, o.ch.pb = C := ⟨_, rfl⟩
    have lC : C.length ≤ 3000 := hC ▸ pb_le o.ch
    have l4 : (9223372036854775807 < R.length + N3.length + C.length) = False := by have := L.out; have := Y.out.2.2; simp; omega
    have G := zh (za gpe (za hC (show o.cb = C from by unfold O.cb; rw [if_pos h6]; exact hC)))
    clear gpe hC lC h6
    go_wp2_with ((refine (?_ : wpList _ _ _ (Oper.mk _ (Op.load 32 _) _ _ _ _ :: _) _ _)); refine wpList_load_part rfl 32 48 _ rfl (w.heap.size) 6 rfl (o.pre p) [] (o.ch.a p.n p.nc p.d p.dc) _ (K8.out.2) rfl Tryz.underlying32 rfl (infoCh) ?_; go_frame)
    refine (pute_is o.ch p.n p.nc p.d p.dc C E _ (H.out.1.keep K8.out.1) (H.out.2.1.below K8.out.1).2.2.2.1 G.out.2.1 (by rw [← G.out.1]; exact U.out.2.2.2.2.2.2)).mono ?_
    rintro e w9 ⟨rfl, hb⟩
    have K9 := zh (step0 K8.out.1 hb)
    clear hb qc
    by_cases hz : E = 0
    ·subst hz
     have FN := zh (show R ++ N3 ++ C = T from by
      rw [← U.out.2.2.2.2.2.1]
      unfold O.pb
      rw [if_neg (by simpa using U.out.2.2.2.2.2.2), Y.out.1, G.out.2.2])
     go_wp2
     refine bodyPost_ret (v := .tuple #[.string ⟨(R ++ N3 ++ C).toArray⟩, .int .i64 0]) ?_ rfl ⟨?_, K9.out⟩
     ·simp [results, Tryz.results16, go_sem]
      rw [cat_list, cat_list]
      simp
     ·rw [FN.out]
    ·have e1 := bne_t hz
     have FN := zh (show T = [] from U.out.2.2.2.2.2.1.symm.trans (opb_bad (by rw [U.out.2.2.2.2.2.2]; exact hz)))
     clear hz
     go_wp2
     go_ret2
     rw [FN.out]
     exact ⟨rfl, K9.out⟩
   ·have e6 : (o.kind != 6) = true := by simpa using h6
    have g0 : o.pe = 0 := by rw [Y.out.2.1, if_neg h6]
    have FN := zh (show R ++ N3 = T ∧ E = 0 from by
     refine ⟨?_, U.out.2.2.2.2.2.2.symm.trans g0⟩
     rw [← U.out.2.2.2.2.2.1]
     unfold O.pb O.cb
     rw [if_neg (by simpa using g0), Y.out.1, if_neg h6, List.append_nil])
    clear h6 g0
    go_wp2
    refine bodyPost_ret (v := .tuple #[.string ⟨(R ++ N3).toArray⟩, .int .i64 0]) ?_ rfl ⟨?_, K8.out.1⟩
    ·simp [results, Tryz.results16, go_sem]
     exact cat_list _ _
    ·rw [FN.out.1, FN.out.2]
theorem puto_is (o : O) (p : Ps) (T : List UInt8) (E : Int) (w : World) (hg : Env w) (hi : InO w o p) (hT : o.pb = T) (hE : o.pe = E) :
  Calls Tryz.prog 16 #[.agg (o.a p)] w fun e w' => e = .returned (.tuple #[.string ⟨T.toArray⟩, .int .i64 E]) ∧ Below w.heap.size w w' := by
 have g : ∀ e : Int, o.pe = e → ¬ e = 0 → T = [] ∧ E = e := fun e h hn => ⟨hT.symm.trans (opb_bad (by rw [h]; exact hn)), hE.symm.trans h⟩
 by_cases h1 : o.kind < 1
 ·obtain ⟨rfl, rfl⟩ := g 1 (if_pos (.inl h1)) (by decide); exact po_1 o p w h1
 by_cases h2 : 9 < o.kind
 ·obtain ⟨rfl, rfl⟩ := g 1 (if_pos (.inr (.inl h2))) (by decide); exact po_2 o p w (by simpa using h1) h2
 by_cases h3 : o.max < 0
 ·obtain ⟨rfl, rfl⟩ := g 1 (if_pos (.inr (.inr (.inl h3)))) (by decide); exact po_3 o p w (by simpa using h1) (by simpa using h2) h3
 by_cases h4 : 64 < o.max
 ·obtain ⟨rfl, rfl⟩ := g 1 (if_pos (.inr (.inr (.inr h4)))) (by decide); exact po_4 o p w (by simpa using h1) (by simpa using h2) (by simpa using h3) h4
 by_cases h5 : 16 < o.table.length
 ·obtain ⟨rfl, rfl⟩ := g 8 (by unfold O.pe; rw [if_neg (by omega), if_pos h5]) (by decide); exact po_5 o p w (by simpa using h1) (by simpa using h2) (by simpa using h3) (by simpa using h4) (by omega)
 exact po_6 o p T E w hg hi (by simpa using h1) (by simpa using h2) (by simpa using h3) (by simpa using h4) (by rw [decide_eq_false_iff_not]; omega) hT hE
end Go.Proofs.YtmgdciihpjifgaaGreatDoor
