/-
 A change's bytes: around, putTable, checkChange, PutChange. Conditions: a change in memory that keeps a value's bounds.
 A change's bytes: checkChange, PutChange. Conditions: a change in memory that keeps a value's bounds.
 A change's bytes: PutChange. Conditions: a change in memory that keeps a value's bounds.
-/
import Derived.Test.YtmgdciihpjifgaaGreatDoorQrOpMem
import Derived.Test.YtmgdciihpjifgaaGreatDoorQrScPut
import Derived.Test.YtmgdciihpjifgaaGreatDoorQrPackInts
import Derived.BigQuiet
import Derived.Deep.QuietTactic
import Derived.Deep.RegionHeld3
set_option maxHeartbeats 4000000
namespace Go.Proofs.YtmgdciihpjifgaaGreatDoor
open Go.RowKit
theorem slc_two {W : World} {g : Nat} {x y : C} (h : Blk W g #[.string ⟨x.name.toArray⟩, .int .i64 x.kind, .bool x.null, .int .i64 x.d.k, .int .i64 x.d.n, .int .u64 x.d.b, .string ⟨x.d.s.toArray⟩, .string ⟨y.name.toArray⟩, .int .i64 y.kind, .bool y.null, .int .i64 y.d.k, .int .i64 y.d.n, .int .u64 y.d.b, .string ⟨y.d.s.toArray⟩] 27) : SlC W (some ⟨g, 0, none⟩) [x, y] := by
 intro i c hi
 refine ⟨⟨g, 0, none⟩, rfl, ?_⟩
 match i, hi with
 | 0, hi =>
  obtain rfl : x = c := by simpa using hi
  rw [add_none]
  exact ⟨h.cell 0, h.cell 1, h.cell 2, h.cell 3, h.cell 4, h.cell 5, h.cell 6⟩
 | 1, hi =>
  obtain rfl : y = c := by simpa using hi
  rw [add_none]
  exact ⟨h.cell 7, h.cell 8, h.cell 9, h.cell 10, h.cell 11, h.cell 12, h.cell 13⟩
 | (i + 2), hi => simp at hi
theorem below4s (w : World) (a b c d : Obj) : Below w.heap.size w ((((w.alloc a).alloc b).alloc c).alloc d) :=
 ((below2s w a b).alloc (by simp; omega) c).alloc (by simp; omega) d
def AR (c : C) (w : World) (e : Ending) (w' : World) : Prop :=
 ∃ g, e = .returned (.agg #[.string ⟨(arn c).name.toArray⟩, .int .i64 (arn c).keys, .slice (some ⟨g, 0, none⟩) (arn c).cs.length 2]) ∧ SlC w' (some ⟨g, 0, none⟩) (arn c).cs ∧ w.heap.size ≤ g ∧ Below w.heap.size w w'
theorem AR.at3 {c : C} {w w' : World} {e : Ending} (h : AR c w e w') (ho : c.d.ok) : ∃ ao, e = .returned (.agg #[.string ⟨(arn c).name.toArray⟩, .int .i64 (arn c).keys, .slice ao (arn c).cs.length 2]) ∧ At3 w' (arn c) ao 2 ∧ Up w.heap.size ao ∧ Below w.heap.size w w' := by
 obtain ⟨g, rfl, hs, hg, hb⟩ := h
 refine ⟨_, rfl, ⟨hs, by simp [arn], ?_⟩, (fun a e => by cases e; exact hg), hb⟩
 intro x hx
 simp only [arn, List.mem_cons, List.not_mem_nil, or_false] at hx
 rcases hx with rfl | rfl
 ·exact vz_ok
 ·exact ho
theorem around_y (c : C) (w : World) (h : (c.name == [107]) = true) :
  Calls Tryz.prog 58 #[.agg #[.string ⟨c.name.toArray⟩, .int .i64 c.kind, .bool c.null, .int .i64 c.d.k, .int .i64 c.d.n, .int .u64 c.d.b, .string ⟨c.d.s.toArray⟩]] w (AR c w) := by
 have e : arn c = ⟨[120], 1, [⟨[106], 2, false, ⟨0, 0, 0, []⟩⟩, c]⟩ := by unfold arn; rw [if_pos (by simpa using h)]
 unfold AR
 rw [e]
 go_enter Tryz.func58, Tryz.ntmps58
 go_wp2
 refine bodyPost_ret (v := .agg #[.string ⟨([120] : List UInt8).toArray⟩, .int .i64 1, .slice (some ⟨w.heap.size + 3, 0, none⟩) 2 2]) ?_ rfl ⟨w.heap.size + 3, rfl, slc_two (Blk.new' _ _ _ _ (by simp)), by omega, below4s _ _ _ _ _⟩
 simp [results, Tryz.results58, go_sem]
theorem around_n (c : C) (w : World) (h : (c.name == [107]) = false) :
  Calls Tryz.prog 58 #[.agg #[.string ⟨c.name.toArray⟩, .int .i64 c.kind, .bool c.null, .int .i64 c.d.k, .int .i64 c.d.n, .int .u64 c.d.b, .string ⟨c.d.s.toArray⟩]] w (AR c w) := by
 have e : arn c = ⟨[120], 1, [⟨[107], 2, false, ⟨0, 0, 0, []⟩⟩, c]⟩ := by unfold arn; rw [if_neg (by simpa using h)]
 unfold AR
 rw [e]
 go_enter Tryz.func58, Tryz.ntmps58
 go_wp2
 refine bodyPost_ret (v := .agg #[.string ⟨([120] : List UInt8).toArray⟩, .int .i64 1, .slice (some ⟨w.heap.size + 3, 0, none⟩) 2 2]) ?_ rfl ⟨w.heap.size + 3, rfl, slc_two (Blk.new' _ _ _ _ (by simp)), by omega, below4s _ _ _ _ _⟩
 simp [results, Tryz.results58, go_sem]
theorem around_is (c : C) (w : World) :
  Calls Tryz.prog 58 #[.agg #[.string ⟨c.name.toArray⟩, .int .i64 c.kind, .bool c.null, .int .i64 c.d.k, .int .i64 c.d.n, .int .u64 c.d.b, .string ⟨c.d.s.toArray⟩]] w (AR c w) := by
 by_cases h : c.name = [107]
 ·exact around_y c w (by simpa using h)
 ·exact around_n c w (by simpa using h)
def InC (W : World) (c : Ch) (no : Option Addr) (dO : Option Addr) (dc : Nat) : Prop := SlS W no c.names ∧ At3 W c.df dO dc ∧ c.col.d.ok
theorem InC.below {W W' : World} {c : Ch} {no : Option Addr} {dO : Option Addr} {dc : Nat} (h : InC W c no dO dc) (hb : Below W.heap.size W W') : InC W' c no dO dc := ⟨h.1.below hb, h.2.1.keep hb, h.2.2⟩
theorem InC.alloc {W : World} {c : Ch} {no : Option Addr} {dO : Option Addr} {dc : Nat} (h : InC W c no dO dc) (o : Obj) : InC (W.alloc o) c no dO dc := h.below (below1 W o)
theorem putTable_1 (c : Ch) (no : Option Addr) (nc : Nat) (dO : Option Addr) (dc : Nat) (w : World) (hg : Env w) (hc : InC w c no dO dc) (hk : (c.kind == 1) = true) :
  Calls Tryz.prog 29 #[.agg (c.a no nc dO dc)] w fun e w' => e = .returned (.tuple #[.string ⟨c.tb.toArray⟩, .int .i64 c.te]) ∧ Below w.heap.size w w' := by
 have hk' : c.kind = 1 := by simpa using hk
 have e1 : c.te = c.df.ck := by unfold Ch.te Ch.tt; rw [if_pos (.inl hk'), if_pos hk']
 have e2 : c.tb = c.df.pt := by unfold Ch.tb Ch.tt; rw [if_pos (.inl hk'), if_pos hk']
 rw [e1, e2]
 clear hk' e1 e2
 have H := zh (za hg hc)
 clear hg hc
 go_enter Tryz.func29, Tryz.ntmps29
 go_wp2_with fail
 refine (put_t c.df dO dc _ _ (H.out.1.keep (below1 w _)) (H.out.2.alloc _).2.1 rfl).mono ?_
 rintro e w1 ⟨rfl, hb⟩
 have B := zh (step1 (Below.refl _ w) hb)
 clear hb
 go_wp2
 go_ret2
 exact ⟨rfl, B.out⟩
theorem putTable_2 (c : Ch) (no : Option Addr) (nc : Nat) (dO : Option Addr) (dc : Nat) (w : World) (hg : Env w) (hc : InC w c no dO dc) (hn : (c.kind == 1) = false) (hk : (c.kind == 2) = true) :
  Calls Tryz.prog 29 #[.agg (c.a no nc dO dc)] w fun e w' => e = .returned (.tuple #[.string ⟨c.tb.toArray⟩, .int .i64 c.te]) ∧ Below w.heap.size w w' := by
 have hk' : c.kind = 2 := by simpa using hk
 have e1 : c.te = (arn c.col).ck := by unfold Ch.te Ch.tt; rw [if_pos (.inr hk'), if_neg (by omega)]
 have e2 : c.tb = (arn c.col).pt := by unfold Ch.tb Ch.tt; rw [if_pos (.inr hk'), if_neg (by omega)]
 rw [e1, e2]
 clear hk' e1 e2
 have H := zh (za hg hc)
 clear hg hc
 go_enter Tryz.func29, Tryz.ntmps29
 go_wp2_with fail
 refine (around_is c.col _).mono ?_
 intro e w1 har
 obtain ⟨ao, rfl, h3, _, hb⟩ := har.at3 H.out.2.2.2
 have B := zh (za (step1 (Below.refl _ w) hb) h3)
 clear hb h3 har
 go_wp2_with fail
 refine (put_t (arn c.col) ao 2 _ _ (H.out.1.keep B.out.1) B.out.2 rfl).mono ?_
 rintro e w2 ⟨rfl, hb⟩
 have B2 := zh (step0 B.out.1 hb)
 clear hb
 go_wp2
 go_ret2
 exact ⟨rfl, B2.out⟩
theorem putTable_0 (c : Ch) (no : Option Addr) (nc : Nat) (dO : Option Addr) (dc : Nat) (w : World) (hn : (c.kind == 1) = false) (hk : (c.kind == 2) = false) :
  Calls Tryz.prog 29 #[.agg (c.a no nc dO dc)] w fun e w' => e = .returned (.tuple #[.string ⟨c.tb.toArray⟩, .int .i64 c.te]) ∧ Below w.heap.size w w' := by
 have h1 : ¬ (c.kind = 1 ∨ c.kind = 2) := by simp at hn hk; omega
 have e1 : c.te = 0 := by unfold Ch.te; rw [if_neg h1]
 have e2 : c.tb = [] := by unfold Ch.tb; rw [if_neg h1]
 rw [e1, e2]
 clear h1 e1 e2
 go_enter Tryz.func29, Tryz.ntmps29
 go_wp2
 go_ret2
 exact ⟨rfl, below1 _ _⟩
theorem putTable_is (c : Ch) (no : Option Addr) (nc : Nat) (dO : Option Addr) (dc : Nat) (T : List UInt8) (E : Int) (w : World) (hg : Env w) (hc : InC w c no dO dc) (hT : c.tb = T) (hE : c.te = E) :
  Calls Tryz.prog 29 #[.agg (c.a no nc dO dc)] w fun e w' => e = .returned (.tuple #[.string ⟨T.toArray⟩, .int .i64 E]) ∧ Below w.heap.size w w' := by
 subst hT hE
 by_cases h1 : c.kind = 1
 ·exact putTable_1 c no nc dO dc w hg hc (by simpa using h1)
 ·by_cases h2 : c.kind = 2
  ·exact putTable_2 c no nc dO dc w hg hc (by simpa using h1) (by simpa using h2)
  ·exact putTable_0 c no nc dO dc w (by simpa using h1) (by simpa using h2)
end Go.Proofs.YtmgdciihpjifgaaGreatDoor
namespace Go.Proofs.YtmgdciihpjifgaaGreatDoor
open Go.RowKit
theorem infoT5 {l : List Nm.S} (h : l.length = 5) : (Tryz.prog.info? 72).map (·.size) = some (sa l).size := by
 rw [sa_size, h]; kernel_rfl
theorem sa_one (l : List Nm.S) : (sa l).all (·.oneCell') = true := by
 unfold sa
 refine all_oneCell_toArray fun v hv => ?_
 obtain ⟨s, _, rfl⟩ := List.mem_map.1 hv
 rfl
theorem tx_len (c : Ch) : c.tx.length = 5 := rfl
theorem lng_no {l : List Nm.S} {j : Nat} (hj : j < l.length) (h : lng l = false) : l[j].length ≤ 16 := by
 unfold lng at h
 have := List.any_eq_false.1 h _ (List.getElem_mem hj)
 simpa using this
theorem lng_take {l : List Nm.S} {j : Nat} (hj : j < l.length) (h : lng (l.take j) = false) (g : ¬ 16 < l[j].length) : lng (l.take (j + 1)) = false := by
 unfold lng at *
 rw [List.take_succ_eq_append_getElem hj, List.any_append, h]
 simpa using g
theorem cc_1 (c : Ch) (no : Option Addr) (nc : Nat) (dO : Option Addr) (dc : Nat) (w : World) (h1 : c.kind < 1) :
  Calls Tryz.prog 28 #[.agg (c.a no nc dO dc)] w fun e w' => e = .returned (.int .i64 1) ∧ Below w.heap.size w w' := by
 go_enter Tryz.func28, Tryz.ntmps28
 go_wp2
 go_ret
 exact ⟨rfl, below1 _ _⟩
theorem cc_2 (c : Ch) (no : Option Addr) (nc : Nat) (dO : Option Addr) (dc : Nat) (w : World) (h1 : decide (c.kind < 1) = false) (h2 : 6 < c.kind) :
  Calls Tryz.prog 28 #[.agg (c.a no nc dO dc)] w fun e w' => e = .returned (.int .i64 1) ∧ Below w.heap.size w w' := by
 go_enter Tryz.func28, Tryz.ntmps28
 go_wp2
 go_ret
 exact ⟨rfl, below1 _ _⟩
theorem cc_3 (c : Ch) (no : Option Addr) (nc : Nat) (dO : Option Addr) (dc : Nat) (w : World) (h1 : decide (c.kind < 1) = false) (h2 : decide (6 < c.kind) = false) (h3 : c.type < 0) :
  Calls Tryz.prog 28 #[.agg (c.a no nc dO dc)] w fun e w' => e = .returned (.int .i64 1) ∧ Below w.heap.size w w' := by
 go_enter Tryz.func28, Tryz.ntmps28
 go_wp2
 go_ret
 exact ⟨rfl, below1 _ _⟩
theorem cc_4 (c : Ch) (no : Option Addr) (nc : Nat) (dO : Option Addr) (dc : Nat) (w : World) (h1 : decide (c.kind < 1) = false) (h2 : decide (6 < c.kind) = false) (h3 : decide (c.type < 0) = false) (h4 : 100 < c.type) :
  Calls Tryz.prog 28 #[.agg (c.a no nc dO dc)] w fun e w' => e = .returned (.int .i64 1) ∧ Below w.heap.size w w' := by
 go_enter Tryz.func28, Tryz.ntmps28
 go_wp2
 go_ret
 exact ⟨rfl, below1 _ _⟩
theorem cc_5 (c : Ch) (no : Option Addr) (nc : Nat) (dO : Option Addr) (dc : Nat) (w : World) (h1 : decide (c.kind < 1) = false) (h2 : decide (6 < c.kind) = false) (h3 : decide (c.type < 0) = false) (h4 : decide (100 < c.type) = false) (h5 : (8 : Int) < (c.names.length : Int)) :
  Calls Tryz.prog 28 #[.agg (c.a no nc dO dc)] w fun e w' => e = .returned (.int .i64 1) ∧ Below w.heap.size w w' := by
 go_enter Tryz.func28, Tryz.ntmps28
 go_wp2
 go_ret
 exact ⟨rfl, below1 _ _⟩
theorem cc_6 (c : Ch) (no : Option Addr) (nc : Nat) (dO : Option Addr) (dc : Nat) (w : World) (h1 : decide (c.kind < 1) = false) (h2 : decide (6 < c.kind) = false) (h3 : decide (c.type < 0) = false) (h4 : decide (100 < c.type) = false) (h5 : decide ((8 : Int) < (c.names.length : Int)) = false) (hL : lng c.tx = true) :
  Calls Tryz.prog 28 #[.agg (c.a no nc dO dc)] w fun e w' => e = .returned (.int .i64 8) ∧ Below w.heap.size w w' := by
 have HL := zh hL
 clear hL
 go_enter Tryz.func28, Tryz.ntmps28
 go_wp2_with ((refine (?_ : wpList _ _ _ (Oper.mk _ (Op.load 32 _) _ _ _ _ :: _) _ _)); refine wpList_load_blk rfl 32 _ rfl (w.heap.size) rfl (c.a no nc dO dc) _ (Blk.new w _ _) Tryz.underlying32 rfl (infoCh) ?_; go_frame)
 refine (textsOf_is c no nc dO dc _).mono ?_
 rintro e w1 ⟨rfl, hb⟩
 have B1 := zh (za (step1 (Below.refl _ w) hb) ((Blk.new w (c.a no nc dO dc) 32).below hb))
 clear hb
 go_wp2_with ((refine (?_ : wpList _ _ _ (Oper.mk _ (Op.store 72 _ _) _ _ _ _ :: _) _ _)); refine wpList_store_blk rfl 72 _ _ rfl (w1.heap.size) (sa [[], [], [], [], []]) (sa c.tx) rfl rfl (Blk.new' _ _ _ _ (by first | rfl | simp)) (by first | rfl | simp [sa_size]) (infoT5 rfl) (sa_one _) ?_)
 intro w2 q2 r2
 have K := zh (za (r2.below _ _ B1.out.1.size (B1.out.1.alloc B1.out.1.size _)) (za ((B1.out.2.alloc _).wr r2 (by have := B1.out.2.lt; omega)) q2))
 clear B1 q2 r2
 have qt := K.out.2.2.cell
 have qc := K.out.2.1.cell
 go_wp2
 have L5 := zh (tx_len c)
 go_loop [33] (fun i => ∃ j : Nat, i = .int .i64 j ∧ j ≤ 5 ∧ lng (c.tx.take j) = false) (fun i => 5 - (intOf i).toNat)
 case atStart => exact ⟨0, rfl, by omega, rfl⟩
 case round =>
  obtain ⟨j, rfl, hj, hJ⟩ := hrel
  have J := zh hJ
  clear hJ
  by_cases hlt : j < 5
  ·have hlt' : j < c.tx.length := hlt
   have hw : wrap64 ((j : Int) + 1) = (j : Int) + 1 := wrap_in _ (by omega) (by omega)
   have hx : (sa c.tx)[j]? = some (.string ⟨c.tx[j].toArray⟩) := sa_at hlt'
   by_cases g : 16 < c.tx[j].length
   ·have q1 : (16 : Int) < (c.tx[j].length : Int) := by omega
    clear g
    go_wp2
    go_ret
    exact ⟨rfl, K.out.1⟩
   ·have q1 : decide ((16 : Int) < (c.tx[j].length : Int)) = false := by rw [decide_eq_false_iff_not]; omega
    have X := zh (lng_take hlt' J.out g)
    clear g
    go_wp2
    go_round
    case rel => exact ⟨j + 1, by go_num, hlt, X.out⟩
    case measure => first | (rw [hw]; simp [intOf]; omega) | (simp [intOf]; omega)
  ·exfalso
   have e := List.take_of_length_le (l := c.tx) (i := j) (by rw [tx_len]; omega)
   have := J.out
   rw [e, HL.out] at this
   cases this
theorem cc_7 (c : Ch) (no : Option Addr) (nc : Nat) (dO : Option Addr) (dc : Nat) (w : World) (hN : SlS w no c.names) (h1 : decide (c.kind < 1) = false) (h2 : decide (6 < c.kind) = false) (h3 : decide (c.type < 0) = false) (h4 : decide (100 < c.type) = false) (h5 : decide ((8 : Int) < (c.names.length : Int)) = false) (hL : lng c.tx = false) (hM : lng c.names = true) :
  Calls Tryz.prog 28 #[.agg (c.a no nc dO dc)] w fun e w' => e = .returned (.int .i64 8) ∧ Below w.heap.size w w' := by
 have HL := zh (za hL hM)
 have HN := zh hN
 clear hL hM hN
 go_enter Tryz.func28, Tryz.ntmps28
 go_wp2_with ((refine (?_ : wpList _ _ _ (Oper.mk _ (Op.load 32 _) _ _ _ _ :: _) _ _)); refine wpList_load_blk rfl 32 _ rfl (w.heap.size) rfl (c.a no nc dO dc) _ (Blk.new w _ _) Tryz.underlying32 rfl (infoCh) ?_; go_frame)
 refine (textsOf_is c no nc dO dc _).mono ?_
 rintro e w1 ⟨rfl, hb⟩
 have B1 := zh (za (step1 (Below.refl _ w) hb) ((Blk.new w (c.a no nc dO dc) 32).below hb))
 clear hb
 go_wp2_with ((refine (?_ : wpList _ _ _ (Oper.mk _ (Op.store 72 _ _) _ _ _ _ :: _) _ _)); refine wpList_store_blk rfl 72 _ _ rfl (w1.heap.size) (sa [[], [], [], [], []]) (sa c.tx) rfl rfl (Blk.new' _ _ _ _ (by first | rfl | simp)) (by first | rfl | simp [sa_size]) (infoT5 rfl) (sa_one _) ?_)
 intro w2 q2 r2
 have K := zh (za (r2.below _ _ B1.out.1.size (B1.out.1.alloc B1.out.1.size _)) (za ((B1.out.2.alloc _).wr r2 (by have := B1.out.2.lt; omega)) q2))
 clear B1 q2 r2
 have qt := K.out.2.2.cell
 have qc := K.out.2.1.cell
 go_wp2
 have L5 := zh (tx_len c)
 go_loop [33] (fun i => ∃ j : Nat, i = .int .i64 j ∧ j ≤ 5 ∧ lng (c.tx.take j) = false) (fun i => 5 - (intOf i).toNat)
 case atStart => exact ⟨0, rfl, by omega, rfl⟩
 case round =>
  obtain ⟨j, rfl, hj, hJ⟩ := hrel
  have J := zh hJ
  clear hJ
  by_cases hlt : j < 5
  ·have hlt' : j < c.tx.length := hlt
   have hw : wrap64 ((j : Int) + 1) = (j : Int) + 1 := wrap_in _ (by omega) (by omega)
   have hx : (sa c.tx)[j]? = some (.string ⟨c.tx[j].toArray⟩) := sa_at hlt'
   have q1 : decide ((16 : Int) < (c.tx[j].length : Int)) = false := by have := lng_no hlt' HL.out.1; rw [decide_eq_false_iff_not]; omega
   have X := zh (lng_take hlt' J.out (by have := lng_no hlt' HL.out.1; omega))
   go_wp2
   go_round
   case rel => exact ⟨j + 1, by go_num, hlt, X.out⟩
   case measure => first | (rw [hw]; simp [intOf]; omega) | (simp [intOf]; omega)
  ·obtain rfl : j = 5 := by omega
   clear J hlt hj
   go_wp2
   have LN := zh h5
   go_loop [45] (fun i => ∃ j : Nat, i = .int .i64 j ∧ j ≤ c.names.length ∧ lng (c.names.take j) = false) (fun i => c.names.length - (intOf i).toNat)
   case atStart => exact ⟨0, rfl, by omega, rfl⟩
   case round =>
    obtain ⟨j, rfl, hj, hJ⟩ := hrel
    have J := zh hJ
    clear hJ
    by_cases hlt : j < c.names.length
    ·have hw : wrap64 ((j : Int) + 1) = (j : Int) + 1 := wrap_in _ (by omega) (by have := LN.out; rw [decide_eq_false_iff_not] at this; omega)
     obtain ⟨a, rfl, h0⟩ := (HN.out.below K.out.1) j c.names[j] (List.getElem?_eq_getElem hlt)
     by_cases g : 16 < c.names[j].length
     ·have q1 : (16 : Int) < (c.names[j].length : Int) := by omega
      clear g
      go_wp2
      go_ret
      exact ⟨rfl, K.out.1⟩
     ·have q1 : decide ((16 : Int) < (c.names[j].length : Int)) = false := by rw [decide_eq_false_iff_not]; omega
      have X := zh (lng_take hlt J.out g)
      clear g
      go_wp2
      go_round
      case rel => exact ⟨j + 1, by go_num, hlt, X.out⟩
      case measure => first | (rw [hw]; simp [intOf]; omega) | (simp [intOf]; omega)
    ·exfalso
     have e := List.take_of_length_le (l := c.names) (i := j) (by omega)
     have := J.out
     rw [e, HL.out.2] at this
     cases this
theorem cc_8 (c : Ch) (no : Option Addr) (nc : Nat) (dO : Option Addr) (dc : Nat) (w : World) (hN : SlS w no c.names) (h1 : decide (c.kind < 1) = false) (h2 : decide (6 < c.kind) = false) (h3 : decide (c.type < 0) = false) (h4 : decide (100 < c.type) = false) (h5 : decide ((8 : Int) < (c.names.length : Int)) = false) (hL : lng c.tx = false) (hM : lng c.names = false) :
  Calls Tryz.prog 28 #[.agg (c.a no nc dO dc)] w fun e w' => e = .returned (.int .i64 0) ∧ Below w.heap.size w w' := by
 have HL := zh (za hL hM)
 have HN := zh hN
 clear hL hM hN
 go_enter Tryz.func28, Tryz.ntmps28
 go_wp2_with ((refine (?_ : wpList _ _ _ (Oper.mk _ (Op.load 32 _) _ _ _ _ :: _) _ _)); refine wpList_load_blk rfl 32 _ rfl (w.heap.size) rfl (c.a no nc dO dc) _ (Blk.new w _ _) Tryz.underlying32 rfl (infoCh) ?_; go_frame)
 refine (textsOf_is c no nc dO dc _).mono ?_
 rintro e w1 ⟨rfl, hb⟩
 have B1 := zh (za (step1 (Below.refl _ w) hb) ((Blk.new w (c.a no nc dO dc) 32).below hb))
 clear hb
 go_wp2_with ((refine (?_ : wpList _ _ _ (Oper.mk _ (Op.store 72 _ _) _ _ _ _ :: _) _ _)); refine wpList_store_blk rfl 72 _ _ rfl (w1.heap.size) (sa [[], [], [], [], []]) (sa c.tx) rfl rfl (Blk.new' _ _ _ _ (by first | rfl | simp)) (by first | rfl | simp [sa_size]) (infoT5 rfl) (sa_one _) ?_)
 intro w2 q2 r2
 have K := zh (za (r2.below _ _ B1.out.1.size (B1.out.1.alloc B1.out.1.size _)) (za ((B1.out.2.alloc _).wr r2 (by have := B1.out.2.lt; omega)) q2))
 clear B1 q2 r2
 have qt := K.out.2.2.cell
 have qc := K.out.2.1.cell
 go_wp2
 have L5 := zh (tx_len c)
 go_loop [33] (fun i => ∃ j : Nat, i = .int .i64 j ∧ j ≤ 5 ∧ lng (c.tx.take j) = false) (fun i => 5 - (intOf i).toNat)
 case atStart => exact ⟨0, rfl, by omega, rfl⟩
 case round =>
  obtain ⟨j, rfl, hj, hJ⟩ := hrel
  have J := zh hJ
  clear hJ
  by_cases hlt : j < 5
  ·have hlt' : j < c.tx.length := hlt
   have hw : wrap64 ((j : Int) + 1) = (j : Int) + 1 := wrap_in _ (by omega) (by omega)
   have hx : (sa c.tx)[j]? = some (.string ⟨c.tx[j].toArray⟩) := sa_at hlt'
   have q1 : decide ((16 : Int) < (c.tx[j].length : Int)) = false := by have := lng_no hlt' HL.out.1; rw [decide_eq_false_iff_not]; omega
   have X := zh (lng_take hlt' J.out (by have := lng_no hlt' HL.out.1; omega))
   go_wp2
   go_round
   case rel => exact ⟨j + 1, by go_num, hlt, X.out⟩
   case measure => first | (rw [hw]; simp [intOf]; omega) | (simp [intOf]; omega)
  ·obtain rfl : j = 5 := by omega
   clear J hlt hj
   go_wp2
   have LN := zh h5
   go_loop [45] (fun i => ∃ j : Nat, i = .int .i64 j ∧ j ≤ c.names.length ∧ lng (c.names.take j) = false) (fun i => c.names.length - (intOf i).toNat)
   case atStart => exact ⟨0, rfl, by omega, rfl⟩
   case round =>
    obtain ⟨j, rfl, hj, hJ⟩ := hrel
    have J := zh hJ
    clear hJ
    by_cases hlt : j < c.names.length
    ·have hw : wrap64 ((j : Int) + 1) = (j : Int) + 1 := wrap_in _ (by omega) (by have := LN.out; rw [decide_eq_false_iff_not] at this; omega)
     obtain ⟨a, rfl, h0⟩ := (HN.out.below K.out.1) j c.names[j] (List.getElem?_eq_getElem hlt)
     have q1 : decide ((16 : Int) < (c.names[j].length : Int)) = false := by have := lng_no hlt HL.out.2; rw [decide_eq_false_iff_not]; omega
     have X := zh (lng_take hlt J.out (by have := lng_no hlt HL.out.2; omega))
     go_wp2
     go_round
     case rel => exact ⟨j + 1, by go_num, hlt, X.out⟩
     case measure => first | (rw [hw]; simp [intOf]; omega) | (simp [intOf]; omega)
    ·obtain rfl : j = c.names.length := by omega
     go_wp2
     go_ret
     exact ⟨rfl, K.out.1⟩
theorem checkChange_is (c : Ch) (no : Option Addr) (nc : Nat) (dO : Option Addr) (dc : Nat) (E : Int) (w : World) (hN : SlS w no c.names) (h : c.ce = E) :
  Calls Tryz.prog 28 #[.agg (c.a no nc dO dc)] w fun e w' => e = .returned (.int .i64 E) ∧ Below w.heap.size w w' := by
 subst h
 by_cases h1 : c.kind < 1
 ·rw [show c.ce = 1 from if_pos (.inl h1)]; exact cc_1 c no nc dO dc w h1
 by_cases h2 : 6 < c.kind
 ·rw [show c.ce = 1 from if_pos (.inr (.inl h2))]; exact cc_2 c no nc dO dc w (by simpa using h1) h2
 by_cases h3 : c.type < 0
 ·rw [show c.ce = 1 from if_pos (.inr (.inr (.inl h3)))]; exact cc_3 c no nc dO dc w (by simpa using h1) (by simpa using h2) h3
 by_cases h4 : 100 < c.type
 ·rw [show c.ce = 1 from if_pos (.inr (.inr (.inr (.inl h4))))]; exact cc_4 c no nc dO dc w (by simpa using h1) (by simpa using h2) (by simpa using h3) h4
 by_cases h5 : 8 < c.names.length
 ·rw [show c.ce = 1 from if_pos (.inr (.inr (.inr (.inr h5))))]; exact cc_5 c no nc dO dc w (by simpa using h1) (by simpa using h2) (by simpa using h3) (by simpa using h4) (by omega)
 have g5 : decide ((8 : Int) < (c.names.length : Int)) = false := by rw [decide_eq_false_iff_not]; omega
 have e : c.ce = if lng c.tx = true ∨ lng c.names = true then 8 else 0 := by unfold Ch.ce; rw [if_neg (by omega)]
 rw [e]
 by_cases h6 : lng c.tx = true
 ·rw [if_pos (.inl h6)]; exact cc_6 c no nc dO dc w (by simpa using h1) (by simpa using h2) (by simpa using h3) (by simpa using h4) g5 h6
 by_cases h7 : lng c.names = true
 ·rw [if_pos (.inr h7)]; exact cc_7 c no nc dO dc w hN (by simpa using h1) (by simpa using h2) (by simpa using h3) (by simpa using h4) g5 (by simpa using h6) h7
 rw [if_neg (by simp [h6, h7])]
 exact cc_8 c no nc dO dc w hN (by simpa using h1) (by simpa using h2) (by simpa using h3) (by simpa using h4) g5 (by simpa using h6) (by simpa using h7)
end Go.Proofs.YtmgdciihpjifgaaGreatDoor
namespace Go.Proofs.YtmgdciihpjifgaaGreatDoor
open Go.RowKit
theorem tx_le {s : Nm.S} (h : s.length ≤ 16) : (Pk.tx s).length ≤ 26 := by
 have := Pk.ub_len 9 s.length
 unfold Pk.tx Pk.un
 rw [List.length_append]
 omega
theorem txs_append (a b : List Nm.S) : txs (a ++ b) = txs a ++ txs b := by
 induction a with
 | nil => rfl
 | cons x a ih => rw [List.cons_append, txs, txs, ih, List.append_assoc]
theorem txs_next {l : List Nm.S} {j : Nat} (hj : j < l.length) : txs (l.take (j + 1)) = txs (l.take j) ++ Pk.tx l[j] := by
 rw [List.take_succ_eq_append_getElem hj, txs_append]
 simp [txs]
theorem txs_le {l : List Nm.S} (h : ∀ s ∈ l, s.length ≤ 16) : (txs l).length ≤ 26 * l.length := by
 induction l with
 | nil => simp [txs]
 | cons x l ih =>
  have := tx_le (h x (List.mem_cons_self ..))
  have := ih fun s hs => h s (List.mem_cons_of_mem _ hs)
  rw [txs, List.length_append, List.length_cons]
  omega
theorem txs_lt {l : List Nm.S} {j : Nat} (h : ∀ s ∈ l, s.length ≤ 16) : (txs (l.take j)).length ≤ 26 * l.length := by
 have := txs_le (l := l.take j) fun s hs => h s (List.mem_of_mem_take hs)
 have : (l.take j).length ≤ l.length := by rw [List.length_take]; exact Nat.min_le_right _ _
 omega
theorem un_le (n : Nat) : (Pk.un n).length ≤ 10 := by have := Pk.ub_len 9 n; unfold Pk.un; omega
theorem tb_le (c : Ch) : c.tb.length ≤ 2000 := by
 unfold Ch.tb
 split
 ·unfold T.pt
  split
  ·simp
  ·rename_i h; exact by_len (by simpa using h)
 ·simp
theorem hd_le {c : Ch} (h : c.ce = 0) : c.hd.length ≤ 500 := by
 obtain ⟨h1, h2, h3, h4, h5, h6, h7⟩ := Ch.ce_ok h
 have a := un_le c.kind.toNat
 have b := un_le c.type.toNat
 have d := un_le c.names.length
 have e := txs_le h6
 have f := txs_le h7
 have g := tx_len c
 unfold Ch.hd
 simp only [List.length_append]
 omega
theorem pb_le (c : Ch) : c.pb.length ≤ 3000 := by
 unfold Ch.pb
 split
 ·simp
 ·rename_i h
  have h' : c.pe = 0 := by simpa using h
  have := hd_le (Ch.pe_ok h').1
  have := tb_le c
  rw [List.length_append]
  omega
theorem pc_1 (c : Ch) (no : Option Addr) (nc : Nat) (dO : Option Addr) (dc : Nat) (E : Int) (w : World) (hc : InC w c no dO dc) (h : c.ce = E) (hE : ¬ E = 0) :
  Calls Tryz.prog 10 #[.agg (c.a no nc dO dc)] w fun e w' => e = .returned (.tuple #[.string ⟨([] : List UInt8).toArray⟩, .int .i64 E]) ∧ Below w.heap.size w w' := by
 have H := zh (za hc h)
 clear hc h
 have e1 := bne_t hE
 go_enter Tryz.func10, Tryz.ntmps10
 go_wp2_with ((refine (?_ : wpList _ _ _ (Oper.mk _ (Op.load 32 _) _ _ _ _ :: _) _ _)); refine wpList_load_blk rfl 32 _ rfl (w.heap.size) rfl (c.a no nc dO dc) _ (Blk.new w _ _) Tryz.underlying32 rfl (infoCh) ?_; go_frame)
 refine (checkChange_is c no nc dO dc E _ (H.out.1.alloc _).1 H.out.2).mono ?_
 rintro e w1 ⟨rfl, hb⟩
 have B1 := zh (step1 (Below.refl _ w) hb)
 clear hb
 go_wp2
 go_ret2
 exact ⟨rfl, B1.out⟩
theorem pc_2 (c : Ch) (no : Option Addr) (nc : Nat) (dO : Option Addr) (dc : Nat) (E : Int) (w : World) (hg : Env w) (hc : InC w c no dO dc) (h : c.ce = 0) (hT : c.te = E) (hE : ¬ E = 0) :
  Calls Tryz.prog 10 #[.agg (c.a no nc dO dc)] w fun e w' => e = .returned (.tuple #[.string ⟨([] : List UInt8).toArray⟩, .int .i64 E]) ∧ Below w.heap.size w w' := by
 have e1 := bne_t hE
 have H := zh (za hg (za hc (za h hT)))
 clear hg hc h hT
 go_enter Tryz.func10, Tryz.ntmps10
 go_wp2_with ((refine (?_ : wpList _ _ _ (Oper.mk _ (Op.load 32 _) _ _ _ _ :: _) _ _)); refine wpList_load_blk rfl 32 _ rfl (w.heap.size) rfl (c.a no nc dO dc) _ (Blk.new w _ _) Tryz.underlying32 rfl (infoCh) ?_; go_frame)
 refine (checkChange_is c no nc dO dc 0 _ (H.out.2.1.alloc _).1 H.out.2.2.1).mono ?_
 rintro e w1 ⟨rfl, hb⟩
 have B1 := zh (za (step1 (Below.refl _ w) hb) ((Blk.new w (c.a no nc dO dc) 32).below hb))
 clear hb
 go_wp2_with ((refine (?_ : wpList _ _ _ (Oper.mk _ (Op.load 32 _) _ _ _ _ :: _) _ _)); refine wpList_load_blk rfl 32 _ rfl (w.heap.size) rfl (c.a no nc dO dc) _ (B1.out.2) Tryz.underlying32 rfl (infoCh) ?_; go_frame)
 refine (putTable_is c no nc dO dc _ _ _ (H.out.1.keep B1.out.1) (H.out.2.1.below B1.out.1) rfl H.out.2.2.2).mono ?_
 rintro e w2 ⟨rfl, hb⟩
 have B2 := zh (za (step0 B1.out.1 hb) (B1.out.2.below hb))
 clear hb B1
 go_wp2
 go_ret2
 exact ⟨rfl, B2.out.1⟩
theorem pc_3 (c : Ch) (no : Option Addr) (nc : Nat) (dO : Option Addr) (dc : Nat) (w : World) (hg : Env w) (hc : InC w c no dO dc) (h : c.ce = 0) (hT : c.te = 0) :
  Calls Tryz.prog 10 #[.agg (c.a no nc dO dc)] w fun e w' => e = .returned (.tuple #[.string ⟨(c.hd ++ c.tb).toArray⟩, .int .i64 0]) ∧ Below w.heap.size w w' := by
 have hmx : Tryz.prog.follows .mixedOrders = true := by kernel_rfl
 obtain ⟨h1, h2, h3, h4, h5, h6, h7⟩ := Ch.ce_ok h
 have X := zh (za h6 (za h7 (za h5 (za (za h1 h2) (za h3 h4)))))
 have k1 : IntKind.u64.wrap c.kind = c.kind := pk_wrap_u64 _ (by omega) (by omega)
 have k2 : IntKind.u64.wrap c.type = c.type := pk_wrap_u64 _ (by omega) (by omega)
 have k3 : IntKind.u64.wrap (c.names.length : Int) = (c.names.length : Int) := pk_wrap_u64 _ (by omega) (by omega)
 obtain ⟨TB, hTB⟩ : ∃ TB, c.tb = TB := ⟨_, rfl⟩
 obtain ⟨N1, hN1⟩ : ∃ N, Pk.un c.kind.toNat = N := ⟨_, rfl⟩
 obtain ⟨N2, hN2⟩ : ∃ N, Pk.un c.type.toNat = N := ⟨_, rfl⟩
 obtain ⟨N3, hN3⟩ : ∃ N, Pk.un c.names.length = N := ⟨_, rfl⟩
 have cat : c.hd ++ c.tb = N1 ++ txs c.tx ++ N2 ++ N3 ++ txs c.names ++ TB := by unfold Ch.hd; rw [hTB, hN1, hN2, hN3]; simp
 rw [cat]
 have L := zh (show N1.length ≤ 10 ∧ N2.length ≤ 10 ∧ N3.length ≤ 10 ∧ TB.length ≤ 2000 from ⟨hN1 ▸ un_le _, hN2 ▸ un_le _, hN3 ▸ un_le _, hTB ▸ tb_le c⟩)
 have U := zh (za hN1 (za hN2 (za hN3 hTB)))
 clear h1 h2 h3 h4 h5 h6 h7 cat hN1 hN2 hN3 hTB
 have H := zh (za hg (za hc (za h hT)))
 clear hg hc h hT
 go_enter Tryz.func10, Tryz.ntmps10
 go_wp2_with ((refine (?_ : wpList _ _ _ (Oper.mk _ (Op.load 32 _) _ _ _ _ :: _) _ _)); refine wpList_load_blk rfl 32 _ rfl (w.heap.size) rfl (c.a no nc dO dc) _ (Blk.new w _ _) Tryz.underlying32 rfl (infoCh) ?_; go_frame)
 refine (checkChange_is c no nc dO dc 0 _ (H.out.2.1.alloc _).1 H.out.2.2.1).mono ?_
 rintro e w1 ⟨rfl, hb⟩
 have B1 := zh (za (step1 (Below.refl _ w) hb) ((Blk.new w (c.a no nc dO dc) 32).below hb))
 clear hb
 go_wp2_with ((refine (?_ : wpList _ _ _ (Oper.mk _ (Op.load 32 _) _ _ _ _ :: _) _ _)); refine wpList_load_blk rfl 32 _ rfl (w.heap.size) rfl (c.a no nc dO dc) _ (B1.out.2) Tryz.underlying32 rfl (infoCh) ?_; go_frame)
 refine (putTable_is c no nc dO dc _ _ _ (H.out.1.keep B1.out.1) (H.out.2.1.below B1.out.1) rfl H.out.2.2.2).mono ?_
 rintro e w2 ⟨rfl, hb⟩
 have B2 := zh (za (step0 B1.out.1 hb) (B1.out.2.below hb))
 clear hb B1
 have qc := B2.out.2.cell
 go_wp2_with fail
 refine (uint_is c.kind N1 _ (by have := X.out; omega) (by have := X.out; omega) U.out.1).mono ?_
 rintro e w3 ⟨rfl, hb⟩
 have B3 := zh (za (step0 B2.out.1 hb) (B2.out.2.below hb))
 clear hb qc
 rw [U.out.2.2.2]
 go_wp2_with ((refine (?_ : wpList _ _ _ (Oper.mk _ (Op.load 32 _) _ _ _ _ :: _) _ _)); refine wpList_load_blk rfl 32 _ rfl (w.heap.size) rfl (c.a no nc dO dc) _ (B3.out.2) Tryz.underlying32 rfl (infoCh) ?_; go_frame)
 refine (textsOf_is c no nc dO dc _).mono ?_
 rintro e w4 ⟨rfl, hb⟩
 have B4 := zh (za (step0 B3.out.1 hb) (B3.out.2.below hb))
 clear hb
 go_wp2_with ((refine (?_ : wpList _ _ _ (Oper.mk _ (Op.store 72 _ _) _ _ _ _ :: _) _ _)); refine wpList_store_blk rfl 72 _ _ rfl (w4.heap.size) (sa [[], [], [], [], []]) (sa c.tx) rfl rfl (Blk.new' _ _ _ _ (by first | rfl | simp)) (by first | rfl | simp [sa_size]) (infoT5 rfl) (sa_one _) ?_)
 intro w5 q5 r5
 have K := zh (za (r5.below _ _ B4.out.1.size (B4.out.1.alloc B4.out.1.size _)) (za ((B4.out.2.alloc _).wr r5 (by have := B4.out.2.lt; omega)) q5))
 clear B4 q5 r5
 go_wp2
 go_loopw [7, 31] (fun q i wr => ∃ j : Nat, q = .string ⟨(N1 ++ txs (c.tx.take j)).toArray⟩ ∧ i = .int .i64 j ∧ j ≤ 5 ∧ Below w.heap.size w wr ∧ Blk wr w.heap.size (c.a no nc dO dc) 32 ∧ Blk wr w4.heap.size (sa c.tx) 72) (fun _ i _ => 5 - (intOf i).toNat)
 case atStart => exact ⟨0, by simp [txs], rfl, by omega, K.out⟩
 case round =>
  obtain ⟨j, rfl, rfl, hj, hbel, hbc, hbt⟩ := hrel
  have J := zh (za hbel (za hbc hbt))
  have qt := hbt.cell
  clear hbel hbc hbt
  by_cases hlt : j < 5
  ·have hlt' : j < c.tx.length := hlt
   have hx : (sa c.tx)[j]? = some (.string ⟨c.tx[j].toArray⟩) := sa_at hlt'
   obtain ⟨R, hR⟩ : ∃ R, N1 ++ txs (c.tx.take j) = R := ⟨_, rfl⟩
   obtain ⟨S, hS⟩ : ∃ S, Pk.tx c.tx[j] = S := ⟨_, rfl⟩
   have lS : S.length ≤ 26 := by rw [← hS]; exact tx_le (X.out.1 _ (List.getElem_mem hlt'))
   have lR : R.length ≤ 200 := by rw [← hR, List.length_append]; have := txs_lt (j := j) X.out.1; have := tx_len c; have := L.out.1; omega
   have q9 : (9223372036854775807 < R.length + S.length) = False := by simp; omega
   have nx : N1 ++ txs (c.tx.take (j + 1)) = R ++ S := by rw [txs_next hlt', ← List.append_assoc, hR, hS]
   have HX := zh (za nx (za hS (X.out.1 _ (List.getElem_mem hlt'))))
   rw [hR]
   clear hR hS nx lS lR
   go_wp2_with fail
   refine (text_is c.tx[j] S _ (by have := HX.out.2.2; omega) HX.out.2.1).mono ?_
   rintro e w6 ⟨rfl, hb⟩
   have K6 := zh (za (step0 J.out.1 hb) (za (J.out.2.1.below hb) (J.out.2.2.below hb)))
   clear hb qt
   go_wp2
   go_roundw
   case rel => exact ⟨j + 1, by rw [HX.out.1]; first | rfl | simp, by go_num, hlt, K6.out⟩
   case measure => simp [intOf]; omega
  ·obtain rfl : j = 5 := by omega
   rw [show c.tx.take 5 = c.tx from rfl]
   obtain ⟨R, hR⟩ : ∃ R, N1 ++ txs c.tx = R := ⟨_, rfl⟩
   have lR : R.length ≤ 200 := by rw [← hR, List.length_append]; have := txs_le X.out.1; have := tx_len c; have := L.out.1; omega
   have HR := zh (za hR lR)
   rw [hR]
   clear hR lR qt hlt hj
   have l2 : (9223372036854775807 < N2.length + N3.length) = False := by have := L.out; simp; omega
   have l3 : (9223372036854775807 < R.length + (N2.length + N3.length)) = False := by have := L.out; have := HR.out.2; simp; omega
   go_wp2
   go_region_held3 (fun v => Below wr.heap.size wr v ∧ v.cell? ⟨w.heap.size, 6, none⟩ = some (.int .i64 c.type) ∧ v.cell? ⟨w.heap.size, 7, none⟩ = some (.slice no c.names.length nc))
    (first | exact ⟨(Below.refl _ _).drew, J.out.2.1.cell 6, J.out.2.1.cell 7⟩ | exact ⟨step0 ‹Below wr.heap.size wr _ ∧ _›.1 hb, (J.out.2.1.below (step0 ‹Below wr.heap.size wr _ ∧ _›.1 hb)).cell 6, (J.out.2.1.below (step0 ‹Below wr.heap.size wr _ ∧ _›.1 hb)).cell 7⟩)
    (first | (go_at_call 30; refine (uint_int _ _ (by have := X.out; omega) (by have := X.out; omega)).mono ?_; rintro e v3 ⟨rfl, hb⟩; first | rw [U.out.2.1] | rw [show Pk.un (c.names.length : Int).toNat = N3 from by rw [Int.toNat_natCast]; exact U.out.2.2.1]))
   have B7 := zh (show Below wr.heap.size wr v3 from ‹Below wr.heap.size wr v3 ∧ _›.1)
   rw [cat_list, cat_list]
   obtain ⟨P, hP⟩ : ∃ P, R ++ (N2 ++ N3) = P := ⟨_, rfl⟩
   have lP : P.length ≤ 300 := by rw [← hP]; simp only [List.length_append]; have := HR.out.2; have := L.out; omega
   have HP := zh (za hP lP)
   rw [hP]
   clear hP lP l2 l3
   have J7 := zh (za (step0 J.out.1 B7.out) (J.out.2.1.below B7.out))
   have qc := J7.out.2.cell
   go_wp2
   go_loopw [7, 56] (fun q i wr => ∃ j : Nat, q = .string ⟨(P ++ txs (c.names.take j)).toArray⟩ ∧ i = .int .i64 j ∧ j ≤ c.names.length ∧ Below w.heap.size w wr) (fun _ i _ => c.names.length - (intOf i).toNat)
   case atStart => exact ⟨0, by simp [txs], rfl, by omega, J7.out.1⟩
   case round =>
    obtain ⟨j, rfl, rfl, hj, hbel⟩ := hrel
    have J8 := zh hbel
    clear hbel qc
    by_cases hlt : j < c.names.length
    ·have hw : wrap64 ((j : Int) + 1) = (j : Int) + 1 := wrap_in _ (by omega) (by have := X.out; omega)
     obtain ⟨a, rfl, h0⟩ := (H.out.2.1.1.below J8.out) j c.names[j] (List.getElem?_eq_getElem hlt)
     obtain ⟨R2, hR⟩ : ∃ R, P ++ txs (c.names.take j) = R := ⟨_, rfl⟩
     obtain ⟨S, hS⟩ : ∃ S, Pk.tx c.names[j] = S := ⟨_, rfl⟩
     have lS : S.length ≤ 26 := by rw [← hS]; exact tx_le (X.out.2.1 _ (List.getElem_mem hlt))
     have lR : R2.length ≤ 900 := by rw [← hR, List.length_append]; have := txs_lt (j := j) X.out.2.1; have := X.out.2.2.1; have := HP.out.2; omega
     have q9 : (9223372036854775807 < R2.length + S.length) = False := by simp; omega
     have nx : P ++ txs (c.names.take (j + 1)) = R2 ++ S := by rw [txs_next hlt, ← List.append_assoc, hR, hS]
     have HX := zh (za nx (za hS (X.out.2.1 _ (List.getElem_mem hlt))))
     rw [hR]
     clear hR hS nx lS lR
     go_wp2_with fail
     refine (text_is c.names[j] S _ (by have := HX.out.2.2; omega) HX.out.2.1).mono ?_
     rintro e w6 ⟨rfl, hb⟩
     have K6 := zh (step0 J8.out hb)
     clear hb h0
     go_wp2
     go_roundw
     case rel => exact ⟨j + 1, by rw [HX.out.1]; first | rfl | simp, by go_num, hlt, K6.out⟩
     case measure => rw [hw]; simp [intOf]; omega
    ·obtain rfl : j = c.names.length := by omega
     rw [List.take_length]
     obtain ⟨R2, hR⟩ : ∃ R, P ++ txs c.names = R := ⟨_, rfl⟩
     have lR : R2.length ≤ 900 := by rw [← hR, List.length_append]; have := txs_le X.out.2.1; have := X.out.2.2.1; have := HP.out.2; omega
     have fin : R2 ++ TB = N1 ++ txs c.tx ++ N2 ++ N3 ++ txs c.names ++ TB := by rw [← hR, ← HP.out.1, ← HR.out.1]; simp
     have q9 : (9223372036854775807 < R2.length + TB.length) = False := by have := L.out; simp; omega
     have FN := zh fin
     rw [hR]
     clear hR lR fin hlt hj
     go_wp2
     go_ret2
     refine ⟨?_, J8.out⟩
     rw [← FN.out]
     first | rfl | simp
theorem pute_is (c : Ch) (no : Option Addr) (nc : Nat) (dO : Option Addr) (dc : Nat) (T : List UInt8) (E : Int) (w : World) (hg : Env w) (hc : InC w c no dO dc) (hT : c.pb = T) (hE : c.pe = E) :
  Calls Tryz.prog 10 #[.agg (c.a no nc dO dc)] w fun e w' => e = .returned (.tuple #[.string ⟨T.toArray⟩, .int .i64 E]) ∧ Below w.heap.size w w' := by
 subst hT hE
 by_cases h1 : c.ce = 0
 ·have e : c.pe = c.te := by unfold Ch.pe; rw [if_neg (by simpa using h1)]
  by_cases h2 : c.te = 0
  ·rw [e, h2, show c.pb = c.hd ++ c.tb from by unfold Ch.pb; rw [e, if_neg (by simpa using h2)]]
   exact pc_3 c no nc dO dc w hg hc h1 h2
  ·rw [e, show c.pb = [] from by unfold Ch.pb; rw [e, if_pos h2]]
   exact pc_2 c no nc dO dc _ w hg hc h1 rfl h2
 ·have e : c.pe = c.ce := by unfold Ch.pe; rw [if_pos h1]
  rw [e, show c.pb = [] from by unfold Ch.pb; rw [e, if_pos h1]]
  exact pc_1 c no nc dO dc _ w hc rfl h1
end Go.Proofs.YtmgdciihpjifgaaGreatDoor
