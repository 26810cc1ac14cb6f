/-
 Whether a table may be: the names of its columns, Find, whyNone, Check, and the document's Names, Find, Check. Conditions: the columns' Defaults keep a value's bounds; the bounds named in each theorem.
 A table as an argument, opened; the library's variable errors.errorType as the row lists it, and a world that holds it.
-/
import Derived.Test.YtmgdciihpjifgaaGreatDoorQrScRow
import Derived.Test.YtmgdciihpjifgaaGreatDoorQrNmCheck
import Derived.Test.YtmgdciihpjifgaaGreatDoorQrKcVals
import Derived.Test.YtmgdciihpjifgaaGreatDoorRows
import Derived.LaidLaws
import Derived.LaidHandle
import Derived.Lib.SmallJoins
import Derived.Deep.Slices
import Derived.Deep.Fields
import Derived.Carry
set_option maxHeartbeats 8000000
namespace Go.Proofs.YtmgdciihpjifgaaGreatDoor
open Go.RowKit
theorem Blk.t3 {W : World} {B : Nat} {u0 u1 u2 : Value} (h : Blk W B #[u0, u1, u2] 30) :
  W.cell? ⟨B, 0, none⟩ = some u0 ∧ W.cell? ⟨B, 1, none⟩ = some u1 ∧ W.cell? ⟨B, 2, none⟩ = some u2 := ⟨h.cell 0, h.cell 1, h.cell 2⟩
theorem map_next {cs : List C} {j : Nat} (hj : j < cs.length) : (cs.take (j + 1)).map C.name = (cs.take j).map C.name ++ [cs[j].name] := by
 rw [List.take_succ_eq_append_getElem hj, List.map_append]; rfl
theorem colNames_is (nm : List UInt8) (ks : Int) (cs : List C) (ao : Option Addr) (cap : Nat) (w : World) (h : SlC w ao cs) (hl : cs.length ≤ 1000) :
  Calls Tryz.prog 129 #[.agg #[.string ⟨nm.toArray⟩, .int .i64 ks, .slice ao cs.length cap]] w fun e w' => ∃ v, e = .returned v ∧ OwS w' w.heap.size v (cs.map C.name) ∧ Below w.heap.size w w' := by
 have H := zh (za h hl)
 clear h hl
 go_enter Tryz.func129, Tryz.ntmps129
 go_wp2_with (at_make; refine makeT _ rfl _ _ rfl .i64 .i64 (cs.length : Int) (cs.length : Int) cs.length rfl rfl rfl rfl (by have := H.out.2; omega) ?_; intro g w2 hg hO hb; have t := ((Blk.new w #[.string ⟨nm.toArray⟩, .int .i64 ks, .slice ao cs.length cap] 30).below hb).t3; obtain ⟨t0, t1, t2⟩ := t; have S := zh (za (hO.base (below1 w _).size) (step1 (Below.refl _ w) hb)); clear hO hb hg; go_frame)
 go_loopw [13] (fun i wr => ∃ j : Nat, i = .int .i64 j ∧ j ≤ cs.length ∧ OwS wr w.heap.size (.slice (some ⟨g, 0, none⟩) cs.length cs.length) ((cs.take j).map C.name ++ List.replicate (cs.length - j) []) ∧ Below w.heap.size w wr) (fun i _ => cs.length - (intOf i).toNat)
 case atStart => exact ⟨0, rfl, Nat.zero_le _, S.out.1, S.out.2⟩
 case round =>
  obtain ⟨j, rfl, hj, hO, hbel⟩ := hrel
  have J := zh (za hO hbel)
  clear hO hbel
  by_cases hlt : j < cs.length
  ·obtain ⟨a, rfl, h0, h1, h2, h3, h4, h5, h6⟩ := H.out.1.below J.out.2 j cs[j] (List.getElem?_eq_getElem hlt)
   have hw : wrap64 ((j : Int) + 1) = (j : Int) + 1 := by have := H.out.2; exact wrap_in _ (by omega) (by omega)
   have hd : ((cs.take j).map C.name).length = j := by simp; omega
   have hO3 := J.out.1.keep (below1 wr (.cells #[.string ⟨cs[j].name.toArray⟩, .int .i64 cs[j].kind, .bool cs[j].null, .int .i64 cs[j].d.k, .int .i64 cs[j].d.n, .int .u64 cs[j].d.b, .string ⟨cs[j].d.s.toArray⟩] 27))
   have hy : ((cs.take j).map C.name ++ List.replicate (cs.length - j) [])[j]? = some [] := by
    rw [List.getElem?_append_right (by omega), List.getElem?_replicate, hd, if_pos (by omega)]
   obtain ⟨hst, hbg, hgl, hfz, hc⟩ := hO3.store (by simp; omega) j [] hy cs[j].name
   have K := zh (za hst (za hbg hd))
   clear hO3 hy hst hbg hgl hd
   go_wp2
   go_roundw
   case rel => exact ⟨j + 1, by go_num, hlt, by rw [map_next hlt, ← tset_next _ cs.length j _ K.out.2.2 hlt]; exact K.out.1, below_set (J.out.2.alloc J.out.2.size _) K.out.2.1 _ _⟩
   case measure => rw [hw]; simp [intOf]; omega
  ·obtain rfl : j = cs.length := by omega
   have hO := J.out.1
   rw [Nat.sub_self, List.replicate_zero, List.append_nil, List.take_length] at hO
   have ST := zh hO
   clear hO
   go_wp2
   go_ret
   exact ⟨_, rfl, ST.out, J.out.2⟩
theorem names_is (cs : List C) (ao : Option Addr) (cap : Nat) (w : World) (h : SlC w ao cs) (hl : cs.length ≤ 1000) :
  Calls Tryz.prog 89 #[.slice ao cs.length cap] w fun e w' => ∃ v, e = .returned v ∧ OwS w' w.heap.size v (cs.map C.name) ∧ Below w.heap.size w w' := by
 have H := zh (za h hl)
 clear h hl
 go_enter Tryz.func89, Tryz.ntmps89
 go_wp2
 go_loopw [3, 4] (fun o i wr => ∃ j : Nat, i = .int .i64 j ∧ j ≤ cs.length ∧ OwS wr w.heap.size o ((cs.take j).map C.name) ∧ Below w.heap.size w wr) (fun _ i _ => cs.length - (intOf i).toNat)
 case atStart => exact ⟨0, rfl, Nat.zero_le _, ows_nil _ _, Below.refl _ _⟩
 case round =>
  obtain ⟨j, rfl, hj, hO, hbel⟩ := hrel
  have J := zh (za hO hbel)
  clear hO hbel
  by_cases hlt : j < cs.length
  ·obtain ⟨a, rfl, h0, h1, h2, h3, h4, h5, h6⟩ := H.out.1.below J.out.2 j cs[j] (List.getElem?_eq_getElem hlt)
   have hw : wrap64 ((j : Int) + 1) = (j : Int) + 1 := by have := H.out.2; exact wrap_in _ (by omega) (by omega)
   have hd := zh (show ((cs.take j).map C.name).length = j from by simp; omega)
   go_wp2_with (at_builtin; refine appS rfl _ _ rfl w.heap.size u3 ((cs.take j).map C.name) cs[j].name _ rfl J.out.1 _ rfl rfl (by have := hd.out; have := H.out.2; omega) J.out.2.size ?_; intro v' w2 hown' hb'; have K := zh (za hown' (J.out.2.trans hb')); clear hown' hb'; go_frame)
   go_roundw
   case rel => exact ⟨j + 1, by go_num, hlt, by rw [map_next hlt]; exact K.out.1, K.out.2⟩
   case measure => rw [hw]; simp [intOf]; omega
  ·obtain rfl : j = cs.length := by omega
   have hO := J.out.1
   rw [List.take_length] at hO
   have ST := zh hO
   clear hO
   go_wp2
   go_ret
   exact ⟨_, rfl, ST.out, J.out.2⟩
theorem wn_name (nm : List UInt8) (ks : Int) (cs : List C) (ao : Option Addr) (cap : Nat) (E : Int) (h0 : Nm.ck nm = E) (hE : ¬ E = 0) (w : World) :
  Calls Tryz.prog 108 #[.agg #[.string ⟨nm.toArray⟩, .int .i64 ks, .slice ao cs.length cap]] w fun e w' => e = .returned (.iface 171 (.agg #[.int .i64 E])) ∧ Below w.heap.size w w' := by
 go_enter Tryz.func108, Tryz.ntmps108
 go_wp2_with fail
 refine (nm_check_is nm _ _ h0).mono ?_
 rintro e w1 ⟨rfl, rfl⟩
 go_wp2
 go_ret
 exact ⟨rfl, below1 _ _⟩
theorem wn_few (nm : List UInt8) (ks : Int) (cs : List C) (ao : Option Addr) (cap : Nat) (h0 : Nm.ck nm = 0) (hq : (cs.length : Int) < 1) (w : World) :
  Calls Tryz.prog 108 #[.agg #[.string ⟨nm.toArray⟩, .int .i64 ks, .slice ao cs.length cap]] w fun e w' => e = .returned (.iface 171 (.agg #[.int .i64 2])) ∧ Below w.heap.size w w' := by
 go_enter Tryz.func108, Tryz.ntmps108
 go_wp2_with fail
 refine (nm_check_is nm _ _ h0).mono ?_
 rintro e w1 ⟨rfl, rfl⟩
 go_wp2
 go_ret
 exact ⟨rfl, below1 _ _⟩
theorem wn_many (nm : List UInt8) (ks : Int) (cs : List C) (ao : Option Addr) (cap : Nat) (h0 : Nm.ck nm = 0) (hq : 8 < (cs.length : Int)) (w : World) :
  Calls Tryz.prog 108 #[.agg #[.string ⟨nm.toArray⟩, .int .i64 ks, .slice ao cs.length cap]] w fun e w' => e = .returned (.iface 171 (.agg #[.int .i64 2])) ∧ Below w.heap.size w w' := by
 have q0 : decide ((cs.length : Int) < 1) = false := by have := hq; rw [decide_eq_false_iff_not]; omega
 go_enter Tryz.func108, Tryz.ntmps108
 go_wp2_with fail
 refine (nm_check_is nm _ _ h0).mono ?_
 rintro e w1 ⟨rfl, rfl⟩
 go_wp2
 go_ret
 exact ⟨rfl, below1 _ _⟩
theorem wn_k0 (nm : List UInt8) (ks : Int) (cs : List C) (ao : Option Addr) (cap : Nat) (h0 : Nm.ck nm = 0) (hq : 1 ≤ (cs.length : Int) ∧ (cs.length : Int) ≤ 8) (h1 : ks < 1) (w : World) :
  Calls Tryz.prog 108 #[.agg #[.string ⟨nm.toArray⟩, .int .i64 ks, .slice ao cs.length cap]] w fun e w' => e = .returned (.iface 171 (.agg #[.int .i64 1])) ∧ Below w.heap.size w w' := by
 have q0 : decide ((cs.length : Int) < 1) = false := by have := hq; rw [decide_eq_false_iff_not]; omega
 have q1 : decide ((8 : Int) < (cs.length : Int)) = false := by have := hq; rw [decide_eq_false_iff_not]; omega
 go_enter Tryz.func108, Tryz.ntmps108
 go_wp2_with fail
 refine (nm_check_is nm _ _ h0).mono ?_
 rintro e w1 ⟨rfl, rfl⟩
 go_wp2
 go_ret
 exact ⟨rfl, below1 _ _⟩
theorem wn_k3 (nm : List UInt8) (ks : Int) (cs : List C) (ao : Option Addr) (cap : Nat) (h0 : Nm.ck nm = 0) (hq : 1 ≤ (cs.length : Int) ∧ (cs.length : Int) ≤ 8 ∧ 1 ≤ ks) (h1 : 3 < ks) (w : World) :
  Calls Tryz.prog 108 #[.agg #[.string ⟨nm.toArray⟩, .int .i64 ks, .slice ao cs.length cap]] w fun e w' => e = .returned (.iface 171 (.agg #[.int .i64 1])) ∧ Below w.heap.size w w' := by
 have q0 : decide ((cs.length : Int) < 1) = false := by have := hq; rw [decide_eq_false_iff_not]; omega
 have q1 : decide ((8 : Int) < (cs.length : Int)) = false := by have := hq; rw [decide_eq_false_iff_not]; omega
 have q2 : decide (ks < 1) = false := by have := hq; rw [decide_eq_false_iff_not]; omega
 go_enter Tryz.func108, Tryz.ntmps108
 go_wp2_with fail
 refine (nm_check_is nm _ _ h0).mono ?_
 rintro e w1 ⟨rfl, rfl⟩
 go_wp2
 go_ret
 exact ⟨rfl, below1 _ _⟩
theorem wn_kl (nm : List UInt8) (ks : Int) (cs : List C) (ao : Option Addr) (cap : Nat) (h0 : Nm.ck nm = 0) (hq : 1 ≤ (cs.length : Int) ∧ (cs.length : Int) ≤ 8 ∧ 1 ≤ ks ∧ ks ≤ 3) (h1 : (cs.length : Int) < ks) (w : World) :
  Calls Tryz.prog 108 #[.agg #[.string ⟨nm.toArray⟩, .int .i64 ks, .slice ao cs.length cap]] w fun e w' => e = .returned (.iface 171 (.agg #[.int .i64 1])) ∧ Below w.heap.size w w' := by
 have q0 : decide ((cs.length : Int) < 1) = false := by have := hq; rw [decide_eq_false_iff_not]; omega
 have q1 : decide ((8 : Int) < (cs.length : Int)) = false := by have := hq; rw [decide_eq_false_iff_not]; omega
 have q2 : decide (ks < 1) = false := by have := hq; rw [decide_eq_false_iff_not]; omega
 have q3 : decide ((3 : Int) < ks) = false := by have := hq; rw [decide_eq_false_iff_not]; omega
 go_enter Tryz.func108, Tryz.ntmps108
 go_wp2_with fail
 refine (nm_check_is nm _ _ h0).mono ?_
 rintro e w1 ⟨rfl, rfl⟩
 go_wp2
 go_ret
 exact ⟨rfl, below1 _ _⟩
theorem rn_name (nm : List UInt8) (ks : Int) (cs : List C) (ao : Option Addr) (cap : Nat) (E : Int) (h0 : Nm.ck nm = E) (hE : ¬ E = 0) (w : World) :
  Calls Tryz.prog 60 #[.agg #[.string ⟨nm.toArray⟩, .int .i64 ks, .slice ao cs.length cap]] w fun e w' => e = .returned (.int .i64 E) ∧ Below w.heap.size w w' := by
 go_enter Tryz.func60, Tryz.ntmps60
 go_wp2_with fail
 refine (nm_rcheck_is nm _ _ h0).mono ?_
 rintro e w1 ⟨rfl, rfl⟩
 go_wp2
 go_ret
 exact ⟨rfl, below1 _ _⟩
theorem rn_few (nm : List UInt8) (ks : Int) (cs : List C) (ao : Option Addr) (cap : Nat) (h0 : Nm.ck nm = 0) (hq : (cs.length : Int) < 1) (w : World) :
  Calls Tryz.prog 60 #[.agg #[.string ⟨nm.toArray⟩, .int .i64 ks, .slice ao cs.length cap]] w fun e w' => e = .returned (.int .i64 2) ∧ Below w.heap.size w w' := by
 go_enter Tryz.func60, Tryz.ntmps60
 go_wp2_with fail
 refine (nm_rcheck_is nm _ _ h0).mono ?_
 rintro e w1 ⟨rfl, rfl⟩
 go_wp2
 go_ret
 exact ⟨rfl, below1 _ _⟩
theorem rn_many (nm : List UInt8) (ks : Int) (cs : List C) (ao : Option Addr) (cap : Nat) (h0 : Nm.ck nm = 0) (hq : 8 < (cs.length : Int)) (w : World) :
  Calls Tryz.prog 60 #[.agg #[.string ⟨nm.toArray⟩, .int .i64 ks, .slice ao cs.length cap]] w fun e w' => e = .returned (.int .i64 2) ∧ Below w.heap.size w w' := by
 have q0 : decide ((cs.length : Int) < 1) = false := by have := hq; rw [decide_eq_false_iff_not]; omega
 go_enter Tryz.func60, Tryz.ntmps60
 go_wp2_with fail
 refine (nm_rcheck_is nm _ _ h0).mono ?_
 rintro e w1 ⟨rfl, rfl⟩
 go_wp2
 go_ret
 exact ⟨rfl, below1 _ _⟩
theorem rn_k0 (nm : List UInt8) (ks : Int) (cs : List C) (ao : Option Addr) (cap : Nat) (h0 : Nm.ck nm = 0) (hq : 1 ≤ (cs.length : Int) ∧ (cs.length : Int) ≤ 8) (h1 : ks < 1) (w : World) :
  Calls Tryz.prog 60 #[.agg #[.string ⟨nm.toArray⟩, .int .i64 ks, .slice ao cs.length cap]] w fun e w' => e = .returned (.int .i64 1) ∧ Below w.heap.size w w' := by
 have q0 : decide ((cs.length : Int) < 1) = false := by have := hq; rw [decide_eq_false_iff_not]; omega
 have q1 : decide ((8 : Int) < (cs.length : Int)) = false := by have := hq; rw [decide_eq_false_iff_not]; omega
 go_enter Tryz.func60, Tryz.ntmps60
 go_wp2_with fail
 refine (nm_rcheck_is nm _ _ h0).mono ?_
 rintro e w1 ⟨rfl, rfl⟩
 go_wp2
 go_ret
 exact ⟨rfl, below1 _ _⟩
theorem rn_k3 (nm : List UInt8) (ks : Int) (cs : List C) (ao : Option Addr) (cap : Nat) (h0 : Nm.ck nm = 0) (hq : 1 ≤ (cs.length : Int) ∧ (cs.length : Int) ≤ 8 ∧ 1 ≤ ks) (h1 : 3 < ks) (w : World) :
  Calls Tryz.prog 60 #[.agg #[.string ⟨nm.toArray⟩, .int .i64 ks, .slice ao cs.length cap]] w fun e w' => e = .returned (.int .i64 1) ∧ Below w.heap.size w w' := by
 have q0 : decide ((cs.length : Int) < 1) = false := by have := hq; rw [decide_eq_false_iff_not]; omega
 have q1 : decide ((8 : Int) < (cs.length : Int)) = false := by have := hq; rw [decide_eq_false_iff_not]; omega
 have q2 : decide (ks < 1) = false := by have := hq; rw [decide_eq_false_iff_not]; omega
 go_enter Tryz.func60, Tryz.ntmps60
 go_wp2_with fail
 refine (nm_rcheck_is nm _ _ h0).mono ?_
 rintro e w1 ⟨rfl, rfl⟩
 go_wp2
 go_ret
 exact ⟨rfl, below1 _ _⟩
theorem rn_kl (nm : List UInt8) (ks : Int) (cs : List C) (ao : Option Addr) (cap : Nat) (h0 : Nm.ck nm = 0) (hq : 1 ≤ (cs.length : Int) ∧ (cs.length : Int) ≤ 8 ∧ 1 ≤ ks ∧ ks ≤ 3) (h1 : (cs.length : Int) < ks) (w : World) :
  Calls Tryz.prog 60 #[.agg #[.string ⟨nm.toArray⟩, .int .i64 ks, .slice ao cs.length cap]] w fun e w' => e = .returned (.int .i64 1) ∧ Below w.heap.size w w' := by
 have q0 : decide ((cs.length : Int) < 1) = false := by have := hq; rw [decide_eq_false_iff_not]; omega
 have q1 : decide ((8 : Int) < (cs.length : Int)) = false := by have := hq; rw [decide_eq_false_iff_not]; omega
 have q2 : decide (ks < 1) = false := by have := hq; rw [decide_eq_false_iff_not]; omega
 have q3 : decide ((3 : Int) < ks) = false := by have := hq; rw [decide_eq_false_iff_not]; omega
 go_enter Tryz.func60, Tryz.ntmps60
 go_wp2_with fail
 refine (nm_rcheck_is nm _ _ h0).mono ?_
 rintro e w1 ⟨rfl, rfl⟩
 go_wp2
 go_ret
 exact ⟨rfl, below1 _ _⟩
theorem nl_stop {cs : List C} {K j : Nat} (hj : j < cs.length) (hK : j < K) (h : cs[j].null = true) : nl cs K = true := by
 unfold nl
 rw [List.any_eq_true]
 exact ⟨cs[j], List.mem_take_iff_getElem.2 ⟨j, by omega, rfl⟩, h⟩
theorem nl_none {cs : List C} {K : Nat} (h : ∀ c ∈ cs.take K, c.null = false) : nl cs K = false := by
 unfold nl
 rw [List.any_eq_false]
 intro c hc; rw [h c hc]; decide
theorem T.ck_col {t : T} (h0 : Nm.ck t.name = 0) (h1 : 1 ≤ t.cs.length ∧ t.cs.length ≤ 8) (h2 : 1 ≤ t.keys ∧ t.keys ≤ 3 ∧ t.keys ≤ t.cs.length) (h : cl t.cs ≠ 0) : t.ck = cl t.cs := by
 unfold T.ck; rw [if_neg (by simpa using h0), if_neg (by omega), if_neg (by omega), if_pos h]
theorem T.ck_un {t : T} (h0 : Nm.ck t.name = 0) (h1 : 1 ≤ t.cs.length ∧ t.cs.length ≤ 8) (h2 : 1 ≤ t.keys ∧ t.keys ≤ 3 ∧ t.keys ≤ t.cs.length) (h : cl t.cs = 0) (hu : Nm.un (t.cs.map C.name) = false) : t.ck = 12 := by
 unfold T.ck; rw [if_neg (by simpa using h0), if_neg (by omega), if_neg (by omega), if_neg (by simpa using h), if_pos hu]
theorem T.ck_nl {t : T} (h0 : Nm.ck t.name = 0) (h1 : 1 ≤ t.cs.length ∧ t.cs.length ≤ 8) (h2 : 1 ≤ t.keys ∧ t.keys ≤ 3 ∧ t.keys ≤ t.cs.length) (h : cl t.cs = 0) (hu : Nm.un (t.cs.map C.name) = true) (hn : nl t.cs t.keys.toNat = true) : t.ck = 11 := by
 unfold T.ck; rw [if_neg (by simpa using h0), if_neg (by omega), if_neg (by omega), if_neg (by simpa using h), if_neg (by simp [hu]), if_pos hn]
theorem T.ck_fine {t : T} (h0 : Nm.ck t.name = 0) (h1 : 1 ≤ t.cs.length ∧ t.cs.length ≤ 8) (h2 : 1 ≤ t.keys ∧ t.keys ≤ 3 ∧ t.keys ≤ t.cs.length) (h : cl t.cs = 0) (hu : Nm.un (t.cs.map C.name) = true) (hn : nl t.cs t.keys.toNat = false) : t.ck = 0 := by
 unfold T.ck; rw [if_neg (by simpa using h0), if_neg (by omega), if_neg (by omega), if_neg (by simpa using h), if_neg (by simp [hu]), if_neg (by simp [hn])]
theorem fw_names {cs : List C} (h : ∀ c ∈ cs, c.ck = 0) (hl : cs.length ≤ 8) : Fw (cs.map C.name) := by
 refine ⟨by simp; omega, fun s hs => ?_⟩
 obtain ⟨c, hc, rfl⟩ := List.mem_map.1 hs
 have := nm_ck_len (C.ck_ok (h c hc)).1
 omega
theorem wn_rest (nm : List UInt8) (K : Nat) (cs : List C) (ao : Option Addr) (cap : Nat) (w : World) (h : SlC w ao cs) (hcap : cs.length ≤ cap) (ho : ∀ c ∈ cs, c.d.ok) (h00 : Nm.ck nm = 0) (hq : 1 ≤ cs.length ∧ cs.length ≤ 8) (hk : 1 ≤ (K : Int) ∧ (K : Int) ≤ 3 ∧ (K : Int) ≤ cs.length) :
  Calls Tryz.prog 108 #[.agg #[.string ⟨nm.toArray⟩, .int .i64 (K : Int), .slice ao cs.length cap]] w fun e w' => (∃ v, e = .returned v ∧ Why v (T.ck ⟨nm, K, cs⟩)) ∧ Below w.heap.size w w' := by
 have q0 : decide ((cs.length : Int) < 1) = false := by have := hq; have := hk; rw [decide_eq_false_iff_not]; omega
 have q1 : decide ((8 : Int) < (cs.length : Int)) = false := by have := hq; have := hk; rw [decide_eq_false_iff_not]; omega
 have q2 : decide ((K : Int) < 1) = false := by have := hq; have := hk; rw [decide_eq_false_iff_not]; omega
 have q3 : decide ((3 : Int) < (K : Int)) = false := by have := hq; have := hk; rw [decide_eq_false_iff_not]; omega
 have q4 : decide (cs.length < K) = false := by have := hq; have := hk; rw [decide_eq_false_iff_not]; omega
 have H := zh (za h (za hcap (za ho (za hq hk))))
 clear h hcap ho hq hk
 go_enter Tryz.func108, Tryz.ntmps108
 go_wp2_with fail
 refine (nm_check_is nm _ _ h00).mono ?_
 rintro e w1 ⟨rfl, rfl⟩
 go_wp2
 go_loopw [50] (fun i wr => ∃ j : Nat, i = .int .i64 j ∧ j ≤ cs.length ∧ (∀ c ∈ cs.take j, c.ck = 0) ∧ Below w.heap.size w wr ∧ Blk wr w.heap.size #[.string ⟨nm.toArray⟩, .int .i64 (K : Int), .slice ao cs.length cap] 30) (fun i _ => cs.length - (intOf i).toNat)
 case atStart => exact ⟨0, rfl, Nat.zero_le _, by simp, below1 _ _, Blk.new _ _ _⟩
 case round =>
  obtain ⟨j, rfl, hj, hall, hbel, hbl⟩ := hrel
  obtain ⟨t0, t1, t2⟩ := hbl.t3
  have J := zh (za hall (za hbel hbl))
  clear hall hbel hbl
  by_cases hlt : j < cs.length
  ·obtain ⟨a, rfl, h0, h1, h2, h3, h4, h5, h6⟩ := H.out.1.below J.out.2.1 j cs[j] (List.getElem?_eq_getElem hlt)
   have hw : wrap64 ((j : Int) + 1) = (j : Int) + 1 := by have := H.out.2.2.2.1; exact wrap_in _ (by omega) (by omega)
   by_cases hc : cs[j].ck = 0
   ·have HC := zh hc
    clear hc
    go_wp2_with fail
    refine (whyNoCol_is cs[j] _ (H.out.2.2.1 _ (List.getElem_mem hlt))).mono ?_
    rintro e w2 ⟨rfl, hb⟩
    have K2 := zh (za (step1 J.out.2.1 hb) ((J.out.2.2.alloc _).below hb))
    clear hb
    rw [C.why_ok HC.out]
    go_wp2
    go_roundw
    case rel => exact ⟨j + 1, by go_num, hlt, take_all hlt J.out.1 HC.out, K2.out.1, K2.out.2⟩
    case measure => rw [hw]; simp [intOf]; omega
   ·have HC := zh hc
    clear hc
    go_wp2_with fail
    refine (whyNoCol_is cs[j] _ (H.out.2.2.1 _ (List.getElem_mem hlt))).mono ?_
    rintro e w2 ⟨rfl, hb⟩
    have K2 := zh (step1 J.out.2.1 hb)
    clear hb
    rw [C.why_bad rfl HC.out]
    go_wp2
    go_ret
    refine ⟨⟨_, rfl, ?_⟩, K2.out⟩
    have e1 := cl_stop cs j hlt J.out.1 HC.out
    rw [T.ck_col h00 H.out.2.2.2.1 H.out.2.2.2.2 (by rw [e1]; exact HC.out)]
    show Why _ (cl cs)
    rw [e1]
    exact .inr (.inr ⟨_, rfl⟩)
  ·obtain rfl : j = cs.length := by omega
   have hall := J.out.1
   rw [List.take_length] at hall
   have HA := zh hall
   clear hall
   go_wp2_with fail
   refine (colNames_is nm (K : Int) cs ao cap _ (H.out.1.below J.out.2.1) (by have := H.out.2.2.2.1; omega)).mono ?_
   rintro e w2 ⟨v, rfl, hO, hb⟩
   obtain ⟨bo, cb, rfl, hS⟩ := hO.sl
   have B := zh (za hS (za (step0 J.out.2.1 hb) (J.out.2.2.below hb)))
   clear hO hb hS
   cases hun : Nm.un (cs.map C.name) with
   | false =>
    have HU := zh hun
    clear hun
    go_wp2_with fail
    refine (unlike_is (cs.map C.name) _ false bo cb _ (by simp) B.out.1 (fw_names HA.out H.out.2.2.2.1.2) HU.out).mono ?_
    rintro e w3 ⟨rfl, hb⟩
    skip
    have K3 := zh (step0 B.out.2.1 hb)
    clear hb
    go_wp2
    go_ret
    refine ⟨⟨_, rfl, ?_⟩, K3.out⟩
    rw [T.ck_un h00 H.out.2.2.2.1 H.out.2.2.2.2 (cl_of HA.out) HU.out]
    exact .inr (.inl rfl)
   | true =>
    have HU := zh hun
    clear hun
    go_wp2_with fail
    refine (unlike_is (cs.map C.name) _ true bo cb _ (by simp) B.out.1 (fw_names HA.out H.out.2.2.2.1.2) HU.out).mono ?_
    rintro e w3 ⟨rfl, hb⟩
    skip
    have b3 := B.out.2.2.below hb
    obtain ⟨s0, s1, s2⟩ := b3.t3
    have hKc : K ≤ cap := by have := H.out.2.1; have := H.out.2.2.2.2; omega
    have K3 := zh (za (step0 B.out.2.1 hb) b3)
    clear hb b3
    go_wp2
    go_loopw [76] (fun i wr => ∃ j : Nat, i = .int .i64 j ∧ j ≤ K ∧ (∀ c ∈ cs.take j, c.null = false) ∧ Below w.heap.size w wr ∧ Blk wr w.heap.size #[.string ⟨nm.toArray⟩, .int .i64 (K : Int), .slice ao cs.length cap] 30) (fun i _ => K - (intOf i).toNat)
    case atStart => exact ⟨0, rfl, Nat.zero_le _, by simp, K3.out.1, K3.out.2⟩
    case round =>
     obtain ⟨j, rfl, hj, hall, hbel, hbl⟩ := hrel
     obtain ⟨t0, t1, t2⟩ := hbl.t3
     have J := zh (za hall (za hbel hbl))
     clear hall hbel hbl
     by_cases hlt : j < K
     ·have hlt' : j < cs.length := by have := H.out.2.2.2.2; omega
      obtain ⟨a, rfl, h0, h1, h2, h3, h4, h5, h6⟩ := H.out.1.below J.out.2.1 j cs[j] (List.getElem?_eq_getElem hlt')
      have hw : wrap64 ((j : Int) + 1) = (j : Int) + 1 := by have := H.out.2.2.2.2; exact wrap_in _ (by omega) (by omega)
      cases hn : cs[j].null with
      | true =>
       rw [hn] at h2
       have HN := zh hn
       clear hn
       go_wp2
       go_ret
       refine ⟨⟨_, rfl, ?_⟩, J.out.2.1.alloc J.out.2.1.size _⟩
       rw [T.ck_nl h00 H.out.2.2.2.1 H.out.2.2.2.2 (cl_of HA.out) HU.out (nl_stop hlt' (by simpa using hlt) HN.out)]
       exact .inr (.inr ⟨_, rfl⟩)
      | false =>
       rw [hn] at h2
       have HN := zh hn
       clear hn
       go_wp2
       go_roundw
       case rel => exact ⟨j + 1, by go_num, hlt, take_all hlt' J.out.1 HN.out, J.out.2.1.alloc J.out.2.1.size _, J.out.2.2.alloc _⟩
       case measure => rw [hw]; simp [intOf]; omega
     ·obtain rfl : j = K := by omega
      go_wp2
      go_ret
      refine ⟨⟨_, rfl, ?_⟩, J.out.2.1⟩
      rw [T.ck_fine h00 H.out.2.2.2.1 H.out.2.2.2.2 (cl_of HA.out) HU.out (nl_none (by simpa using J.out.1))]
      exact .inl ⟨rfl, rfl⟩
theorem rn_rest (nm : List UInt8) (K : Nat) (cs : List C) (ao : Option Addr) (cap : Nat) (w : World) (h : SlC w ao cs) (hcap : cs.length ≤ cap) (ho : ∀ c ∈ cs, c.d.ok) (h00 : Nm.ck nm = 0) (hq : 1 ≤ cs.length ∧ cs.length ≤ 8) (hk : 1 ≤ (K : Int) ∧ (K : Int) ≤ 3 ∧ (K : Int) ≤ cs.length) :
  Calls Tryz.prog 60 #[.agg #[.string ⟨nm.toArray⟩, .int .i64 (K : Int), .slice ao cs.length cap]] w fun e w' => e = .returned (.int .i64 (T.ck ⟨nm, K, cs⟩)) ∧ Below w.heap.size w w' := by
 have q0 : decide ((cs.length : Int) < 1) = false := by have := hq; have := hk; rw [decide_eq_false_iff_not]; omega
 have q1 : decide ((8 : Int) < (cs.length : Int)) = false := by have := hq; have := hk; rw [decide_eq_false_iff_not]; omega
 have q2 : decide ((K : Int) < 1) = false := by have := hq; have := hk; rw [decide_eq_false_iff_not]; omega
 have q3 : decide ((3 : Int) < (K : Int)) = false := by have := hq; have := hk; rw [decide_eq_false_iff_not]; omega
 have q4 : decide (cs.length < K) = false := by have := hq; have := hk; rw [decide_eq_false_iff_not]; omega
 have H := zh (za h (za hcap (za ho (za hq hk))))
 clear h hcap ho hq hk
 go_enter Tryz.func60, Tryz.ntmps60
 go_wp2_with fail
 refine (nm_rcheck_is nm _ _ h00).mono ?_
 rintro e w1 ⟨rfl, rfl⟩
 go_wp2
 go_loopw [4] (fun i wr => ∃ j : Nat, i = .int .i64 j ∧ j ≤ cs.length ∧ (∀ c ∈ cs.take j, c.ck = 0) ∧ Below w.heap.size w wr ∧ Blk wr w.heap.size #[.string ⟨nm.toArray⟩, .int .i64 (K : Int), .slice ao cs.length cap] 30) (fun i _ => cs.length - (intOf i).toNat)
 case atStart => exact ⟨0, rfl, Nat.zero_le _, by simp, below1 _ _, Blk.new _ _ _⟩
 case round =>
  obtain ⟨j, rfl, hj, hall, hbel, hbl⟩ := hrel
  obtain ⟨t0, t1, t2⟩ := hbl.t3
  have J := zh (za hall (za hbel hbl))
  clear hall hbel hbl
  by_cases hlt : j < cs.length
  ·obtain ⟨a, rfl, h0, h1, h2, h3, h4, h5, h6⟩ := H.out.1.below J.out.2.1 j cs[j] (List.getElem?_eq_getElem hlt)
   have hw : wrap64 ((j : Int) + 1) = (j : Int) + 1 := by have := H.out.2.2.2.1; exact wrap_in _ (by omega) (by omega)
   by_cases hc : cs[j].ck = 0
   ·have HC := zh hc
    clear hc
    go_wp2_with fail
    refine (rcheckCol_is cs[j] 0 _ (H.out.2.2.1 _ (List.getElem_mem hlt)) HC.out).mono ?_
    rintro e w2 ⟨rfl, hb⟩
    have K2 := zh (za (step0 J.out.2.1 hb) (J.out.2.2.below hb))
    clear hb
    go_wp2
    go_roundw
    case rel => exact ⟨j + 1, by go_num, hlt, take_all hlt J.out.1 HC.out, K2.out.1, K2.out.2⟩
    case measure => rw [hw]; simp [intOf]; omega
   ·obtain ⟨E, hE⟩ : ∃ E, cs[j].ck = E := ⟨_, rfl⟩
    have hE0 : ¬ E = 0 := by omega
    have HC := zh (za hE hc)
    clear hc hE
    go_wp2_with fail
    refine (rcheckCol_is cs[j] E _ (H.out.2.2.1 _ (List.getElem_mem hlt)) HC.out.1).mono ?_
    rintro e w2 ⟨rfl, hb⟩
    have K2 := zh (step0 J.out.2.1 hb)
    clear hb
    go_wp2
    go_ret
    refine ⟨?_, K2.out⟩
    have e1 := cl_stop cs j hlt J.out.1 HC.out.2
    rw [T.ck_col h00 H.out.2.2.2.1 H.out.2.2.2.2 (by rw [e1]; exact HC.out.2)]
    show _ = Ending.returned (.int .i64 (cl cs))
    rw [e1, HC.out.1]
    rfl
  ·obtain rfl : j = cs.length := by omega
   have hall := J.out.1
   rw [List.take_length] at hall
   have HA := zh hall
   clear hall
   go_wp2_with fail
   refine (names_is cs ao cap _ (H.out.1.below J.out.2.1) (by have := H.out.2.2.2.1; omega)).mono ?_
   rintro e w2 ⟨v, rfl, hO, hb⟩
   obtain ⟨bo, cb, rfl, hS⟩ := hO.sl
   have B := zh (za hS (za (step0 J.out.2.1 hb) (J.out.2.2.below hb)))
   clear hO hb hS
   cases hun : Nm.un (cs.map C.name) with
   | false =>
    have HU := zh hun
    clear hun
    go_wp2_with fail
    refine (runlike_is (cs.map C.name) _ false bo cb _ (by simp) B.out.1 (fw_names HA.out H.out.2.2.2.1.2) HU.out).mono ?_
    rintro e w3 ⟨rfl, hb⟩
    subst hb
    have K3 := zh (B.out.2.1)
    skip
    go_wp2
    go_ret
    refine ⟨?_, K3.out⟩
    rw [T.ck_un h00 H.out.2.2.2.1 H.out.2.2.2.2 (cl_of HA.out) HU.out]
    rfl
   | true =>
    have HU := zh hun
    clear hun
    go_wp2_with fail
    refine (runlike_is (cs.map C.name) _ true bo cb _ (by simp) B.out.1 (fw_names HA.out H.out.2.2.2.1.2) HU.out).mono ?_
    rintro e w3 ⟨rfl, hb⟩
    subst hb
    have b3 := B.out.2.2
    obtain ⟨s0, s1, s2⟩ := b3.t3
    have hKc : K ≤ cap := by have := H.out.2.1; have := H.out.2.2.2.2; omega
    have K3 := zh (za (B.out.2.1) b3)
    clear b3
    go_wp2
    go_loopw [6] (fun i wr => ∃ j : Nat, i = .int .i64 j ∧ j ≤ K ∧ (∀ c ∈ cs.take j, c.null = false) ∧ Below w.heap.size w wr ∧ Blk wr w.heap.size #[.string ⟨nm.toArray⟩, .int .i64 (K : Int), .slice ao cs.length cap] 30) (fun i _ => K - (intOf i).toNat)
    case atStart => exact ⟨0, rfl, Nat.zero_le _, by simp, K3.out.1, K3.out.2⟩
    case round =>
     obtain ⟨j, rfl, hj, hall, hbel, hbl⟩ := hrel
     obtain ⟨t0, t1, t2⟩ := hbl.t3
     have J := zh (za hall (za hbel hbl))
     clear hall hbel hbl
     by_cases hlt : j < K
     ·have hlt' : j < cs.length := by have := H.out.2.2.2.2; omega
      obtain ⟨a, rfl, h0, h1, h2, h3, h4, h5, h6⟩ := H.out.1.below J.out.2.1 j cs[j] (List.getElem?_eq_getElem hlt')
      have hw : wrap64 ((j : Int) + 1) = (j : Int) + 1 := by have := H.out.2.2.2.2; exact wrap_in _ (by omega) (by omega)
      cases hn : cs[j].null with
      | true =>
       rw [hn] at h2
       have HN := zh hn
       clear hn
       go_wp2
       go_ret
       refine ⟨?_, J.out.2.1⟩
       rw [T.ck_nl h00 H.out.2.2.2.1 H.out.2.2.2.2 (cl_of HA.out) HU.out (nl_stop hlt' (by simpa using hlt) HN.out)]
       rfl
      | false =>
       rw [hn] at h2
       have HN := zh hn
       clear hn
       go_wp2
       go_roundw
       case rel => exact ⟨j + 1, by go_num, hlt, take_all hlt' J.out.1 HN.out, J.out.2.1, J.out.2.2⟩
       case measure => rw [hw]; simp [intOf]; omega
     ·obtain rfl : j = K := by omega
      go_wp2
      go_ret
      refine ⟨?_, J.out.2.1⟩
      rw [T.ck_fine h00 H.out.2.2.2.1 H.out.2.2.2.2 (cl_of HA.out) HU.out (nl_none (by simpa using J.out.1))]
      rfl
theorem T.ways (t : T) : (∃ E, Nm.ck t.name = E ∧ E ≠ 0 ∧ t.ck = E) ∨ (Nm.ck t.name = 0 ∧ (((t.cs.length : Int) < 1 ∧ t.ck = 2) ∨ (8 < (t.cs.length : Int) ∧ t.ck = 2) ∨
  (1 ≤ (t.cs.length : Int) ∧ (t.cs.length : Int) ≤ 8 ∧ ((t.keys < 1 ∧ t.ck = 1) ∨ (1 ≤ t.keys ∧ 3 < t.keys ∧ t.ck = 1) ∨ (1 ≤ t.keys ∧ t.keys ≤ 3 ∧ (t.cs.length : Int) < t.keys ∧ t.ck = 1) ∨ (1 ≤ t.keys ∧ t.keys ≤ 3 ∧ t.keys ≤ t.cs.length))))) := by
 unfold T.ck
 by_cases h0 : Nm.ck t.name = 0
 ·rw [if_neg (by simpa using h0)]
  refine .inr ⟨h0, ?_⟩
  by_cases h1 : t.cs.length < 1
  ·exact .inl ⟨by omega, by rw [if_pos (.inl h1)]⟩
  ·by_cases h2 : 8 < t.cs.length
   ·exact .inr (.inl ⟨by omega, by rw [if_pos (.inr h2)]⟩)
   ·refine .inr (.inr ⟨by omega, by omega, ?_⟩)
    rw [if_neg (by omega)]
    by_cases h3 : t.keys < 1
    ·exact .inl ⟨h3, by rw [if_pos (.inl h3)]⟩
    ·by_cases h4 : 3 < t.keys
     ·exact .inr (.inl ⟨by omega, h4, by rw [if_pos (.inr (.inl h4))]⟩)
     ·by_cases h5 : (t.cs.length : Int) < t.keys
      ·exact .inr (.inr (.inl ⟨by omega, by omega, h5, by rw [if_pos (.inr (.inr h5))]⟩))
      ·exact .inr (.inr (.inr ⟨by omega, by omega, by omega⟩))
 ·exact .inl ⟨_, rfl, h0, by rw [if_pos h0]⟩
def T.val (t : T) (ao : Option Addr) (cap : Nat) : Value := .agg #[.string ⟨t.name.toArray⟩, .int .i64 t.keys, .slice ao t.cs.length cap]
def At3 (W : World) (t : T) (ao : Option Addr) (cap : Nat) : Prop := SlC W ao t.cs ∧ t.cs.length ≤ cap ∧ ∀ c ∈ t.cs, c.d.ok
theorem At3.keep {W W' : World} {t : T} {ao : Option Addr} {cap : Nat} (h : At3 W t ao cap) (hb : Below W.heap.size W W') : At3 W' t ao cap := ⟨h.1.below hb, h.2.1, h.2.2⟩
theorem whyNone_is (t : T) (ao : Option Addr) (cap : Nat) (w : World) (h : At3 w t ao cap) :
  Calls Tryz.prog 108 #[t.val ao cap] w fun e w' => (∃ v, e = .returned v ∧ Why v t.ck) ∧ Below w.heap.size w w' := by
 obtain ⟨h, hcap, ho⟩ := h
 have go : ∀ {E : Int}, t.ck = E → (Calls Tryz.prog 108 #[t.val ao cap] w fun e w' => e = .returned (.iface 171 (.agg #[.int .i64 E])) ∧ Below w.heap.size w w') → Calls Tryz.prog 108 #[t.val ao cap] w fun e w' => (∃ v, e = .returned v ∧ Why v t.ck) ∧ Below w.heap.size w w' :=
  fun e c => c.mono fun x w' ⟨hx, hb⟩ => ⟨⟨_, hx, by rw [e]; exact .inr (.inl rfl)⟩, hb⟩
 rcases t.ways with ⟨E, h0, hE, e⟩ | ⟨h0, ⟨h1, e⟩ | ⟨h1, e⟩ | ⟨h1, h2, ⟨h3, e⟩ | ⟨h3, h4, e⟩ | ⟨h3, h4, h5, e⟩ | ⟨h3, h4, h5⟩⟩⟩
 ·exact go e (wn_name _ _ _ _ _ _ h0 hE w)
 ·exact go e (wn_few _ _ _ _ _ h0 h1 w)
 ·exact go e (wn_many _ _ _ _ _ h0 h1 w)
 ·exact go e (wn_k0 _ _ _ _ _ h0 ⟨h1, h2⟩ h3 w)
 ·exact go e (wn_k3 _ _ _ _ _ h0 ⟨h1, h2, h3⟩ h4 w)
 ·exact go e (wn_kl _ _ _ _ _ h0 ⟨h1, h2, h3, h4⟩ h5 w)
 ·obtain ⟨nm, ks, cs⟩ := t
  obtain ⟨K, rfl⟩ : ∃ K : Nat, ks = (K : Int) := ⟨ks.toNat, by simp only at h3; omega⟩
  exact wn_rest nm K cs ao cap w h hcap ho h0 ⟨by simp only at h1; omega, by simp only at h2; omega⟩ ⟨h3, h4, h5⟩
theorem rcheck_t (t : T) (ao : Option Addr) (cap : Nat) (E : Int) (w : World) (h : At3 w t ao cap) (hE : t.ck = E) :
  Calls Tryz.prog 60 #[t.val ao cap] w fun e w' => e = .returned (.int .i64 E) ∧ Below w.heap.size w w' := by
 subst hE
 obtain ⟨h, hcap, ho⟩ := h
 rcases t.ways with ⟨E, h0, hE, e⟩ | ⟨h0, ⟨h1, e⟩ | ⟨h1, e⟩ | ⟨h1, h2, ⟨h3, e⟩ | ⟨h3, h4, e⟩ | ⟨h3, h4, h5, e⟩ | ⟨h3, h4, h5⟩⟩⟩
 ·rw [e]; exact rn_name _ _ _ _ _ _ h0 hE w
 ·rw [e]; exact rn_few _ _ _ _ _ h0 h1 w
 ·rw [e]; exact rn_many _ _ _ _ _ h0 h1 w
 ·rw [e]; exact rn_k0 _ _ _ _ _ h0 ⟨h1, h2⟩ h3 w
 ·rw [e]; exact rn_k3 _ _ _ _ _ h0 ⟨h1, h2, h3⟩ h4 w
 ·rw [e]; exact rn_kl _ _ _ _ _ h0 ⟨h1, h2, h3, h4⟩ h5 w
 ·obtain ⟨nm, ks, cs⟩ := t
  obtain ⟨K, rfl⟩ : ∃ K : Nat, ks = (K : Int) := ⟨ks.toNat, by simp only at h3; omega⟩
  exact rn_rest nm K cs ao cap w h hcap ho h0 ⟨by simp only at h1; omega, by simp only at h2; omega⟩ ⟨h3, h4, h5⟩
theorem check_t (t : T) (ao : Option Addr) (cap : Nat) (E : Int) (w : World) (hg : Env w) (h : At3 w t ao cap) (hE : t.ck = E) :
  Calls Tryz.prog 82 #[.agg #[.string ⟨t.name.toArray⟩, .int .i64 t.keys, .slice ao t.cs.length cap]] w fun e w' => e = .returned (.int .i64 E) ∧ Below w.heap.size w w' := by
 subst hE
 have H := zh (za hg h)
 clear hg h
 go_enter Tryz.func82, Tryz.ntmps82
 go_wp2_with fail
 refine (whyNone_is t ao cap _ (H.out.2.keep (below1 _ _))).mono ?_
 rintro e w1 ⟨⟨v, rfl, hv⟩, hb⟩
 have B := zh (za hv (step1 (Below.refl _ w) hb))
 clear hv hb
 go_wp2_with fail
 refine (errno_is _ _ _ (H.out.1.keep B.out.2) B.out.1).mono ?_
 rintro e w2 ⟨rfl, hb⟩
 have B2 := zh (step0 B.out.2 hb)
 clear hb
 go_wp2
 go_ret
 exact ⟨rfl, B2.out⟩
end Go.Proofs.YtmgdciihpjifgaaGreatDoor
namespace Go.Proofs.YtmgdciihpjifgaaGreatDoor
open Go.ChangeShapes Go.WideShapes Go.ChangeAt Go.RowKit Go.Joins Go.Deep
section
variable {H : Type} {enc : TypeId × Value → H} {W : World}
end
theorem er_et : Tryz.prog.globalNamed "errors.errorType" = some 0 := by kernel_rfl
theorem er_rt : (Tryz.prog.cutTypes.find? (·.1 == "internal/reflectlite.rtype")).map (·.2) = some 215 := by kernel_rfl
theorem er_row : ((List.range Tryz.prog.types.size).filter fun t => Tryz.prog.rowNamed t [101, 114, 114, 111, 114]) = [134] := by kernel_rfl
theorem env_laid {W : World} (h : laidMetH Tryz.prog [("errors.errorType", Rows.laid_errors_errorType)] W) : Env W := by
 have h' : laidMet Tryz.prog [] W ∧ handlesMet Tryz.prog [("errors.errorType", Rows.laid_errors_errorType)] W := h
 obtain ⟨name, u, ty, e1, e2, e3, e4, e5⟩ := h'.2 _ (List.mem_singleton.2 rfl)
 have en : name = [101, 114, 114, 111, 114] := (Option.some.inj e1).symm
 subst en
 obtain rfl := Option.some.inj (er_rt.symm.trans e2)
 have hm : ty ∈ (List.range Tryz.prog.types.size).filter fun t => Tryz.prog.rowNamed t [101, 114, 114, 111, 114] := List.mem_filter.2 ⟨List.mem_range.2 e3, e4⟩
 rw [er_row] at hm
 obtain rfl := List.mem_singleton.1 hm
 have hh : typeHandle Tryz.prog 134 = .pointer (some ⟨1, 134, none⟩) := by kernel_rfl
 rw [hh] at e5
 have := World.var?_cell er_et e5 0
 unfold Env
 simpa using this
noncomputable def laidWorld (os : Os) : World :=
 let w0 := World.holding Tryz.prog os ⟨#[], #[], []⟩
 { w0 with heap := w0.heap.modify 0 fun
   | .cells _ t frozen => .cells #[.iface 215 (.agg #[.pointer (some ⟨1, 134, none⟩)])] t frozen
   | o => o }
end Go.Proofs.YtmgdciihpjifgaaGreatDoor
