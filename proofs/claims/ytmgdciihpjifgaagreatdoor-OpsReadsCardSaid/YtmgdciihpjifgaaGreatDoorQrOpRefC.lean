/-
 The document's bytes of a change: small, def, long, PutChange. Conditions: a change in memory that keeps a value's bounds.
-/
import Derived.Test.YtmgdciihpjifgaaGreatDoorQrOpPutC
import Derived.Test.YtmgdciihpjifgaaGreatDoorQrScRefPut
import Derived.Test.YtmgdciihpjifgaaGreatDoorQrPackRefInts
set_option maxHeartbeats 8000000
namespace Go.Proofs.YtmgdciihpjifgaaGreatDoor
open Go.RowKit
set_option linter.unusedVariables false
theorem infoTd : (Tryz.prog.info? 30).map (·.size) = some 3 := by kernel_rfl
theorem below3t (w : World) (a b c : Obj) : Below w.heap.size w (((w.alloc a).alloc b).alloc c) := (below2s w a b).alloc (by simp; omega) c
theorem small_y (c : C) (w : World) (h : (c.name == [107]) = true) :
  Calls Tryz.prog 59 #[.agg #[.string ⟨c.name.toArray⟩, .int .i64 c.kind, .bool c.null, .int .i64 c.d.k, .int .i64 c.d.n, .int .u64 c.d.b, .string ⟨c.d.s.toArray⟩]] w (AR c w) := by
 have e : arn c = ⟨[120], 1, [⟨[106], 2, false, ⟨0, 0, 0, []⟩⟩, c]⟩ := by unfold arn; rw [if_pos (by simpa using h)]
 unfold AR
 rw [e]
 go_enter Tryz.func59, Tryz.ntmps59
 go_wp2
 refine bodyPost_ret (v := .agg #[.string ⟨([120] : List UInt8).toArray⟩, .int .i64 1, .slice (some ⟨w.heap.size + 2, 0, none⟩) 2 2]) ?_ rfl ⟨w.heap.size + 2, rfl, slc_two (Blk.new' _ _ _ _ (by simp)), by omega, below3t _ _ _ _⟩
 simp [results, Tryz.results59, go_sem]
theorem small_n (c : C) (w : World) (h : (c.name == [107]) = false) :
  Calls Tryz.prog 59 #[.agg #[.string ⟨c.name.toArray⟩, .int .i64 c.kind, .bool c.null, .int .i64 c.d.k, .int .i64 c.d.n, .int .u64 c.d.b, .string ⟨c.d.s.toArray⟩]] w (AR c w) := by
 have e : arn c = ⟨[120], 1, [⟨[107], 2, false, ⟨0, 0, 0, []⟩⟩, c]⟩ := by unfold arn; rw [if_neg (by simpa using h)]
 unfold AR
 rw [e]
 go_enter Tryz.func59, Tryz.ntmps59
 go_wp2
 refine bodyPost_ret (v := .agg #[.string ⟨([120] : List UInt8).toArray⟩, .int .i64 1, .slice (some ⟨w.heap.size + 2, 0, none⟩) 2 2]) ?_ rfl ⟨w.heap.size + 2, rfl, slc_two (Blk.new' _ _ _ _ (by simp)), by omega, below3t _ _ _ _⟩
 simp [results, Tryz.results59, go_sem]
theorem small_is (c : C) (w : World) : Calls Tryz.prog 59 #[.agg #[.string ⟨c.name.toArray⟩, .int .i64 c.kind, .bool c.null, .int .i64 c.d.k, .int .i64 c.d.n, .int .u64 c.d.b, .string ⟨c.d.s.toArray⟩]] w (AR c w) := by
 by_cases h : c.name = [107]
 ·exact small_y c w (by simpa using h)
 ·exact small_n c w (by simpa using h)
theorem def_1 (c : Ch) (no : Option Addr) (nc : Nat) (dO : Option Addr) (dc : Nat) (w : World) (hc : InC w c no dO dc) (hk : (c.kind == 1) = true) :
  Calls Tryz.prog 34 #[.agg (c.a no nc dO dc)] w fun e w' => e = .returned (.tuple #[.agg #[.string ⟨c.df.name.toArray⟩, .int .i64 c.df.keys, .slice dO c.df.cs.length dc], .bool true]) ∧ At3 w' c.df dO dc ∧ Below w.heap.size w w' := by
 have H := zh hc
 clear hc
 go_enter Tryz.func34, Tryz.ntmps34
 go_wp2
 refine bodyPost_ret (v := .tuple #[.agg #[.string ⟨c.df.name.toArray⟩, .int .i64 c.df.keys, .slice dO c.df.cs.length dc], .bool true]) ?_ rfl ⟨rfl, H.out.2.1.keep (below2s _ _ _), below2s _ _ _⟩
 simp [results, Tryz.results34, go_sem]
theorem def_2 (c : Ch) (no : Option Addr) (nc : Nat) (dO : Option Addr) (dc : Nat) (w : World) (hc : InC w c no dO dc) (hn : (c.kind == 1) = false) (hk : (c.kind == 2) = true) :
  Calls Tryz.prog 34 #[.agg (c.a no nc dO dc)] w fun e w' => ∃ ao, e = .returned (.tuple #[.agg #[.string ⟨(arn c.col).name.toArray⟩, .int .i64 (arn c.col).keys, .slice ao (arn c.col).cs.length 2], .bool true]) ∧ At3 w' (arn c.col) ao 2 ∧ Below w.heap.size w w' := by
 have H := zh hc
 clear hc
 go_enter Tryz.func34, Tryz.ntmps34
 go_wp2_with fail
 refine (small_is c.col _).mono ?_
 intro e w1 har
 obtain ⟨ao, rfl, h3, hu, hb⟩ := har.at3 H.out.2.2
 have q2 : Blk w1 (w.heap.size + 1) #[.string ⟨([] : List UInt8).toArray⟩, .int .i64 0, .slice none 0 0] 30 := (Blk.new' _ _ _ _ (by simp)).below hb
 have K := zh (za ((below2s w _ _).trans (hb.mono (by simp; omega))) (za h3 (hu.mono (show w.heap.size + 2 ≤ _ by rw [World.size_alloc, World.size_alloc]; omega))))
 have qc := q2.cell
 have qf := q2.frozen
 clear hb h3 har hu
 go_wp2
 have wr : Wr w1 (((w1.setCell ⟨w.heap.size + 1, 0, none⟩ (.string ⟨(arn c.col).name.toArray⟩)).setCell ⟨w.heap.size + 1, 1, none⟩ (.int .i64 (arn c.col).keys)).setCell ⟨w.heap.size + 1, 2, none⟩ (.slice ao (arn c.col).cs.length 2)) (w.heap.size + 1) := ((Wr.one _ _ 0 _).trans (Wr.one _ _ 1 _)).trans (Wr.one _ _ 2 _)
 exact bodyPost_ret (results_2 Tryz.results34 rfl rfl (run_loadVar_blk (cs := #[.string ⟨(arn c.col).name.toArray⟩, .int .i64 (arn c.col).keys, .slice ao (arn c.col).cs.length 2]) (((q2.setAt 0 _).setAt 1 _).setAt 2 _) Tryz.underlying30 rfl infoTd)) rfl ⟨ao, rfl, ⟨wr.slc K.out.2.1.1 K.out.2.2 (by omega), K.out.2.1.2⟩, wr.below _ _ (by omega) K.out.1⟩
theorem def_0 (c : Ch) (no : Option Addr) (nc : Nat) (dO : Option Addr) (dc : Nat) (w : World) (hn : (c.kind == 1) = false) (hk : (c.kind == 2) = false) :
  Calls Tryz.prog 34 #[.agg (c.a no nc dO dc)] w fun e w' => e = .returned (.tuple #[.agg #[.string ⟨([] : List UInt8).toArray⟩, .int .i64 0, .slice none 0 0], .bool false]) ∧ Below w.heap.size w w' := by
 go_enter Tryz.func34, Tryz.ntmps34
 go_wp2
 refine bodyPost_ret (v := .tuple #[.agg #[.string ⟨([] : List UInt8).toArray⟩, .int .i64 0, .slice none 0 0], .bool false]) ?_ rfl ⟨rfl, below2s _ _ _⟩
 simp [results, Tryz.results34, go_sem]
theorem def_t (c : Ch) (no : Option Addr) (nc : Nat) (dO : Option Addr) (dc : Nat) (w : World) (hc : InC w c no dO dc) (hk : c.kind = 1 ∨ c.kind = 2) :
  Calls Tryz.prog 34 #[.agg (c.a no nc dO dc)] w fun e w' => ∃ ao cap, e = .returned (.tuple #[.agg #[.string ⟨c.tt.name.toArray⟩, .int .i64 c.tt.keys, .slice ao c.tt.cs.length cap], .bool true]) ∧ At3 w' c.tt ao cap ∧ Below w.heap.size w w' := by
 by_cases h1 : c.kind = 1
 ·rw [show c.tt = c.df from if_pos h1]
  exact (def_1 c no nc dO dc w hc (by simpa using h1)).mono fun e w' h => ⟨dO, dc, h⟩
 ·rw [show c.tt = arn c.col from if_neg h1]
  exact (def_2 c no nc dO dc w hc (by simpa using h1) (by simp; omega)).mono fun e w' ⟨ao, h⟩ => ⟨ao, 2, h⟩
theorem sls_sa {W : World} {g : Nat} {l : List Nm.S} {t : TypeId} (h : Blk W g (sa l) t) : SlS W (some ⟨g, 0, none⟩) l := by
 intro i x hi
 obtain ⟨hl, rfl⟩ := List.getElem?_eq_some_iff.1 hi
 exact ⟨_, rfl, by rw [add_none, h.cell i, sa_at hl]⟩
theorem long_is (l : List Nm.S) (n : Nat) (B : Bool) (ao : Option Addr) (cap : Nat) (w : World) (hn : l.length = n) (h : SlS w ao l) (hl : l.length ≤ 1000000) (hB : lng l = B) :
  Calls Tryz.prog 33 #[.slice ao n cap] w fun e w' => e = .returned (.bool B) ∧ w' = w := by
 subst hn
 have H := zh (za h (za hl hB))
 clear h hl hB
 go_enter Tryz.func33, Tryz.ntmps33
 go_wp2
 go_loop [3] (fun i => ∃ j : Nat, i = .int .i64 j ∧ j ≤ l.length ∧ lng (l.take j) = false) (fun i => l.length - (intOf i).toNat)
 case atStart => exact ⟨0, rfl, Nat.zero_le _, rfl⟩
 case round =>
  obtain ⟨j, rfl, hj, hJ⟩ := hrel
  have J := zh hJ
  clear hJ
  by_cases hlt : j < l.length
  ·obtain ⟨a, rfl, h0⟩ := H.out.1 j l[j] (List.getElem?_eq_getElem hlt)
   have hw : wrap64 ((j : Int) + 1) = (j : Int) + 1 := by have := H.out.2.1; exact wrap_in _ (by omega) (by omega)
   by_cases g : 16 < l[j].length
   ·have q1 : (16 : Int) < (l[j].length : Int) := by omega
    have FN := zh (show B = true from by
     rw [← H.out.2.2]
     unfold lng
     rw [List.any_eq_true]
     exact ⟨l[j], List.getElem_mem hlt, by simpa using g⟩)
    clear g
    go_wp2
    go_ret
    rw [FN.out]
    exact ⟨rfl, rfl⟩
   ·have q1 : decide ((16 : Int) < (l[j].length : Int)) = false := by rw [decide_eq_false_iff_not]; omega
    have X := zh (lng_take hlt J.out g)
    clear g
    go_wp2
    go_round
    case rel => exact ⟨j + 1, by go_num, hlt, X.out⟩
    case measure => rw [hw]; simp [intOf]; omega
  ·obtain rfl : j = l.length := by omega
   have FN := zh (show B = false from by have := J.out; rw [List.take_length, H.out.2.2] at this; exact this)
   go_wp2
   go_ret
   rw [FN.out]
   exact ⟨rfl, rfl⟩
theorem rpc_1 (c : Ch) (no : Option Addr) (nc : Nat) (dO : Option Addr) (dc : Nat) (w : World) (h1 : c.kind < 1) :
  Calls Tryz.prog 11 #[.agg (c.a no nc dO dc)] w fun e w' => e = .returned (.tuple #[.string ⟨([] : List UInt8).toArray⟩, .int .i64 1]) ∧ Below w.heap.size w w' := by
 go_enter Tryz.func11, Tryz.ntmps11
 go_wp2
 go_ret2
 exact ⟨rfl, below1 _ _⟩
theorem rpc_2 (c : Ch) (no : Option Addr) (nc : Nat) (dO : Option Addr) (dc : Nat) (w : World) (h1 : decide (c.kind < 1) = false) (h2 : 6 < c.kind) :
  Calls Tryz.prog 11 #[.agg (c.a no nc dO dc)] w fun e w' => e = .returned (.tuple #[.string ⟨([] : List UInt8).toArray⟩, .int .i64 1]) ∧ Below w.heap.size w w' := by
 go_enter Tryz.func11, Tryz.ntmps11
 go_wp2
 go_ret2
 exact ⟨rfl, below1 _ _⟩
theorem rpc_3 (c : Ch) (no : Option Addr) (nc : Nat) (dO : Option Addr) (dc : Nat) (w : World) (h1 : decide (c.kind < 1) = false) (h2 : decide (6 < c.kind) = false) (h3 : c.type < 0) :
  Calls Tryz.prog 11 #[.agg (c.a no nc dO dc)] w fun e w' => e = .returned (.tuple #[.string ⟨([] : List UInt8).toArray⟩, .int .i64 1]) ∧ Below w.heap.size w w' := by
 go_enter Tryz.func11, Tryz.ntmps11
 go_wp2
 go_ret2
 exact ⟨rfl, below1 _ _⟩
theorem rpc_4 (c : Ch) (no : Option Addr) (nc : Nat) (dO : Option Addr) (dc : Nat) (w : World) (h1 : decide (c.kind < 1) = false) (h2 : decide (6 < c.kind) = false) (h3 : decide (c.type < 0) = false) (h4 : 100 < c.type) :
  Calls Tryz.prog 11 #[.agg (c.a no nc dO dc)] w fun e w' => e = .returned (.tuple #[.string ⟨([] : List UInt8).toArray⟩, .int .i64 1]) ∧ Below w.heap.size w w' := by
 go_enter Tryz.func11, Tryz.ntmps11
 go_wp2
 go_ret2
 exact ⟨rfl, below1 _ _⟩
theorem rpc_5 (c : Ch) (no : Option Addr) (nc : Nat) (dO : Option Addr) (dc : Nat) (w : World) (h1 : decide (c.kind < 1) = false) (h2 : decide (6 < c.kind) = false) (h3 : decide (c.type < 0) = false) (h4 : decide (100 < c.type) = false) (h5 : (8 : Int) < (c.names.length : Int)) :
  Calls Tryz.prog 11 #[.agg (c.a no nc dO dc)] w fun e w' => e = .returned (.tuple #[.string ⟨([] : List UInt8).toArray⟩, .int .i64 1]) ∧ Below w.heap.size w w' := by
 go_enter Tryz.func11, Tryz.ntmps11
 go_wp2
 go_ret2
 exact ⟨rfl, below1 _ _⟩
theorem rpc_6 (c : Ch) (no : Option Addr) (nc : Nat) (dO : Option Addr) (dc : Nat) (w : World) (h1 : decide (c.kind < 1) = false) (h2 : decide (6 < c.kind) = false) (h3 : decide (c.type < 0) = false) (h4 : decide (100 < c.type) = false) (h5 : decide ((8 : Int) < (c.names.length : Int)) = false) (hL : lng c.tx = true) :
  Calls Tryz.prog 11 #[.agg (c.a no nc dO dc)] w fun e w' => e = .returned (.tuple #[.string ⟨([] : List UInt8).toArray⟩, .int .i64 8]) ∧ Below w.heap.size w w' := by
 have HL := zh hL
 clear hL
 go_enter Tryz.func11, Tryz.ntmps11
 have q1 := Blk.new w (c.a no nc dO dc) 32
 have qs : Blk ((w.alloc (.cells (c.a no nc dO dc) 32)).alloc (.cells (sa c.tx) 9)) (w.heap.size + 1) (sa c.tx) 9 := Blk.new' _ _ _ _ (by simp)
 go_wp2_with fail
 refine (long_is c.tx 5 true (some ⟨w.heap.size + 1, 0, none⟩) 5 _ rfl (sls_sa qs) (by rw [tx_len]; decide) HL.out).mono ?_
 rintro e w1 ⟨rfl, hw1⟩
 have B1 := zh (za (show Below w.heap.size w w1 from hw1 ▸ below2s w _ _) (show Blk w1 w.heap.size (c.a no nc dO dc) 32 from hw1 ▸ q1.alloc _))
 clear hw1 q1 qs
 have qc := B1.out.2.cell
 go_wp2
 go_ret2
 exact ⟨rfl, B1.out.1⟩
theorem rpc_7 (c : Ch) (no : Option Addr) (nc : Nat) (dO : Option Addr) (dc : Nat) (w : World) (hN : SlS w no c.names) (h1 : decide (c.kind < 1) = false) (h2 : decide (6 < c.kind) = false) (h3 : decide (c.type < 0) = false) (h4 : decide (100 < c.type) = false) (h5 : decide ((8 : Int) < (c.names.length : Int)) = false) (hL : lng c.tx = false) (hM : lng c.names = true) :
  Calls Tryz.prog 11 #[.agg (c.a no nc dO dc)] w fun e w' => e = .returned (.tuple #[.string ⟨([] : List UInt8).toArray⟩, .int .i64 8]) ∧ Below w.heap.size w w' := by
 have HL := zh (za hL hM)
 have HN := zh (za hN h5)
 clear hL hM hN
 go_enter Tryz.func11, Tryz.ntmps11
 have q1 := Blk.new w (c.a no nc dO dc) 32
 have qs : Blk ((w.alloc (.cells (c.a no nc dO dc) 32)).alloc (.cells (sa c.tx) 9)) (w.heap.size + 1) (sa c.tx) 9 := Blk.new' _ _ _ _ (by simp)
 go_wp2_with fail
 refine (long_is c.tx 5 false (some ⟨w.heap.size + 1, 0, none⟩) 5 _ rfl (sls_sa qs) (by rw [tx_len]; decide) HL.out.1).mono ?_
 rintro e w1 ⟨rfl, hw1⟩
 have B1 := zh (za (show Below w.heap.size w w1 from hw1 ▸ below2s w _ _) (show Blk w1 w.heap.size (c.a no nc dO dc) 32 from hw1 ▸ q1.alloc _))
 clear hw1 q1 qs
 have qc := B1.out.2.cell
 go_wp2_with fail
 refine (long_is c.names c.names.length true no nc _ rfl (HN.out.1.below B1.out.1) (by have := HN.out.2; rw [decide_eq_false_iff_not] at this; omega) HL.out.2).mono ?_
 rintro e w2 ⟨rfl, rfl⟩
 go_wp2
 go_ret2
 exact ⟨rfl, B1.out.1⟩
theorem six {W v : World} {B : Nat} {c : Ch} {no : Option Addr} {nc : Nat} {dO : Option Addr} {dc : Nat} (h : Blk W B (c.a no nc dO dc) 32) (hb : Below W.heap.size W v) :
  Below W.heap.size W v ∧ v.cell? ⟨B, 0, none⟩ = some (.int .i64 c.kind) ∧ v.cell? ⟨B, 1, none⟩ = some (.string ⟨c.table.toArray⟩) ∧ v.cell? ⟨B, 2, none⟩ = some (.string ⟨c.other.toArray⟩) ∧ v.cell? ⟨B, 3, none⟩ = some (.string ⟨c.to.toArray⟩) ∧ v.cell? ⟨B, 4, none⟩ = some (.string ⟨c.also.toArray⟩) ∧ v.cell? ⟨B, 5, none⟩ = some (.string ⟨c.name.toArray⟩) :=
 ⟨hb, (h.below hb).cell 0, (h.below hb).cell 1, (h.below hb).cell 2, (h.below hb).cell 3, (h.below hb).cell 4, (h.below hb).cell 5⟩
theorem rpc_8 (c : Ch) (no : Option Addr) (nc : Nat) (dO : Option Addr) (dc : Nat) (w : World) (hc : InC w c no dO dc) (h1 : decide (c.kind < 1) = false) (h2 : decide (6 < c.kind) = false) (h3 : decide (c.type < 0) = false) (h4 : decide (100 < c.type) = false) (h5 : decide ((8 : Int) < (c.names.length : Int)) = false) (hL : lng c.tx = false) (hM : lng c.names = false) (hk1 : (c.kind == 1) = false) (hk2 : (c.kind == 2) = false) :
  Calls Tryz.prog 11 #[.agg (c.a no nc dO dc)] w fun e w' => e = .returned (.tuple #[.string ⟨(c.hd ++ c.tb).toArray⟩, .int .i64 0]) ∧ Below w.heap.size w w' := by
 have hmx : Tryz.prog.follows .mixedOrders = true := by kernel_rfl
 have hce : c.ce = 0 := by
  unfold Ch.ce
  simp only [decide_eq_false_iff_not] at h1 h2 h3 h4 h5
  rw [if_neg (by omega), if_neg (by simp [hL, hM])]
 obtain ⟨g1, g2, g3, g4, g5, g6, g7⟩ := Ch.ce_ok hce
 have X := zh (za g6 (za g7 (za g5 (za (za g1 g2) (za g3 g4)))))
 have TL := zh (show ∀ s, s ∈ c.tx → s.length ≤ 140737488351232 from fun s hs => by have := X.out.1 s hs; omega)
 have k1 : IntKind.u64.wrap c.kind = c.kind := pk_wrap_u64 _ (by omega) (by omega)
 have k2 : IntKind.u64.wrap c.type = c.type := pk_wrap_u64 _ (by omega) (by omega)
 have k3 : IntKind.u64.wrap (c.names.length : Int) = (c.names.length : Int) := pk_wrap_u64 _ (by omega) (by omega)
 obtain ⟨TB, hTB⟩ : ∃ TB, c.tb = TB := ⟨_, rfl⟩
 have e0 : TB = [] := by rw [← hTB]; unfold Ch.tb; simp at hk1 hk2; rw [if_neg (by omega)]
 obtain ⟨N1, hN1⟩ : ∃ N, Pk.un c.kind.toNat = N := ⟨_, rfl⟩
 obtain ⟨N2, hN2⟩ : ∃ N, Pk.un c.type.toNat = N := ⟨_, rfl⟩
 obtain ⟨N3, hN3⟩ : ∃ N, Pk.un c.names.length = N := ⟨_, rfl⟩
 obtain ⟨T1, hT1⟩ : ∃ N, Pk.tx c.table = N := ⟨_, rfl⟩
 obtain ⟨T2, hT2⟩ : ∃ N, Pk.tx c.other = N := ⟨_, rfl⟩
 obtain ⟨T3, hT3⟩ : ∃ N, Pk.tx c.to = N := ⟨_, rfl⟩
 obtain ⟨T4, hT4⟩ : ∃ N, Pk.tx c.also = N := ⟨_, rfl⟩
 obtain ⟨T5, hT5⟩ : ∃ N, Pk.tx c.name = N := ⟨_, rfl⟩
 have LT := zh (show T1.length ≤ 26 ∧ T2.length ≤ 26 ∧ T3.length ≤ 26 ∧ T4.length ≤ 26 ∧ T5.length ≤ 26 from ⟨hT1 ▸ tx_le (X.out.1 _ (by simp [Ch.tx])), hT2 ▸ tx_le (X.out.1 _ (by simp [Ch.tx])), hT3 ▸ tx_le (X.out.1 _ (by simp [Ch.tx])), hT4 ▸ tx_le (X.out.1 _ (by simp [Ch.tx])), hT5 ▸ tx_le (X.out.1 _ (by simp [Ch.tx]))⟩)
 have UT := zh (za hT1 (za hT2 (za hT3 (za hT4 hT5))))
 have cat : c.hd ++ c.tb = N1 ++ txs c.tx ++ N2 ++ N3 ++ txs c.names ++ TB := by unfold Ch.hd; rw [hTB, hN1, hN2, hN3]; simp
 rw [cat]
 have L := zh (show N1.length ≤ 10 ∧ N2.length ≤ 10 ∧ N3.length ≤ 10 ∧ TB.length ≤ 2000 from ⟨hN1 ▸ un_le _, hN2 ▸ un_le _, hN3 ▸ un_le _, hTB ▸ tb_le c⟩)
 have U := zh (za hN1 (za hN2 (za hN3 hTB)))
 have HL := zh (za hL hM)
 have HN := zh (za hc h5)
 clear g1 g2 g3 g4 g5 g6 g7 cat hN1 hN2 hN3 hTB hT1 hT2 hT3 hT4 hT5 hL hM hc hce
 subst e0
 go_enter Tryz.func11, Tryz.ntmps11
 have q1 := Blk.new w (c.a no nc dO dc) 32
 have qs : Blk ((w.alloc (.cells (c.a no nc dO dc) 32)).alloc (.cells (sa c.tx) 9)) (w.heap.size + 1) (sa c.tx) 9 := Blk.new' _ _ _ _ (by simp)
 go_wp2_with fail
 refine (long_is c.tx 5 false (some ⟨w.heap.size + 1, 0, none⟩) 5 _ rfl (sls_sa qs) (by rw [tx_len]; decide) HL.out.1).mono ?_
 rintro e w1 ⟨rfl, hw1⟩
 have B1 := zh (za (show Below w.heap.size w w1 from hw1 ▸ below2s w _ _) (show Blk w1 w.heap.size (c.a no nc dO dc) 32 from hw1 ▸ q1.alloc _))
 clear hw1 q1 qs
 have qc := B1.out.2.cell
 go_wp2_with fail
 refine (long_is c.names c.names.length false no nc _ rfl (HN.out.1.1.below B1.out.1) (by have := HN.out.2; rw [decide_eq_false_iff_not] at this; omega) HL.out.2).mono ?_
 rintro e w2 ⟨rfl, hw2⟩
 have B2 := zh (show Below w.heap.size w w2 ∧ Blk w2 w.heap.size (c.a no nc dO dc) 32 from hw2 ▸ B1.out)
 clear qc hw2
 go_wp2_with ((refine (?_ : wpList _ _ _ (Oper.mk _ (Op.load 32 _) _ _ _ _ :: _) _ _)); refine wpList_load_blk rfl 32 _ rfl (w.heap.size) rfl (c.a no nc dO dc) _ (B2.out.2) Tryz.underlying32 rfl (infoCh) ?_; go_frame)
 refine (def_0 c no nc dO dc _ hk1 hk2).mono ?_
 rintro e w3 ⟨rfl, hb⟩
 go_wp2
 obtain ⟨w4, hw4⟩ : ∃ w4, w3.alloc (.cells #[.string ⟨#[]⟩, .int .i64 0, .slice none 0 0] 30) = w4 := ⟨_, rfl⟩
 rw [hw4]
 have K := zh (show Below w.heap.size w w4 ∧ Blk w4 w.heap.size (c.a no nc dO dc) 32 from hw4 ▸ za ((step0 B2.out.1 hb).alloc (step0 B2.out.1 hb).size _) ((B2.out.2.below hb).alloc _))
 clear hb hw4
 have q1 := K.out.2
 have l1 : (9223372036854775807 < N1.length + T1.length) = False := by have := L.out; have := LT.out; simp; omega
 have l2 : (9223372036854775807 < N1.length + T1.length + T2.length) = False := by have := L.out; have := LT.out; simp; omega
 have l3 : (9223372036854775807 < N1.length + T1.length + T2.length + T3.length) = False := by have := L.out; have := LT.out; simp; omega
 have l4 : (9223372036854775807 < N1.length + T1.length + T2.length + T3.length + T4.length) = False := by have := L.out; have := LT.out; simp; omega
 have l5 : (9223372036854775807 < N1.length + T1.length + T2.length + T3.length + T4.length + T5.length) = False := by have := L.out; have := LT.out; simp; omega
 go_region_held3 (fun v => Below w4.heap.size w4 v ∧ v.cell? ⟨w.heap.size, 0, none⟩ = some (.int .i64 c.kind) ∧ v.cell? ⟨w.heap.size, 1, none⟩ = some (.string ⟨c.table.toArray⟩) ∧ v.cell? ⟨w.heap.size, 2, none⟩ = some (.string ⟨c.other.toArray⟩) ∧ v.cell? ⟨w.heap.size, 3, none⟩ = some (.string ⟨c.to.toArray⟩) ∧ v.cell? ⟨w.heap.size, 4, none⟩ = some (.string ⟨c.also.toArray⟩) ∧ v.cell? ⟨w.heap.size, 5, none⟩ = some (.string ⟨c.name.toArray⟩))
  (first | exact six q1 (Below.refl _ _).drew | exact six q1 (step0 ‹Below w4.heap.size w4 _ ∧ _›.1 hb))
  (first | (go_at_call 36; refine (ruint_is c.kind N1 _ (by have := X.out; omega) (by have := X.out; omega) U.out.1).mono ?_; rintro e v3 ⟨rfl, hb⟩) | (go_at_call 37; refine (rtext_any _ _ (TL.out _ (by simp [Ch.tx]))).mono ?_; rintro e v3 ⟨rfl, hb⟩; first | rw [UT.out.1] | rw [UT.out.2.1] | rw [UT.out.2.2.1] | rw [UT.out.2.2.2.1] | rw [UT.out.2.2.2.2]))
 have B3 := zh (show Below w4.heap.size w4 v3 from ‹Below w4.heap.size w4 v3 ∧ _›.1)
 rw [cat_list, cat_list, cat_list, cat_list, cat_list]
 obtain ⟨P, hP⟩ : ∃ P, N1 ++ T1 ++ T2 ++ T3 ++ T4 ++ T5 = P := ⟨_, rfl⟩
 have lP : P.length ≤ 150 := by rw [← hP]; simp only [List.length_append]; have := L.out; have := LT.out; omega
 have HP := zh (za (show N1 ++ txs c.tx = P from by rw [← hP, ← UT.out.1, ← UT.out.2.1, ← UT.out.2.2.1, ← UT.out.2.2.2.1, ← UT.out.2.2.2.2]; simp [Ch.tx, txs]) lP)
 rw [hP]
 have K3 := zh (za (K.out.1.trans (B3.out.mono K.out.1.size)) (q1.below B3.out))
 clear hP lP l1 l2 l3 l4 l5 q1
 have q1 := K3.out.2
 have l1 : (9223372036854775807 < P.length + N2.length) = False := by have := L.out; have := HP.out.2; simp; omega
 have l2 : (9223372036854775807 < P.length + N2.length + N3.length) = False := by have := L.out; have := HP.out.2; simp; omega
 go_wp2
 go_region_held3 (fun v => Below v3.heap.size v3 v ∧ v.cell? ⟨w.heap.size, 6, none⟩ = some (.int .i64 c.type) ∧ v.cell? ⟨w.heap.size, 7, none⟩ = some (.slice no c.names.length nc))
  (first | exact ⟨(Below.refl _ _).drew, q1.cell 6, q1.cell 7⟩ | exact ⟨step0 ‹Below v3.heap.size v3 _ ∧ _›.1 hb, (q1.below (step0 ‹Below v3.heap.size v3 _ ∧ _›.1 hb)).cell 6, (q1.below (step0 ‹Below v3.heap.size v3 _ ∧ _›.1 hb)).cell 7⟩)
  (first | (go_at_call 36; refine (ruint_int _ _ (by have := X.out; omega) (by have := X.out; omega)).mono ?_; rintro e v4 ⟨rfl, hb⟩; first | rw [U.out.2.1] | rw [show Pk.un (c.names.length : Int).toNat = N3 from by rw [Int.toNat_natCast]; exact U.out.2.2.1]))
 have B4 := zh (show Below v3.heap.size v3 v4 from ‹Below v3.heap.size v3 v4 ∧ _›.1)
 rw [cat_list, cat_list]
 obtain ⟨P2, hP⟩ : ∃ P2, P ++ N2 ++ N3 = P2 := ⟨_, rfl⟩
 have lP : P2.length ≤ 170 := by rw [← hP]; simp only [List.length_append]; have := L.out; have := HP.out.2; omega
 have HP2 := zh (za hP lP)
 rw [hP]
 have K4 := zh (za (K3.out.1.trans (B4.out.mono K3.out.1.size)) (q1.below B4.out))
 clear hP lP l1 l2 q1
 go_wp2
 go_loopw [9, 10] (fun q i wr => ∃ j : Nat, q = .string ⟨(P2 ++ txs (c.names.take j)).toArray⟩ ∧ i = .int .i64 j ∧ j ≤ c.names.length ∧ Below w.heap.size w wr ∧ Blk wr w.heap.size (c.a no nc dO dc) 32) (fun _ i _ => c.names.length - (intOf i).toNat)
 case atStart => exact ⟨0, by simp [txs], rfl, by omega, K4.out⟩
 case round =>
  obtain ⟨j, rfl, rfl, hj, hbel, hbc⟩ := hrel
  have J := zh (za hbel hbc)
  have qc := hbc.cell
  clear hbel hbc
  by_cases hlt : j < c.names.length
  ·have hw : wrap64 ((j : Int) + 1) = (j : Int) + 1 := wrap_in _ (by omega) (by have := X.out; omega)
   obtain ⟨a, hno, h0⟩ := (HN.out.1.1.below J.out.1) j c.names[j] (List.getElem?_eq_getElem hlt)
   subst hno
   obtain ⟨R2, hR⟩ : ∃ R, P2 ++ txs (c.names.take j) = R := ⟨_, rfl⟩
   obtain ⟨S, hS⟩ : ∃ S, Pk.tx c.names[j] = S := ⟨_, rfl⟩
   have lS : S.length ≤ 26 := by rw [← hS]; exact tx_le (X.out.2.1 _ (List.getElem_mem hlt))
   have lR : R2.length ≤ 900 := by rw [← hR, List.length_append]; have := txs_lt (j := j) X.out.2.1; have := X.out.2.2.1; have := HP2.out.2; omega
   have q9 : (9223372036854775807 < R2.length + S.length) = False := by simp; omega
   have nx : P2 ++ txs (c.names.take (j + 1)) = R2 ++ S := by rw [txs_next hlt, ← List.append_assoc, hR, hS]
   have HX := zh (za nx (za hS (X.out.2.1 _ (List.getElem_mem hlt))))
   rw [hR]
   clear hR hS nx lS lR
   go_wp2_with fail
   refine (rtext_is c.names[j] S _ (by have := HX.out.2.2; omega) HX.out.2.1).mono ?_
   rintro e w6 ⟨rfl, hb⟩
   have K6 := zh (za (step0 J.out.1 hb) (J.out.2.below hb))
   clear hb h0 qc
   go_wp2
   go_roundw
   case rel => exact ⟨j + 1, by rw [HX.out.1]; first | rfl | simp, by go_num, hlt, K6.out⟩
   case measure => rw [hw]; simp [intOf]; omega
  ·obtain rfl : j = c.names.length := by omega
   rw [List.take_length]
   obtain ⟨R2, hR⟩ : ∃ R, P2 ++ txs c.names = R := ⟨_, rfl⟩
   have lR : R2.length ≤ 900 := by rw [← hR, List.length_append]; have := txs_le X.out.2.1; have := X.out.2.2.1; have := HP2.out.2; omega
   have fin : R2 ++ [] = N1 ++ txs c.tx ++ N2 ++ N3 ++ txs c.names ++ [] := by rw [← hR, ← HP2.out.1, ← HP.out.1]
   have q9 : (9223372036854775807 < R2.length) = False := by simp; omega
   have FN := zh fin
   rw [hR]
   clear hR lR fin hlt hj
   go_wp2
   refine bodyPost_ret (v := .tuple #[.string ⟨(R2 ++ []).toArray⟩, .int .i64 0]) ?_ rfl ⟨?_, J.out.1⟩
   ·simp [results, Tryz.results11, go_sem]
    exact (cat_list R2 []).trans (by rw [List.append_nil])
   ·rw [FN.out]
theorem rpc_9 (c : Ch) (no : Option Addr) (nc : Nat) (dO : Option Addr) (dc : Nat) (w : World) (hc : InC w c no dO dc) (h1 : decide (c.kind < 1) = false) (h2 : decide (6 < c.kind) = false) (h3 : decide (c.type < 0) = false) (h4 : decide (100 < c.type) = false) (h5 : decide ((8 : Int) < (c.names.length : Int)) = false) (hL : lng c.tx = false) (hM : lng c.names = false) (hk : c.kind = 1 ∨ c.kind = 2) (hT : c.te = 0) :
  Calls Tryz.prog 11 #[.agg (c.a no nc dO dc)] w fun e w' => e = .returned (.tuple #[.string ⟨(c.hd ++ c.tb).toArray⟩, .int .i64 0]) ∧ Below w.heap.size w w' := by
 have hmx : Tryz.prog.follows .mixedOrders = true := by kernel_rfl
 have hce : c.ce = 0 := by
  unfold Ch.ce
  simp only [decide_eq_false_iff_not] at h1 h2 h3 h4 h5
  rw [if_neg (by omega), if_neg (by simp [hL, hM])]
 obtain ⟨g1, g2, g3, g4, g5, g6, g7⟩ := Ch.ce_ok hce
 have X := zh (za g6 (za g7 (za g5 (za (za g1 g2) (za g3 g4)))))
 have TL := zh (show ∀ s, s ∈ c.tx → s.length ≤ 140737488351232 from fun s hs => by have := X.out.1 s hs; omega)
 have k1 : IntKind.u64.wrap c.kind = c.kind := pk_wrap_u64 _ (by omega) (by omega)
 have k2 : IntKind.u64.wrap c.type = c.type := pk_wrap_u64 _ (by omega) (by omega)
 have k3 : IntKind.u64.wrap (c.names.length : Int) = (c.names.length : Int) := pk_wrap_u64 _ (by omega) (by omega)
 obtain ⟨TB, hTB⟩ : ∃ TB, c.tb = TB := ⟨_, rfl⟩
 obtain ⟨N1, hN1⟩ : ∃ N, Pk.un c.kind.toNat = N := ⟨_, rfl⟩
 obtain ⟨N2, hN2⟩ : ∃ N, Pk.un c.type.toNat = N := ⟨_, rfl⟩
 obtain ⟨N3, hN3⟩ : ∃ N, Pk.un c.names.length = N := ⟨_, rfl⟩
 obtain ⟨T1, hT1⟩ : ∃ N, Pk.tx c.table = N := ⟨_, rfl⟩
 obtain ⟨T2, hT2⟩ : ∃ N, Pk.tx c.other = N := ⟨_, rfl⟩
 obtain ⟨T3, hT3⟩ : ∃ N, Pk.tx c.to = N := ⟨_, rfl⟩
 obtain ⟨T4, hT4⟩ : ∃ N, Pk.tx c.also = N := ⟨_, rfl⟩
 obtain ⟨T5, hT5⟩ : ∃ N, Pk.tx c.name = N := ⟨_, rfl⟩
 have LT := zh (show T1.length ≤ 26 ∧ T2.length ≤ 26 ∧ T3.length ≤ 26 ∧ T4.length ≤ 26 ∧ T5.length ≤ 26 from ⟨hT1 ▸ tx_le (X.out.1 _ (by simp [Ch.tx])), hT2 ▸ tx_le (X.out.1 _ (by simp [Ch.tx])), hT3 ▸ tx_le (X.out.1 _ (by simp [Ch.tx])), hT4 ▸ tx_le (X.out.1 _ (by simp [Ch.tx])), hT5 ▸ tx_le (X.out.1 _ (by simp [Ch.tx]))⟩)
 have UT := zh (za hT1 (za hT2 (za hT3 (za hT4 hT5))))
 have cat : c.hd ++ c.tb = N1 ++ txs c.tx ++ N2 ++ N3 ++ txs c.names ++ TB := by unfold Ch.hd; rw [hTB, hN1, hN2, hN3]; simp
 rw [cat]
 have L := zh (show N1.length ≤ 10 ∧ N2.length ≤ 10 ∧ N3.length ≤ 10 ∧ TB.length ≤ 2000 from ⟨hN1 ▸ un_le _, hN2 ▸ un_le _, hN3 ▸ un_le _, hTB ▸ tb_le c⟩)
 have U := zh (za hN1 (za hN2 (za hN3 hTB)))
 have HL := zh (za hL hM)
 have HN := zh (za hc h5)
 clear g1 g2 g3 g4 g5 g6 g7 cat hN1 hN2 hN3 hTB hT1 hT2 hT3 hT4 hT5 hL hM hc hce
 have TE := zh (show c.tt.ck = 0 from by unfold Ch.te at hT; rwa [if_pos hk] at hT)
 have TP := zh (show c.tt.pt = TB from by rw [← U.out.2.2.2]; unfold Ch.tb; rw [if_pos hk])
 clear hT
 go_enter Tryz.func11, Tryz.ntmps11
 have q1 := Blk.new w (c.a no nc dO dc) 32
 have qs : Blk ((w.alloc (.cells (c.a no nc dO dc) 32)).alloc (.cells (sa c.tx) 9)) (w.heap.size + 1) (sa c.tx) 9 := Blk.new' _ _ _ _ (by simp)
 go_wp2_with fail
 refine (long_is c.tx 5 false (some ⟨w.heap.size + 1, 0, none⟩) 5 _ rfl (sls_sa qs) (by rw [tx_len]; decide) HL.out.1).mono ?_
 rintro e w1 ⟨rfl, hw1⟩
 have B1 := zh (za (show Below w.heap.size w w1 from hw1 ▸ below2s w _ _) (show Blk w1 w.heap.size (c.a no nc dO dc) 32 from hw1 ▸ q1.alloc _))
 clear hw1 q1 qs
 have qc := B1.out.2.cell
 go_wp2_with fail
 refine (long_is c.names c.names.length false no nc _ rfl (HN.out.1.1.below B1.out.1) (by have := HN.out.2; rw [decide_eq_false_iff_not] at this; omega) HL.out.2).mono ?_
 rintro e w2 ⟨rfl, hw2⟩
 have B2 := zh (show Below w.heap.size w w2 ∧ Blk w2 w.heap.size (c.a no nc dO dc) 32 from hw2 ▸ B1.out)
 clear qc hw2
 go_wp2_with ((refine (?_ : wpList _ _ _ (Oper.mk _ (Op.load 32 _) _ _ _ _ :: _) _ _)); refine wpList_load_blk rfl 32 _ rfl (w.heap.size) rfl (c.a no nc dO dc) _ (B2.out.2) Tryz.underlying32 rfl (infoCh) ?_; go_frame)
 refine (def_t c no nc dO dc _ (HN.out.1.below B2.out.1) hk).mono ?_
 rintro e w3 ⟨ao, cap, rfl, h3, hb⟩
 have K3 := zh (za (step0 B2.out.1 hb) (za (B2.out.2.below hb) h3))
 clear hb h3
 go_wp2_with fail
 refine (rput_t c.tt ao cap 0 _ (K3.out.2.2.keep (below1 _ _)) TE.out).mono ?_
 rintro e w4 ⟨rfl, hb⟩
 have K := zh (za (step1 K3.out.1 hb) ((K3.out.2.1.alloc _).below hb))
 clear hb
 rw [TP.out]
 have q1 := K.out.2
 have l1 : (9223372036854775807 < N1.length + T1.length) = False := by have := L.out; have := LT.out; simp; omega
 have l2 : (9223372036854775807 < N1.length + T1.length + T2.length) = False := by have := L.out; have := LT.out; simp; omega
 have l3 : (9223372036854775807 < N1.length + T1.length + T2.length + T3.length) = False := by have := L.out; have := LT.out; simp; omega
 have l4 : (9223372036854775807 < N1.length + T1.length + T2.length + T3.length + T4.length) = False := by have := L.out; have := LT.out; simp; omega
 have l5 : (9223372036854775807 < N1.length + T1.length + T2.length + T3.length + T4.length + T5.length) = False := by have := L.out; have := LT.out; simp; omega
 go_wp2
 go_region_held3 (fun v => Below w4.heap.size w4 v ∧ v.cell? ⟨w.heap.size, 0, none⟩ = some (.int .i64 c.kind) ∧ v.cell? ⟨w.heap.size, 1, none⟩ = some (.string ⟨c.table.toArray⟩) ∧ v.cell? ⟨w.heap.size, 2, none⟩ = some (.string ⟨c.other.toArray⟩) ∧ v.cell? ⟨w.heap.size, 3, none⟩ = some (.string ⟨c.to.toArray⟩) ∧ v.cell? ⟨w.heap.size, 4, none⟩ = some (.string ⟨c.also.toArray⟩) ∧ v.cell? ⟨w.heap.size, 5, none⟩ = some (.string ⟨c.name.toArray⟩))
  (first | exact six q1 (Below.refl _ _).drew | exact six q1 (step0 ‹Below w4.heap.size w4 _ ∧ _›.1 hb))
  (first | (go_at_call 36; refine (ruint_is c.kind N1 _ (by have := X.out; omega) (by have := X.out; omega) U.out.1).mono ?_; rintro e v3 ⟨rfl, hb⟩) | (go_at_call 37; refine (rtext_any _ _ (TL.out _ (by simp [Ch.tx]))).mono ?_; rintro e v3 ⟨rfl, hb⟩; first | rw [UT.out.1] | rw [UT.out.2.1] | rw [UT.out.2.2.1] | rw [UT.out.2.2.2.1] | rw [UT.out.2.2.2.2]))
 have B3 := zh (show Below w4.heap.size w4 v3 from ‹Below w4.heap.size w4 v3 ∧ _›.1)
 rw [cat_list, cat_list, cat_list, cat_list, cat_list]
 obtain ⟨P, hP⟩ : ∃ P, N1 ++ T1 ++ T2 ++ T3 ++ T4 ++ T5 = P := ⟨_, rfl⟩
 have lP : P.length ≤ 150 := by rw [← hP]; simp only [List.length_append]; have := L.out; have := LT.out; omega
 have HP := zh (za (show N1 ++ txs c.tx = P from by rw [← hP, ← UT.out.1, ← UT.out.2.1, ← UT.out.2.2.1, ← UT.out.2.2.2.1, ← UT.out.2.2.2.2]; simp [Ch.tx, txs]) lP)
 rw [hP]
 have K3 := zh (za (K.out.1.trans (B3.out.mono K.out.1.size)) (q1.below B3.out))
 clear hP lP l1 l2 l3 l4 l5 q1
 have q1 := K3.out.2
 have l1 : (9223372036854775807 < P.length + N2.length) = False := by have := L.out; have := HP.out.2; simp; omega
 have l2 : (9223372036854775807 < P.length + N2.length + N3.length) = False := by have := L.out; have := HP.out.2; simp; omega
 go_wp2
 go_region_held3 (fun v => Below v3.heap.size v3 v ∧ v.cell? ⟨w.heap.size, 6, none⟩ = some (.int .i64 c.type) ∧ v.cell? ⟨w.heap.size, 7, none⟩ = some (.slice no c.names.length nc))
  (first | exact ⟨(Below.refl _ _).drew, q1.cell 6, q1.cell 7⟩ | exact ⟨step0 ‹Below v3.heap.size v3 _ ∧ _›.1 hb, (q1.below (step0 ‹Below v3.heap.size v3 _ ∧ _›.1 hb)).cell 6, (q1.below (step0 ‹Below v3.heap.size v3 _ ∧ _›.1 hb)).cell 7⟩)
  (first | (go_at_call 36; refine (ruint_int _ _ (by have := X.out; omega) (by have := X.out; omega)).mono ?_; rintro e v4 ⟨rfl, hb⟩; first | rw [U.out.2.1] | rw [show Pk.un (c.names.length : Int).toNat = N3 from by rw [Int.toNat_natCast]; exact U.out.2.2.1]))
 have B4 := zh (show Below v3.heap.size v3 v4 from ‹Below v3.heap.size v3 v4 ∧ _›.1)
 rw [cat_list, cat_list]
 obtain ⟨P2, hP⟩ : ∃ P2, P ++ N2 ++ N3 = P2 := ⟨_, rfl⟩
 have lP : P2.length ≤ 170 := by rw [← hP]; simp only [List.length_append]; have := L.out; have := HP.out.2; omega
 have HP2 := zh (za hP lP)
 rw [hP]
 have K4 := zh (za (K3.out.1.trans (B4.out.mono K3.out.1.size)) (q1.below B4.out))
 clear hP lP l1 l2 q1
 go_wp2
 go_loopw [9, 10] (fun q i wr => ∃ j : Nat, q = .string ⟨(P2 ++ txs (c.names.take j)).toArray⟩ ∧ i = .int .i64 j ∧ j ≤ c.names.length ∧ Below w.heap.size w wr ∧ Blk wr w.heap.size (c.a no nc dO dc) 32) (fun _ i _ => c.names.length - (intOf i).toNat)
 case atStart => exact ⟨0, by simp [txs], rfl, by omega, K4.out⟩
 case round =>
  obtain ⟨j, rfl, rfl, hj, hbel, hbc⟩ := hrel
  have J := zh (za hbel hbc)
  have qc := hbc.cell
  clear hbel hbc
  by_cases hlt : j < c.names.length
  ·have hw : wrap64 ((j : Int) + 1) = (j : Int) + 1 := wrap_in _ (by omega) (by have := X.out; omega)
   obtain ⟨a, hno, h0⟩ := (HN.out.1.1.below J.out.1) j c.names[j] (List.getElem?_eq_getElem hlt)
   subst hno
   obtain ⟨R2, hR⟩ : ∃ R, P2 ++ txs (c.names.take j) = R := ⟨_, rfl⟩
   obtain ⟨S, hS⟩ : ∃ S, Pk.tx c.names[j] = S := ⟨_, rfl⟩
   have lS : S.length ≤ 26 := by rw [← hS]; exact tx_le (X.out.2.1 _ (List.getElem_mem hlt))
   have lR : R2.length ≤ 900 := by rw [← hR, List.length_append]; have := txs_lt (j := j) X.out.2.1; have := X.out.2.2.1; have := HP2.out.2; omega
   have q9 : (9223372036854775807 < R2.length + S.length) = False := by simp; omega
   have nx : P2 ++ txs (c.names.take (j + 1)) = R2 ++ S := by rw [txs_next hlt, ← List.append_assoc, hR, hS]
   have HX := zh (za nx (za hS (X.out.2.1 _ (List.getElem_mem hlt))))
   rw [hR]
   clear hR hS nx lS lR
   go_wp2_with fail
   refine (rtext_is c.names[j] S _ (by have := HX.out.2.2; omega) HX.out.2.1).mono ?_
   rintro e w6 ⟨rfl, hb⟩
   have K6 := zh (za (step0 J.out.1 hb) (J.out.2.below hb))
   clear hb h0 qc
   go_wp2
   go_roundw
   case rel => exact ⟨j + 1, by rw [HX.out.1]; first | rfl | simp, by go_num, hlt, K6.out⟩
   case measure => rw [hw]; simp [intOf]; omega
  ·obtain rfl : j = c.names.length := by omega
   rw [List.take_length]
   obtain ⟨R2, hR⟩ : ∃ R, P2 ++ txs c.names = R := ⟨_, rfl⟩
   have lR : R2.length ≤ 900 := by rw [← hR, List.length_append]; have := txs_le X.out.2.1; have := X.out.2.2.1; have := HP2.out.2; omega
   have fin : R2 ++ TB = N1 ++ txs c.tx ++ N2 ++ N3 ++ txs c.names ++ TB := by rw [← hR, ← HP2.out.1, ← HP.out.1]
   have q9 : (9223372036854775807 < R2.length + TB.length) = False := by have := L.out; simp; omega
   have FN := zh fin
   rw [hR]
   clear hR lR fin hlt hj
   go_wp2
   refine bodyPost_ret (v := .tuple #[.string ⟨(R2 ++ TB).toArray⟩, .int .i64 0]) ?_ rfl ⟨?_, J.out.1⟩
   ·simp [results, Tryz.results11, go_sem]
    rw [cat_list]
   ·rw [FN.out]
theorem rpc_e (c : Ch) (no : Option Addr) (nc : Nat) (dO : Option Addr) (dc : Nat) (w : World) (E : Int) (hc : InC w c no dO dc) (h1 : decide (c.kind < 1) = false) (h2 : decide (6 < c.kind) = false) (h3 : decide (c.type < 0) = false) (h4 : decide (100 < c.type) = false) (h5 : decide ((8 : Int) < (c.names.length : Int)) = false) (hL : lng c.tx = false) (hM : lng c.names = false) (hk : c.kind = 1 ∨ c.kind = 2) (hT : c.te = E) (hE : ¬ E = 0) :
  Calls Tryz.prog 11 #[.agg (c.a no nc dO dc)] w fun e w' => e = .returned (.tuple #[.string ⟨([] : List UInt8).toArray⟩, .int .i64 E]) ∧ Below w.heap.size w w' := by
 have TE := zh (show c.tt.ck = E from by unfold Ch.te at hT; rwa [if_pos hk] at hT)
 have e1 := bne_t hE
 have HL := zh (za hL hM)
 have HN := zh (za hc h5)
 clear hT hL hM hc hE
 go_enter Tryz.func11, Tryz.ntmps11
 have q1 := Blk.new w (c.a no nc dO dc) 32
 have qs : Blk ((w.alloc (.cells (c.a no nc dO dc) 32)).alloc (.cells (sa c.tx) 9)) (w.heap.size + 1) (sa c.tx) 9 := Blk.new' _ _ _ _ (by simp)
 go_wp2_with fail
 refine (long_is c.tx 5 false (some ⟨w.heap.size + 1, 0, none⟩) 5 _ rfl (sls_sa qs) (by rw [tx_len]; decide) HL.out.1).mono ?_
 rintro e w1 ⟨rfl, hw1⟩
 have B1 := zh (za (show Below w.heap.size w w1 from hw1 ▸ below2s w _ _) (show Blk w1 w.heap.size (c.a no nc dO dc) 32 from hw1 ▸ q1.alloc _))
 clear hw1 q1 qs
 have qc := B1.out.2.cell
 go_wp2_with fail
 refine (long_is c.names c.names.length false no nc _ rfl (HN.out.1.1.below B1.out.1) (by have := HN.out.2; rw [decide_eq_false_iff_not] at this; omega) HL.out.2).mono ?_
 rintro e w2 ⟨rfl, hw2⟩
 have B2 := zh (show Below w.heap.size w w2 ∧ Blk w2 w.heap.size (c.a no nc dO dc) 32 from hw2 ▸ B1.out)
 clear qc hw2
 go_wp2_with ((refine (?_ : wpList _ _ _ (Oper.mk _ (Op.load 32 _) _ _ _ _ :: _) _ _)); refine wpList_load_blk rfl 32 _ rfl (w.heap.size) rfl (c.a no nc dO dc) _ (B2.out.2) Tryz.underlying32 rfl (infoCh) ?_; go_frame)
 refine (def_t c no nc dO dc _ (HN.out.1.below B2.out.1) hk).mono ?_
 rintro e w3 ⟨ao, cap, rfl, h3, hb⟩
 have K3 := zh (za (step0 B2.out.1 hb) (za (B2.out.2.below hb) h3))
 clear hb h3
 go_wp2_with fail
 refine (rput_t c.tt ao cap E _ (K3.out.2.2.keep (below1 _ _)) TE.out).mono ?_
 rintro e w4 ⟨rfl, hb⟩
 have K := zh (za (step1 K3.out.1 hb) ((K3.out.2.1.alloc _).below hb))
 clear hb
 go_wp2
 go_ret2
 exact ⟨rfl, K.out.1⟩
theorem rputc_is (c : Ch) (no : Option Addr) (nc : Nat) (dO : Option Addr) (dc : Nat) (T : List UInt8) (E : Int) (w : World) (hc : InC w c no dO dc) (hT : c.pb = T) (hE : c.pe = E) :
  Calls Tryz.prog 11 #[.agg (c.a no nc dO dc)] w fun e w' => e = .returned (.tuple #[.string ⟨T.toArray⟩, .int .i64 E]) ∧ Below w.heap.size w w' := by
 have g : ∀ e : Int, c.pe = e → ¬ e = 0 → T = [] ∧ E = e := fun e h hn => ⟨hT.symm.trans (by unfold Ch.pb; rw [if_pos (by rw [h]; exact hn)]), hE.symm.trans h⟩
 have pece : ¬ c.ce = 0 → c.pe = c.ce := fun h => by unfold Ch.pe; rw [if_pos h]
 by_cases h1 : c.kind < 1
 ·have e : c.ce = 1 := if_pos (.inl h1)
  obtain ⟨rfl, rfl⟩ := g 1 (by rw [pece (by omega), e]) (by decide); exact rpc_1 c no nc dO dc w h1
 by_cases h2 : 6 < c.kind
 ·have e : c.ce = 1 := if_pos (.inr (.inl h2))
  obtain ⟨rfl, rfl⟩ := g 1 (by rw [pece (by omega), e]) (by decide); exact rpc_2 c no nc dO dc w (by simpa using h1) h2
 by_cases h3 : c.type < 0
 ·have e : c.ce = 1 := if_pos (.inr (.inr (.inl h3)))
  obtain ⟨rfl, rfl⟩ := g 1 (by rw [pece (by omega), e]) (by decide); exact rpc_3 c no nc dO dc w (by simpa using h1) (by simpa using h2) h3
 by_cases h4 : 100 < c.type
 ·have e : c.ce = 1 := if_pos (.inr (.inr (.inr (.inl h4))))
  obtain ⟨rfl, rfl⟩ := g 1 (by rw [pece (by omega), e]) (by decide); exact rpc_4 c no nc dO dc w (by simpa using h1) (by simpa using h2) (by simpa using h3) h4
 by_cases h5 : 8 < c.names.length
 ·have e : c.ce = 1 := if_pos (.inr (.inr (.inr (.inr h5))))
  obtain ⟨rfl, rfl⟩ := g 1 (by rw [pece (by omega), e]) (by decide); exact rpc_5 c no nc dO dc w (by simpa using h1) (by simpa using h2) (by simpa using h3) (by simpa using h4) (by omega)
 have g1 : decide (c.kind < 1) = false := by simpa using h1
 have g2 : decide (6 < c.kind) = false := by simpa using h2
 have g3 : decide (c.type < 0) = false := by simpa using h3
 have g4 : decide (100 < c.type) = false := by simpa using h4
 have g5 : decide ((8 : Int) < (c.names.length : Int)) = false := by rw [decide_eq_false_iff_not]; omega
 have e : c.ce = if lng c.tx = true ∨ lng c.names = true then 8 else 0 := by unfold Ch.ce; rw [if_neg (by omega)]
 by_cases h6 : lng c.tx = true
 ·rw [if_pos (.inl h6)] at e
  obtain ⟨rfl, rfl⟩ := g 8 (by rw [pece (by omega), e]) (by decide); exact rpc_6 c no nc dO dc w g1 g2 g3 g4 g5 h6
 by_cases h7 : lng c.names = true
 ·rw [if_pos (.inr h7)] at e
  obtain ⟨rfl, rfl⟩ := g 8 (by rw [pece (by omega), e]) (by decide); exact rpc_7 c no nc dO dc w hc.1 g1 g2 g3 g4 g5 (by simpa using h6) h7
 rw [if_neg (by simp [h6, h7])] at e
 have hL : lng c.tx = false := by simpa using h6
 have hM : lng c.names = false := by simpa using h7
 have pe : c.pe = c.te := by unfold Ch.pe; rw [if_neg (by omega)]
 have ok : c.te = 0 → T = c.hd ++ c.tb ∧ E = 0 := fun q => ⟨hT.symm.trans (by unfold Ch.pb; rw [if_neg (by rw [pe]; simpa using q)]), hE.symm.trans (pe.trans q)⟩
 by_cases hk : c.kind = 1 ∨ c.kind = 2
 ·by_cases h8 : c.te = 0
  ·obtain ⟨rfl, rfl⟩ := ok h8
   exact rpc_9 c no nc dO dc w hc g1 g2 g3 g4 g5 hL hM hk h8
  ·obtain ⟨rfl, rfl⟩ := g c.te pe h8
   exact rpc_e c no nc dO dc w _ hc g1 g2 g3 g4 g5 hL hM hk rfl h8
 ·have h8 : c.te = 0 := by unfold Ch.te; rw [if_neg hk]
  obtain ⟨rfl, rfl⟩ := ok h8
  exact rpc_8 c no nc dO dc w hc g1 g2 g3 g4 g5 hL hM (by simp; omega) (by simp; omega)
end Go.Proofs.YtmgdciihpjifgaaGreatDoor
