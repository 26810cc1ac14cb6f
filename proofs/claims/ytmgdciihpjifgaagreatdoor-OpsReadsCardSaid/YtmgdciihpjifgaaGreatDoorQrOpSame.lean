/-
 Whether any two ask the same: sameChange, Same. Conditions: what is asked lies in memory and keeps a value's bounds.
-/
import Derived.Test.YtmgdciihpjifgaaGreatDoorQrOpMemO
import Derived.Test.YtmgdciihpjifgaaGreatDoorQrOpReadG
import Derived.Test.YtmgdciihpjifgaaGreatDoorQrScSame
import Derived.Deep.RegionHeld3
import Derived.Deep.DeepCutAuto
set_option maxHeartbeats 8000000
namespace Go.Proofs.YtmgdciihpjifgaaGreatDoor
open Go.RowKit
set_option linter.unusedVariables false
set_option linter.unusedSimpArgs false
theorem wpList_load_partg {ops : Array Oper} {rest : List Oper} {op : Oper} {a : Act} {w : World} {Q : Exit → Act → World → Prop} (hw : Region.wanted op (yielded ops a.tmps) = true) (ty T : TypeId) (x : Operand) (ho : op.op = .load ty x)
  (b n : Nat) (hx : a.eval x = .pointer (some ⟨b, n, none⟩)) (pre post : List Value) (cs : Array Value) (d : TypeDesc) (hc : Blk w b (pre ++ (cs.toList ++ post)).toArray T) (hpo : pre.length = n)
  (hu : Tryz.prog.underlying ty = some d) (hd : d.isRow = true) (hi : (Tryz.prog.info? ty).map (·.size) = some cs.size)
  (h : wpList Tryz.prog ops Q rest (a.put op.dst (.agg cs)) w) : wpList Tryz.prog ops Q (op :: rest) a w := by
 subst hpo
 refine wpList_step fun K hK => ?_
 rw [if_pos hw]
 refine wp_load_mid ty x ho b pre.length hx cs.toList d (fun j v hv => ?_) hu hd (by simpa using hi) (by have := hK _ _ h; simpa using this)
 rw [hc.cell]
 rw [List.getElem?_toArray, List.getElem?_append_right (by omega), Nat.add_sub_cancel_left]
 have hj := (List.getElem?_eq_some_iff.1 hv).1
 rw [List.getElem?_append_left hj]
 exact hv
theorem va_get (l : List RV) (j : Nat) : (va l)[j]? = (l[j]?).map RV.val := by simp [va]
theorem eqb_t {x : Int} (h : x = 0) : (x == 0) = true := by simpa using h
theorem eqb_f {x : Int} (h : ¬ x = 0) : (x == 0) = false := by simpa using h
theorem sameChange_is (a b : Ch) (no : Option Addr) (nc : Nat) (dO : Option Addr) (dc : Nat) (mo : Option Addr) (mc : Nat) (eO : Option Addr) (ec : Nat) (r : Bool) (w : World) (hg : Env w) (ha : InC w a no dO dc) (hb : InC w b mo eO ec) (h : (decide (a.pe = 0) && decide (b.pe = 0) && decide (a.pb = b.pb)) = r) :
  Calls Tryz.prog 55 #[.agg (a.a no nc dO dc), .agg (b.a mo mc eO ec)] w fun e w' => e = .returned (.bool r) ∧ Below w.heap.size w w' := by
 obtain ⟨pa, hpa⟩ : ∃ p, a.pe = p := ⟨_, rfl⟩
 obtain ⟨pb, hpb⟩ : ∃ p, b.pe = p := ⟨_, rfl⟩
 obtain ⟨A, hA⟩ : ∃ p, a.pb = p := ⟨_, rfl⟩
 obtain ⟨B, hB⟩ : ∃ p, b.pb = p := ⟨_, rfl⟩
 rw [hpa, hpb, hA, hB] at h
 have H := zh (za hg (za ha (za hb (za hpa (za hpb (za hA (za hB h)))))))
 clear hg ha hb hpa hpb hA hB h
 have q0 := (Blk.new w (a.a no nc dO dc) 32).alloc (.cells (b.a mo mc eO ec) 32)
 have q1 : Blk ((w.alloc (.cells (a.a no nc dO dc) 32)).alloc (.cells (b.a mo mc eO ec) 32)) (w.heap.size + 1) (b.a mo mc eO ec) 32 := Blk.new' _ _ _ _ (by simp)
 go_enter Tryz.func55, Tryz.ntmps55
 go_wp2_with ((refine (?_ : wpList _ _ _ (Oper.mk _ (Op.load 32 _) _ _ _ _ :: _) _ _)); refine wpList_load_blk rfl 32 _ rfl (w.heap.size) rfl (a.a no nc dO dc) _ (q0) Tryz.underlying32 rfl (infoCh) ?_; go_frame)
 refine (pute_is a no nc dO dc A pa _ (H.out.1.keep (below2s w _ _)) (H.out.2.1.below (below2s w _ _)) H.out.2.2.2.2.2.1 H.out.2.2.2.1).mono ?_
 rintro e w1 ⟨rfl, hb⟩
 have K1 := zh (za ((below2s w _ _).trans (hb.mono (by simp; omega))) (q1.below hb))
 clear hb q0 q1
 by_cases hp : pa = 0
 ·have e1 : (pa == 0) = true := eqb_t hp
  subst hp
  go_wp2_with ((refine (?_ : wpList _ _ _ (Oper.mk _ (Op.load 32 _) _ _ _ _ :: _) _ _)); refine wpList_load_blk rfl 32 _ rfl (w.heap.size + 1) rfl (b.a mo mc eO ec) _ (K1.out.2) Tryz.underlying32 rfl (infoCh) ?_; go_frame)
  refine (pute_is b mo mc eO ec B pb _ (H.out.1.keep K1.out.1) (H.out.2.2.1.below K1.out.1) H.out.2.2.2.2.2.2.1 H.out.2.2.2.2.1).mono ?_
  rintro e w2 ⟨rfl, hb⟩
  have K2 := zh (step0 K1.out.1 hb)
  clear hb
  have hr := H.out.2.2.2.2.2.2.2
  by_cases hq : pb = 0
  ·have e2 : (pb == 0) = true := eqb_t hq
   subst hq
   by_cases he : A = B
   ·have e3 : (A == B) = true := by simpa using he
    have FN := zh (show r = true by rw [← hr]; simp [he])
    clear he hr
    go_wp2
    go_ret
    rw [FN.out]
    exact ⟨rfl, K2.out⟩
   ·have e3 : (A == B) = false := by simpa using he
    have FN := zh (show r = false by rw [← hr]; simp [he])
    clear he hr
    go_wp2
    go_ret
    rw [FN.out]
    exact ⟨rfl, K2.out⟩
  ·have e2 : (pb == 0) = false := eqb_f hq
   have FN := zh (show r = false by rw [← hr]; simp [hq])
   clear hq hr
   go_wp2
   go_ret
   rw [FN.out]
   exact ⟨rfl, K2.out⟩
 ·have e1 := bne_t hp
  have FN := zh (show r = false by rw [← H.out.2.2.2.2.2.2.2]; simp [hp])
  clear hp
  go_wp2
  go_ret
  rw [FN.out]
  exact ⟨rfl, K1.out.1⟩
theorem so_1 (a b : O) (p q : Ps) (w : World) (h1 : (a.kind != b.kind) = true) :
  Calls Tryz.prog 21 #[.agg (a.a p), .agg (b.a q)] w fun e w' => e = .returned (.bool false) ∧ Below w.heap.size w w' := by
 go_enter Tryz.func21, Tryz.ntmps21
 go_wp2
 go_ret
 exact ⟨rfl, below2s _ _ _⟩
theorem so_2 (a b : O) (p q : Ps) (w : World) (h1 : (a.kind != b.kind) = false) (h2 : ¬ a.table = b.table) :
  Calls Tryz.prog 21 #[.agg (a.a p), .agg (b.a q)] w fun e w' => e = .returned (.bool false) ∧ Below w.heap.size w w' := by
 have e2 : (a.table == b.table) = false := by simpa using h2
 go_enter Tryz.func21, Tryz.ntmps21
 go_wp2
 go_ret
 exact ⟨rfl, below2s _ _ _⟩
theorem so_3 (a b : O) (p q : Ps) (w : World) (h1 : (a.kind != b.kind) = false) (h2 : a.table = b.table) (h3 : (a.max != b.max) = true) :
  Calls Tryz.prog 21 #[.agg (a.a p), .agg (b.a q)] w fun e w' => e = .returned (.bool false) ∧ Below w.heap.size w w' := by
 go_enter Tryz.func21, Tryz.ntmps21
 go_wp2
 go_ret
 exact ⟨rfl, below2s _ _ _⟩
set_option maxRecDepth 1000000 in
theorem so_4 (a b : O) (p q : Ps) (r : Bool) (w : World) (hg : Env w) (ha : InO w a p) (hb : InO w b q) (hla : ∀ y ∈ a.rv p, y.xs.length ≤ 1000000) (hlb : ∀ y ∈ b.rv q, y.xs.length ≤ 1000000) (h1 : (a.kind != b.kind) = false) (h2 : a.table = b.table) (h3 : (a.max != b.max) = false) (h : (Rk.rs a.row b.row && Rk.rs a.lo b.lo && Rk.rs a.hi b.hi && (decide (a.kind ≠ 6) || (decide (a.ch.pe = 0) && decide (b.ch.pe = 0) && decide (a.ch.pb = b.ch.pb)))) = r) :
  Calls Tryz.prog 21 #[.agg (a.a p), .agg (b.a q)] w fun e w' => e = .returned (.bool r) ∧ Below w.heap.size w w' := by
 have hmx : Tryz.prog.follows .mixedOrders = true := by kernel_rfl
 have H := zh (za ha (za hb (za hg (za hla (za hlb h)))))
 clear ha hb hg hla hlb h
 obtain ⟨W0, hW0'⟩ : ∃ W0, (w.alloc (.cells (a.a p) 48)).alloc (.cells (b.a q) 48) = W0 := ⟨_, rfl⟩
 have hW0 := zh hW0'
 have K0 := zh (show Below w.heap.size w W0 ∧ Blk W0 w.heap.size (a.a p) 48 ∧ Blk W0 (w.heap.size + 1) (b.a q) 48 from hW0' ▸ ⟨below2s w _ _, (Blk.new w _ _).alloc _, Blk.new' _ _ _ _ (by simp)⟩)
 clear hW0'
 go_enter Tryz.func21, Tryz.ntmps21
 go_wp2
 rw [hW0.out]
 go_cut [5, 6] (fun s5 s6 wx => ∃ b5 b6, s5 = .pointer (some ⟨b5, 0, none⟩) ∧ s6 = .pointer (some ⟨b6, 0, none⟩) ∧ Below w.heap.size w wx ∧ Blk wx w.heap.size (a.a p) 48 ∧ Blk wx (w.heap.size + 1) (b.a q) 48 ∧ Blk wx b5 (va (a.rv p)) 90 ∧ Blk wx b6 (va (b.rv q)) 90)
 case first =>
  refine wp_region_held_drew (S := fun v => Blk v w.heap.size (a.a p) 48 ∧ Blk v (w.heap.size + 1) (b.a q) 48) (by kernel_rfl) K0.out.2 (fun hH => ?_)
  obtain ⟨v0, hv0⟩ : ∃ v, World.drew W0 = v := ⟨_, rfl⟩
  rw [hv0] at hH ⊢
  have K1 := zh (show Below w.heap.size w v0 ∧ Blk v0 w.heap.size (a.a p) 48 ∧ Blk v0 (w.heap.size + 1) (b.a q) 48 ∧ True from hv0 ▸ ⟨K0.out.1.drew, K0.out.2.1.drew, K0.out.2.2.drew, trivial⟩)
  clear hv0 K0
  refine wpAnyH_take (i := 0) (oi := _) (v := .agg (a.a p)) rfl (by kernel_rfl) (by kernel_rfl) (by kernel_rfl) (fun _ _ _ h => h) (yieldsIf_load_mid rfl 48 _ rfl (w.heap.size) 0 rfl (a.a p).toList _ (fun v hv => (hv.1).rng) Tryz.underlying48 rfl infoO) hH ?_
  try simp only [Act.put, zyc, zyd, zye, zyf, zyi, zyj]
  refine wpAnyH_take (i := 2) (oi := _) (v := .agg (b.a q)) rfl (by kernel_rfl) (by kernel_rfl) (by kernel_rfl) (fun _ _ _ h => h) (yieldsIf_load_mid rfl 48 _ rfl (w.heap.size + 1) 0 rfl (b.a q).toList _ (fun v hv => (hv.2).rng) Tryz.underlying48 rfl infoO) hH ?_
  try simp only [Act.put, zyc, zyd, zye, zyf, zyi, zyj]
  refine wpAnyH_ready (rs := [1, 4, 5]) (by kernel_rfl) (by simp) ?_
  refine AllReadyH.cons (o := _) rfl (fun K' hK => ?_) (AllReadyH.cons (o := _) rfl (fun K' hK => ?_) (AllReadyH.cons (o := _) rfl (fun K' hK => ?_) AllReadyH.nil))
  ·go_simp
   refine (rowsOf_is a p _).mono ?_
   rintro e v1 ⟨rfl, hb⟩
   have K1 := zh (show Below w.heap.size w v1 ∧ Blk v1 w.heap.size (a.a p) 48 ∧ Blk v1 (w.heap.size + 1) (b.a q) 48 ∧ True from ⟨step0 (K1.out.1) hb, (K1.out.2.1).below hb, (K1.out.2.2.1).below hb, trivial⟩)
   clear hb
   go_wp2_with fail
   refine hK.out _ _ ⟨K1.out.2.1, K1.out.2.2.1⟩ (fun hH => ?_)
   clear hK K'
   try simp only [Act.put, zyc, zyd, zye, zyf, zyi, zyj]
   refine wpAnyH_ready (rs := [3, 4, 5]) (by kernel_rfl) (by simp) ?_
   refine AllReadyH.cons (o := _) rfl (fun K' hK => ?_) (AllReadyH.cons (o := _) rfl (fun K' hK => ?_) (AllReadyH.cons (o := _) rfl (fun K' hK => ?_) AllReadyH.nil))
   ·go_simp
    refine (rowsOf_is b q _).mono ?_
    rintro e v2 ⟨rfl, hb⟩
    have K2 := zh (show Below w.heap.size w v2 ∧ Blk v2 w.heap.size (a.a p) 48 ∧ Blk v2 (w.heap.size + 1) (b.a q) 48 ∧ True from ⟨step0 (K1.out.1) hb, (K1.out.2.1).below hb, (K1.out.2.2.1).below hb, trivial⟩)
    clear hb
    go_wp2_with fail
    refine hK.out _ _ ⟨K2.out.2.1, K2.out.2.2.1⟩ (fun hH => ?_)
    clear hK K'
    try simp only [Act.put, zyc, zyd, zye, zyf, zyi, zyj]
    refine wpAnyH_ready (rs := [4, 5]) (by kernel_rfl) (by simp) ?_
    refine AllReadyH.cons (o := _) rfl (fun K' hK => ?_) (AllReadyH.cons (o := _) rfl (fun K' hK => ?_) AllReadyH.nil)
    ·go_simp
     refine hK.out _ _ ⟨K2.out.2.1.alloc _, K2.out.2.2.1.alloc _⟩ (fun hH => ?_)
     clear hK K'
     have lt4 := (K2.out.2.2.1).lt
     obtain ⟨B4, hB4⟩ : ∃ B, v2.heap.size = B := ⟨_, rfl⟩
     have qB4 : Blk (v2.alloc (.cells #[.slice none 0 0, .slice none 0 0, .slice none 0 0] 90)) B4 (va [RV0, RV0, RV0]) 90 := hB4 ▸ Blk.new v2 (va [RV0, RV0, RV0]) _
     rw [hB4] at lt4 ⊢
     obtain ⟨v3, hv3⟩ : ∃ v, v2.alloc (.cells #[.slice none 0 0, .slice none 0 0, .slice none 0 0] 90) = v := ⟨_, rfl⟩
     rw [hv3] at qB4 ⊢
     have K3 := zh (show Below w.heap.size w v3 ∧ Blk v3 w.heap.size (a.a p) 48 ∧ Blk v3 (w.heap.size + 1) (b.a q) 48 ∧ (Blk v3 B4 (va [RV0, RV0, RV0]) 90 ∧ w.heap.size + 1 < B4) ∧ True from hv3 ▸ ⟨(K2.out.1).alloc (K2.out.1).size _, (K2.out.2.1).alloc _, (K2.out.2.2.1).alloc _, ⟨hv3.symm ▸ qB4, lt4⟩, trivial⟩)
     clear lt4 qB4 hB4 hv3
     try simp only [Act.put, zyc, zyd, zye, zyf, zyi, zyj]
     refine wpAnyH_ready (rs := [5]) (by kernel_rfl) (by simp) ?_
     refine AllReadyH.cons (o := _) rfl (fun K' hK => ?_) AllReadyH.nil
     ·go_simp
      refine hK.out _ _ ⟨K3.out.2.1.alloc _, K3.out.2.2.1.alloc _⟩ (fun hH => ?_)
      clear hK K'
      have lt5 := (K3.out.2.2.1).lt
      have ne := (K3.out.2.2.2.1.1).lt
      obtain ⟨B5, hB5⟩ : ∃ B, v3.heap.size = B := ⟨_, rfl⟩
      have qB5 : Blk (v3.alloc (.cells #[.slice none 0 0, .slice none 0 0, .slice none 0 0] 90)) B5 (va [RV0, RV0, RV0]) 90 := hB5 ▸ Blk.new v3 (va [RV0, RV0, RV0]) _
      rw [hB5] at lt5 ne ⊢
      obtain ⟨v4, hv4⟩ : ∃ v, v3.alloc (.cells #[.slice none 0 0, .slice none 0 0, .slice none 0 0] 90) = v := ⟨_, rfl⟩
      rw [hv4] at qB5 ⊢
      have K4 := zh (show Below w.heap.size w v4 ∧ Blk v4 w.heap.size (a.a p) 48 ∧ Blk v4 (w.heap.size + 1) (b.a q) 48 ∧ (Blk v4 B4 (va [RV0, RV0, RV0]) 90 ∧ w.heap.size + 1 < B4) ∧ (Blk v4 B5 (va [RV0, RV0, RV0]) 90 ∧ w.heap.size + 1 < B5) ∧ True from hv4 ▸ ⟨(K3.out.1).alloc (K3.out.1).size _, (K3.out.2.1).alloc _, (K3.out.2.2.1).alloc _, ⟨(K3.out.2.2.2.1.1).alloc _, K3.out.2.2.2.1.2⟩, ⟨hv4.symm ▸ qB5, lt5⟩, trivial⟩)
      have NE := zh ne
      clear lt5 qB5 hB5 hv4 ne
      try simp only [Act.put, zyc, zyd, zye, zyf, zyi, zyj]
      refine wpAnyH_ready (rs := [6]) (by kernel_rfl) (by simp) ?_
      refine AllReadyH.cons (o := _) rfl (fun K' hK => ?_) AllReadyH.nil
      rw [if_pos (by rfl)]
      refine wp_store_mid 90 _ _ rfl B4 0 (va (a.rv p)) rfl rfl (show v4.there B4 0 (va (a.rv p)).size from (K4.out.2.2.2.1.1).there) (infoV3 rfl) (va_one _) ?_
      have L6 := zh (show Below w.heap.size w (v4.setCells B4 0 (va (a.rv p)).toList) ∧ Blk (v4.setCells B4 0 (va (a.rv p)).toList) w.heap.size (a.a p) 48 ∧ Blk (v4.setCells B4 0 (va (a.rv p)).toList) (w.heap.size + 1) (b.a q) 48 ∧ (Blk (v4.setCells B4 0 (va (a.rv p)).toList) B4 (va (a.rv p)) 90 ∧ w.heap.size + 1 < B4) ∧ (Blk (v4.setCells B4 0 (va (a.rv p)).toList) B5 (va [RV0, RV0, RV0]) 90 ∧ w.heap.size + 1 < B5) ∧ True from ⟨(Wr.all B4 (va (a.rv p)).toList 0 v4).below _ _ (by have := K4.out.2.2.2.1.2; omega) (K4.out.1), (K4.out.2.1).wr (Wr.all B4 (va (a.rv p)).toList 0 v4) (by have := K4.out.2.2.2.1.2; omega), (K4.out.2.2.1).wr (Wr.all B4 (va (a.rv p)).toList 0 v4) (by have := K4.out.2.2.2.1.2; omega), ⟨Blk.stored (K4.out.2.2.2.1.1) rfl, K4.out.2.2.2.1.2⟩, ⟨(K4.out.2.2.2.2.1.1).wr (Wr.all B4 (va (a.rv p)).toList 0 v4) (by have := K4.out.2.2.2.1.2; have := NE.out; omega), K4.out.2.2.2.2.1.2⟩, trivial⟩)
      obtain ⟨u6, hu6⟩ : ∃ v, v4.setCells B4 0 (va (a.rv p)).toList = v := ⟨_, rfl⟩
      refine hK.out _ _ ⟨L6.out.2.1, L6.out.2.2.1⟩ (fun hH => ?_)
      clear hK K'
      rw [hu6] at L6 ⊢
      clear hu6
      try simp only [Act.put, zyc, zyd, zye, zyf, zyi, zyj]
      refine wpAnyH_ready (rs := [7]) (by kernel_rfl) (by simp) ?_
      refine AllReadyH.cons (o := _) rfl (fun K' hK => ?_) AllReadyH.nil
      rw [if_pos (by rfl)]
      refine wp_store_mid 90 _ _ rfl B5 0 (va (b.rv q)) rfl rfl (show u6.there B5 0 (va (b.rv q)).size from (L6.out.2.2.2.2.1.1).there) (infoV3 rfl) (va_one _) ?_
      have L7 := zh (show Below w.heap.size w (u6.setCells B5 0 (va (b.rv q)).toList) ∧ Blk (u6.setCells B5 0 (va (b.rv q)).toList) w.heap.size (a.a p) 48 ∧ Blk (u6.setCells B5 0 (va (b.rv q)).toList) (w.heap.size + 1) (b.a q) 48 ∧ (Blk (u6.setCells B5 0 (va (b.rv q)).toList) B4 (va (a.rv p)) 90 ∧ w.heap.size + 1 < B4) ∧ (Blk (u6.setCells B5 0 (va (b.rv q)).toList) B5 (va (b.rv q)) 90 ∧ w.heap.size + 1 < B5) ∧ True from ⟨(Wr.all B5 (va (b.rv q)).toList 0 u6).below _ _ (by have := L6.out.2.2.2.2.1.2; omega) (L6.out.1), (L6.out.2.1).wr (Wr.all B5 (va (b.rv q)).toList 0 u6) (by have := L6.out.2.2.2.2.1.2; omega), (L6.out.2.2.1).wr (Wr.all B5 (va (b.rv q)).toList 0 u6) (by have := L6.out.2.2.2.2.1.2; omega), ⟨(L6.out.2.2.2.1.1).wr (Wr.all B5 (va (b.rv q)).toList 0 u6) (by have := L6.out.2.2.2.2.1.2; have := NE.out; omega), L6.out.2.2.2.1.2⟩, ⟨Blk.stored (L6.out.2.2.2.2.1.1) rfl, L6.out.2.2.2.2.1.2⟩, trivial⟩)
      obtain ⟨u7, hu7⟩ : ∃ v, u6.setCells B5 0 (va (b.rv q)).toList = v := ⟨_, rfl⟩
      refine hK.out _ _ ⟨L7.out.2.1, L7.out.2.2.1⟩ (fun hH => ?_)
      clear hK K'
      rw [hu7] at L7 ⊢
      clear hu7
      try simp only [Act.put, zyc, zyd, zye, zyf, zyi, zyj]
      refine wpAnyH_done (by kernel_rfl) ?_ _
      go_wp2_with fail
      go_meet
      exact ⟨B4, B5, rfl, rfl, L7.out.1, L7.out.2.1, L7.out.2.2.1, L7.out.2.2.2.1.1, L7.out.2.2.2.2.1.1⟩
    ·go_simp
     refine hK.out _ _ ⟨K2.out.2.1.alloc _, K2.out.2.2.1.alloc _⟩ (fun hH => ?_)
     clear hK K'
     have lt5 := (K2.out.2.2.1).lt
     obtain ⟨B5, hB5⟩ : ∃ B, v2.heap.size = B := ⟨_, rfl⟩
     have qB5 : Blk (v2.alloc (.cells #[.slice none 0 0, .slice none 0 0, .slice none 0 0] 90)) B5 (va [RV0, RV0, RV0]) 90 := hB5 ▸ Blk.new v2 (va [RV0, RV0, RV0]) _
     rw [hB5] at lt5 ⊢
     obtain ⟨v3, hv3⟩ : ∃ v, v2.alloc (.cells #[.slice none 0 0, .slice none 0 0, .slice none 0 0] 90) = v := ⟨_, rfl⟩
     rw [hv3] at qB5 ⊢
     have K3 := zh (show Below w.heap.size w v3 ∧ Blk v3 w.heap.size (a.a p) 48 ∧ Blk v3 (w.heap.size + 1) (b.a q) 48 ∧ (Blk v3 B5 (va [RV0, RV0, RV0]) 90 ∧ w.heap.size + 1 < B5) ∧ True from hv3 ▸ ⟨(K2.out.1).alloc (K2.out.1).size _, (K2.out.2.1).alloc _, (K2.out.2.2.1).alloc _, ⟨hv3.symm ▸ qB5, lt5⟩, trivial⟩)
     clear lt5 qB5 hB5 hv3
     try simp only [Act.put, zyc, zyd, zye, zyf, zyi, zyj]
     refine wpAnyH_ready (rs := [4]) (by kernel_rfl) (by simp) ?_
     refine AllReadyH.cons (o := _) rfl (fun K' hK => ?_) AllReadyH.nil
     ·go_simp
      refine hK.out _ _ ⟨K3.out.2.1.alloc _, K3.out.2.2.1.alloc _⟩ (fun hH => ?_)
      clear hK K'
      have lt4 := (K3.out.2.2.1).lt
      have ne := (K3.out.2.2.2.1.1).lt
      obtain ⟨B4, hB4⟩ : ∃ B, v3.heap.size = B := ⟨_, rfl⟩
      have qB4 : Blk (v3.alloc (.cells #[.slice none 0 0, .slice none 0 0, .slice none 0 0] 90)) B4 (va [RV0, RV0, RV0]) 90 := hB4 ▸ Blk.new v3 (va [RV0, RV0, RV0]) _
      rw [hB4] at lt4 ne ⊢
      obtain ⟨v4, hv4⟩ : ∃ v, v3.alloc (.cells #[.slice none 0 0, .slice none 0 0, .slice none 0 0] 90) = v := ⟨_, rfl⟩
      rw [hv4] at qB4 ⊢
      have K4 := zh (show Below w.heap.size w v4 ∧ Blk v4 w.heap.size (a.a p) 48 ∧ Blk v4 (w.heap.size + 1) (b.a q) 48 ∧ (Blk v4 B5 (va [RV0, RV0, RV0]) 90 ∧ w.heap.size + 1 < B5) ∧ (Blk v4 B4 (va [RV0, RV0, RV0]) 90 ∧ w.heap.size + 1 < B4) ∧ True from hv4 ▸ ⟨(K3.out.1).alloc (K3.out.1).size _, (K3.out.2.1).alloc _, (K3.out.2.2.1).alloc _, ⟨(K3.out.2.2.2.1.1).alloc _, K3.out.2.2.2.1.2⟩, ⟨hv4.symm ▸ qB4, lt4⟩, trivial⟩)
      have NE := zh ne
      clear lt4 qB4 hB4 hv4 ne
      try simp only [Act.put, zyc, zyd, zye, zyf, zyi, zyj]
      refine wpAnyH_ready (rs := [6]) (by kernel_rfl) (by simp) ?_
      refine AllReadyH.cons (o := _) rfl (fun K' hK => ?_) AllReadyH.nil
      rw [if_pos (by rfl)]
      refine wp_store_mid 90 _ _ rfl B4 0 (va (a.rv p)) rfl rfl (show v4.there B4 0 (va (a.rv p)).size from (K4.out.2.2.2.2.1.1).there) (infoV3 rfl) (va_one _) ?_
      have L6 := zh (show Below w.heap.size w (v4.setCells B4 0 (va (a.rv p)).toList) ∧ Blk (v4.setCells B4 0 (va (a.rv p)).toList) w.heap.size (a.a p) 48 ∧ Blk (v4.setCells B4 0 (va (a.rv p)).toList) (w.heap.size + 1) (b.a q) 48 ∧ (Blk (v4.setCells B4 0 (va (a.rv p)).toList) B5 (va [RV0, RV0, RV0]) 90 ∧ w.heap.size + 1 < B5) ∧ (Blk (v4.setCells B4 0 (va (a.rv p)).toList) B4 (va (a.rv p)) 90 ∧ w.heap.size + 1 < B4) ∧ True from ⟨(Wr.all B4 (va (a.rv p)).toList 0 v4).below _ _ (by have := K4.out.2.2.2.2.1.2; omega) (K4.out.1), (K4.out.2.1).wr (Wr.all B4 (va (a.rv p)).toList 0 v4) (by have := K4.out.2.2.2.2.1.2; omega), (K4.out.2.2.1).wr (Wr.all B4 (va (a.rv p)).toList 0 v4) (by have := K4.out.2.2.2.2.1.2; omega), ⟨(K4.out.2.2.2.1.1).wr (Wr.all B4 (va (a.rv p)).toList 0 v4) (by have := K4.out.2.2.2.2.1.2; have := NE.out; omega), K4.out.2.2.2.1.2⟩, ⟨Blk.stored (K4.out.2.2.2.2.1.1) rfl, K4.out.2.2.2.2.1.2⟩, trivial⟩)
      obtain ⟨u6, hu6⟩ : ∃ v, v4.setCells B4 0 (va (a.rv p)).toList = v := ⟨_, rfl⟩
      refine hK.out _ _ ⟨L6.out.2.1, L6.out.2.2.1⟩ (fun hH => ?_)
      clear hK K'
      rw [hu6] at L6 ⊢
      clear hu6
      try simp only [Act.put, zyc, zyd, zye, zyf, zyi, zyj]
      refine wpAnyH_ready (rs := [7]) (by kernel_rfl) (by simp) ?_
      refine AllReadyH.cons (o := _) rfl (fun K' hK => ?_) AllReadyH.nil
      rw [if_pos (by rfl)]
      refine wp_store_mid 90 _ _ rfl B5 0 (va (b.rv q)) rfl rfl (show u6.there B5 0 (va (b.rv q)).size from (L6.out.2.2.2.1.1).there) (infoV3 rfl) (va_one _) ?_
      have L7 := zh (show Below w.heap.size w (u6.setCells B5 0 (va (b.rv q)).toList) ∧ Blk (u6.setCells B5 0 (va (b.rv q)).toList) w.heap.size (a.a p) 48 ∧ Blk (u6.setCells B5 0 (va (b.rv q)).toList) (w.heap.size + 1) (b.a q) 48 ∧ (Blk (u6.setCells B5 0 (va (b.rv q)).toList) B5 (va (b.rv q)) 90 ∧ w.heap.size + 1 < B5) ∧ (Blk (u6.setCells B5 0 (va (b.rv q)).toList) B4 (va (a.rv p)) 90 ∧ w.heap.size + 1 < B4) ∧ True from ⟨(Wr.all B5 (va (b.rv q)).toList 0 u6).below _ _ (by have := L6.out.2.2.2.1.2; omega) (L6.out.1), (L6.out.2.1).wr (Wr.all B5 (va (b.rv q)).toList 0 u6) (by have := L6.out.2.2.2.1.2; omega), (L6.out.2.2.1).wr (Wr.all B5 (va (b.rv q)).toList 0 u6) (by have := L6.out.2.2.2.1.2; omega), ⟨Blk.stored (L6.out.2.2.2.1.1) rfl, L6.out.2.2.2.1.2⟩, ⟨(L6.out.2.2.2.2.1.1).wr (Wr.all B5 (va (b.rv q)).toList 0 u6) (by have := L6.out.2.2.2.1.2; have := NE.out; omega), L6.out.2.2.2.2.1.2⟩, trivial⟩)
      obtain ⟨u7, hu7⟩ : ∃ v, u6.setCells B5 0 (va (b.rv q)).toList = v := ⟨_, rfl⟩
      refine hK.out _ _ ⟨L7.out.2.1, L7.out.2.2.1⟩ (fun hH => ?_)
      clear hK K'
      rw [hu7] at L7 ⊢
      clear hu7
      try simp only [Act.put, zyc, zyd, zye, zyf, zyi, zyj]
      refine wpAnyH_done (by kernel_rfl) ?_ _
      go_wp2_with fail
      go_meet
      exact ⟨B4, B5, rfl, rfl, L7.out.1, L7.out.2.1, L7.out.2.2.1, L7.out.2.2.2.2.1.1, L7.out.2.2.2.1.1⟩
   ·go_simp
    refine hK.out _ _ ⟨K1.out.2.1.alloc _, K1.out.2.2.1.alloc _⟩ (fun hH => ?_)
    clear hK K'
    have lt4 := (K1.out.2.2.1).lt
    obtain ⟨B4, hB4⟩ : ∃ B, v1.heap.size = B := ⟨_, rfl⟩
    have qB4 : Blk (v1.alloc (.cells #[.slice none 0 0, .slice none 0 0, .slice none 0 0] 90)) B4 (va [RV0, RV0, RV0]) 90 := hB4 ▸ Blk.new v1 (va [RV0, RV0, RV0]) _
    rw [hB4] at lt4 ⊢
    obtain ⟨v2, hv2⟩ : ∃ v, v1.alloc (.cells #[.slice none 0 0, .slice none 0 0, .slice none 0 0] 90) = v := ⟨_, rfl⟩
    rw [hv2] at qB4 ⊢
    have K2 := zh (show Below w.heap.size w v2 ∧ Blk v2 w.heap.size (a.a p) 48 ∧ Blk v2 (w.heap.size + 1) (b.a q) 48 ∧ (Blk v2 B4 (va [RV0, RV0, RV0]) 90 ∧ w.heap.size + 1 < B4) ∧ True from hv2 ▸ ⟨(K1.out.1).alloc (K1.out.1).size _, (K1.out.2.1).alloc _, (K1.out.2.2.1).alloc _, ⟨hv2.symm ▸ qB4, lt4⟩, trivial⟩)
    clear lt4 qB4 hB4 hv2
    try simp only [Act.put, zyc, zyd, zye, zyf, zyi, zyj]
    refine wpAnyH_ready (rs := [3, 5]) (by kernel_rfl) (by simp) ?_
    refine AllReadyH.cons (o := _) rfl (fun K' hK => ?_) (AllReadyH.cons (o := _) rfl (fun K' hK => ?_) AllReadyH.nil)
    ·go_simp
     refine (rowsOf_is b q _).mono ?_
     rintro e v3 ⟨rfl, hb⟩
     have K3 := zh (show Below w.heap.size w v3 ∧ Blk v3 w.heap.size (a.a p) 48 ∧ Blk v3 (w.heap.size + 1) (b.a q) 48 ∧ (Blk v3 B4 (va [RV0, RV0, RV0]) 90 ∧ w.heap.size + 1 < B4) ∧ True from ⟨step0 (K2.out.1) hb, (K2.out.2.1).below hb, (K2.out.2.2.1).below hb, ⟨(K2.out.2.2.2.1.1).below hb, K2.out.2.2.2.1.2⟩, trivial⟩)
     clear hb
     go_wp2_with fail
     refine hK.out _ _ ⟨K3.out.2.1, K3.out.2.2.1⟩ (fun hH => ?_)
     clear hK K'
     try simp only [Act.put, zyc, zyd, zye, zyf, zyi, zyj]
     refine wpAnyH_ready (rs := [5]) (by kernel_rfl) (by simp) ?_
     refine AllReadyH.cons (o := _) rfl (fun K' hK => ?_) AllReadyH.nil
     ·go_simp
      refine hK.out _ _ ⟨K3.out.2.1.alloc _, K3.out.2.2.1.alloc _⟩ (fun hH => ?_)
      clear hK K'
      have lt5 := (K3.out.2.2.1).lt
      have ne := (K3.out.2.2.2.1.1).lt
      obtain ⟨B5, hB5⟩ : ∃ B, v3.heap.size = B := ⟨_, rfl⟩
      have qB5 : Blk (v3.alloc (.cells #[.slice none 0 0, .slice none 0 0, .slice none 0 0] 90)) B5 (va [RV0, RV0, RV0]) 90 := hB5 ▸ Blk.new v3 (va [RV0, RV0, RV0]) _
      rw [hB5] at lt5 ne ⊢
      obtain ⟨v4, hv4⟩ : ∃ v, v3.alloc (.cells #[.slice none 0 0, .slice none 0 0, .slice none 0 0] 90) = v := ⟨_, rfl⟩
      rw [hv4] at qB5 ⊢
      have K4 := zh (show Below w.heap.size w v4 ∧ Blk v4 w.heap.size (a.a p) 48 ∧ Blk v4 (w.heap.size + 1) (b.a q) 48 ∧ (Blk v4 B4 (va [RV0, RV0, RV0]) 90 ∧ w.heap.size + 1 < B4) ∧ (Blk v4 B5 (va [RV0, RV0, RV0]) 90 ∧ w.heap.size + 1 < B5) ∧ True from hv4 ▸ ⟨(K3.out.1).alloc (K3.out.1).size _, (K3.out.2.1).alloc _, (K3.out.2.2.1).alloc _, ⟨(K3.out.2.2.2.1.1).alloc _, K3.out.2.2.2.1.2⟩, ⟨hv4.symm ▸ qB5, lt5⟩, trivial⟩)
      have NE := zh ne
      clear lt5 qB5 hB5 hv4 ne
      try simp only [Act.put, zyc, zyd, zye, zyf, zyi, zyj]
      refine wpAnyH_ready (rs := [6]) (by kernel_rfl) (by simp) ?_
      refine AllReadyH.cons (o := _) rfl (fun K' hK => ?_) AllReadyH.nil
      rw [if_pos (by rfl)]
      refine wp_store_mid 90 _ _ rfl B4 0 (va (a.rv p)) rfl rfl (show v4.there B4 0 (va (a.rv p)).size from (K4.out.2.2.2.1.1).there) (infoV3 rfl) (va_one _) ?_
      have L6 := zh (show Below w.heap.size w (v4.setCells B4 0 (va (a.rv p)).toList) ∧ Blk (v4.setCells B4 0 (va (a.rv p)).toList) w.heap.size (a.a p) 48 ∧ Blk (v4.setCells B4 0 (va (a.rv p)).toList) (w.heap.size + 1) (b.a q) 48 ∧ (Blk (v4.setCells B4 0 (va (a.rv p)).toList) B4 (va (a.rv p)) 90 ∧ w.heap.size + 1 < B4) ∧ (Blk (v4.setCells B4 0 (va (a.rv p)).toList) B5 (va [RV0, RV0, RV0]) 90 ∧ w.heap.size + 1 < B5) ∧ True from ⟨(Wr.all B4 (va (a.rv p)).toList 0 v4).below _ _ (by have := K4.out.2.2.2.1.2; omega) (K4.out.1), (K4.out.2.1).wr (Wr.all B4 (va (a.rv p)).toList 0 v4) (by have := K4.out.2.2.2.1.2; omega), (K4.out.2.2.1).wr (Wr.all B4 (va (a.rv p)).toList 0 v4) (by have := K4.out.2.2.2.1.2; omega), ⟨Blk.stored (K4.out.2.2.2.1.1) rfl, K4.out.2.2.2.1.2⟩, ⟨(K4.out.2.2.2.2.1.1).wr (Wr.all B4 (va (a.rv p)).toList 0 v4) (by have := K4.out.2.2.2.1.2; have := NE.out; omega), K4.out.2.2.2.2.1.2⟩, trivial⟩)
      obtain ⟨u6, hu6⟩ : ∃ v, v4.setCells B4 0 (va (a.rv p)).toList = v := ⟨_, rfl⟩
      refine hK.out _ _ ⟨L6.out.2.1, L6.out.2.2.1⟩ (fun hH => ?_)
      clear hK K'
      rw [hu6] at L6 ⊢
      clear hu6
      try simp only [Act.put, zyc, zyd, zye, zyf, zyi, zyj]
      refine wpAnyH_ready (rs := [7]) (by kernel_rfl) (by simp) ?_
      refine AllReadyH.cons (o := _) rfl (fun K' hK => ?_) AllReadyH.nil
      rw [if_pos (by rfl)]
      refine wp_store_mid 90 _ _ rfl B5 0 (va (b.rv q)) rfl rfl (show u6.there B5 0 (va (b.rv q)).size from (L6.out.2.2.2.2.1.1).there) (infoV3 rfl) (va_one _) ?_
      have L7 := zh (show Below w.heap.size w (u6.setCells B5 0 (va (b.rv q)).toList) ∧ Blk (u6.setCells B5 0 (va (b.rv q)).toList) w.heap.size (a.a p) 48 ∧ Blk (u6.setCells B5 0 (va (b.rv q)).toList) (w.heap.size + 1) (b.a q) 48 ∧ (Blk (u6.setCells B5 0 (va (b.rv q)).toList) B4 (va (a.rv p)) 90 ∧ w.heap.size + 1 < B4) ∧ (Blk (u6.setCells B5 0 (va (b.rv q)).toList) B5 (va (b.rv q)) 90 ∧ w.heap.size + 1 < B5) ∧ True from ⟨(Wr.all B5 (va (b.rv q)).toList 0 u6).below _ _ (by have := L6.out.2.2.2.2.1.2; omega) (L6.out.1), (L6.out.2.1).wr (Wr.all B5 (va (b.rv q)).toList 0 u6) (by have := L6.out.2.2.2.2.1.2; omega), (L6.out.2.2.1).wr (Wr.all B5 (va (b.rv q)).toList 0 u6) (by have := L6.out.2.2.2.2.1.2; omega), ⟨(L6.out.2.2.2.1.1).wr (Wr.all B5 (va (b.rv q)).toList 0 u6) (by have := L6.out.2.2.2.2.1.2; have := NE.out; omega), L6.out.2.2.2.1.2⟩, ⟨Blk.stored (L6.out.2.2.2.2.1.1) rfl, L6.out.2.2.2.2.1.2⟩, trivial⟩)
      obtain ⟨u7, hu7⟩ : ∃ v, u6.setCells B5 0 (va (b.rv q)).toList = v := ⟨_, rfl⟩
      refine hK.out _ _ ⟨L7.out.2.1, L7.out.2.2.1⟩ (fun hH => ?_)
      clear hK K'
      rw [hu7] at L7 ⊢
      clear hu7
      try simp only [Act.put, zyc, zyd, zye, zyf, zyi, zyj]
      refine wpAnyH_done (by kernel_rfl) ?_ _
      go_wp2_with fail
      go_meet
      exact ⟨B4, B5, rfl, rfl, L7.out.1, L7.out.2.1, L7.out.2.2.1, L7.out.2.2.2.1.1, L7.out.2.2.2.2.1.1⟩
    ·go_simp
     refine hK.out _ _ ⟨K2.out.2.1.alloc _, K2.out.2.2.1.alloc _⟩ (fun hH => ?_)
     clear hK K'
     have lt5 := (K2.out.2.2.1).lt
     have ne := (K2.out.2.2.2.1.1).lt
     obtain ⟨B5, hB5⟩ : ∃ B, v2.heap.size = B := ⟨_, rfl⟩
     have qB5 : Blk (v2.alloc (.cells #[.slice none 0 0, .slice none 0 0, .slice none 0 0] 90)) B5 (va [RV0, RV0, RV0]) 90 := hB5 ▸ Blk.new v2 (va [RV0, RV0, RV0]) _
     rw [hB5] at lt5 ne ⊢
     obtain ⟨v3, hv3⟩ : ∃ v, v2.alloc (.cells #[.slice none 0 0, .slice none 0 0, .slice none 0 0] 90) = v := ⟨_, rfl⟩
     rw [hv3] at qB5 ⊢
     have K3 := zh (show Below w.heap.size w v3 ∧ Blk v3 w.heap.size (a.a p) 48 ∧ Blk v3 (w.heap.size + 1) (b.a q) 48 ∧ (Blk v3 B4 (va [RV0, RV0, RV0]) 90 ∧ w.heap.size + 1 < B4) ∧ (Blk v3 B5 (va [RV0, RV0, RV0]) 90 ∧ w.heap.size + 1 < B5) ∧ True from hv3 ▸ ⟨(K2.out.1).alloc (K2.out.1).size _, (K2.out.2.1).alloc _, (K2.out.2.2.1).alloc _, ⟨(K2.out.2.2.2.1.1).alloc _, K2.out.2.2.2.1.2⟩, ⟨hv3.symm ▸ qB5, lt5⟩, trivial⟩)
     have NE := zh ne
     clear lt5 qB5 hB5 hv3 ne
     try simp only [Act.put, zyc, zyd, zye, zyf, zyi, zyj]
     refine wpAnyH_ready (rs := [3]) (by kernel_rfl) (by simp) ?_
     refine AllReadyH.cons (o := _) rfl (fun K' hK => ?_) AllReadyH.nil
     ·go_simp
      refine (rowsOf_is b q _).mono ?_
      rintro e v4 ⟨rfl, hb⟩
      have K4 := zh (show Below w.heap.size w v4 ∧ Blk v4 w.heap.size (a.a p) 48 ∧ Blk v4 (w.heap.size + 1) (b.a q) 48 ∧ (Blk v4 B4 (va [RV0, RV0, RV0]) 90 ∧ w.heap.size + 1 < B4) ∧ (Blk v4 B5 (va [RV0, RV0, RV0]) 90 ∧ w.heap.size + 1 < B5) ∧ True from ⟨step0 (K3.out.1) hb, (K3.out.2.1).below hb, (K3.out.2.2.1).below hb, ⟨(K3.out.2.2.2.1.1).below hb, K3.out.2.2.2.1.2⟩, ⟨(K3.out.2.2.2.2.1.1).below hb, K3.out.2.2.2.2.1.2⟩, trivial⟩)
      clear hb
      go_wp2_with fail
      refine hK.out _ _ ⟨K4.out.2.1, K4.out.2.2.1⟩ (fun hH => ?_)
      clear hK K'
      try simp only [Act.put, zyc, zyd, zye, zyf, zyi, zyj]
      refine wpAnyH_ready (rs := [6]) (by kernel_rfl) (by simp) ?_
      refine AllReadyH.cons (o := _) rfl (fun K' hK => ?_) AllReadyH.nil
      rw [if_pos (by rfl)]
      refine wp_store_mid 90 _ _ rfl B4 0 (va (a.rv p)) rfl rfl (show v4.there B4 0 (va (a.rv p)).size from (K4.out.2.2.2.1.1).there) (infoV3 rfl) (va_one _) ?_
      have L6 := zh (show Below w.heap.size w (v4.setCells B4 0 (va (a.rv p)).toList) ∧ Blk (v4.setCells B4 0 (va (a.rv p)).toList) w.heap.size (a.a p) 48 ∧ Blk (v4.setCells B4 0 (va (a.rv p)).toList) (w.heap.size + 1) (b.a q) 48 ∧ (Blk (v4.setCells B4 0 (va (a.rv p)).toList) B4 (va (a.rv p)) 90 ∧ w.heap.size + 1 < B4) ∧ (Blk (v4.setCells B4 0 (va (a.rv p)).toList) B5 (va [RV0, RV0, RV0]) 90 ∧ w.heap.size + 1 < B5) ∧ True from ⟨(Wr.all B4 (va (a.rv p)).toList 0 v4).below _ _ (by have := K4.out.2.2.2.1.2; omega) (K4.out.1), (K4.out.2.1).wr (Wr.all B4 (va (a.rv p)).toList 0 v4) (by have := K4.out.2.2.2.1.2; omega), (K4.out.2.2.1).wr (Wr.all B4 (va (a.rv p)).toList 0 v4) (by have := K4.out.2.2.2.1.2; omega), ⟨Blk.stored (K4.out.2.2.2.1.1) rfl, K4.out.2.2.2.1.2⟩, ⟨(K4.out.2.2.2.2.1.1).wr (Wr.all B4 (va (a.rv p)).toList 0 v4) (by have := K4.out.2.2.2.1.2; have := NE.out; omega), K4.out.2.2.2.2.1.2⟩, trivial⟩)
      obtain ⟨u6, hu6⟩ : ∃ v, v4.setCells B4 0 (va (a.rv p)).toList = v := ⟨_, rfl⟩
      refine hK.out _ _ ⟨L6.out.2.1, L6.out.2.2.1⟩ (fun hH => ?_)
      clear hK K'
      rw [hu6] at L6 ⊢
      clear hu6
      try simp only [Act.put, zyc, zyd, zye, zyf, zyi, zyj]
      refine wpAnyH_ready (rs := [7]) (by kernel_rfl) (by simp) ?_
      refine AllReadyH.cons (o := _) rfl (fun K' hK => ?_) AllReadyH.nil
      rw [if_pos (by rfl)]
      refine wp_store_mid 90 _ _ rfl B5 0 (va (b.rv q)) rfl rfl (show u6.there B5 0 (va (b.rv q)).size from (L6.out.2.2.2.2.1.1).there) (infoV3 rfl) (va_one _) ?_
      have L7 := zh (show Below w.heap.size w (u6.setCells B5 0 (va (b.rv q)).toList) ∧ Blk (u6.setCells B5 0 (va (b.rv q)).toList) w.heap.size (a.a p) 48 ∧ Blk (u6.setCells B5 0 (va (b.rv q)).toList) (w.heap.size + 1) (b.a q) 48 ∧ (Blk (u6.setCells B5 0 (va (b.rv q)).toList) B4 (va (a.rv p)) 90 ∧ w.heap.size + 1 < B4) ∧ (Blk (u6.setCells B5 0 (va (b.rv q)).toList) B5 (va (b.rv q)) 90 ∧ w.heap.size + 1 < B5) ∧ True from ⟨(Wr.all B5 (va (b.rv q)).toList 0 u6).below _ _ (by have := L6.out.2.2.2.2.1.2; omega) (L6.out.1), (L6.out.2.1).wr (Wr.all B5 (va (b.rv q)).toList 0 u6) (by have := L6.out.2.2.2.2.1.2; omega), (L6.out.2.2.1).wr (Wr.all B5 (va (b.rv q)).toList 0 u6) (by have := L6.out.2.2.2.2.1.2; omega), ⟨(L6.out.2.2.2.1.1).wr (Wr.all B5 (va (b.rv q)).toList 0 u6) (by have := L6.out.2.2.2.2.1.2; have := NE.out; omega), L6.out.2.2.2.1.2⟩, ⟨Blk.stored (L6.out.2.2.2.2.1.1) rfl, L6.out.2.2.2.2.1.2⟩, trivial⟩)
      obtain ⟨u7, hu7⟩ : ∃ v, u6.setCells B5 0 (va (b.rv q)).toList = v := ⟨_, rfl⟩
      refine hK.out _ _ ⟨L7.out.2.1, L7.out.2.2.1⟩ (fun hH => ?_)
      clear hK K'
      rw [hu7] at L7 ⊢
      clear hu7
      try simp only [Act.put, zyc, zyd, zye, zyf, zyi, zyj]
      refine wpAnyH_done (by kernel_rfl) ?_ _
      go_wp2_with fail
      go_meet
      exact ⟨B4, B5, rfl, rfl, L7.out.1, L7.out.2.1, L7.out.2.2.1, L7.out.2.2.2.1.1, L7.out.2.2.2.2.1.1⟩
   ·go_simp
    refine hK.out _ _ ⟨K1.out.2.1.alloc _, K1.out.2.2.1.alloc _⟩ (fun hH => ?_)
    clear hK K'
    have lt5 := (K1.out.2.2.1).lt
    obtain ⟨B5, hB5⟩ : ∃ B, v1.heap.size = B := ⟨_, rfl⟩
    have qB5 : Blk (v1.alloc (.cells #[.slice none 0 0, .slice none 0 0, .slice none 0 0] 90)) B5 (va [RV0, RV0, RV0]) 90 := hB5 ▸ Blk.new v1 (va [RV0, RV0, RV0]) _
    rw [hB5] at lt5 ⊢
    obtain ⟨v2, hv2⟩ : ∃ v, v1.alloc (.cells #[.slice none 0 0, .slice none 0 0, .slice none 0 0] 90) = v := ⟨_, rfl⟩
    rw [hv2] at qB5 ⊢
    have K2 := zh (show Below w.heap.size w v2 ∧ Blk v2 w.heap.size (a.a p) 48 ∧ Blk v2 (w.heap.size + 1) (b.a q) 48 ∧ (Blk v2 B5 (va [RV0, RV0, RV0]) 90 ∧ w.heap.size + 1 < B5) ∧ True from hv2 ▸ ⟨(K1.out.1).alloc (K1.out.1).size _, (K1.out.2.1).alloc _, (K1.out.2.2.1).alloc _, ⟨hv2.symm ▸ qB5, lt5⟩, trivial⟩)
    clear lt5 qB5 hB5 hv2
    try simp only [Act.put, zyc, zyd, zye, zyf, zyi, zyj]
    refine wpAnyH_ready (rs := [3, 4]) (by kernel_rfl) (by simp) ?_
    refine AllReadyH.cons (o := _) rfl (fun K' hK => ?_) (AllReadyH.cons (o := _) rfl (fun K' hK => ?_) AllReadyH.nil)
    ·go_simp
     refine (rowsOf_is b q _).mono ?_
     rintro e v3 ⟨rfl, hb⟩
     have K3 := zh (show Below w.heap.size w v3 ∧ Blk v3 w.heap.size (a.a p) 48 ∧ Blk v3 (w.heap.size + 1) (b.a q) 48 ∧ (Blk v3 B5 (va [RV0, RV0, RV0]) 90 ∧ w.heap.size + 1 < B5) ∧ True from ⟨step0 (K2.out.1) hb, (K2.out.2.1).below hb, (K2.out.2.2.1).below hb, ⟨(K2.out.2.2.2.1.1).below hb, K2.out.2.2.2.1.2⟩, trivial⟩)
     clear hb
     go_wp2_with fail
     refine hK.out _ _ ⟨K3.out.2.1, K3.out.2.2.1⟩ (fun hH => ?_)
     clear hK K'
     try simp only [Act.put, zyc, zyd, zye, zyf, zyi, zyj]
     refine wpAnyH_ready (rs := [4]) (by kernel_rfl) (by simp) ?_
     refine AllReadyH.cons (o := _) rfl (fun K' hK => ?_) AllReadyH.nil
     ·go_simp
      refine hK.out _ _ ⟨K3.out.2.1.alloc _, K3.out.2.2.1.alloc _⟩ (fun hH => ?_)
      clear hK K'
      have lt4 := (K3.out.2.2.1).lt
      have ne := (K3.out.2.2.2.1.1).lt
      obtain ⟨B4, hB4⟩ : ∃ B, v3.heap.size = B := ⟨_, rfl⟩
      have qB4 : Blk (v3.alloc (.cells #[.slice none 0 0, .slice none 0 0, .slice none 0 0] 90)) B4 (va [RV0, RV0, RV0]) 90 := hB4 ▸ Blk.new v3 (va [RV0, RV0, RV0]) _
      rw [hB4] at lt4 ne ⊢
      obtain ⟨v4, hv4⟩ : ∃ v, v3.alloc (.cells #[.slice none 0 0, .slice none 0 0, .slice none 0 0] 90) = v := ⟨_, rfl⟩
      rw [hv4] at qB4 ⊢
      have K4 := zh (show Below w.heap.size w v4 ∧ Blk v4 w.heap.size (a.a p) 48 ∧ Blk v4 (w.heap.size + 1) (b.a q) 48 ∧ (Blk v4 B5 (va [RV0, RV0, RV0]) 90 ∧ w.heap.size + 1 < B5) ∧ (Blk v4 B4 (va [RV0, RV0, RV0]) 90 ∧ w.heap.size + 1 < B4) ∧ True from hv4 ▸ ⟨(K3.out.1).alloc (K3.out.1).size _, (K3.out.2.1).alloc _, (K3.out.2.2.1).alloc _, ⟨(K3.out.2.2.2.1.1).alloc _, K3.out.2.2.2.1.2⟩, ⟨hv4.symm ▸ qB4, lt4⟩, trivial⟩)
      have NE := zh ne
      clear lt4 qB4 hB4 hv4 ne
      try simp only [Act.put, zyc, zyd, zye, zyf, zyi, zyj]
      refine wpAnyH_ready (rs := [6]) (by kernel_rfl) (by simp) ?_
      refine AllReadyH.cons (o := _) rfl (fun K' hK => ?_) AllReadyH.nil
      rw [if_pos (by rfl)]
      refine wp_store_mid 90 _ _ rfl B4 0 (va (a.rv p)) rfl rfl (show v4.there B4 0 (va (a.rv p)).size from (K4.out.2.2.2.2.1.1).there) (infoV3 rfl) (va_one _) ?_
      have L6 := zh (show Below w.heap.size w (v4.setCells B4 0 (va (a.rv p)).toList) ∧ Blk (v4.setCells B4 0 (va (a.rv p)).toList) w.heap.size (a.a p) 48 ∧ Blk (v4.setCells B4 0 (va (a.rv p)).toList) (w.heap.size + 1) (b.a q) 48 ∧ (Blk (v4.setCells B4 0 (va (a.rv p)).toList) B5 (va [RV0, RV0, RV0]) 90 ∧ w.heap.size + 1 < B5) ∧ (Blk (v4.setCells B4 0 (va (a.rv p)).toList) B4 (va (a.rv p)) 90 ∧ w.heap.size + 1 < B4) ∧ True from ⟨(Wr.all B4 (va (a.rv p)).toList 0 v4).below _ _ (by have := K4.out.2.2.2.2.1.2; omega) (K4.out.1), (K4.out.2.1).wr (Wr.all B4 (va (a.rv p)).toList 0 v4) (by have := K4.out.2.2.2.2.1.2; omega), (K4.out.2.2.1).wr (Wr.all B4 (va (a.rv p)).toList 0 v4) (by have := K4.out.2.2.2.2.1.2; omega), ⟨(K4.out.2.2.2.1.1).wr (Wr.all B4 (va (a.rv p)).toList 0 v4) (by have := K4.out.2.2.2.2.1.2; have := NE.out; omega), K4.out.2.2.2.1.2⟩, ⟨Blk.stored (K4.out.2.2.2.2.1.1) rfl, K4.out.2.2.2.2.1.2⟩, trivial⟩)
      obtain ⟨u6, hu6⟩ : ∃ v, v4.setCells B4 0 (va (a.rv p)).toList = v := ⟨_, rfl⟩
      refine hK.out _ _ ⟨L6.out.2.1, L6.out.2.2.1⟩ (fun hH => ?_)
      clear hK K'
      rw [hu6] at L6 ⊢
      clear hu6
      try simp only [Act.put, zyc, zyd, zye, zyf, zyi, zyj]
      refine wpAnyH_ready (rs := [7]) (by kernel_rfl) (by simp) ?_
      refine AllReadyH.cons (o := _) rfl (fun K' hK => ?_) AllReadyH.nil
      rw [if_pos (by rfl)]
      refine wp_store_mid 90 _ _ rfl B5 0 (va (b.rv q)) rfl rfl (show u6.there B5 0 (va (b.rv q)).size from (L6.out.2.2.2.1.1).there) (infoV3 rfl) (va_one _) ?_
      have L7 := zh (show Below w.heap.size w (u6.setCells B5 0 (va (b.rv q)).toList) ∧ Blk (u6.setCells B5 0 (va (b.rv q)).toList) w.heap.size (a.a p) 48 ∧ Blk (u6.setCells B5 0 (va (b.rv q)).toList) (w.heap.size + 1) (b.a q) 48 ∧ (Blk (u6.setCells B5 0 (va (b.rv q)).toList) B5 (va (b.rv q)) 90 ∧ w.heap.size + 1 < B5) ∧ (Blk (u6.setCells B5 0 (va (b.rv q)).toList) B4 (va (a.rv p)) 90 ∧ w.heap.size + 1 < B4) ∧ True from ⟨(Wr.all B5 (va (b.rv q)).toList 0 u6).below _ _ (by have := L6.out.2.2.2.1.2; omega) (L6.out.1), (L6.out.2.1).wr (Wr.all B5 (va (b.rv q)).toList 0 u6) (by have := L6.out.2.2.2.1.2; omega), (L6.out.2.2.1).wr (Wr.all B5 (va (b.rv q)).toList 0 u6) (by have := L6.out.2.2.2.1.2; omega), ⟨Blk.stored (L6.out.2.2.2.1.1) rfl, L6.out.2.2.2.1.2⟩, ⟨(L6.out.2.2.2.2.1.1).wr (Wr.all B5 (va (b.rv q)).toList 0 u6) (by have := L6.out.2.2.2.1.2; have := NE.out; omega), L6.out.2.2.2.2.1.2⟩, trivial⟩)
      obtain ⟨u7, hu7⟩ : ∃ v, u6.setCells B5 0 (va (b.rv q)).toList = v := ⟨_, rfl⟩
      refine hK.out _ _ ⟨L7.out.2.1, L7.out.2.2.1⟩ (fun hH => ?_)
      clear hK K'
      rw [hu7] at L7 ⊢
      clear hu7
      try simp only [Act.put, zyc, zyd, zye, zyf, zyi, zyj]
      refine wpAnyH_done (by kernel_rfl) ?_ _
      go_wp2_with fail
      go_meet
      exact ⟨B4, B5, rfl, rfl, L7.out.1, L7.out.2.1, L7.out.2.2.1, L7.out.2.2.2.2.1.1, L7.out.2.2.2.1.1⟩
    ·go_simp
     refine hK.out _ _ ⟨K2.out.2.1.alloc _, K2.out.2.2.1.alloc _⟩ (fun hH => ?_)
     clear hK K'
     have lt4 := (K2.out.2.2.1).lt
     have ne := (K2.out.2.2.2.1.1).lt
     obtain ⟨B4, hB4⟩ : ∃ B, v2.heap.size = B := ⟨_, rfl⟩
     have qB4 : Blk (v2.alloc (.cells #[.slice none 0 0, .slice none 0 0, .slice none 0 0] 90)) B4 (va [RV0, RV0, RV0]) 90 := hB4 ▸ Blk.new v2 (va [RV0, RV0, RV0]) _
     rw [hB4] at lt4 ne ⊢
     obtain ⟨v3, hv3⟩ : ∃ v, v2.alloc (.cells #[.slice none 0 0, .slice none 0 0, .slice none 0 0] 90) = v := ⟨_, rfl⟩
     rw [hv3] at qB4 ⊢
     have K3 := zh (show Below w.heap.size w v3 ∧ Blk v3 w.heap.size (a.a p) 48 ∧ Blk v3 (w.heap.size + 1) (b.a q) 48 ∧ (Blk v3 B5 (va [RV0, RV0, RV0]) 90 ∧ w.heap.size + 1 < B5) ∧ (Blk v3 B4 (va [RV0, RV0, RV0]) 90 ∧ w.heap.size + 1 < B4) ∧ True from hv3 ▸ ⟨(K2.out.1).alloc (K2.out.1).size _, (K2.out.2.1).alloc _, (K2.out.2.2.1).alloc _, ⟨(K2.out.2.2.2.1.1).alloc _, K2.out.2.2.2.1.2⟩, ⟨hv3.symm ▸ qB4, lt4⟩, trivial⟩)
     have NE := zh ne
     clear lt4 qB4 hB4 hv3 ne
     try simp only [Act.put, zyc, zyd, zye, zyf, zyi, zyj]
     refine wpAnyH_ready (rs := [3]) (by kernel_rfl) (by simp) ?_
     refine AllReadyH.cons (o := _) rfl (fun K' hK => ?_) AllReadyH.nil
     ·go_simp
      refine (rowsOf_is b q _).mono ?_
      rintro e v4 ⟨rfl, hb⟩
      have K4 := zh (show Below w.heap.size w v4 ∧ Blk v4 w.heap.size (a.a p) 48 ∧ Blk v4 (w.heap.size + 1) (b.a q) 48 ∧ (Blk v4 B5 (va [RV0, RV0, RV0]) 90 ∧ w.heap.size + 1 < B5) ∧ (Blk v4 B4 (va [RV0, RV0, RV0]) 90 ∧ w.heap.size + 1 < B4) ∧ True from ⟨step0 (K3.out.1) hb, (K3.out.2.1).below hb, (K3.out.2.2.1).below hb, ⟨(K3.out.2.2.2.1.1).below hb, K3.out.2.2.2.1.2⟩, ⟨(K3.out.2.2.2.2.1.1).below hb, K3.out.2.2.2.2.1.2⟩, trivial⟩)
      clear hb
      go_wp2_with fail
      refine hK.out _ _ ⟨K4.out.2.1, K4.out.2.2.1⟩ (fun hH => ?_)
      clear hK K'
      try simp only [Act.put, zyc, zyd, zye, zyf, zyi, zyj]
      refine wpAnyH_ready (rs := [6]) (by kernel_rfl) (by simp) ?_
      refine AllReadyH.cons (o := _) rfl (fun K' hK => ?_) AllReadyH.nil
      rw [if_pos (by rfl)]
      refine wp_store_mid 90 _ _ rfl B4 0 (va (a.rv p)) rfl rfl (show v4.there B4 0 (va (a.rv p)).size from (K4.out.2.2.2.2.1.1).there) (infoV3 rfl) (va_one _) ?_
      have L6 := zh (show Below w.heap.size w (v4.setCells B4 0 (va (a.rv p)).toList) ∧ Blk (v4.setCells B4 0 (va (a.rv p)).toList) w.heap.size (a.a p) 48 ∧ Blk (v4.setCells B4 0 (va (a.rv p)).toList) (w.heap.size + 1) (b.a q) 48 ∧ (Blk (v4.setCells B4 0 (va (a.rv p)).toList) B5 (va [RV0, RV0, RV0]) 90 ∧ w.heap.size + 1 < B5) ∧ (Blk (v4.setCells B4 0 (va (a.rv p)).toList) B4 (va (a.rv p)) 90 ∧ w.heap.size + 1 < B4) ∧ True from ⟨(Wr.all B4 (va (a.rv p)).toList 0 v4).below _ _ (by have := K4.out.2.2.2.2.1.2; omega) (K4.out.1), (K4.out.2.1).wr (Wr.all B4 (va (a.rv p)).toList 0 v4) (by have := K4.out.2.2.2.2.1.2; omega), (K4.out.2.2.1).wr (Wr.all B4 (va (a.rv p)).toList 0 v4) (by have := K4.out.2.2.2.2.1.2; omega), ⟨(K4.out.2.2.2.1.1).wr (Wr.all B4 (va (a.rv p)).toList 0 v4) (by have := K4.out.2.2.2.2.1.2; have := NE.out; omega), K4.out.2.2.2.1.2⟩, ⟨Blk.stored (K4.out.2.2.2.2.1.1) rfl, K4.out.2.2.2.2.1.2⟩, trivial⟩)
      obtain ⟨u6, hu6⟩ : ∃ v, v4.setCells B4 0 (va (a.rv p)).toList = v := ⟨_, rfl⟩
      refine hK.out _ _ ⟨L6.out.2.1, L6.out.2.2.1⟩ (fun hH => ?_)
      clear hK K'
      rw [hu6] at L6 ⊢
      clear hu6
      try simp only [Act.put, zyc, zyd, zye, zyf, zyi, zyj]
      refine wpAnyH_ready (rs := [7]) (by kernel_rfl) (by simp) ?_
      refine AllReadyH.cons (o := _) rfl (fun K' hK => ?_) AllReadyH.nil
      rw [if_pos (by rfl)]
      refine wp_store_mid 90 _ _ rfl B5 0 (va (b.rv q)) rfl rfl (show u6.there B5 0 (va (b.rv q)).size from (L6.out.2.2.2.1.1).there) (infoV3 rfl) (va_one _) ?_
      have L7 := zh (show Below w.heap.size w (u6.setCells B5 0 (va (b.rv q)).toList) ∧ Blk (u6.setCells B5 0 (va (b.rv q)).toList) w.heap.size (a.a p) 48 ∧ Blk (u6.setCells B5 0 (va (b.rv q)).toList) (w.heap.size + 1) (b.a q) 48 ∧ (Blk (u6.setCells B5 0 (va (b.rv q)).toList) B5 (va (b.rv q)) 90 ∧ w.heap.size + 1 < B5) ∧ (Blk (u6.setCells B5 0 (va (b.rv q)).toList) B4 (va (a.rv p)) 90 ∧ w.heap.size + 1 < B4) ∧ True from ⟨(Wr.all B5 (va (b.rv q)).toList 0 u6).below _ _ (by have := L6.out.2.2.2.1.2; omega) (L6.out.1), (L6.out.2.1).wr (Wr.all B5 (va (b.rv q)).toList 0 u6) (by have := L6.out.2.2.2.1.2; omega), (L6.out.2.2.1).wr (Wr.all B5 (va (b.rv q)).toList 0 u6) (by have := L6.out.2.2.2.1.2; omega), ⟨Blk.stored (L6.out.2.2.2.1.1) rfl, L6.out.2.2.2.1.2⟩, ⟨(L6.out.2.2.2.2.1.1).wr (Wr.all B5 (va (b.rv q)).toList 0 u6) (by have := L6.out.2.2.2.1.2; have := NE.out; omega), L6.out.2.2.2.2.1.2⟩, trivial⟩)
      obtain ⟨u7, hu7⟩ : ∃ v, u6.setCells B5 0 (va (b.rv q)).toList = v := ⟨_, rfl⟩
      refine hK.out _ _ ⟨L7.out.2.1, L7.out.2.2.1⟩ (fun hH => ?_)
      clear hK K'
      rw [hu7] at L7 ⊢
      clear hu7
      try simp only [Act.put, zyc, zyd, zye, zyf, zyi, zyj]
      refine wpAnyH_done (by kernel_rfl) ?_ _
      go_wp2_with fail
      go_meet
      exact ⟨B4, B5, rfl, rfl, L7.out.1, L7.out.2.1, L7.out.2.2.1, L7.out.2.2.2.2.1.1, L7.out.2.2.2.1.1⟩
  ·go_simp
   refine hK.out _ _ ⟨K1.out.2.1.alloc _, K1.out.2.2.1.alloc _⟩ (fun hH => ?_)
   clear hK K'
   have lt4 := (K1.out.2.2.1).lt
   obtain ⟨B4, hB4⟩ : ∃ B, v0.heap.size = B := ⟨_, rfl⟩
   have qB4 : Blk (v0.alloc (.cells #[.slice none 0 0, .slice none 0 0, .slice none 0 0] 90)) B4 (va [RV0, RV0, RV0]) 90 := hB4 ▸ Blk.new v0 (va [RV0, RV0, RV0]) _
   rw [hB4] at lt4 ⊢
   obtain ⟨v1, hv1⟩ : ∃ v, v0.alloc (.cells #[.slice none 0 0, .slice none 0 0, .slice none 0 0] 90) = v := ⟨_, rfl⟩
   rw [hv1] at qB4 ⊢
   have K1 := zh (show Below w.heap.size w v1 ∧ Blk v1 w.heap.size (a.a p) 48 ∧ Blk v1 (w.heap.size + 1) (b.a q) 48 ∧ (Blk v1 B4 (va [RV0, RV0, RV0]) 90 ∧ w.heap.size + 1 < B4) ∧ True from hv1 ▸ ⟨(K1.out.1).alloc (K1.out.1).size _, (K1.out.2.1).alloc _, (K1.out.2.2.1).alloc _, ⟨hv1.symm ▸ qB4, lt4⟩, trivial⟩)
   clear lt4 qB4 hB4 hv1
   try simp only [Act.put, zyc, zyd, zye, zyf, zyi, zyj]
   refine wpAnyH_ready (rs := [1, 5]) (by kernel_rfl) (by simp) ?_
   refine AllReadyH.cons (o := _) rfl (fun K' hK => ?_) (AllReadyH.cons (o := _) rfl (fun K' hK => ?_) AllReadyH.nil)
   ·go_simp
    refine (rowsOf_is a p _).mono ?_
    rintro e v2 ⟨rfl, hb⟩
    have K2 := zh (show Below w.heap.size w v2 ∧ Blk v2 w.heap.size (a.a p) 48 ∧ Blk v2 (w.heap.size + 1) (b.a q) 48 ∧ (Blk v2 B4 (va [RV0, RV0, RV0]) 90 ∧ w.heap.size + 1 < B4) ∧ True from ⟨step0 (K1.out.1) hb, (K1.out.2.1).below hb, (K1.out.2.2.1).below hb, ⟨(K1.out.2.2.2.1.1).below hb, K1.out.2.2.2.1.2⟩, trivial⟩)
    clear hb
    go_wp2_with fail
    refine hK.out _ _ ⟨K2.out.2.1, K2.out.2.2.1⟩ (fun hH => ?_)
    clear hK K'
    try simp only [Act.put, zyc, zyd, zye, zyf, zyi, zyj]
    refine wpAnyH_ready (rs := [3, 5]) (by kernel_rfl) (by simp) ?_
    refine AllReadyH.cons (o := _) rfl (fun K' hK => ?_) (AllReadyH.cons (o := _) rfl (fun K' hK => ?_) AllReadyH.nil)
    ·go_simp
     refine (rowsOf_is b q _).mono ?_
     rintro e v3 ⟨rfl, hb⟩
     have K3 := zh (show Below w.heap.size w v3 ∧ Blk v3 w.heap.size (a.a p) 48 ∧ Blk v3 (w.heap.size + 1) (b.a q) 48 ∧ (Blk v3 B4 (va [RV0, RV0, RV0]) 90 ∧ w.heap.size + 1 < B4) ∧ True from ⟨step0 (K2.out.1) hb, (K2.out.2.1).below hb, (K2.out.2.2.1).below hb, ⟨(K2.out.2.2.2.1.1).below hb, K2.out.2.2.2.1.2⟩, trivial⟩)
     clear hb
     go_wp2_with fail
     refine hK.out _ _ ⟨K3.out.2.1, K3.out.2.2.1⟩ (fun hH => ?_)
     clear hK K'
     try simp only [Act.put, zyc, zyd, zye, zyf, zyi, zyj]
     refine wpAnyH_ready (rs := [5]) (by kernel_rfl) (by simp) ?_
     refine AllReadyH.cons (o := _) rfl (fun K' hK => ?_) AllReadyH.nil
     ·go_simp
      refine hK.out _ _ ⟨K3.out.2.1.alloc _, K3.out.2.2.1.alloc _⟩ (fun hH => ?_)
      clear hK K'
      have lt5 := (K3.out.2.2.1).lt
      have ne := (K3.out.2.2.2.1.1).lt
      obtain ⟨B5, hB5⟩ : ∃ B, v3.heap.size = B := ⟨_, rfl⟩
      have qB5 : Blk (v3.alloc (.cells #[.slice none 0 0, .slice none 0 0, .slice none 0 0] 90)) B5 (va [RV0, RV0, RV0]) 90 := hB5 ▸ Blk.new v3 (va [RV0, RV0, RV0]) _
      rw [hB5] at lt5 ne ⊢
      obtain ⟨v4, hv4⟩ : ∃ v, v3.alloc (.cells #[.slice none 0 0, .slice none 0 0, .slice none 0 0] 90) = v := ⟨_, rfl⟩
      rw [hv4] at qB5 ⊢
      have K4 := zh (show Below w.heap.size w v4 ∧ Blk v4 w.heap.size (a.a p) 48 ∧ Blk v4 (w.heap.size + 1) (b.a q) 48 ∧ (Blk v4 B4 (va [RV0, RV0, RV0]) 90 ∧ w.heap.size + 1 < B4) ∧ (Blk v4 B5 (va [RV0, RV0, RV0]) 90 ∧ w.heap.size + 1 < B5) ∧ True from hv4 ▸ ⟨(K3.out.1).alloc (K3.out.1).size _, (K3.out.2.1).alloc _, (K3.out.2.2.1).alloc _, ⟨(K3.out.2.2.2.1.1).alloc _, K3.out.2.2.2.1.2⟩, ⟨hv4.symm ▸ qB5, lt5⟩, trivial⟩)
      have NE := zh ne
      clear lt5 qB5 hB5 hv4 ne
      try simp only [Act.put, zyc, zyd, zye, zyf, zyi, zyj]
      refine wpAnyH_ready (rs := [6]) (by kernel_rfl) (by simp) ?_
      refine AllReadyH.cons (o := _) rfl (fun K' hK => ?_) AllReadyH.nil
      rw [if_pos (by rfl)]
      refine wp_store_mid 90 _ _ rfl B4 0 (va (a.rv p)) rfl rfl (show v4.there B4 0 (va (a.rv p)).size from (K4.out.2.2.2.1.1).there) (infoV3 rfl) (va_one _) ?_
      have L6 := zh (show Below w.heap.size w (v4.setCells B4 0 (va (a.rv p)).toList) ∧ Blk (v4.setCells B4 0 (va (a.rv p)).toList) w.heap.size (a.a p) 48 ∧ Blk (v4.setCells B4 0 (va (a.rv p)).toList) (w.heap.size + 1) (b.a q) 48 ∧ (Blk (v4.setCells B4 0 (va (a.rv p)).toList) B4 (va (a.rv p)) 90 ∧ w.heap.size + 1 < B4) ∧ (Blk (v4.setCells B4 0 (va (a.rv p)).toList) B5 (va [RV0, RV0, RV0]) 90 ∧ w.heap.size + 1 < B5) ∧ True from ⟨(Wr.all B4 (va (a.rv p)).toList 0 v4).below _ _ (by have := K4.out.2.2.2.1.2; omega) (K4.out.1), (K4.out.2.1).wr (Wr.all B4 (va (a.rv p)).toList 0 v4) (by have := K4.out.2.2.2.1.2; omega), (K4.out.2.2.1).wr (Wr.all B4 (va (a.rv p)).toList 0 v4) (by have := K4.out.2.2.2.1.2; omega), ⟨Blk.stored (K4.out.2.2.2.1.1) rfl, K4.out.2.2.2.1.2⟩, ⟨(K4.out.2.2.2.2.1.1).wr (Wr.all B4 (va (a.rv p)).toList 0 v4) (by have := K4.out.2.2.2.1.2; have := NE.out; omega), K4.out.2.2.2.2.1.2⟩, trivial⟩)
      obtain ⟨u6, hu6⟩ : ∃ v, v4.setCells B4 0 (va (a.rv p)).toList = v := ⟨_, rfl⟩
      refine hK.out _ _ ⟨L6.out.2.1, L6.out.2.2.1⟩ (fun hH => ?_)
      clear hK K'
      rw [hu6] at L6 ⊢
      clear hu6
      try simp only [Act.put, zyc, zyd, zye, zyf, zyi, zyj]
      refine wpAnyH_ready (rs := [7]) (by kernel_rfl) (by simp) ?_
      refine AllReadyH.cons (o := _) rfl (fun K' hK => ?_) AllReadyH.nil
      rw [if_pos (by rfl)]
      refine wp_store_mid 90 _ _ rfl B5 0 (va (b.rv q)) rfl rfl (show u6.there B5 0 (va (b.rv q)).size from (L6.out.2.2.2.2.1.1).there) (infoV3 rfl) (va_one _) ?_
      have L7 := zh (show Below w.heap.size w (u6.setCells B5 0 (va (b.rv q)).toList) ∧ Blk (u6.setCells B5 0 (va (b.rv q)).toList) w.heap.size (a.a p) 48 ∧ Blk (u6.setCells B5 0 (va (b.rv q)).toList) (w.heap.size + 1) (b.a q) 48 ∧ (Blk (u6.setCells B5 0 (va (b.rv q)).toList) B4 (va (a.rv p)) 90 ∧ w.heap.size + 1 < B4) ∧ (Blk (u6.setCells B5 0 (va (b.rv q)).toList) B5 (va (b.rv q)) 90 ∧ w.heap.size + 1 < B5) ∧ True from ⟨(Wr.all B5 (va (b.rv q)).toList 0 u6).below _ _ (by have := L6.out.2.2.2.2.1.2; omega) (L6.out.1), (L6.out.2.1).wr (Wr.all B5 (va (b.rv q)).toList 0 u6) (by have := L6.out.2.2.2.2.1.2; omega), (L6.out.2.2.1).wr (Wr.all B5 (va (b.rv q)).toList 0 u6) (by have := L6.out.2.2.2.2.1.2; omega), ⟨(L6.out.2.2.2.1.1).wr (Wr.all B5 (va (b.rv q)).toList 0 u6) (by have := L6.out.2.2.2.2.1.2; have := NE.out; omega), L6.out.2.2.2.1.2⟩, ⟨Blk.stored (L6.out.2.2.2.2.1.1) rfl, L6.out.2.2.2.2.1.2⟩, trivial⟩)
      obtain ⟨u7, hu7⟩ : ∃ v, u6.setCells B5 0 (va (b.rv q)).toList = v := ⟨_, rfl⟩
      refine hK.out _ _ ⟨L7.out.2.1, L7.out.2.2.1⟩ (fun hH => ?_)
      clear hK K'
      rw [hu7] at L7 ⊢
      clear hu7
      try simp only [Act.put, zyc, zyd, zye, zyf, zyi, zyj]
      refine wpAnyH_done (by kernel_rfl) ?_ _
      go_wp2_with fail
      go_meet
      exact ⟨B4, B5, rfl, rfl, L7.out.1, L7.out.2.1, L7.out.2.2.1, L7.out.2.2.2.1.1, L7.out.2.2.2.2.1.1⟩
    ·go_simp
     refine hK.out _ _ ⟨K2.out.2.1.alloc _, K2.out.2.2.1.alloc _⟩ (fun hH => ?_)
     clear hK K'
     have lt5 := (K2.out.2.2.1).lt
     have ne := (K2.out.2.2.2.1.1).lt
     obtain ⟨B5, hB5⟩ : ∃ B, v2.heap.size = B := ⟨_, rfl⟩
     have qB5 : Blk (v2.alloc (.cells #[.slice none 0 0, .slice none 0 0, .slice none 0 0] 90)) B5 (va [RV0, RV0, RV0]) 90 := hB5 ▸ Blk.new v2 (va [RV0, RV0, RV0]) _
     rw [hB5] at lt5 ne ⊢
     obtain ⟨v3, hv3⟩ : ∃ v, v2.alloc (.cells #[.slice none 0 0, .slice none 0 0, .slice none 0 0] 90) = v := ⟨_, rfl⟩
     rw [hv3] at qB5 ⊢
     have K3 := zh (show Below w.heap.size w v3 ∧ Blk v3 w.heap.size (a.a p) 48 ∧ Blk v3 (w.heap.size + 1) (b.a q) 48 ∧ (Blk v3 B4 (va [RV0, RV0, RV0]) 90 ∧ w.heap.size + 1 < B4) ∧ (Blk v3 B5 (va [RV0, RV0, RV0]) 90 ∧ w.heap.size + 1 < B5) ∧ True from hv3 ▸ ⟨(K2.out.1).alloc (K2.out.1).size _, (K2.out.2.1).alloc _, (K2.out.2.2.1).alloc _, ⟨(K2.out.2.2.2.1.1).alloc _, K2.out.2.2.2.1.2⟩, ⟨hv3.symm ▸ qB5, lt5⟩, trivial⟩)
     have NE := zh ne
     clear lt5 qB5 hB5 hv3 ne
     try simp only [Act.put, zyc, zyd, zye, zyf, zyi, zyj]
     refine wpAnyH_ready (rs := [3]) (by kernel_rfl) (by simp) ?_
     refine AllReadyH.cons (o := _) rfl (fun K' hK => ?_) AllReadyH.nil
     ·go_simp
      refine (rowsOf_is b q _).mono ?_
      rintro e v4 ⟨rfl, hb⟩
      have K4 := zh (show Below w.heap.size w v4 ∧ Blk v4 w.heap.size (a.a p) 48 ∧ Blk v4 (w.heap.size + 1) (b.a q) 48 ∧ (Blk v4 B4 (va [RV0, RV0, RV0]) 90 ∧ w.heap.size + 1 < B4) ∧ (Blk v4 B5 (va [RV0, RV0, RV0]) 90 ∧ w.heap.size + 1 < B5) ∧ True from ⟨step0 (K3.out.1) hb, (K3.out.2.1).below hb, (K3.out.2.2.1).below hb, ⟨(K3.out.2.2.2.1.1).below hb, K3.out.2.2.2.1.2⟩, ⟨(K3.out.2.2.2.2.1.1).below hb, K3.out.2.2.2.2.1.2⟩, trivial⟩)
      clear hb
      go_wp2_with fail
      refine hK.out _ _ ⟨K4.out.2.1, K4.out.2.2.1⟩ (fun hH => ?_)
      clear hK K'
      try simp only [Act.put, zyc, zyd, zye, zyf, zyi, zyj]
      refine wpAnyH_ready (rs := [6]) (by kernel_rfl) (by simp) ?_
      refine AllReadyH.cons (o := _) rfl (fun K' hK => ?_) AllReadyH.nil
      rw [if_pos (by rfl)]
      refine wp_store_mid 90 _ _ rfl B4 0 (va (a.rv p)) rfl rfl (show v4.there B4 0 (va (a.rv p)).size from (K4.out.2.2.2.1.1).there) (infoV3 rfl) (va_one _) ?_
      have L6 := zh (show Below w.heap.size w (v4.setCells B4 0 (va (a.rv p)).toList) ∧ Blk (v4.setCells B4 0 (va (a.rv p)).toList) w.heap.size (a.a p) 48 ∧ Blk (v4.setCells B4 0 (va (a.rv p)).toList) (w.heap.size + 1) (b.a q) 48 ∧ (Blk (v4.setCells B4 0 (va (a.rv p)).toList) B4 (va (a.rv p)) 90 ∧ w.heap.size + 1 < B4) ∧ (Blk (v4.setCells B4 0 (va (a.rv p)).toList) B5 (va [RV0, RV0, RV0]) 90 ∧ w.heap.size + 1 < B5) ∧ True from ⟨(Wr.all B4 (va (a.rv p)).toList 0 v4).below _ _ (by have := K4.out.2.2.2.1.2; omega) (K4.out.1), (K4.out.2.1).wr (Wr.all B4 (va (a.rv p)).toList 0 v4) (by have := K4.out.2.2.2.1.2; omega), (K4.out.2.2.1).wr (Wr.all B4 (va (a.rv p)).toList 0 v4) (by have := K4.out.2.2.2.1.2; omega), ⟨Blk.stored (K4.out.2.2.2.1.1) rfl, K4.out.2.2.2.1.2⟩, ⟨(K4.out.2.2.2.2.1.1).wr (Wr.all B4 (va (a.rv p)).toList 0 v4) (by have := K4.out.2.2.2.1.2; have := NE.out; omega), K4.out.2.2.2.2.1.2⟩, trivial⟩)
      obtain ⟨u6, hu6⟩ : ∃ v, v4.setCells B4 0 (va (a.rv p)).toList = v := ⟨_, rfl⟩
      refine hK.out _ _ ⟨L6.out.2.1, L6.out.2.2.1⟩ (fun hH => ?_)
      clear hK K'
      rw [hu6] at L6 ⊢
      clear hu6
      try simp only [Act.put, zyc, zyd, zye, zyf, zyi, zyj]
      refine wpAnyH_ready (rs := [7]) (by kernel_rfl) (by simp) ?_
      refine AllReadyH.cons (o := _) rfl (fun K' hK => ?_) AllReadyH.nil
      rw [if_pos (by rfl)]
      refine wp_store_mid 90 _ _ rfl B5 0 (va (b.rv q)) rfl rfl (show u6.there B5 0 (va (b.rv q)).size from (L6.out.2.2.2.2.1.1).there) (infoV3 rfl) (va_one _) ?_
      have L7 := zh (show Below w.heap.size w (u6.setCells B5 0 (va (b.rv q)).toList) ∧ Blk (u6.setCells B5 0 (va (b.rv q)).toList) w.heap.size (a.a p) 48 ∧ Blk (u6.setCells B5 0 (va (b.rv q)).toList) (w.heap.size + 1) (b.a q) 48 ∧ (Blk (u6.setCells B5 0 (va (b.rv q)).toList) B4 (va (a.rv p)) 90 ∧ w.heap.size + 1 < B4) ∧ (Blk (u6.setCells B5 0 (va (b.rv q)).toList) B5 (va (b.rv q)) 90 ∧ w.heap.size + 1 < B5) ∧ True from ⟨(Wr.all B5 (va (b.rv q)).toList 0 u6).below _ _ (by have := L6.out.2.2.2.2.1.2; omega) (L6.out.1), (L6.out.2.1).wr (Wr.all B5 (va (b.rv q)).toList 0 u6) (by have := L6.out.2.2.2.2.1.2; omega), (L6.out.2.2.1).wr (Wr.all B5 (va (b.rv q)).toList 0 u6) (by have := L6.out.2.2.2.2.1.2; omega), ⟨(L6.out.2.2.2.1.1).wr (Wr.all B5 (va (b.rv q)).toList 0 u6) (by have := L6.out.2.2.2.2.1.2; have := NE.out; omega), L6.out.2.2.2.1.2⟩, ⟨Blk.stored (L6.out.2.2.2.2.1.1) rfl, L6.out.2.2.2.2.1.2⟩, trivial⟩)
      obtain ⟨u7, hu7⟩ : ∃ v, u6.setCells B5 0 (va (b.rv q)).toList = v := ⟨_, rfl⟩
      refine hK.out _ _ ⟨L7.out.2.1, L7.out.2.2.1⟩ (fun hH => ?_)
      clear hK K'
      rw [hu7] at L7 ⊢
      clear hu7
      try simp only [Act.put, zyc, zyd, zye, zyf, zyi, zyj]
      refine wpAnyH_done (by kernel_rfl) ?_ _
      go_wp2_with fail
      go_meet
      exact ⟨B4, B5, rfl, rfl, L7.out.1, L7.out.2.1, L7.out.2.2.1, L7.out.2.2.2.1.1, L7.out.2.2.2.2.1.1⟩
   ·go_simp
    refine hK.out _ _ ⟨K1.out.2.1.alloc _, K1.out.2.2.1.alloc _⟩ (fun hH => ?_)
    clear hK K'
    have lt5 := (K1.out.2.2.1).lt
    have ne := (K1.out.2.2.2.1.1).lt
    obtain ⟨B5, hB5⟩ : ∃ B, v1.heap.size = B := ⟨_, rfl⟩
    have qB5 : Blk (v1.alloc (.cells #[.slice none 0 0, .slice none 0 0, .slice none 0 0] 90)) B5 (va [RV0, RV0, RV0]) 90 := hB5 ▸ Blk.new v1 (va [RV0, RV0, RV0]) _
    rw [hB5] at lt5 ne ⊢
    obtain ⟨v2, hv2⟩ : ∃ v, v1.alloc (.cells #[.slice none 0 0, .slice none 0 0, .slice none 0 0] 90) = v := ⟨_, rfl⟩
    rw [hv2] at qB5 ⊢
    have K2 := zh (show Below w.heap.size w v2 ∧ Blk v2 w.heap.size (a.a p) 48 ∧ Blk v2 (w.heap.size + 1) (b.a q) 48 ∧ (Blk v2 B4 (va [RV0, RV0, RV0]) 90 ∧ w.heap.size + 1 < B4) ∧ (Blk v2 B5 (va [RV0, RV0, RV0]) 90 ∧ w.heap.size + 1 < B5) ∧ True from hv2 ▸ ⟨(K1.out.1).alloc (K1.out.1).size _, (K1.out.2.1).alloc _, (K1.out.2.2.1).alloc _, ⟨(K1.out.2.2.2.1.1).alloc _, K1.out.2.2.2.1.2⟩, ⟨hv2.symm ▸ qB5, lt5⟩, trivial⟩)
    have NE := zh ne
    clear lt5 qB5 hB5 hv2 ne
    try simp only [Act.put, zyc, zyd, zye, zyf, zyi, zyj]
    refine wpAnyH_ready (rs := [1]) (by kernel_rfl) (by simp) ?_
    refine AllReadyH.cons (o := _) rfl (fun K' hK => ?_) AllReadyH.nil
    ·go_simp
     refine (rowsOf_is a p _).mono ?_
     rintro e v3 ⟨rfl, hb⟩
     have K3 := zh (show Below w.heap.size w v3 ∧ Blk v3 w.heap.size (a.a p) 48 ∧ Blk v3 (w.heap.size + 1) (b.a q) 48 ∧ (Blk v3 B4 (va [RV0, RV0, RV0]) 90 ∧ w.heap.size + 1 < B4) ∧ (Blk v3 B5 (va [RV0, RV0, RV0]) 90 ∧ w.heap.size + 1 < B5) ∧ True from ⟨step0 (K2.out.1) hb, (K2.out.2.1).below hb, (K2.out.2.2.1).below hb, ⟨(K2.out.2.2.2.1.1).below hb, K2.out.2.2.2.1.2⟩, ⟨(K2.out.2.2.2.2.1.1).below hb, K2.out.2.2.2.2.1.2⟩, trivial⟩)
     clear hb
     go_wp2_with fail
     refine hK.out _ _ ⟨K3.out.2.1, K3.out.2.2.1⟩ (fun hH => ?_)
     clear hK K'
     try simp only [Act.put, zyc, zyd, zye, zyf, zyi, zyj]
     refine wpAnyH_ready (rs := [3]) (by kernel_rfl) (by simp) ?_
     refine AllReadyH.cons (o := _) rfl (fun K' hK => ?_) AllReadyH.nil
     ·go_simp
      refine (rowsOf_is b q _).mono ?_
      rintro e v4 ⟨rfl, hb⟩
      have K4 := zh (show Below w.heap.size w v4 ∧ Blk v4 w.heap.size (a.a p) 48 ∧ Blk v4 (w.heap.size + 1) (b.a q) 48 ∧ (Blk v4 B4 (va [RV0, RV0, RV0]) 90 ∧ w.heap.size + 1 < B4) ∧ (Blk v4 B5 (va [RV0, RV0, RV0]) 90 ∧ w.heap.size + 1 < B5) ∧ True from ⟨step0 (K3.out.1) hb, (K3.out.2.1).below hb, (K3.out.2.2.1).below hb, ⟨(K3.out.2.2.2.1.1).below hb, K3.out.2.2.2.1.2⟩, ⟨(K3.out.2.2.2.2.1.1).below hb, K3.out.2.2.2.2.1.2⟩, trivial⟩)
      clear hb
      go_wp2_with fail
      refine hK.out _ _ ⟨K4.out.2.1, K4.out.2.2.1⟩ (fun hH => ?_)
      clear hK K'
      try simp only [Act.put, zyc, zyd, zye, zyf, zyi, zyj]
      refine wpAnyH_ready (rs := [6]) (by kernel_rfl) (by simp) ?_
      refine AllReadyH.cons (o := _) rfl (fun K' hK => ?_) AllReadyH.nil
      rw [if_pos (by rfl)]
      refine wp_store_mid 90 _ _ rfl B4 0 (va (a.rv p)) rfl rfl (show v4.there B4 0 (va (a.rv p)).size from (K4.out.2.2.2.1.1).there) (infoV3 rfl) (va_one _) ?_
      have L6 := zh (show Below w.heap.size w (v4.setCells B4 0 (va (a.rv p)).toList) ∧ Blk (v4.setCells B4 0 (va (a.rv p)).toList) w.heap.size (a.a p) 48 ∧ Blk (v4.setCells B4 0 (va (a.rv p)).toList) (w.heap.size + 1) (b.a q) 48 ∧ (Blk (v4.setCells B4 0 (va (a.rv p)).toList) B4 (va (a.rv p)) 90 ∧ w.heap.size + 1 < B4) ∧ (Blk (v4.setCells B4 0 (va (a.rv p)).toList) B5 (va [RV0, RV0, RV0]) 90 ∧ w.heap.size + 1 < B5) ∧ True from ⟨(Wr.all B4 (va (a.rv p)).toList 0 v4).below _ _ (by have := K4.out.2.2.2.1.2; omega) (K4.out.1), (K4.out.2.1).wr (Wr.all B4 (va (a.rv p)).toList 0 v4) (by have := K4.out.2.2.2.1.2; omega), (K4.out.2.2.1).wr (Wr.all B4 (va (a.rv p)).toList 0 v4) (by have := K4.out.2.2.2.1.2; omega), ⟨Blk.stored (K4.out.2.2.2.1.1) rfl, K4.out.2.2.2.1.2⟩, ⟨(K4.out.2.2.2.2.1.1).wr (Wr.all B4 (va (a.rv p)).toList 0 v4) (by have := K4.out.2.2.2.1.2; have := NE.out; omega), K4.out.2.2.2.2.1.2⟩, trivial⟩)
      obtain ⟨u6, hu6⟩ : ∃ v, v4.setCells B4 0 (va (a.rv p)).toList = v := ⟨_, rfl⟩
      refine hK.out _ _ ⟨L6.out.2.1, L6.out.2.2.1⟩ (fun hH => ?_)
      clear hK K'
      rw [hu6] at L6 ⊢
      clear hu6
      try simp only [Act.put, zyc, zyd, zye, zyf, zyi, zyj]
      refine wpAnyH_ready (rs := [7]) (by kernel_rfl) (by simp) ?_
      refine AllReadyH.cons (o := _) rfl (fun K' hK => ?_) AllReadyH.nil
      rw [if_pos (by rfl)]
      refine wp_store_mid 90 _ _ rfl B5 0 (va (b.rv q)) rfl rfl (show u6.there B5 0 (va (b.rv q)).size from (L6.out.2.2.2.2.1.1).there) (infoV3 rfl) (va_one _) ?_
      have L7 := zh (show Below w.heap.size w (u6.setCells B5 0 (va (b.rv q)).toList) ∧ Blk (u6.setCells B5 0 (va (b.rv q)).toList) w.heap.size (a.a p) 48 ∧ Blk (u6.setCells B5 0 (va (b.rv q)).toList) (w.heap.size + 1) (b.a q) 48 ∧ (Blk (u6.setCells B5 0 (va (b.rv q)).toList) B4 (va (a.rv p)) 90 ∧ w.heap.size + 1 < B4) ∧ (Blk (u6.setCells B5 0 (va (b.rv q)).toList) B5 (va (b.rv q)) 90 ∧ w.heap.size + 1 < B5) ∧ True from ⟨(Wr.all B5 (va (b.rv q)).toList 0 u6).below _ _ (by have := L6.out.2.2.2.2.1.2; omega) (L6.out.1), (L6.out.2.1).wr (Wr.all B5 (va (b.rv q)).toList 0 u6) (by have := L6.out.2.2.2.2.1.2; omega), (L6.out.2.2.1).wr (Wr.all B5 (va (b.rv q)).toList 0 u6) (by have := L6.out.2.2.2.2.1.2; omega), ⟨(L6.out.2.2.2.1.1).wr (Wr.all B5 (va (b.rv q)).toList 0 u6) (by have := L6.out.2.2.2.2.1.2; have := NE.out; omega), L6.out.2.2.2.1.2⟩, ⟨Blk.stored (L6.out.2.2.2.2.1.1) rfl, L6.out.2.2.2.2.1.2⟩, trivial⟩)
      obtain ⟨u7, hu7⟩ : ∃ v, u6.setCells B5 0 (va (b.rv q)).toList = v := ⟨_, rfl⟩
      refine hK.out _ _ ⟨L7.out.2.1, L7.out.2.2.1⟩ (fun hH => ?_)
      clear hK K'
      rw [hu7] at L7 ⊢
      clear hu7
      try simp only [Act.put, zyc, zyd, zye, zyf, zyi, zyj]
      refine wpAnyH_done (by kernel_rfl) ?_ _
      go_wp2_with fail
      go_meet
      exact ⟨B4, B5, rfl, rfl, L7.out.1, L7.out.2.1, L7.out.2.2.1, L7.out.2.2.2.1.1, L7.out.2.2.2.2.1.1⟩
  ·go_simp
   refine hK.out _ _ ⟨K1.out.2.1.alloc _, K1.out.2.2.1.alloc _⟩ (fun hH => ?_)
   clear hK K'
   have lt5 := (K1.out.2.2.1).lt
   obtain ⟨B5, hB5⟩ : ∃ B, v0.heap.size = B := ⟨_, rfl⟩
   have qB5 : Blk (v0.alloc (.cells #[.slice none 0 0, .slice none 0 0, .slice none 0 0] 90)) B5 (va [RV0, RV0, RV0]) 90 := hB5 ▸ Blk.new v0 (va [RV0, RV0, RV0]) _
   rw [hB5] at lt5 ⊢
   obtain ⟨v1, hv1⟩ : ∃ v, v0.alloc (.cells #[.slice none 0 0, .slice none 0 0, .slice none 0 0] 90) = v := ⟨_, rfl⟩
   rw [hv1] at qB5 ⊢
   have K1 := zh (show Below w.heap.size w v1 ∧ Blk v1 w.heap.size (a.a p) 48 ∧ Blk v1 (w.heap.size + 1) (b.a q) 48 ∧ (Blk v1 B5 (va [RV0, RV0, RV0]) 90 ∧ w.heap.size + 1 < B5) ∧ True from hv1 ▸ ⟨(K1.out.1).alloc (K1.out.1).size _, (K1.out.2.1).alloc _, (K1.out.2.2.1).alloc _, ⟨hv1.symm ▸ qB5, lt5⟩, trivial⟩)
   clear lt5 qB5 hB5 hv1
   try simp only [Act.put, zyc, zyd, zye, zyf, zyi, zyj]
   refine wpAnyH_ready (rs := [1, 4]) (by kernel_rfl) (by simp) ?_
   refine AllReadyH.cons (o := _) rfl (fun K' hK => ?_) (AllReadyH.cons (o := _) rfl (fun K' hK => ?_) AllReadyH.nil)
   ·go_simp
    refine (rowsOf_is a p _).mono ?_
    rintro e v2 ⟨rfl, hb⟩
    have K2 := zh (show Below w.heap.size w v2 ∧ Blk v2 w.heap.size (a.a p) 48 ∧ Blk v2 (w.heap.size + 1) (b.a q) 48 ∧ (Blk v2 B5 (va [RV0, RV0, RV0]) 90 ∧ w.heap.size + 1 < B5) ∧ True from ⟨step0 (K1.out.1) hb, (K1.out.2.1).below hb, (K1.out.2.2.1).below hb, ⟨(K1.out.2.2.2.1.1).below hb, K1.out.2.2.2.1.2⟩, trivial⟩)
    clear hb
    go_wp2_with fail
    refine hK.out _ _ ⟨K2.out.2.1, K2.out.2.2.1⟩ (fun hH => ?_)
    clear hK K'
    try simp only [Act.put, zyc, zyd, zye, zyf, zyi, zyj]
    refine wpAnyH_ready (rs := [3, 4]) (by kernel_rfl) (by simp) ?_
    refine AllReadyH.cons (o := _) rfl (fun K' hK => ?_) (AllReadyH.cons (o := _) rfl (fun K' hK => ?_) AllReadyH.nil)
    ·go_simp
     refine (rowsOf_is b q _).mono ?_
     rintro e v3 ⟨rfl, hb⟩
     have K3 := zh (show Below w.heap.size w v3 ∧ Blk v3 w.heap.size (a.a p) 48 ∧ Blk v3 (w.heap.size + 1) (b.a q) 48 ∧ (Blk v3 B5 (va [RV0, RV0, RV0]) 90 ∧ w.heap.size + 1 < B5) ∧ True from ⟨step0 (K2.out.1) hb, (K2.out.2.1).below hb, (K2.out.2.2.1).below hb, ⟨(K2.out.2.2.2.1.1).below hb, K2.out.2.2.2.1.2⟩, trivial⟩)
     clear hb
     go_wp2_with fail
     refine hK.out _ _ ⟨K3.out.2.1, K3.out.2.2.1⟩ (fun hH => ?_)
     clear hK K'
     try simp only [Act.put, zyc, zyd, zye, zyf, zyi, zyj]
     refine wpAnyH_ready (rs := [4]) (by kernel_rfl) (by simp) ?_
     refine AllReadyH.cons (o := _) rfl (fun K' hK => ?_) AllReadyH.nil
     ·go_simp
      refine hK.out _ _ ⟨K3.out.2.1.alloc _, K3.out.2.2.1.alloc _⟩ (fun hH => ?_)
      clear hK K'
      have lt4 := (K3.out.2.2.1).lt
      have ne := (K3.out.2.2.2.1.1).lt
      obtain ⟨B4, hB4⟩ : ∃ B, v3.heap.size = B := ⟨_, rfl⟩
      have qB4 : Blk (v3.alloc (.cells #[.slice none 0 0, .slice none 0 0, .slice none 0 0] 90)) B4 (va [RV0, RV0, RV0]) 90 := hB4 ▸ Blk.new v3 (va [RV0, RV0, RV0]) _
      rw [hB4] at lt4 ne ⊢
      obtain ⟨v4, hv4⟩ : ∃ v, v3.alloc (.cells #[.slice none 0 0, .slice none 0 0, .slice none 0 0] 90) = v := ⟨_, rfl⟩
      rw [hv4] at qB4 ⊢
      have K4 := zh (show Below w.heap.size w v4 ∧ Blk v4 w.heap.size (a.a p) 48 ∧ Blk v4 (w.heap.size + 1) (b.a q) 48 ∧ (Blk v4 B5 (va [RV0, RV0, RV0]) 90 ∧ w.heap.size + 1 < B5) ∧ (Blk v4 B4 (va [RV0, RV0, RV0]) 90 ∧ w.heap.size + 1 < B4) ∧ True from hv4 ▸ ⟨(K3.out.1).alloc (K3.out.1).size _, (K3.out.2.1).alloc _, (K3.out.2.2.1).alloc _, ⟨(K3.out.2.2.2.1.1).alloc _, K3.out.2.2.2.1.2⟩, ⟨hv4.symm ▸ qB4, lt4⟩, trivial⟩)
      have NE := zh ne
      clear lt4 qB4 hB4 hv4 ne
      try simp only [Act.put, zyc, zyd, zye, zyf, zyi, zyj]
      refine wpAnyH_ready (rs := [6]) (by kernel_rfl) (by simp) ?_
      refine AllReadyH.cons (o := _) rfl (fun K' hK => ?_) AllReadyH.nil
      rw [if_pos (by rfl)]
      refine wp_store_mid 90 _ _ rfl B4 0 (va (a.rv p)) rfl rfl (show v4.there B4 0 (va (a.rv p)).size from (K4.out.2.2.2.2.1.1).there) (infoV3 rfl) (va_one _) ?_
      have L6 := zh (show Below w.heap.size w (v4.setCells B4 0 (va (a.rv p)).toList) ∧ Blk (v4.setCells B4 0 (va (a.rv p)).toList) w.heap.size (a.a p) 48 ∧ Blk (v4.setCells B4 0 (va (a.rv p)).toList) (w.heap.size + 1) (b.a q) 48 ∧ (Blk (v4.setCells B4 0 (va (a.rv p)).toList) B5 (va [RV0, RV0, RV0]) 90 ∧ w.heap.size + 1 < B5) ∧ (Blk (v4.setCells B4 0 (va (a.rv p)).toList) B4 (va (a.rv p)) 90 ∧ w.heap.size + 1 < B4) ∧ True from ⟨(Wr.all B4 (va (a.rv p)).toList 0 v4).below _ _ (by have := K4.out.2.2.2.2.1.2; omega) (K4.out.1), (K4.out.2.1).wr (Wr.all B4 (va (a.rv p)).toList 0 v4) (by have := K4.out.2.2.2.2.1.2; omega), (K4.out.2.2.1).wr (Wr.all B4 (va (a.rv p)).toList 0 v4) (by have := K4.out.2.2.2.2.1.2; omega), ⟨(K4.out.2.2.2.1.1).wr (Wr.all B4 (va (a.rv p)).toList 0 v4) (by have := K4.out.2.2.2.2.1.2; have := NE.out; omega), K4.out.2.2.2.1.2⟩, ⟨Blk.stored (K4.out.2.2.2.2.1.1) rfl, K4.out.2.2.2.2.1.2⟩, trivial⟩)
      obtain ⟨u6, hu6⟩ : ∃ v, v4.setCells B4 0 (va (a.rv p)).toList = v := ⟨_, rfl⟩
      refine hK.out _ _ ⟨L6.out.2.1, L6.out.2.2.1⟩ (fun hH => ?_)
      clear hK K'
      rw [hu6] at L6 ⊢
      clear hu6
      try simp only [Act.put, zyc, zyd, zye, zyf, zyi, zyj]
      refine wpAnyH_ready (rs := [7]) (by kernel_rfl) (by simp) ?_
      refine AllReadyH.cons (o := _) rfl (fun K' hK => ?_) AllReadyH.nil
      rw [if_pos (by rfl)]
      refine wp_store_mid 90 _ _ rfl B5 0 (va (b.rv q)) rfl rfl (show u6.there B5 0 (va (b.rv q)).size from (L6.out.2.2.2.1.1).there) (infoV3 rfl) (va_one _) ?_
      have L7 := zh (show Below w.heap.size w (u6.setCells B5 0 (va (b.rv q)).toList) ∧ Blk (u6.setCells B5 0 (va (b.rv q)).toList) w.heap.size (a.a p) 48 ∧ Blk (u6.setCells B5 0 (va (b.rv q)).toList) (w.heap.size + 1) (b.a q) 48 ∧ (Blk (u6.setCells B5 0 (va (b.rv q)).toList) B5 (va (b.rv q)) 90 ∧ w.heap.size + 1 < B5) ∧ (Blk (u6.setCells B5 0 (va (b.rv q)).toList) B4 (va (a.rv p)) 90 ∧ w.heap.size + 1 < B4) ∧ True from ⟨(Wr.all B5 (va (b.rv q)).toList 0 u6).below _ _ (by have := L6.out.2.2.2.1.2; omega) (L6.out.1), (L6.out.2.1).wr (Wr.all B5 (va (b.rv q)).toList 0 u6) (by have := L6.out.2.2.2.1.2; omega), (L6.out.2.2.1).wr (Wr.all B5 (va (b.rv q)).toList 0 u6) (by have := L6.out.2.2.2.1.2; omega), ⟨Blk.stored (L6.out.2.2.2.1.1) rfl, L6.out.2.2.2.1.2⟩, ⟨(L6.out.2.2.2.2.1.1).wr (Wr.all B5 (va (b.rv q)).toList 0 u6) (by have := L6.out.2.2.2.1.2; have := NE.out; omega), L6.out.2.2.2.2.1.2⟩, trivial⟩)
      obtain ⟨u7, hu7⟩ : ∃ v, u6.setCells B5 0 (va (b.rv q)).toList = v := ⟨_, rfl⟩
      refine hK.out _ _ ⟨L7.out.2.1, L7.out.2.2.1⟩ (fun hH => ?_)
      clear hK K'
      rw [hu7] at L7 ⊢
      clear hu7
      try simp only [Act.put, zyc, zyd, zye, zyf, zyi, zyj]
      refine wpAnyH_done (by kernel_rfl) ?_ _
      go_wp2_with fail
      go_meet
      exact ⟨B4, B5, rfl, rfl, L7.out.1, L7.out.2.1, L7.out.2.2.1, L7.out.2.2.2.2.1.1, L7.out.2.2.2.1.1⟩
    ·go_simp
     refine hK.out _ _ ⟨K2.out.2.1.alloc _, K2.out.2.2.1.alloc _⟩ (fun hH => ?_)
     clear hK K'
     have lt4 := (K2.out.2.2.1).lt
     have ne := (K2.out.2.2.2.1.1).lt
     obtain ⟨B4, hB4⟩ : ∃ B, v2.heap.size = B := ⟨_, rfl⟩
     have qB4 : Blk (v2.alloc (.cells #[.slice none 0 0, .slice none 0 0, .slice none 0 0] 90)) B4 (va [RV0, RV0, RV0]) 90 := hB4 ▸ Blk.new v2 (va [RV0, RV0, RV0]) _
     rw [hB4] at lt4 ne ⊢
     obtain ⟨v3, hv3⟩ : ∃ v, v2.alloc (.cells #[.slice none 0 0, .slice none 0 0, .slice none 0 0] 90) = v := ⟨_, rfl⟩
     rw [hv3] at qB4 ⊢
     have K3 := zh (show Below w.heap.size w v3 ∧ Blk v3 w.heap.size (a.a p) 48 ∧ Blk v3 (w.heap.size + 1) (b.a q) 48 ∧ (Blk v3 B5 (va [RV0, RV0, RV0]) 90 ∧ w.heap.size + 1 < B5) ∧ (Blk v3 B4 (va [RV0, RV0, RV0]) 90 ∧ w.heap.size + 1 < B4) ∧ True from hv3 ▸ ⟨(K2.out.1).alloc (K2.out.1).size _, (K2.out.2.1).alloc _, (K2.out.2.2.1).alloc _, ⟨(K2.out.2.2.2.1.1).alloc _, K2.out.2.2.2.1.2⟩, ⟨hv3.symm ▸ qB4, lt4⟩, trivial⟩)
     have NE := zh ne
     clear lt4 qB4 hB4 hv3 ne
     try simp only [Act.put, zyc, zyd, zye, zyf, zyi, zyj]
     refine wpAnyH_ready (rs := [3]) (by kernel_rfl) (by simp) ?_
     refine AllReadyH.cons (o := _) rfl (fun K' hK => ?_) AllReadyH.nil
     ·go_simp
      refine (rowsOf_is b q _).mono ?_
      rintro e v4 ⟨rfl, hb⟩
      have K4 := zh (show Below w.heap.size w v4 ∧ Blk v4 w.heap.size (a.a p) 48 ∧ Blk v4 (w.heap.size + 1) (b.a q) 48 ∧ (Blk v4 B5 (va [RV0, RV0, RV0]) 90 ∧ w.heap.size + 1 < B5) ∧ (Blk v4 B4 (va [RV0, RV0, RV0]) 90 ∧ w.heap.size + 1 < B4) ∧ True from ⟨step0 (K3.out.1) hb, (K3.out.2.1).below hb, (K3.out.2.2.1).below hb, ⟨(K3.out.2.2.2.1.1).below hb, K3.out.2.2.2.1.2⟩, ⟨(K3.out.2.2.2.2.1.1).below hb, K3.out.2.2.2.2.1.2⟩, trivial⟩)
      clear hb
      go_wp2_with fail
      refine hK.out _ _ ⟨K4.out.2.1, K4.out.2.2.1⟩ (fun hH => ?_)
      clear hK K'
      try simp only [Act.put, zyc, zyd, zye, zyf, zyi, zyj]
      refine wpAnyH_ready (rs := [6]) (by kernel_rfl) (by simp) ?_
      refine AllReadyH.cons (o := _) rfl (fun K' hK => ?_) AllReadyH.nil
      rw [if_pos (by rfl)]
      refine wp_store_mid 90 _ _ rfl B4 0 (va (a.rv p)) rfl rfl (show v4.there B4 0 (va (a.rv p)).size from (K4.out.2.2.2.2.1.1).there) (infoV3 rfl) (va_one _) ?_
      have L6 := zh (show Below w.heap.size w (v4.setCells B4 0 (va (a.rv p)).toList) ∧ Blk (v4.setCells B4 0 (va (a.rv p)).toList) w.heap.size (a.a p) 48 ∧ Blk (v4.setCells B4 0 (va (a.rv p)).toList) (w.heap.size + 1) (b.a q) 48 ∧ (Blk (v4.setCells B4 0 (va (a.rv p)).toList) B5 (va [RV0, RV0, RV0]) 90 ∧ w.heap.size + 1 < B5) ∧ (Blk (v4.setCells B4 0 (va (a.rv p)).toList) B4 (va (a.rv p)) 90 ∧ w.heap.size + 1 < B4) ∧ True from ⟨(Wr.all B4 (va (a.rv p)).toList 0 v4).below _ _ (by have := K4.out.2.2.2.2.1.2; omega) (K4.out.1), (K4.out.2.1).wr (Wr.all B4 (va (a.rv p)).toList 0 v4) (by have := K4.out.2.2.2.2.1.2; omega), (K4.out.2.2.1).wr (Wr.all B4 (va (a.rv p)).toList 0 v4) (by have := K4.out.2.2.2.2.1.2; omega), ⟨(K4.out.2.2.2.1.1).wr (Wr.all B4 (va (a.rv p)).toList 0 v4) (by have := K4.out.2.2.2.2.1.2; have := NE.out; omega), K4.out.2.2.2.1.2⟩, ⟨Blk.stored (K4.out.2.2.2.2.1.1) rfl, K4.out.2.2.2.2.1.2⟩, trivial⟩)
      obtain ⟨u6, hu6⟩ : ∃ v, v4.setCells B4 0 (va (a.rv p)).toList = v := ⟨_, rfl⟩
      refine hK.out _ _ ⟨L6.out.2.1, L6.out.2.2.1⟩ (fun hH => ?_)
      clear hK K'
      rw [hu6] at L6 ⊢
      clear hu6
      try simp only [Act.put, zyc, zyd, zye, zyf, zyi, zyj]
      refine wpAnyH_ready (rs := [7]) (by kernel_rfl) (by simp) ?_
      refine AllReadyH.cons (o := _) rfl (fun K' hK => ?_) AllReadyH.nil
      rw [if_pos (by rfl)]
      refine wp_store_mid 90 _ _ rfl B5 0 (va (b.rv q)) rfl rfl (show u6.there B5 0 (va (b.rv q)).size from (L6.out.2.2.2.1.1).there) (infoV3 rfl) (va_one _) ?_
      have L7 := zh (show Below w.heap.size w (u6.setCells B5 0 (va (b.rv q)).toList) ∧ Blk (u6.setCells B5 0 (va (b.rv q)).toList) w.heap.size (a.a p) 48 ∧ Blk (u6.setCells B5 0 (va (b.rv q)).toList) (w.heap.size + 1) (b.a q) 48 ∧ (Blk (u6.setCells B5 0 (va (b.rv q)).toList) B5 (va (b.rv q)) 90 ∧ w.heap.size + 1 < B5) ∧ (Blk (u6.setCells B5 0 (va (b.rv q)).toList) B4 (va (a.rv p)) 90 ∧ w.heap.size + 1 < B4) ∧ True from ⟨(Wr.all B5 (va (b.rv q)).toList 0 u6).below _ _ (by have := L6.out.2.2.2.1.2; omega) (L6.out.1), (L6.out.2.1).wr (Wr.all B5 (va (b.rv q)).toList 0 u6) (by have := L6.out.2.2.2.1.2; omega), (L6.out.2.2.1).wr (Wr.all B5 (va (b.rv q)).toList 0 u6) (by have := L6.out.2.2.2.1.2; omega), ⟨Blk.stored (L6.out.2.2.2.1.1) rfl, L6.out.2.2.2.1.2⟩, ⟨(L6.out.2.2.2.2.1.1).wr (Wr.all B5 (va (b.rv q)).toList 0 u6) (by have := L6.out.2.2.2.1.2; have := NE.out; omega), L6.out.2.2.2.2.1.2⟩, trivial⟩)
      obtain ⟨u7, hu7⟩ : ∃ v, u6.setCells B5 0 (va (b.rv q)).toList = v := ⟨_, rfl⟩
      refine hK.out _ _ ⟨L7.out.2.1, L7.out.2.2.1⟩ (fun hH => ?_)
      clear hK K'
      rw [hu7] at L7 ⊢
      clear hu7
      try simp only [Act.put, zyc, zyd, zye, zyf, zyi, zyj]
      refine wpAnyH_done (by kernel_rfl) ?_ _
      go_wp2_with fail
      go_meet
      exact ⟨B4, B5, rfl, rfl, L7.out.1, L7.out.2.1, L7.out.2.2.1, L7.out.2.2.2.2.1.1, L7.out.2.2.2.1.1⟩
   ·go_simp
    refine hK.out _ _ ⟨K1.out.2.1.alloc _, K1.out.2.2.1.alloc _⟩ (fun hH => ?_)
    clear hK K'
    have lt4 := (K1.out.2.2.1).lt
    have ne := (K1.out.2.2.2.1.1).lt
    obtain ⟨B4, hB4⟩ : ∃ B, v1.heap.size = B := ⟨_, rfl⟩
    have qB4 : Blk (v1.alloc (.cells #[.slice none 0 0, .slice none 0 0, .slice none 0 0] 90)) B4 (va [RV0, RV0, RV0]) 90 := hB4 ▸ Blk.new v1 (va [RV0, RV0, RV0]) _
    rw [hB4] at lt4 ne ⊢
    obtain ⟨v2, hv2⟩ : ∃ v, v1.alloc (.cells #[.slice none 0 0, .slice none 0 0, .slice none 0 0] 90) = v := ⟨_, rfl⟩
    rw [hv2] at qB4 ⊢
    have K2 := zh (show Below w.heap.size w v2 ∧ Blk v2 w.heap.size (a.a p) 48 ∧ Blk v2 (w.heap.size + 1) (b.a q) 48 ∧ (Blk v2 B5 (va [RV0, RV0, RV0]) 90 ∧ w.heap.size + 1 < B5) ∧ (Blk v2 B4 (va [RV0, RV0, RV0]) 90 ∧ w.heap.size + 1 < B4) ∧ True from hv2 ▸ ⟨(K1.out.1).alloc (K1.out.1).size _, (K1.out.2.1).alloc _, (K1.out.2.2.1).alloc _, ⟨(K1.out.2.2.2.1.1).alloc _, K1.out.2.2.2.1.2⟩, ⟨hv2.symm ▸ qB4, lt4⟩, trivial⟩)
    have NE := zh ne
    clear lt4 qB4 hB4 hv2 ne
    try simp only [Act.put, zyc, zyd, zye, zyf, zyi, zyj]
    refine wpAnyH_ready (rs := [1]) (by kernel_rfl) (by simp) ?_
    refine AllReadyH.cons (o := _) rfl (fun K' hK => ?_) AllReadyH.nil
    ·go_simp
     refine (rowsOf_is a p _).mono ?_
     rintro e v3 ⟨rfl, hb⟩
     have K3 := zh (show Below w.heap.size w v3 ∧ Blk v3 w.heap.size (a.a p) 48 ∧ Blk v3 (w.heap.size + 1) (b.a q) 48 ∧ (Blk v3 B5 (va [RV0, RV0, RV0]) 90 ∧ w.heap.size + 1 < B5) ∧ (Blk v3 B4 (va [RV0, RV0, RV0]) 90 ∧ w.heap.size + 1 < B4) ∧ True from ⟨step0 (K2.out.1) hb, (K2.out.2.1).below hb, (K2.out.2.2.1).below hb, ⟨(K2.out.2.2.2.1.1).below hb, K2.out.2.2.2.1.2⟩, ⟨(K2.out.2.2.2.2.1.1).below hb, K2.out.2.2.2.2.1.2⟩, trivial⟩)
     clear hb
     go_wp2_with fail
     refine hK.out _ _ ⟨K3.out.2.1, K3.out.2.2.1⟩ (fun hH => ?_)
     clear hK K'
     try simp only [Act.put, zyc, zyd, zye, zyf, zyi, zyj]
     refine wpAnyH_ready (rs := [3]) (by kernel_rfl) (by simp) ?_
     refine AllReadyH.cons (o := _) rfl (fun K' hK => ?_) AllReadyH.nil
     ·go_simp
      refine (rowsOf_is b q _).mono ?_
      rintro e v4 ⟨rfl, hb⟩
      have K4 := zh (show Below w.heap.size w v4 ∧ Blk v4 w.heap.size (a.a p) 48 ∧ Blk v4 (w.heap.size + 1) (b.a q) 48 ∧ (Blk v4 B5 (va [RV0, RV0, RV0]) 90 ∧ w.heap.size + 1 < B5) ∧ (Blk v4 B4 (va [RV0, RV0, RV0]) 90 ∧ w.heap.size + 1 < B4) ∧ True from ⟨step0 (K3.out.1) hb, (K3.out.2.1).below hb, (K3.out.2.2.1).below hb, ⟨(K3.out.2.2.2.1.1).below hb, K3.out.2.2.2.1.2⟩, ⟨(K3.out.2.2.2.2.1.1).below hb, K3.out.2.2.2.2.1.2⟩, trivial⟩)
      clear hb
      go_wp2_with fail
      refine hK.out _ _ ⟨K4.out.2.1, K4.out.2.2.1⟩ (fun hH => ?_)
      clear hK K'
      try simp only [Act.put, zyc, zyd, zye, zyf, zyi, zyj]
      refine wpAnyH_ready (rs := [6]) (by kernel_rfl) (by simp) ?_
      refine AllReadyH.cons (o := _) rfl (fun K' hK => ?_) AllReadyH.nil
      rw [if_pos (by rfl)]
      refine wp_store_mid 90 _ _ rfl B4 0 (va (a.rv p)) rfl rfl (show v4.there B4 0 (va (a.rv p)).size from (K4.out.2.2.2.2.1.1).there) (infoV3 rfl) (va_one _) ?_
      have L6 := zh (show Below w.heap.size w (v4.setCells B4 0 (va (a.rv p)).toList) ∧ Blk (v4.setCells B4 0 (va (a.rv p)).toList) w.heap.size (a.a p) 48 ∧ Blk (v4.setCells B4 0 (va (a.rv p)).toList) (w.heap.size + 1) (b.a q) 48 ∧ (Blk (v4.setCells B4 0 (va (a.rv p)).toList) B5 (va [RV0, RV0, RV0]) 90 ∧ w.heap.size + 1 < B5) ∧ (Blk (v4.setCells B4 0 (va (a.rv p)).toList) B4 (va (a.rv p)) 90 ∧ w.heap.size + 1 < B4) ∧ True from ⟨(Wr.all B4 (va (a.rv p)).toList 0 v4).below _ _ (by have := K4.out.2.2.2.2.1.2; omega) (K4.out.1), (K4.out.2.1).wr (Wr.all B4 (va (a.rv p)).toList 0 v4) (by have := K4.out.2.2.2.2.1.2; omega), (K4.out.2.2.1).wr (Wr.all B4 (va (a.rv p)).toList 0 v4) (by have := K4.out.2.2.2.2.1.2; omega), ⟨(K4.out.2.2.2.1.1).wr (Wr.all B4 (va (a.rv p)).toList 0 v4) (by have := K4.out.2.2.2.2.1.2; have := NE.out; omega), K4.out.2.2.2.1.2⟩, ⟨Blk.stored (K4.out.2.2.2.2.1.1) rfl, K4.out.2.2.2.2.1.2⟩, trivial⟩)
      obtain ⟨u6, hu6⟩ : ∃ v, v4.setCells B4 0 (va (a.rv p)).toList = v := ⟨_, rfl⟩
      refine hK.out _ _ ⟨L6.out.2.1, L6.out.2.2.1⟩ (fun hH => ?_)
      clear hK K'
      rw [hu6] at L6 ⊢
      clear hu6
      try simp only [Act.put, zyc, zyd, zye, zyf, zyi, zyj]
      refine wpAnyH_ready (rs := [7]) (by kernel_rfl) (by simp) ?_
      refine AllReadyH.cons (o := _) rfl (fun K' hK => ?_) AllReadyH.nil
      rw [if_pos (by rfl)]
      refine wp_store_mid 90 _ _ rfl B5 0 (va (b.rv q)) rfl rfl (show u6.there B5 0 (va (b.rv q)).size from (L6.out.2.2.2.1.1).there) (infoV3 rfl) (va_one _) ?_
      have L7 := zh (show Below w.heap.size w (u6.setCells B5 0 (va (b.rv q)).toList) ∧ Blk (u6.setCells B5 0 (va (b.rv q)).toList) w.heap.size (a.a p) 48 ∧ Blk (u6.setCells B5 0 (va (b.rv q)).toList) (w.heap.size + 1) (b.a q) 48 ∧ (Blk (u6.setCells B5 0 (va (b.rv q)).toList) B5 (va (b.rv q)) 90 ∧ w.heap.size + 1 < B5) ∧ (Blk (u6.setCells B5 0 (va (b.rv q)).toList) B4 (va (a.rv p)) 90 ∧ w.heap.size + 1 < B4) ∧ True from ⟨(Wr.all B5 (va (b.rv q)).toList 0 u6).below _ _ (by have := L6.out.2.2.2.1.2; omega) (L6.out.1), (L6.out.2.1).wr (Wr.all B5 (va (b.rv q)).toList 0 u6) (by have := L6.out.2.2.2.1.2; omega), (L6.out.2.2.1).wr (Wr.all B5 (va (b.rv q)).toList 0 u6) (by have := L6.out.2.2.2.1.2; omega), ⟨Blk.stored (L6.out.2.2.2.1.1) rfl, L6.out.2.2.2.1.2⟩, ⟨(L6.out.2.2.2.2.1.1).wr (Wr.all B5 (va (b.rv q)).toList 0 u6) (by have := L6.out.2.2.2.1.2; have := NE.out; omega), L6.out.2.2.2.2.1.2⟩, trivial⟩)
      obtain ⟨u7, hu7⟩ : ∃ v, u6.setCells B5 0 (va (b.rv q)).toList = v := ⟨_, rfl⟩
      refine hK.out _ _ ⟨L7.out.2.1, L7.out.2.2.1⟩ (fun hH => ?_)
      clear hK K'
      rw [hu7] at L7 ⊢
      clear hu7
      try simp only [Act.put, zyc, zyd, zye, zyf, zyi, zyj]
      refine wpAnyH_done (by kernel_rfl) ?_ _
      go_wp2_with fail
      go_meet
      exact ⟨B4, B5, rfl, rfl, L7.out.1, L7.out.2.1, L7.out.2.2.1, L7.out.2.2.2.2.1.1, L7.out.2.2.2.1.1⟩
 case rest =>
  obtain ⟨b5, b6, rfl, rfl, hbel, hA, hB, h5, h6⟩ := hcut
  rename World => W3
  have K := zh (za hbel (za hA (za hB (za h5 h6))))
  clear hbel hA hB h5 h6 K0
  go_wp2
  go_loopw [31] (fun i wr => ∃ j : Nat, i = .int .i64 j ∧ j ≤ 3 ∧ (∀ (i : Nat) (y z : RV), (a.rv p)[i]? = some y → (b.rv q)[i]? = some z → i < j → Rk.rs y.xs z.xs = true) ∧ Below w.heap.size w wr ∧ Blk wr w.heap.size (a.a p) 48 ∧ Blk wr (w.heap.size + 1) (b.a q) 48 ∧ Blk wr b5 (va (a.rv p)) 90 ∧ Blk wr b6 (va (b.rv q)) 90) (fun i _ => 3 - (intOf i).toNat)
  case atStart => exact ⟨0, rfl, by omega, fun i _ _ _ _ h => by omega, K.out⟩
  case round =>
   obtain ⟨j, rfl, hj, hall, hbel, hA, hB, h5, h6⟩ := hrel
   have J := zh (za hbel (za hA (za hB (za h5 (za h6 hall)))))
   clear hbel hA hB h5 h6 hall
   by_cases hlt : j < 3
   ·have g1 : j < (a.rv p).length := hlt
    have g2 : j < (b.rv q).length := hlt
    obtain ⟨y, hy⟩ : ∃ y, (a.rv p)[j]? = some y := ⟨_, List.getElem?_eq_getElem g1⟩
    obtain ⟨z, hz⟩ : ∃ z, (b.rv q)[j]? = some z := ⟨_, List.getElem?_eq_getElem g2⟩
    have hx : (va (a.rv p))[j]? = some (.slice y.ao y.xs.length y.cap) := by rw [va_get, hy]; rfl
    have hx2 : (va (b.rv q))[j]? = some (.slice z.ao z.xs.length z.cap) := by rw [va_get, hz]; rfl
    obtain ⟨s, hs⟩ : ∃ s, Rk.rs y.xs z.xs = s := ⟨_, rfl⟩
    have Y := zh (za (List.mem_of_getElem? hy) (za (List.mem_of_getElem? hz) (za hs (za hy hz))))
    have hi : (j : Int) < 3 := by omega
    have C := zh (za (J.out.2.2.2.1.cell j |>.trans hx) (J.out.2.2.2.2.1.cell j |>.trans hx2))
    clear hs hy hz g1 g2 hx hx2
    go_wp2
    go_region_held3 (fun v => Below wr.heap.size wr v ∧ v.cell? ⟨b5, j, none⟩ = some (.slice y.ao y.xs.length y.cap) ∧ v.cell? ⟨b6, j, none⟩ = some (.slice z.ao z.xs.length z.cap))
     (first | exact ⟨(Below.refl _ _).drew, C.out.1, C.out.2⟩ | exact ⟨step0 ‹Below wr.heap.size wr _ ∧ _›.1 hb, keep0 C.out.1 (step0 ‹Below wr.heap.size wr _ ∧ _›.1 hb), keep0 C.out.2 (step0 ‹Below wr.heap.size wr _ ∧ _›.1 hb)⟩)
     (first | (go_at_call 54; refine (Rk.rowsSame_is y.xs z.xs s y.ao z.ao y.cap z.cap _ (by have := H.out.2.2.2.1 y Y.out.1; omega) (by have := H.out.2.2.2.2.1 z Y.out.2.1; omega) ((rv_in (H.out.1.below J.out.1) y Y.out.1).below (‹Below wr.heap.size wr _ ∧ _›.1)) ((rv_in (H.out.2.1.below J.out.1) z Y.out.2.1).below (‹Below wr.heap.size wr _ ∧ _›.1)) Y.out.2.2.1).mono ?_; rintro e w6 ⟨rfl, hb⟩))
    have B6 := zh (show Below wr.heap.size wr w6 from ‹Below wr.heap.size wr w6 ∧ _›.1)
    have K6 := zh (za (step0 J.out.1 B6.out) (za (J.out.2.1.below B6.out) (za (J.out.2.2.1.below B6.out) (za (J.out.2.2.2.1.below B6.out) (J.out.2.2.2.2.1.below B6.out)))))
    cases s with
    | true =>
     go_wp2
     go_roundw
     case rel =>
      refine ⟨j + 1, by go_num, hlt, fun i y' z' h1 h2 hi' => ?_, K6.out⟩
      by_cases e : i = j
      ·subst e
       obtain rfl := Option.some.inj (h1.symm.trans Y.out.2.2.2.1)
       obtain rfl := Option.some.inj (h2.symm.trans Y.out.2.2.2.2)
       exact Y.out.2.2.1
      ·exact J.out.2.2.2.2.2 i y' z' h1 h2 (by omega)
     case measure => simp [intOf]; omega
    | false =>
     have FN := zh (show r = false from by
      rw [← H.out.2.2.2.2.2]
      have e := Y.out.2.2.1
      have hy := Y.out.2.2.2.1
      have hz := Y.out.2.2.2.2
      match j, hlt, hy, hz with
      | 0, _, hy, hz =>
       obtain rfl := Option.some.inj hy
       obtain rfl := Option.some.inj hz
       rw [show Rk.rs a.row b.row = false from e]; rfl
      | 1, _, hy, hz =>
       obtain rfl := Option.some.inj hy
       obtain rfl := Option.some.inj hz
       rw [show Rk.rs a.lo b.lo = false from e]; simp
      | 2, _, hy, hz =>
       obtain rfl := Option.some.inj hy
       obtain rfl := Option.some.inj hz
       rw [show Rk.rs a.hi b.hi = false from e]; simp)
     go_wp2
     go_ret
     rw [FN.out]
     exact ⟨rfl, K6.out.1⟩
   ·obtain rfl : j = 3 := by omega
    have r0 : Rk.rs a.row b.row = true := J.out.2.2.2.2.2 0 _ _ rfl rfl (by decide)
    have r1 : Rk.rs a.lo b.lo = true := J.out.2.2.2.2.2 1 _ _ rfl rfl (by decide)
    have r2 : Rk.rs a.hi b.hi = true := J.out.2.2.2.2.2 2 _ _ rfl rfl (by decide)
    have hr := H.out.2.2.2.2.2
    rw [r0, r1, r2] at hr
    have qc := J.out.2.1.cell
    by_cases h6 : a.kind = 6
    ·have e6 : (a.kind != 6) = false := by simpa using h6
     have HRR := zh (show (decide (a.ch.pe = 0) && decide (b.ch.pe = 0) && decide (a.ch.pb = b.ch.pb)) = r from by rw [← hr]; simp [h6])
     clear h6 hr r0 r1 r2
     go_wp2_with (first | ((refine (?_ : wpList _ _ _ (Oper.mk _ (Op.load 32 _) _ _ _ _ :: _) _ _)); refine wpList_load_partg (by rfl) 32 48 _ rfl (w.heap.size) 6 rfl (a.pre p) [] (a.ch.a p.n p.nc p.d p.dc) _ (J.out.2.1) rfl Tryz.underlying32 rfl infoCh ?_; go_frame) | ((refine (?_ : wpList _ _ _ (Oper.mk _ (Op.load 32 _) _ _ _ _ :: _) _ _)); refine wpList_load_partg (by rfl) 32 48 _ rfl (w.heap.size + 1) 6 rfl (b.pre q) [] (b.ch.a q.n q.nc q.d q.dc) _ (J.out.2.2.1) rfl Tryz.underlying32 rfl infoCh ?_; go_frame))
     refine (sameChange_is a.ch b.ch p.n p.nc p.d p.dc q.n q.nc q.d q.dc r _ (H.out.2.2.1.keep J.out.1) (H.out.1.below J.out.1).2.2.2.1 (H.out.2.1.below J.out.1).2.2.2.1 HRR.out).mono ?_
     rintro e w8 ⟨rfl, hb⟩
     have K8 := zh (step0 J.out.1 hb)
     clear hb qc
     go_wp2
     go_ret
     exact ⟨rfl, K8.out⟩
    ·have e6 : (a.kind != 6) = true := by simpa using h6
     have FN := zh (show r = true from by rw [← hr]; simp [h6])
     clear h6 hr r0 r1 r2
     go_wp2
     go_ret
     rw [FN.out]
     exact ⟨rfl, J.out.1⟩
theorem same_o (a b : O) (p q : Ps) (r : Bool) (w : World) (hg : Env w) (ha : InO w a p) (hb : InO w b q) (hla : ∀ y ∈ a.rv p, y.xs.length ≤ 1000000) (hlb : ∀ y ∈ b.rv q, y.xs.length ≤ 1000000) (h : a.sm b = r) :
  Calls Tryz.prog 21 #[.agg (a.a p), .agg (b.a q)] w fun e w' => e = .returned (.bool r) ∧ Below w.heap.size w w' := by
 subst h
 unfold O.sm
 by_cases h1 : a.kind = b.kind
 ·have e1 : (a.kind != b.kind) = false := by simpa using h1
  by_cases h2 : a.table = b.table
  ·by_cases h3 : a.max = b.max
   ·exact so_4 a b p q _ w hg ha hb hla hlb e1 h2 (by simpa using h3) (by simp [h1, h2, h3])
   ·rw [show (decide (a.kind = b.kind) && decide (a.table = b.table) && decide (a.max = b.max)) = false from by simp [h3]]
    exact so_3 a b p q w e1 h2 (by simpa using h3)
  ·rw [show (decide (a.kind = b.kind) && decide (a.table = b.table)) = false from by simp [h2]]
   exact so_2 a b p q w e1 h2
 ·rw [show decide (a.kind = b.kind) = false from by simp [h1]]
  exact so_1 a b p q w (by simpa using h1)
end Go.Proofs.YtmgdciihpjifgaaGreatDoor
