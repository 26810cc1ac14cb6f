/-
  Law OpsBack, walked. Conditions: what is asked lies in memory.
-/
import Derived.Test.YtmgdciihpjifgaaGreatDoorQpOpFew
import Derived.Test.YtmgdciihpjifgaaGreatDoorQpOpAwake
import Derived.Test.YtmgdciihpjifgaaGreatDoorQpOpRefO
namespace Go.Proofs.YtmgdciihpjifgaaGreatDoor
open Go.RowKit
set_option linter.unusedVariables false
set_option linter.unusedSimpArgs false

theorem opb_len {o : O} (h : o.pe = 0) : o.pb.length ≤ 10000 := by
  obtain ⟨h1, h2, h3, h4, h5, _⟩ := O.pe_ok h
  have ht : o.table.length ≤ 16 := by assumption
  have := tx_le ht
  have := un_le o.kind.toNat
  have := un_le o.max.toNat
  have := tpw_le o.row
  have := tpw_le o.lo
  have := tpw_le o.hi
  have := pb_le o.ch
  have hc : o.cb.length ≤ 3000 := by
    unfold O.cb
    split
    · assumption
    · simp
  unfold O.pb O.hd
  rw [if_neg (by simpa using h)]
  simp only [List.length_append]
  omega
theorem rv_few {o : O} (h : o.few) (p : Ps) : ∀ y ∈ o.rv p, y.xs.length ≤ 1000000 := by
  intro y hy
  have h1 := h.2.1.1
  have h2 := h.2.2.1.1
  have h3 := h.2.2.2.1.1
  simp only [O.rv, List.mem_cons, List.not_mem_nil, or_false] at hy
  rcases hy with rfl | rfl | rfl <;> simp only <;> omega
theorem rv_fewn {o : O} (h : o.few) (p : Ps) : ∀ y ∈ o.nrm.rv p, y.xs.length ≤ 1000000 := fun y hy => rv_few h p y hy

set_option maxHeartbeats 4000000 in
theorem opsBack_walk (o : O) (S : List UInt8) (p : Ps) (w : World) (hg : Env w) (hi : InO w o p) :
    Calls Tryz.prog 6 #[.agg (o.a p), .string ⟨S.toArray⟩] w fun e w' => e = .returned (.bool true) ∧ Below w.heap.size w w' := by
  have H := Lib.hid (And.intro hg hi)
  clear hg hi
  go_enter Tryz.func6, Tryz.ntmps6
  go_wp2_with ((refine (?_ : wpList _ _ _ (Oper.mk _ (Op.load 48 _) _ _ _ _ :: _) _ _)); refine wpList_load_blk rfl 48 _ rfl (w.heap.size) rfl (o.a p) _ (Blk.new w _ _) Tryz.underlying48 rfl (infoO) ?_; go_frame)
  by_cases hf : o.few
  · have RF := Lib.hid hf
    refine (fewop_y o p _ (H.out.2.below (below1 w _)) hf).mono ?_
    rintro e w1 ⟨rfl, hb⟩
    have K1 := Lib.hid (And.intro (step1 (Below.refl _ w) hb) ((Blk.new w (o.a p) 48).below hb))
    clear hb hf
    by_cases hS : (2000 : Int) < (S.length : Int)
    · go_wp2_with fail
      refine (awake_any _ (H.out.1.keep K1.out.1)).mono ?_
      rintro e wa ⟨rfl, hb⟩
      have KA := Lib.hid (step0 K1.out.1 hb)
      clear hb
      go_wp2
      go_ret
      exact ⟨rfl, KA.out⟩
    · have hS' : decide ((2000 : Int) < (S.length : Int)) = false := by rw [decide_eq_false_iff_not]; exact hS
      have lS := Lib.hid (show S.length ≤ 2000 by omega)
      clear hS
      go_wp2_with ((refine (?_ : wpList _ _ _ (Oper.mk _ (Op.load 48 _) _ _ _ _ :: _) _ _)); refine wpList_load_blk rfl 48 _ rfl (w.heap.size) rfl (o.a p) _ (K1.out.2) Tryz.underlying48 rfl (infoO) ?_; go_frame)
      obtain ⟨T, hT⟩ : ∃ T, o.pb = T := ⟨_, rfl⟩
      obtain ⟨E, hE⟩ : ∃ E, o.pe = E := ⟨_, rfl⟩
      have HT := Lib.hid (And.intro hT hE)
      clear hT hE hS'
      refine (puto_is o p T E _ (H.out.1.keep K1.out.1) (H.out.2.below K1.out.1) HT.out.1 HT.out.2).mono ?_
      rintro e w2 ⟨rfl, hb⟩
      have K2 := Lib.hid (And.intro (step0 K1.out.1 hb) (K1.out.2.below hb))
      clear hb
      by_cases hE : E = 0
      · subst hE
        have lT := Lib.hid (show T.length ≤ 10000 from HT.out.1 ▸ opb_len HT.out.2)
        have RD := Lib.hid (show rdo (T ++ S) = (o.nrm, S, 0) from HT.out.1 ▸ rdo_pb HT.out.2 H.out.2.2.2.2.2 S)
        have l1 : (9223372036854775807 < T.length + S.length) = False := by have := lT.out; have := lS.out; simp; omega
        have ct := cat_list T S
        go_wp2_with fail
        refine (reado_is (T ++ S) _ (H.out.1.keep K2.out.1) (by have := lT.out; have := lS.out; simp; omega)).mono ?_
        rintro e w3 hrp
        rw [RD.out] at hrp
        obtain ⟨p2, rfl, hI, hb⟩ := hrp
        have K3 := Lib.hid (And.intro (step0 K2.out.1 hb) (And.intro (K2.out.2.below hb) (hI.in (rdo_pe RD.out).2.2)))
        clear hI hb l1 ct
        go_wp2_with ((refine (?_ : wpList _ _ _ (Oper.mk _ (Op.store 48 _ _) _ _ _ _ :: _) _ _)); refine wpList_store_blk rfl 48 _ _ rfl (w3.heap.size) (O0.a P0) (o.nrm.a p2) rfl rfl (Blk.new' _ _ _ _ rfl) (by first | rfl | simp [sa_size]) (infoO) (O.a_one _ _) ?_)
        intro w4 q4 r4
        have bb := r4.below _ _ (Nat.le_refl _) (below1 w3 _)
        have K4 := Lib.hid (And.intro (step0 K3.out.1 bb) (And.intro (K3.out.2.1.below bb) (And.intro (K3.out.2.2.below bb) q4)))
        clear q4 r4 bb
        go_wp2_with (first | ((refine (?_ : wpList _ _ _ (Oper.mk _ (Op.load 48 _) _ _ _ _ :: _) _ _)); refine wpList_load_blkg (by rfl) 48 _ rfl (w.heap.size) rfl (o.a p) _ (K4.out.2.1) Tryz.underlying48 rfl infoO ?_; go_frame) | ((refine (?_ : wpList _ _ _ (Oper.mk _ (Op.load 48 _) _ _ _ _ :: _) _ _)); refine wpList_load_blkg (by rfl) 48 _ rfl (w3.heap.size) rfl (o.nrm.a p2) _ (K4.out.2.2.2) Tryz.underlying48 rfl infoO ?_; go_frame))
        refine (same_ro o o.nrm p p2 true _ (H.out.2.below K4.out.1) K4.out.2.2.1 (rv_few RF.out p) (O.sm_nrm HT.out.2)).mono ?_
        rintro e w5 ⟨rfl, hb⟩
        have K5 := Lib.hid (And.intro (step0 K4.out.1 hb) (And.intro (K4.out.2.1.below hb) (And.intro (K4.out.2.2.1.below hb) (K4.out.2.2.2.below hb))))
        clear hb
        go_wp2_with (first | ((refine (?_ : wpList _ _ _ (Oper.mk _ (Op.load 48 _) _ _ _ _ :: _) _ _)); refine wpList_load_blkg (by rfl) 48 _ rfl (w.heap.size) rfl (o.a p) _ (K5.out.2.1) Tryz.underlying48 rfl infoO ?_; go_frame) | ((refine (?_ : wpList _ _ _ (Oper.mk _ (Op.load 48 _) _ _ _ _ :: _) _ _)); refine wpList_load_blkg (by rfl) 48 _ rfl (w3.heap.size) rfl (o.nrm.a p2) _ (K5.out.2.2.2) Tryz.underlying48 rfl infoO ?_; go_frame))
        refine (same_o o o.nrm p p2 true _ (H.out.1.keep K5.out.1) (H.out.2.below K5.out.1) K5.out.2.2.1 (rv_few RF.out p) (rv_fewn RF.out p2) (O.sm_nrm HT.out.2)).mono ?_
        rintro e w6 ⟨rfl, hb⟩
        have K6 := Lib.hid (step0 K5.out.1 hb)
        clear hb
        go_wp2_with fail
        refine (awake_any _ (H.out.1.keep K6.out)).mono ?_
        rintro e wa ⟨rfl, hb⟩
        have KA := Lib.hid (step0 K6.out hb)
        clear hb
        go_wp2
        go_ret
        exact ⟨rfl, KA.out⟩
      · have e1 := bne_t hE
        obtain rfl : T = [] := HT.out.1.symm.trans (opb_bad (by rw [HT.out.2]; exact hE))
        clear hE
        go_wp2_with fail
        refine (awake_any _ (H.out.1.keep K2.out.1)).mono ?_
        rintro e wa ⟨rfl, hb⟩
        have KA := Lib.hid (step0 K2.out.1 hb)
        clear hb
        go_wp2
        go_ret
        exact ⟨rfl, KA.out⟩
  · refine (fewop_n o p _ (H.out.2.below (below1 w _)) hf).mono ?_
    rintro e w1 ⟨rfl, hb⟩
    have K1 := Lib.hid (step1 (Below.refl _ w) hb)
    clear hb hf
    go_wp2_with fail
    refine (awake_any _ (H.out.1.keep K1.out)).mono ?_
    rintro e wa ⟨rfl, hb⟩
    have KA := Lib.hid (step0 K1.out hb)
    clear hb
    go_wp2
    go_ret
    exact ⟨rfl, KA.out⟩

end Go.Proofs.YtmgdciihpjifgaaGreatDoor
