/-
  Law OpsChanges, walked. Conditions: the change lies in memory.
-/
import Derived.Test.YtmgdciihpjifgaaGreatDoorQcOpFew
import Derived.Test.YtmgdciihpjifgaaGreatDoorQcOpAwake
import Derived.Test.YtmgdciihpjifgaaGreatDoorQcOpRefH
import Derived.Test.YtmgdciihpjifgaaGreatDoorQcOpSameC
import Derived.Test.YtmgdciihpjifgaaGreatDoorQcOpReadG
set_option maxHeartbeats 4000000
namespace Go.Proofs.YtmgdciihpjifgaaGreatDoor
open Go.RowKit
set_option linter.unusedVariables false
set_option linter.unusedSimpArgs false
theorem opsChanges_walk (c : Ch) (S : List UInt8) (no : Option Addr) (nc : Nat) (dO : Option Addr) (dc : Nat) (w : World) (hg : Env w) (hi : InC w c no dO dc) :
    Calls Tryz.prog 3 #[.agg (c.a no nc dO dc), .string ⟨S.toArray⟩] w fun e w' => e = .returned (.bool true) ∧ Below w.heap.size w w' := by
  have H := Lib.hid (And.intro hg hi)
  clear hg hi
  go_enter Tryz.func3, Tryz.ntmps3
  go_wp2_with ((refine (?_ : wpList _ _ _ (Oper.mk _ (Op.load 32 _) _ _ _ _ :: _) _ _)); refine wpList_load_blk rfl 32 _ rfl (w.heap.size) rfl (c.a no nc dO dc) _ (Blk.new w _ _) Tryz.underlying32 rfl (infoCh) ?_; go_frame)
  by_cases hf : c.few
  · refine (cfew_yes c no nc dO dc _ (H.out.2.below (below1 w _)).1 (H.out.2.below (below1 w _)).2.1.1 hf.1 hf.2.1 hf.2.2.1 hf.2.2.2).mono ?_
    rintro e w1 ⟨rfl, hb⟩
    have K1 := Lib.hid (And.intro (step1 (Below.refl _ w) hb) ((Blk.new w (c.a no nc dO dc) 32).below hb))
    clear hb hf
    by_cases hS : (3000 : Int) < (S.length : Int)
    · go_wp2_with fail
      refine (awake_any _ (H.out.1.keep K1.out.1)).mono ?_
      rintro e wa ⟨rfl, hb⟩
      have KA := Lib.hid (step0 K1.out.1 hb)
      clear hb
      go_wp2
      go_ret
      exact ⟨rfl, KA.out⟩
    · have hS' : decide ((3000 : Int) < (S.length : Int)) = false := by rw [decide_eq_false_iff_not]; exact hS
      have lS := Lib.hid (show S.length ≤ 1000000 by omega)
      clear hS
      go_wp2_with ((refine (?_ : wpList _ _ _ (Oper.mk _ (Op.load 32 _) _ _ _ _ :: _) _ _)); refine wpList_load_blk rfl 32 _ rfl (w.heap.size) rfl (c.a no nc dO dc) _ (K1.out.2) Tryz.underlying32 rfl (infoCh) ?_; go_frame)
      clear hS'
      obtain ⟨T, hT⟩ : ∃ T, c.pb = T := ⟨_, rfl⟩
      obtain ⟨E, hE⟩ : ∃ E, c.pe = E := ⟨_, rfl⟩
      have HT := Lib.hid (And.intro hT hE)
      clear hT hE
      refine (pute_is c no nc dO dc T E _ (H.out.1.keep K1.out.1) (H.out.2.below K1.out.1) HT.out.1 HT.out.2).mono ?_
      rintro e w2 ⟨rfl, hb⟩
      have K2 := Lib.hid (And.intro (step0 K1.out.1 hb) (K1.out.2.below hb))
      clear hb
      go_wp2_with ((refine (?_ : wpList _ _ _ (Oper.mk _ (Op.load 32 _) _ _ _ _ :: _) _ _)); refine wpList_load_blk rfl 32 _ rfl (w.heap.size) rfl (c.a no nc dO dc) _ (K2.out.2) Tryz.underlying32 rfl (infoCh) ?_; go_frame)
      refine (rputc_is c no nc dO dc T E _ (H.out.2.below K2.out.1) HT.out.1 HT.out.2).mono ?_
      rintro e w3 ⟨rfl, hb⟩
      have K3 := Lib.hid (step0 K2.out.1 hb)
      clear hb
      obtain ⟨C, r, G, hR⟩ : ∃ C r G, rdch S = (C, r, G) := ⟨_, _, _, rfl⟩
      have HR := Lib.hid (show rdch S = (C, r, G) ∧ C.names.length ≤ 1000000 ∧ C.df.cs.length ≤ 1000 from ⟨hR, by have := rdch_nm S; rwa [hR] at this, by have := rdch_df S; rwa [hR] at this⟩)
      clear hR
      go_wp2_with fail
      refine (readChange_is S _ (H.out.1.keep K3.out) lS.out).mono ?_
      rintro e w4 hrc
      rw [HR.out.1] at hrc
      obtain ⟨n1, m1, d1, k1, rfl, s1, _, t1, _, _, hb⟩ := hrc
      simp only at s1 t1
      have K4 := Lib.hid (And.intro (step0 K3.out hb) (And.intro s1 t1))
      clear hb s1 t1
      go_wp2_with ((refine (?_ : wpList _ _ _ (Oper.mk _ (Op.store 32 _ _) _ _ _ _ :: _) _ _)); refine wpList_store_blk rfl 32 _ _ rfl (w4.heap.size) (Ch0.a none 0 none 0) (C.a n1 m1 d1 k1) rfl rfl (Blk.new' _ _ _ _ rfl) (by first | rfl | simp [sa_size]) (infoCh) (Ch.a_one _ _ _ _ _) ?_)
      intro w5 q5 r5
      have bb := r5.below _ _ (Nat.le_refl _) (below1 w4 _)
      have K5 := Lib.hid (And.intro (step0 K4.out.1 bb) (And.intro (K4.out.2.1.below bb) (And.intro (K4.out.2.2.below bb) q5)))
      clear q5 r5 bb
      go_wp2_with fail
      refine (rreadC_is S _ lS.out).mono ?_
      rintro e w6 hrc
      rw [HR.out.1] at hrc
      obtain ⟨n2, m2, d2, k2, rfl, s2, _, t2, _, _, hb⟩ := hrc
      simp only at s2 t2
      have K6 := Lib.hid (And.intro (step0 K5.out.1 hb) (And.intro (K5.out.2.1.below hb) (And.intro (K5.out.2.2.1.below hb) (And.intro (K5.out.2.2.2.below hb) (And.intro s2 t2)))))
      clear hb s2 t2
      go_wp2_with ((refine (?_ : wpList _ _ _ (Oper.mk _ (Op.store 32 _ _) _ _ _ _ :: _) _ _)); refine wpList_store_blk rfl 32 _ _ rfl (w6.heap.size) (Ch0.a none 0 none 0) (C.a n2 m2 d2 k2) rfl rfl (Blk.new' _ _ _ _ rfl) (by first | rfl | simp [sa_size]) (infoCh) (Ch.a_one _ _ _ _ _) ?_)
      intro w7 q7 r7
      have bb := r7.below _ _ (Nat.le_refl _) (below1 w6 _)
      have K7 := Lib.hid (And.intro (step0 K6.out.1 bb) (And.intro (K6.out.2.1.below bb) (And.intro (K6.out.2.2.1.below bb) (And.intro (K6.out.2.2.2.1.below bb) (And.intro (K6.out.2.2.2.2.1.below bb) (And.intro (K6.out.2.2.2.2.2.below bb) q7))))))
      clear q7 r7 bb
      go_wp2_with (first | ((refine (?_ : wpList _ _ _ (Oper.mk _ (Op.load 32 _) _ _ _ _ :: _) _ _)); refine wpList_load_blkg (by rfl) 32 _ rfl (w4.heap.size) rfl (C.a n1 m1 d1 k1) _ (K7.out.2.2.2.1) Tryz.underlying32 rfl infoCh ?_; go_frame) | ((refine (?_ : wpList _ _ _ (Oper.mk _ (Op.load 32 _) _ _ _ _ :: _) _ _)); refine wpList_load_blkg (by rfl) 32 _ rfl (w6.heap.size) rfl (C.a n2 m2 d2 k2) _ (K7.out.2.2.2.2.2.2) Tryz.underlying32 rfl infoCh ?_; go_frame))
      refine (sameC_self C n1 m1 d1 k1 n2 m2 d2 k2 _ K7.out.2.1 K7.out.2.2.2.2.1 K7.out.2.2.1 K7.out.2.2.2.2.2.1 HR.out.2.1 HR.out.2.2).mono ?_
      rintro e w8 ⟨rfl, hb⟩
      have K8 := Lib.hid (step0 K7.out.1 hb)
      clear hb
      go_wp2_with fail
      refine (awake_any _ (H.out.1.keep K8.out)).mono ?_
      rintro e wa ⟨rfl, hb⟩
      have KA := Lib.hid (step0 K8.out hb)
      clear hb
      go_wp2
      go_ret
      exact ⟨rfl, KA.out⟩
  · refine (cfew_no c no nc dO dc _ (H.out.2.below (below1 w _)).1 (H.out.2.below (below1 w _)).2.1.1 hf).mono ?_
    rintro e w1 ⟨rfl, hb⟩
    have K1 := Lib.hid (step1 (Below.refl _ w) hb)
    clear hb hf
    go_wp2_with fail
    refine (awake_any _ (H.out.1.keep K1.out)).mono ?_
    rintro e wa ⟨rfl, hb⟩
    have KA := Lib.hid (step0 K1.out hb)
    clear hb
    go_wp2
    go_ret
    exact ⟨rfl, KA.out⟩
end Go.Proofs.YtmgdciihpjifgaaGreatDoor
