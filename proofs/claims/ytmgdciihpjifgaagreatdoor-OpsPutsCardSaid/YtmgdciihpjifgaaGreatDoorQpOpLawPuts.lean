/-
  Law OpsPuts, walked. Conditions: what is asked lies in memory.
-/
import Derived.Test.YtmgdciihpjifgaaGreatDoorQpOpFew
import Derived.Test.YtmgdciihpjifgaaGreatDoorQpOpAwake
import Derived.Test.YtmgdciihpjifgaaGreatDoorQpOpRefO
namespace Go.Proofs.YtmgdciihpjifgaaGreatDoor
open Go.RowKit
set_option linter.unusedVariables false

set_option maxHeartbeats 4000000 in
theorem opsPuts_walk (o : O) (p : Ps) (w : World) (hg : Env w) (hi : InO w o p) :
    Calls Tryz.prog 4 #[.agg (o.a p)] w fun e w' => e = .returned (.bool true) ∧ Below w.heap.size w w' := by
  have H := Lib.hid (And.intro hg hi)
  clear hg hi
  go_enter Tryz.func4, Tryz.ntmps4
  go_wp2_with ((refine (?_ : wpList _ _ _ (Oper.mk _ (Op.load 48 _) _ _ _ _ :: _) _ _)); refine wpList_load_blk rfl 48 _ rfl (w.heap.size) rfl (o.a p) _ (Blk.new w _ _) Tryz.underlying48 rfl (infoO) ?_; go_frame)
  by_cases hf : o.few
  · refine (fewop_y o p _ (H.out.2.below (below1 w _)) hf).mono ?_
    rintro e w1 ⟨rfl, hb⟩
    have K1 := Lib.hid (And.intro (step1 (Below.refl _ w) hb) ((Blk.new w (o.a p) 48).below hb))
    clear hb hf
    go_wp2_with ((refine (?_ : wpList _ _ _ (Oper.mk _ (Op.load 48 _) _ _ _ _ :: _) _ _)); refine wpList_load_blk rfl 48 _ rfl (w.heap.size) rfl (o.a p) _ (K1.out.2) Tryz.underlying48 rfl (infoO) ?_; go_frame)
    obtain ⟨T, hT⟩ : ∃ T, o.pb = T := ⟨_, rfl⟩
    obtain ⟨E, hE⟩ : ∃ E, o.pe = E := ⟨_, rfl⟩
    have HT := Lib.hid (And.intro hT hE)
    clear hT hE
    refine (puto_is o p T E _ (H.out.1.keep K1.out.1) (H.out.2.below K1.out.1) HT.out.1 HT.out.2).mono ?_
    rintro e w2 ⟨rfl, hb⟩
    have K2 := Lib.hid (And.intro (step0 K1.out.1 hb) (K1.out.2.below hb))
    clear hb
    go_wp2_with ((refine (?_ : wpList _ _ _ (Oper.mk _ (Op.load 48 _) _ _ _ _ :: _) _ _)); refine wpList_load_blk rfl 48 _ rfl (w.heap.size) rfl (o.a p) _ (K2.out.2) Tryz.underlying48 rfl (infoO) ?_; go_frame)
    refine (rputo_is o p T E _ (H.out.2.below K2.out.1) HT.out.1 HT.out.2).mono ?_
    rintro e w3 ⟨rfl, hb⟩
    have K3 := Lib.hid (step0 K2.out.1 hb)
    clear hb
    go_wp2_with fail
    refine (awake_any _ (H.out.1.keep K3.out)).mono ?_
    rintro e w4 ⟨rfl, hb⟩
    have K4 := Lib.hid (step0 K3.out hb)
    clear hb
    go_wp2
    go_ret
    exact ⟨rfl, K4.out⟩
  · refine (fewop_n o p _ (H.out.2.below (below1 w _)) hf).mono ?_
    rintro e w1 ⟨rfl, hb⟩
    have K1 := Lib.hid (step1 (Below.refl _ w) hb)
    clear hb hf
    go_wp2_with fail
    refine (awake_any _ (H.out.1.keep K1.out)).mono ?_
    rintro e w4 ⟨rfl, hb⟩
    have K4 := Lib.hid (step0 K1.out hb)
    clear hb
    go_wp2
    go_ret
    exact ⟨rfl, K4.out⟩

end Go.Proofs.YtmgdciihpjifgaaGreatDoor
