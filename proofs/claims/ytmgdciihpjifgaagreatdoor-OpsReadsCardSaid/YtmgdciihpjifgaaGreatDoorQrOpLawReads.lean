/-
 Law OpsReads, walked. Condition: the library's variable lies as it is laid.
-/
import Derived.Test.YtmgdciihpjifgaaGreatDoorQrOpAwake
import Derived.Test.YtmgdciihpjifgaaGreatDoorQrOpSameR
import Derived.Test.YtmgdciihpjifgaaGreatDoorQrOpRefP
import Derived.Test.YtmgdciihpjifgaaGreatDoorQrOpMemO
set_option maxHeartbeats 4000000
namespace Go.Proofs.YtmgdciihpjifgaaGreatDoor
open Go.RowKit
set_option linter.unusedVariables false
set_option linter.unusedSimpArgs false
theorem rv_of {o : O} (h : o.pe = 0) (p : Ps) : ∀ y ∈ o.rv p, y.xs.length ≤ 1000000 := by
 intro y hy
 obtain ⟨_, _, _, _, _, h6, h7, h8, _⟩ := O.pe_ok h
 have h1 := (Rk.pe_len h6).1
 have h2 := (Rk.pe_len h7).1
 have h3 := (Rk.pe_len h8).1
 simp only [O.rv, List.mem_cons, List.not_mem_nil, or_false] at hy
 rcases hy with rfl | rfl | rfl <;> simp only <;> omega
theorem rdo_err {l : List UInt8} {o : O} {r : List UInt8} {E : Int} (h : rdo l = (o, r, E)) (hE : E ≠ 0) : o = O0 ∧ r = [] := by
 obtain ⟨a, q, e, h1⟩ : ∃ a q e, rop l = (a, q, e) := ⟨_, _, _, rfl⟩
 unfold rdo at h
 rw [h1] at h
 by_cases he : e = 0
 ·subst he
  rw [bnd_ok rfl] at h
  unfold rck2 at h
  split at h
  ·cases h; exact ⟨rfl, rfl⟩
  ·cases h; exact absurd rfl hE
 ·rw [bnd_err rfl he] at h
  cases h; exact ⟨rfl, rfl⟩
theorem okO0 : O0.okv := ⟨by simp [O0], by simp [O0], by simp [O0], okv0⟩
theorem reads_long (S : List UInt8) (w : World) (hg : Env w) (hl : 3000 < S.length) :
  Calls Tryz.prog 5 #[.string ⟨S.toArray⟩] w fun e w' => e = .returned (.bool true) ∧ Below w.heap.size w w' := by
 have H := zh (za hg trivial)
 have l1 : (3000 : Int) < (S.length : Int) := by omega
 clear hg hl
 go_enter Tryz.func5, Tryz.ntmps5
 go_wp2_with fail
 refine (awake_any _ H.out.1).mono ?_
 rintro e w1 ⟨rfl, hb⟩
 have K := zh hb
 clear hb
 go_wp2
 go_ret
 exact ⟨rfl, K.out⟩
theorem reads_ok (P r : List UInt8) (o : O) (w : World) (hg : Env w) (hl : (P ++ r).length ≤ 3000) (hP : o.pb = P) (hE : o.pe = 0) (hk : o.okv) (hr : rdo (P ++ r) = (o, r, 0)) :
  Calls Tryz.prog 5 #[.string ⟨(P ++ r).toArray⟩] w fun e w' => e = .returned (.bool true) ∧ Below w.heap.size w w' := by
 have H := zh (za hg trivial)
 have lS := zh hl
 have l1 : decide ((3000 : Int) < (P.length : Int) + (r.length : Int)) = false := by rw [decide_eq_false_iff_not]; rw [List.length_append] at hl; omega
 have RD := zh hr
 have OK := zh hk
 have HT := zh (za hP hE)
 have SH := zh (show (∀ p, ∀ y ∈ o.rv p, y.xs.length ≤ 1000000) ∧ o.sm o = true from ⟨rv_of hE, O.sm_self (O.pe_ok hE).2.2.2.2.2.2.2.2⟩)
 clear hg hl hr hk hP hE
 go_enter Tryz.func5, Tryz.ntmps5
 go_wp2_with fail
 refine (reado_is (P ++ r) _ H.out.1 (by have := lS.out; omega)).mono ?_
 rintro e w1 hrp
 rw [RD.out] at hrp
 obtain ⟨p1, rfl, hI, hb⟩ := hrp
 have K1 := zh (za hb (hI.in OK.out))
 clear hI hb
 go_wp2_with ((refine (?_ : wpList _ _ _ (Oper.mk _ (Op.store 48 _ _) _ _ _ _ :: _) _ _)); refine wpList_store_blk rfl 48 _ _ rfl (w1.heap.size) (O0.a P0) (o.a p1) rfl rfl (Blk.new' _ _ _ _ rfl) (by first | rfl | simp [sa_size]) (infoO) (O.a_one _ _) ?_)
 intro w2 q2 r2
 have bb := r2.below _ _ (Nat.le_refl _) (below1 w1 _)
 have K2 := zh (za (step0 K1.out.1 bb) (za (K1.out.2.below bb) q2))
 clear q2 r2 bb
 go_wp2_with fail
 refine (rreado_is (P ++ r) _ (by have := lS.out; omega)).mono ?_
 rintro e w3 hrp
 rw [RD.out] at hrp
 obtain ⟨p2, rfl, hI, hb⟩ := hrp
 have K3 := zh (za (step0 K2.out.1 hb) (za (K2.out.2.1.below hb) (za (K2.out.2.2.below hb) (hI.in OK.out))))
 clear hI hb
 go_wp2_with ((refine (?_ : wpList _ _ _ (Oper.mk _ (Op.store 48 _ _) _ _ _ _ :: _) _ _)); refine wpList_store_blk rfl 48 _ _ rfl (w3.heap.size) (O0.a P0) (o.a p2) rfl rfl (Blk.new' _ _ _ _ rfl) (by first | rfl | simp [sa_size]) (infoO) (O.a_one _ _) ?_)
 intro w4 q4 r4
 have bb := r4.below _ _ (Nat.le_refl _) (below1 w3 _)
 have K4 := zh (za (step0 K3.out.1 bb) (za (K3.out.2.1.below bb) (za (K3.out.2.2.1.below bb) (za (K3.out.2.2.2.below bb) q4))))
 clear q4 r4 bb
 go_wp2_with (first | ((refine (?_ : wpList _ _ _ (Oper.mk _ (Op.load 48 _) _ _ _ _ :: _) _ _)); refine wpList_load_blk rfl 48 _ rfl (w1.heap.size) rfl (o.a p1) _ (K4.out.2.2.1) Tryz.underlying48 rfl (infoO) ?_; go_frame) | ((refine (?_ : wpList _ _ _ (Oper.mk _ (Op.load 48 _) _ _ _ _ :: _) _ _)); refine wpList_load_blk rfl 48 _ rfl (w3.heap.size) rfl (o.a p2) _ (K4.out.2.2.2.2) Tryz.underlying48 rfl (infoO) ?_; go_frame))
 refine (same_ro o o p1 p2 true _ K4.out.2.1 K4.out.2.2.2.1 (SH.out.1 p1) SH.out.2).mono ?_
 rintro e w5 ⟨rfl, hb⟩
 have K5 := zh (za (step0 K4.out.1 hb) (za (K4.out.2.1.below hb) (K4.out.2.2.1.below hb)))
 clear hb
 go_wp2_with ((refine (?_ : wpList _ _ _ (Oper.mk _ (Op.load 48 _) _ _ _ _ :: _) _ _)); refine wpList_load_blk rfl 48 _ rfl (w1.heap.size) rfl (o.a p1) _ (K5.out.2.2) Tryz.underlying48 rfl (infoO) ?_; go_frame)
 refine (puto_is o p1 P 0 _ (H.out.1.keep K5.out.1) K5.out.2.1 HT.out.1 HT.out.2).mono ?_
 rintro e w6 ⟨rfl, hb⟩
 have K6 := zh (step0 K5.out.1 hb)
 clear hb
 have l2 : (9223372036854775807 < P.length + r.length) = False := by have := lS.out; rw [List.length_append] at this; simp; omega
 have ct := cat_list P r
 go_wp2_with fail
 refine (awake_any _ (H.out.1.keep K6.out)).mono ?_
 rintro e wa ⟨rfl, hb⟩
 have KA := zh (step0 K6.out hb)
 clear hb
 go_wp2
 go_ret
 exact ⟨rfl, KA.out⟩
theorem reads_bad (S : List UInt8) (E : Int) (w : World) (hg : Env w) (hl : S.length ≤ 3000) (hE : E ≠ 0) (hr : rdo S = (O0, [], E)) :
  Calls Tryz.prog 5 #[.string ⟨S.toArray⟩] w fun e w' => e = .returned (.bool true) ∧ Below w.heap.size w w' := by
 have H := zh (za hg trivial)
 have lS := zh hl
 have l1 : decide ((3000 : Int) < (S.length : Int)) = false := by rw [decide_eq_false_iff_not]; omega
 have e1 := bne_t hE
 have e2 : (E == 0) = false := by simpa using hE
 have RD := zh hr
 have OK := zh okO0
 have SH := zh (show (∀ p, ∀ y ∈ O0.rv p, y.xs.length ≤ 1000000) ∧ O0.sm O0 = true from ⟨fun p y hy => by
  simp only [O.rv, O0, List.mem_cons, List.not_mem_nil, or_false] at hy
  rcases hy with rfl | rfl | rfl <;> simp, O.sm_self (fun h => by cases h)⟩)
 clear hg hl hr hE
 go_enter Tryz.func5, Tryz.ntmps5
 go_wp2_with fail
 refine (reado_is (S) _ H.out.1 (by have := lS.out; omega)).mono ?_
 rintro e w1 hrp
 rw [RD.out] at hrp
 obtain ⟨p1, rfl, hI, hb⟩ := hrp
 have K1 := zh (za hb (hI.in OK.out))
 clear hI hb
 go_wp2_with ((refine (?_ : wpList _ _ _ (Oper.mk _ (Op.store 48 _ _) _ _ _ _ :: _) _ _)); refine wpList_store_blk rfl 48 _ _ rfl (w1.heap.size) (O0.a P0) (O0.a p1) rfl rfl (Blk.new' _ _ _ _ rfl) (by first | rfl | simp [sa_size]) (infoO) (O.a_one _ _) ?_)
 intro w2 q2 r2
 have bb := r2.below _ _ (Nat.le_refl _) (below1 w1 _)
 have K2 := zh (za (step0 K1.out.1 bb) (za (K1.out.2.below bb) q2))
 clear q2 r2 bb
 go_wp2_with fail
 refine (rreado_is (S) _ (by have := lS.out; omega)).mono ?_
 rintro e w3 hrp
 rw [RD.out] at hrp
 obtain ⟨p2, rfl, hI, hb⟩ := hrp
 have K3 := zh (za (step0 K2.out.1 hb) (za (K2.out.2.1.below hb) (za (K2.out.2.2.below hb) (hI.in OK.out))))
 clear hI hb
 go_wp2_with ((refine (?_ : wpList _ _ _ (Oper.mk _ (Op.store 48 _ _) _ _ _ _ :: _) _ _)); refine wpList_store_blk rfl 48 _ _ rfl (w3.heap.size) (O0.a P0) (O0.a p2) rfl rfl (Blk.new' _ _ _ _ rfl) (by first | rfl | simp [sa_size]) (infoO) (O.a_one _ _) ?_)
 intro w4 q4 r4
 have bb := r4.below _ _ (Nat.le_refl _) (below1 w3 _)
 have K4 := zh (za (step0 K3.out.1 bb) (za (K3.out.2.1.below bb) (za (K3.out.2.2.1.below bb) (za (K3.out.2.2.2.below bb) q4))))
 clear q4 r4 bb
 go_wp2_with (first | ((refine (?_ : wpList _ _ _ (Oper.mk _ (Op.load 48 _) _ _ _ _ :: _) _ _)); refine wpList_load_blk rfl 48 _ rfl (w1.heap.size) rfl (O0.a p1) _ (K4.out.2.2.1) Tryz.underlying48 rfl (infoO) ?_; go_frame) | ((refine (?_ : wpList _ _ _ (Oper.mk _ (Op.load 48 _) _ _ _ _ :: _) _ _)); refine wpList_load_blk rfl 48 _ rfl (w3.heap.size) rfl (O0.a p2) _ (K4.out.2.2.2.2) Tryz.underlying48 rfl (infoO) ?_; go_frame))
 refine (same_ro O0 O0 p1 p2 true _ K4.out.2.1 K4.out.2.2.2.1 (SH.out.1 p1) SH.out.2).mono ?_
 rintro e w5 ⟨rfl, hb⟩
 have K5 := zh (za (step0 K4.out.1 hb) (za (K4.out.2.1.below hb) (K4.out.2.2.1.below hb)))
 clear hb
 have qc := K5.out.2.2.cell
 go_wp2_with fail
 clear qc
 refine (awake_any _ (H.out.1.keep K5.out.1)).mono ?_
 rintro e wa ⟨rfl, hb⟩
 have KA := zh (step0 K5.out.1 hb)
 clear hb
 go_wp2
 go_ret
 exact ⟨rfl, KA.out⟩
theorem opsReads_walk (S : List UInt8) (w : World) (hg : Env w) :
  Calls Tryz.prog 5 #[.string ⟨S.toArray⟩] w fun e w' => e = .returned (.bool true) ∧ Below w.heap.size w w' := by
 by_cases hl : S.length ≤ 3000
 ·obtain ⟨o, r, E, hr⟩ : ∃ o r E, rdo S = (o, r, E) := ⟨_, _, _, rfl⟩
  by_cases hE : E = 0
  ·subst hE
   obtain ⟨h1, h2, h3⟩ := rdo_pe hr
   subst h2
   exact reads_ok o.pb r o w hg hl rfl h1 h3 hr
  ·obtain ⟨rfl, rfl⟩ := rdo_err hr hE
   exact reads_bad S E w hg hl hE hr
 ·exact reads_long S w hg (by omega)
end Go.Proofs.YtmgdciihpjifgaaGreatDoor
