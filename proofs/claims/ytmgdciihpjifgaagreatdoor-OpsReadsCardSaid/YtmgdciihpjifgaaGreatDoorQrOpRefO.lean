/-
 What is asked, as bytes, by the document: Put. Conditions: what is asked lies in memory and keeps a value's bounds.
-/
import Derived.Test.YtmgdciihpjifgaaGreatDoorQrOpMemO
import Derived.Test.YtmgdciihpjifgaaGreatDoorQrOpRefC
set_option maxHeartbeats 8000000
namespace Go.Proofs.YtmgdciihpjifgaaGreatDoor
open Go.RowKit
set_option linter.unusedVariables false
theorem rpo_1 (o : O) (p : Ps) (w : World) (h1 : o.kind < 1) :
  Calls Tryz.prog 17 #[.agg (o.a p)] w fun e w' => e = .returned (.tuple #[.string ⟨([] : List UInt8).toArray⟩, .int .i64 1]) ∧ Below w.heap.size w w' := by
 go_enter Tryz.func17, Tryz.ntmps17
 go_wp2
 go_ret2
 exact ⟨rfl, below1 _ _⟩
theorem rpo_2 (o : O) (p : Ps) (w : World) (h1 : decide (o.kind < 1) = false) (h2 : 9 < o.kind) :
  Calls Tryz.prog 17 #[.agg (o.a p)] w fun e w' => e = .returned (.tuple #[.string ⟨([] : List UInt8).toArray⟩, .int .i64 1]) ∧ Below w.heap.size w w' := by
 go_enter Tryz.func17, Tryz.ntmps17
 go_wp2
 go_ret2
 exact ⟨rfl, below1 _ _⟩
theorem rpo_3 (o : O) (p : Ps) (w : World) (h1 : decide (o.kind < 1) = false) (h2 : decide (9 < o.kind) = false) (h3 : o.max < 0) :
  Calls Tryz.prog 17 #[.agg (o.a p)] w fun e w' => e = .returned (.tuple #[.string ⟨([] : List UInt8).toArray⟩, .int .i64 1]) ∧ Below w.heap.size w w' := by
 go_enter Tryz.func17, Tryz.ntmps17
 go_wp2
 go_ret2
 exact ⟨rfl, below1 _ _⟩
theorem rpo_4 (o : O) (p : Ps) (w : World) (h1 : decide (o.kind < 1) = false) (h2 : decide (9 < o.kind) = false) (h3 : decide (o.max < 0) = false) (h4 : 64 < o.max) :
  Calls Tryz.prog 17 #[.agg (o.a p)] w fun e w' => e = .returned (.tuple #[.string ⟨([] : List UInt8).toArray⟩, .int .i64 1]) ∧ Below w.heap.size w w' := by
 go_enter Tryz.func17, Tryz.ntmps17
 go_wp2
 go_ret2
 exact ⟨rfl, below1 _ _⟩
theorem rpo_5 (o : O) (p : Ps) (w : World) (h1 : decide (o.kind < 1) = false) (h2 : decide (9 < o.kind) = false) (h3 : decide (o.max < 0) = false) (h4 : decide (64 < o.max) = false) (h5 : (16 : Int) < (o.table.length : Int)) :
  Calls Tryz.prog 17 #[.agg (o.a p)] w fun e w' => e = .returned (.tuple #[.string ⟨([] : List UInt8).toArray⟩, .int .i64 8]) ∧ Below w.heap.size w w' := by
 go_enter Tryz.func17, Tryz.ntmps17
 go_wp2
 go_ret2
 exact ⟨rfl, below1 _ _⟩
theorem rpo_6 (o : O) (p : Ps) (T : List UInt8) (E : Int) (w : World) (hi : InO w o p) (h1 : decide (o.kind < 1) = false) (h2 : decide (9 < o.kind) = false) (h3 : decide (o.max < 0) = false) (h4 : decide (64 < o.max) = false) (h5 : decide ((16 : Int) < (o.table.length : Int)) = false) (hT : o.pb = T) (hE : o.pe = E) :
  Calls Tryz.prog 17 #[.agg (o.a p)] w fun e w' => e = .returned (.tuple #[.string ⟨T.toArray⟩, .int .i64 E]) ∧ Below w.heap.size w w' := by
 have hmx : Tryz.prog.follows .mixedOrders = true := by kernel_rfl
 have X : 1 ≤ o.kind ∧ o.kind ≤ 9 ∧ 0 ≤ o.max ∧ o.max ≤ 64 ∧ o.table.length ≤ 16 := by simp only [decide_eq_false_iff_not] at h1 h2 h3 h4 h5; omega
 have hpe := pe_rv o p ⟨X.1, X.2.1⟩ ⟨X.2.2.1, X.2.2.2.1⟩ X.2.2.2.2
 have k1 : IntKind.u64.wrap o.kind = o.kind := pk_wrap_u64 _ (by omega) (by omega)
 have k2 : IntKind.u64.wrap o.max = o.max := pk_wrap_u64 _ (by omega) (by omega)
 obtain ⟨N1, hN1⟩ : ∃ N, Pk.un o.kind.toNat = N := ⟨_, rfl⟩
 obtain ⟨N2, hN2⟩ : ∃ N, Pk.tx o.table = N := ⟨_, rfl⟩
 obtain ⟨N3, hN3⟩ : ∃ N, Pk.un o.max.toNat = N := ⟨_, rfl⟩
 have hhd := hd_rv o p
 rw [hN1, hN2, hN3] at hhd
 have L := zh (show N1.length ≤ 10 ∧ N2.length ≤ 26 ∧ N3.length ≤ 10 from ⟨hN1 ▸ un_le _, hN2 ▸ tx_le X.2.2.2.2, hN3 ▸ un_le _⟩)
 have l1 : (9223372036854775807 < N1.length + N2.length) = False := by have := L.out; simp; omega
 have U := zh (za hN1 (za hN2 (za hN3 (za hhd (za hpe (za hT hE))))))
 have H := zh (za trivial (za hi X))
 clear hN1 hN2 hN3 hhd hpe hT hE hi X
 go_enter Tryz.func17, Tryz.ntmps17
 go_wp2
 have q1 := Blk.new w (o.a p) 48
 go_region_held3 (fun v => Below (w.alloc (.cells (o.a p) 48)).heap.size (w.alloc (.cells (o.a p) 48)) v ∧ v.cell? ⟨w.heap.size, 0, none⟩ = some (.int .i64 o.kind) ∧ v.cell? ⟨w.heap.size, 1, none⟩ = some (.string ⟨o.table.toArray⟩))
  (first | exact ⟨(Below.refl _ _).drew, q1.cell 0, q1.cell 1⟩ | exact ⟨step0 ‹Below (w.alloc _).heap.size (w.alloc _) _ ∧ _›.1 hb, (q1.below (step0 ‹Below (w.alloc _).heap.size (w.alloc _) _ ∧ _›.1 hb)).cell 0, (q1.below (step0 ‹Below (w.alloc _).heap.size (w.alloc _) _ ∧ _›.1 hb)).cell 1⟩)
  (first | (go_at_call 36; refine (ruint_is o.kind N1 _ (by have := H.out.2.2; omega) (by have := H.out.2.2; omega) U.out.1).mono ?_; rintro e v3 ⟨rfl, hb⟩) | (go_at_call 37; refine (rtext_is o.table N2 _ (by have := H.out.2.2; omega) U.out.2.1).mono ?_; rintro e v3 ⟨rfl, hb⟩))
 have B3 := zh (show Below (w.alloc (.cells (o.a p) 48)).heap.size (w.alloc (.cells (o.a p) 48)) v3 from ‹Below (w.alloc _).heap.size (w.alloc _) v3 ∧ _›.1)
 rw [cat_list]
 obtain ⟨A, hA⟩ : ∃ A, N1 ++ N2 = A := ⟨_, rfl⟩
 have lA : A.length ≤ 36 := by rw [← hA, List.length_append]; have := L.out; omega
 have HA := zh (za hA lA)
 rw [hA]
 have K3 := zh (za (step1 (Below.refl _ w) B3.out) (q1.below B3.out))
 clear hA lA l1 q1
 have qc := K3.out.2.cell
 go_wp2
 obtain ⟨w5, hw5⟩ : ∃ w5, v3.alloc (.cells #[.slice p.r o.row.length p.rc, .slice p.l o.lo.length p.lc, .slice p.h o.hi.length p.hc] 46) = w5 := ⟨_, rfl⟩
 rw [hw5]
 have K := zh (show Below w.heap.size w w5 ∧ Blk w5 w.heap.size (o.a p) 48 ∧ Blk w5 v3.heap.size (va (o.rv p)) 46 from hw5 ▸ ⟨K3.out.1.alloc K3.out.1.size _, K3.out.2.alloc _, Blk.new v3 (va (o.rv p)) _⟩)
 clear qc hw5
 go_loopw [4, 6] (fun q i wr => ∃ j : Nat, q = .string ⟨(A ++ rpt ((o.rv p).take j)).toArray⟩ ∧ i = .int .i64 j ∧ j ≤ 3 ∧ rpe ((o.rv p).take j) = 0 ∧ Below w.heap.size w wr ∧ Blk wr w.heap.size (o.a p) 48 ∧ Blk wr v3.heap.size (va (o.rv p)) 46) (fun _ i _ => 3 - (intOf i).toNat)
 case atStart => exact ⟨0, by simp [rpt], rfl, by omega, rfl, K.out⟩
 case round =>
  obtain ⟨j, rfl, rfl, hj, hr0, hbel, hbo, hbv⟩ := hrel
  have J := zh (za hbel (za hbo (za hbv hr0)))
  have qv := hbv.cell
  clear hbel hbo hbv hr0
  by_cases hlt : j < 3
  ·have hlt' : j < (o.rv p).length := hlt
   obtain ⟨y, hy⟩ : ∃ y, (o.rv p)[j] = y := ⟨_, rfl⟩
   have hm : y ∈ o.rv p := hy ▸ List.getElem_mem hlt'
   have hx : (va (o.rv p))[j]? = some (.slice y.ao y.xs.length y.cap) := by rw [va_at hlt', hy]; rfl
   obtain ⟨R, hR⟩ : ∃ R, A ++ rpt ((o.rv p).take j) = R := ⟨_, rfl⟩
   obtain ⟨W, hW⟩ : ∃ W, Rk.pw y.xs = W := ⟨_, rfl⟩
   obtain ⟨S, hS⟩ : ∃ S, Pk.tx W = S := ⟨_, rfl⟩
   obtain ⟨e, he⟩ : ∃ e, Rk.pe y.xs = e := ⟨_, rfl⟩
   have lS : S.length ≤ 620 := by rw [← hS, ← hW]; exact tpw_le _
   have lR : R.length ≤ 2000 := by rw [← hR, List.length_append]; have := rpt_le ((o.rv p).take j); have : ((o.rv p).take j).length ≤ 3 := by rw [List.length_take]; omega
                                   have := HA.out.2; omega
   have q9 : (9223372036854775807 < R.length + S.length) = False := by simp; omega
   have nx : A ++ rpt ((o.rv p).take (j + 1)) = R ++ S := by rw [rpt_next hlt', ← List.append_assoc, hR, hy, hW, hS]
   have HX := zh (za nx (za hS (za hW (za he (za hm hy)))))
   have lW := zh (show W.length ≤ 610 from hW ▸ Rk.pw_len _)
   rw [hR]
   clear hR hS nx lS lR hW hm hy he
   go_wp2_with fail
   refine (Rk.dput_x y.xs W e y.xs.length y.ao y.cap _ rfl (rv_in (H.out.2.1.below J.out.1) y HX.out.2.2.2.2.1) (rv_ok H.out.2.1.2.2.2.2 y HX.out.2.2.2.2.1) HX.out.2.2.1 HX.out.2.2.2.1).mono ?_
   rintro e' w6 ⟨rfl, hb⟩
   have K6 := zh (za (step0 J.out.1 hb) (za (J.out.2.1.below hb) (J.out.2.2.1.below hb)))
   clear hb qv
   by_cases hz : e = 0
   ·subst hz
    have NX := zh (rpe_next hlt' J.out.2.2.2 (by rw [HX.out.2.2.2.2.2]; exact HX.out.2.2.2.1))
    go_wp2_with fail
    refine (rtext_is W S _ (by have := lW.out; omega) HX.out.2.1).mono ?_
    rintro e w7 ⟨rfl, hb⟩
    have K7 := zh (za (step0 K6.out.1 hb) (za (K6.out.2.1.below hb) (K6.out.2.2.below hb)))
    clear hb
    go_wp2
    go_roundw
    case rel => exact ⟨j + 1, by rw [HX.out.1]; first | rfl | simp, by go_num, hlt, NX.out, K7.out⟩
    case measure => simp [intOf]; omega
   ·have e1 := bne_t hz
    have NX := zh (show E = e ∧ T = [] from by
     have g := rpe_stop hlt' J.out.2.2.2 (by rw [HX.out.2.2.2.2.2, HX.out.2.2.2.1]; exact hz)
     rw [HX.out.2.2.2.2.2, HX.out.2.2.2.1] at g
     have g2 : o.pe = e := by rw [U.out.2.2.2.2.1, g, if_pos hz]
     exact ⟨U.out.2.2.2.2.2.2.symm.trans g2, U.out.2.2.2.2.2.1.symm.trans (opb_bad (by rw [g2]; exact hz))⟩)
    clear hz
    go_wp2
    go_ret2
    rw [NX.out.1, NX.out.2]
    exact ⟨rfl, K6.out.1⟩
  ·obtain rfl : j = 3 := by omega
   have hr : rpe (o.rv p) = 0 := J.out.2.2.2
   rw [show (o.rv p).take 3 = o.rv p from rfl]
   obtain ⟨R, hR⟩ : ∃ R, A ++ rpt (o.rv p) = R := ⟨_, rfl⟩
   have lR : R.length ≤ 2000 := by rw [← hR, List.length_append]; have := rpt_le (o.rv p); have : (o.rv p).length = 3 := rfl
                                   have := HA.out.2; omega
   have l3 : (9223372036854775807 < R.length + N3.length) = False := by have := L.out; simp; omega
   have ghd : o.hd = R ++ N3 := by rw [U.out.2.2.2.1, ← hR, ← HA.out.1]
   have gpe : o.pe = if o.kind = 6 then o.ch.pe else 0 := by rw [U.out.2.2.2.2.1, if_neg (by simpa using hr)]
   have Y := zh (za ghd (za gpe lR))
   rw [hR]
   clear hR lR hr ghd gpe hlt hj qv
   have qc := J.out.2.1.cell
   go_wp2_with fail
   refine (ruint_is o.max N3 _ (by have := H.out.2.2; omega) (by have := H.out.2.2; omega) U.out.2.2.1).mono ?_
   rintro e w8 ⟨rfl, hb⟩
   have K8 := zh (za (step0 J.out.1 hb) (J.out.2.1.below hb))
   clear hb qc
   have qc := K8.out.2.cell
   by_cases h6 : o.kind = 6
   ·have e6 : (o.kind != 6) = false := by simpa using h6
    have gpe : o.pe = o.ch.pe := by rw [Y.out.2.1, if_pos h6]
    obtain ⟨C, hC⟩ : ∃ C, o.ch.pb = C := ⟨_, rfl⟩
    have lC : C.length ≤ 3000 := hC ▸ pb_le o.ch
    have l4 : (9223372036854775807 < R.length + N3.length + C.length) = False := by have := L.out; have := Y.out.2.2; simp; omega
    have G := zh (za gpe (za hC (show o.cb = C from by unfold O.cb; rw [if_pos h6]; exact hC)))
    clear gpe hC lC h6
    go_wp2_with ((refine (?_ : wpList _ _ _ (Oper.mk _ (Op.load 32 _) _ _ _ _ :: _) _ _)); refine wpList_load_part rfl 32 48 _ rfl (w.heap.size) 6 rfl (o.pre p) [] (o.ch.a p.n p.nc p.d p.dc) _ (K8.out.2) rfl Tryz.underlying32 rfl (infoCh) ?_; go_frame)
    refine (rputc_is o.ch p.n p.nc p.d p.dc C E _ (H.out.2.1.below K8.out.1).2.2.2.1 G.out.2.1 (by rw [← G.out.1]; exact U.out.2.2.2.2.2.2)).mono ?_
    rintro e w9 ⟨rfl, hb⟩
    have K9 := zh (step0 K8.out.1 hb)
    clear hb qc
    by_cases hz : E = 0
    ·subst hz
     have FN := zh (show R ++ N3 ++ C = T from by
      rw [← U.out.2.2.2.2.2.1]
      unfold O.pb
      rw [if_neg (by simpa using U.out.2.2.2.2.2.2), Y.out.1, G.out.2.2])
     go_wp2
     refine bodyPost_ret (v := .tuple #[.string ⟨(R ++ N3 ++ C).toArray⟩, .int .i64 0]) ?_ rfl ⟨?_, K9.out⟩
     ·simp [results, Tryz.results17, go_sem]
      rw [cat_list, cat_list]
      simp
     ·rw [FN.out]
    ·have e1 := bne_t hz
     have FN := zh (show T = [] from U.out.2.2.2.2.2.1.symm.trans (opb_bad (by rw [U.out.2.2.2.2.2.2]; exact hz)))
     clear hz
     go_wp2
     go_ret2
     rw [FN.out]
     exact ⟨rfl, K9.out⟩
   ·have e6 : (o.kind != 6) = true := by simpa using h6
    have g0 : o.pe = 0 := by rw [Y.out.2.1, if_neg h6]
    have FN := zh (show R ++ N3 = T ∧ E = 0 from by
     refine ⟨?_, U.out.2.2.2.2.2.2.symm.trans g0⟩
     rw [← U.out.2.2.2.2.2.1]
     unfold O.pb O.cb
     rw [if_neg (by simpa using g0), Y.out.1, if_neg h6, List.append_nil])
    clear h6 g0
    go_wp2
    refine bodyPost_ret (v := .tuple #[.string ⟨(R ++ N3).toArray⟩, .int .i64 0]) ?_ rfl ⟨?_, K8.out.1⟩
    ·simp [results, Tryz.results17, go_sem]
     exact cat_list _ _
    ·rw [FN.out.1, FN.out.2]
theorem rputo_is (o : O) (p : Ps) (T : List UInt8) (E : Int) (w : World) (hi : InO w o p) (hT : o.pb = T) (hE : o.pe = E) :
  Calls Tryz.prog 17 #[.agg (o.a p)] w fun e w' => e = .returned (.tuple #[.string ⟨T.toArray⟩, .int .i64 E]) ∧ Below w.heap.size w w' := by
 have g : ∀ e : Int, o.pe = e → ¬ e = 0 → T = [] ∧ E = e := fun e h hn => ⟨hT.symm.trans (opb_bad (by rw [h]; exact hn)), hE.symm.trans h⟩
 by_cases h1 : o.kind < 1
 ·obtain ⟨rfl, rfl⟩ := g 1 (if_pos (.inl h1)) (by decide); exact rpo_1 o p w h1
 by_cases h2 : 9 < o.kind
 ·obtain ⟨rfl, rfl⟩ := g 1 (if_pos (.inr (.inl h2))) (by decide); exact rpo_2 o p w (by simpa using h1) h2
 by_cases h3 : o.max < 0
 ·obtain ⟨rfl, rfl⟩ := g 1 (if_pos (.inr (.inr (.inl h3)))) (by decide); exact rpo_3 o p w (by simpa using h1) (by simpa using h2) h3
 by_cases h4 : 64 < o.max
 ·obtain ⟨rfl, rfl⟩ := g 1 (if_pos (.inr (.inr (.inr h4)))) (by decide); exact rpo_4 o p w (by simpa using h1) (by simpa using h2) (by simpa using h3) h4
 by_cases h5 : 16 < o.table.length
 ·obtain ⟨rfl, rfl⟩ := g 8 (by unfold O.pe; rw [if_neg (by omega), if_pos h5]) (by decide); exact rpo_5 o p w (by simpa using h1) (by simpa using h2) (by simpa using h3) (by simpa using h4) (by omega)
 exact rpo_6 o p T E w hi (by simpa using h1) (by simpa using h2) (by simpa using h3) (by simpa using h4) (by rw [decide_eq_false_iff_not]; omega) hT hE
end Go.Proofs.YtmgdciihpjifgaaGreatDoor
