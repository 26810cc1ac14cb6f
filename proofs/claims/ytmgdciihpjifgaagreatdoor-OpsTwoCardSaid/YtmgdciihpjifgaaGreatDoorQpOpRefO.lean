/-
  What is asked, as bytes, by the document: Put. Conditions: what is asked lies in memory and keeps a value's bounds.
  Whether any two ask the same, by the document. Conditions: what is asked lies in memory and keeps a value's bounds.
-/
import Derived.Test.YtmgdciihpjifgaaGreatDoorQpOpPutO
import Derived.Test.YtmgdciihpjifgaaGreatDoorQpOpRefC
import Derived.Test.YtmgdciihpjifgaaGreatDoorQpOpSame
import Derived.Test.YtmgdciihpjifgaaGreatDoorQpRkTwo
namespace Go.Proofs.YtmgdciihpjifgaaGreatDoor
open Go.RowKit
set_option linter.unusedVariables false

theorem rpo_1 (o : O) (p : Ps) (w : World) (h1 : o.kind < 1) :
    Calls Tryz.prog 17 #[.agg (o.a p)] w fun e w' => e = .returned (.tuple #[.string ⟨([] : List UInt8).toArray⟩, .int .i64 1]) ∧ Below w.heap.size w w' := by
  go_enter Tryz.func17, Tryz.ntmps17
  go_wp2
  go_ret2
  exact ⟨rfl, below1 _ _⟩

theorem rpo_2 (o : O) (p : Ps) (w : World) (h1 : decide (o.kind < 1) = false) (h2 : 9 < o.kind) :
    Calls Tryz.prog 17 #[.agg (o.a p)] w fun e w' => e = .returned (.tuple #[.string ⟨([] : List UInt8).toArray⟩, .int .i64 1]) ∧ Below w.heap.size w w' := by
  go_enter Tryz.func17, Tryz.ntmps17
  go_wp2
  go_ret2
  exact ⟨rfl, below1 _ _⟩

theorem rpo_3 (o : O) (p : Ps) (w : World) (h1 : decide (o.kind < 1) = false) (h2 : decide (9 < o.kind) = false) (h3 : o.max < 0) :
    Calls Tryz.prog 17 #[.agg (o.a p)] w fun e w' => e = .returned (.tuple #[.string ⟨([] : List UInt8).toArray⟩, .int .i64 1]) ∧ Below w.heap.size w w' := by
  go_enter Tryz.func17, Tryz.ntmps17
  go_wp2
  go_ret2
  exact ⟨rfl, below1 _ _⟩

theorem rpo_4 (o : O) (p : Ps) (w : World) (h1 : decide (o.kind < 1) = false) (h2 : decide (9 < o.kind) = false) (h3 : decide (o.max < 0) = false) (h4 : 64 < o.max) :
    Calls Tryz.prog 17 #[.agg (o.a p)] w fun e w' => e = .returned (.tuple #[.string ⟨([] : List UInt8).toArray⟩, .int .i64 1]) ∧ Below w.heap.size w w' := by
  go_enter Tryz.func17, Tryz.ntmps17
  go_wp2
  go_ret2
  exact ⟨rfl, below1 _ _⟩

theorem rpo_5 (o : O) (p : Ps) (w : World) (h1 : decide (o.kind < 1) = false) (h2 : decide (9 < o.kind) = false) (h3 : decide (o.max < 0) = false) (h4 : decide (64 < o.max) = false) (h5 : (16 : Int) < (o.table.length : Int)) :
    Calls Tryz.prog 17 #[.agg (o.a p)] w fun e w' => e = .returned (.tuple #[.string ⟨([] : List UInt8).toArray⟩, .int .i64 8]) ∧ Below w.heap.size w w' := by
  go_enter Tryz.func17, Tryz.ntmps17
  go_wp2
  go_ret2
  exact ⟨rfl, below1 _ _⟩

set_option maxHeartbeats 8000000 in
theorem rpo_6 (o : O) (p : Ps) (T : List UInt8) (E : Int) (w : World) (hi : InO w o p) (h1 : decide (o.kind < 1) = false) (h2 : decide (9 < o.kind) = false) (h3 : decide (o.max < 0) = false) (h4 : decide (64 < o.max) = false) (h5 : decide ((16 : Int) < (o.table.length : Int)) = false) (hT : o.pb = T) (hE : o.pe = E) :
    Calls Tryz.prog 17 #[.agg (o.a p)] w fun e w' => e = .returned (.tuple #[.string ⟨T.toArray⟩, .int .i64 E]) ∧ Below w.heap.size w w' := by
  have hmx : Tryz.prog.follows .mixedOrders = true := by kernel_rfl
  have X : 1 ≤ o.kind ∧ o.kind ≤ 9 ∧ 0 ≤ o.max ∧ o.max ≤ 64 ∧ o.table.length ≤ 16 := by simp only [decide_eq_false_iff_not] at h1 h2 h3 h4 h5; omega
  have hpe := pe_rv o p ⟨X.1, X.2.1⟩ ⟨X.2.2.1, X.2.2.2.1⟩ X.2.2.2.2
  have k1 : IntKind.u64.wrap o.kind = o.kind := pk_wrap_u64 _ (by omega) (by omega)
  have k2 : IntKind.u64.wrap o.max = o.max := pk_wrap_u64 _ (by omega) (by omega)
  obtain ⟨N1, hN1⟩ : ∃ N, Pk.un o.kind.toNat = N := ⟨_, rfl⟩
  obtain ⟨N2, hN2⟩ : ∃ N, Pk.tx o.table = N := ⟨_, rfl⟩
  obtain ⟨N3, hN3⟩ : ∃ N, Pk.un o.max.toNat = N := ⟨_, rfl⟩
  have hhd := hd_rv o p
  rw [hN1, hN2, hN3] at hhd
  have L := Lib.hid (show N1.length ≤ 10 ∧ N2.length ≤ 26 ∧ N3.length ≤ 10 from ⟨hN1 ▸ un_le _, hN2 ▸ tx_le X.2.2.2.2, hN3 ▸ un_le _⟩)
  have l1 : (9223372036854775807 < N1.length + N2.length) = False := by have := L.out; simp; omega
  have U := Lib.hid (And.intro hN1 (And.intro hN2 (And.intro hN3 (And.intro hhd (And.intro hpe (And.intro hT hE))))))
  have H := Lib.hid (And.intro trivial (And.intro hi X))
  clear hN1 hN2 hN3 hhd hpe hT hE hi X
  go_enter Tryz.func17, Tryz.ntmps17
  go_wp2
  have q1 := Blk.new w (o.a p) 48
  go_region_held3 (fun v => Below (w.alloc (.cells (o.a p) 48)).heap.size (w.alloc (.cells (o.a p) 48)) v ∧ v.cell? ⟨w.heap.size, 0, none⟩ = some (.int .i64 o.kind) ∧ v.cell? ⟨w.heap.size, 1, none⟩ = some (.string ⟨o.table.toArray⟩))
    (first | exact ⟨(Below.refl _ _).drew, q1.cell 0, q1.cell 1⟩ | exact ⟨step0 ‹Below (w.alloc _).heap.size (w.alloc _) _ ∧ _›.1 hb, (q1.below (step0 ‹Below (w.alloc _).heap.size (w.alloc _) _ ∧ _›.1 hb)).cell 0, (q1.below (step0 ‹Below (w.alloc _).heap.size (w.alloc _) _ ∧ _›.1 hb)).cell 1⟩)
    (first | (go_at_call 36; refine (ruint_is o.kind N1 _ (by have := H.out.2.2; omega) (by have := H.out.2.2; omega) U.out.1).mono ?_; rintro e v3 ⟨rfl, hb⟩) | (go_at_call 37; refine (rtext_is o.table N2 _ (by have := H.out.2.2; omega) U.out.2.1).mono ?_; rintro e v3 ⟨rfl, hb⟩))
  have B3 := Lib.hid (show Below (w.alloc (.cells (o.a p) 48)).heap.size (w.alloc (.cells (o.a p) 48)) v3 from ‹Below (w.alloc _).heap.size (w.alloc _) v3 ∧ _›.1)
  rw [cat_list]
  obtain ⟨A, hA⟩ : ∃ A, N1 ++ N2 = A := ⟨_, rfl⟩
  have lA : A.length ≤ 36 := by rw [← hA, List.length_append]; have := L.out; omega
  have HA := Lib.hid (And.intro hA lA)
  rw [hA]
  have K3 := Lib.hid (And.intro (step1 (Below.refl _ w) B3.out) (q1.below B3.out))
  clear hA lA l1 q1
  have qc := K3.out.2.cell
  go_wp2
  obtain ⟨w5, hw5⟩ : ∃ w5, v3.alloc (.cells #[.slice p.r o.row.length p.rc, .slice p.l o.lo.length p.lc, .slice p.h o.hi.length p.hc] 46) = w5 := ⟨_, rfl⟩
  rw [hw5]
  have K := Lib.hid (show Below w.heap.size w w5 ∧ Blk w5 w.heap.size (o.a p) 48 ∧ Blk w5 v3.heap.size (va (o.rv p)) 46 from hw5 ▸ ⟨K3.out.1.alloc K3.out.1.size _, K3.out.2.alloc _, Blk.new v3 (va (o.rv p)) _⟩)
  clear qc hw5
  go_loopw [4, 6] (fun q i wr => ∃ j : Nat, q = .string ⟨(A ++ rpt ((o.rv p).take j)).toArray⟩ ∧ i = .int .i64 j ∧ j ≤ 3 ∧ rpe ((o.rv p).take j) = 0 ∧ Below w.heap.size w wr ∧ Blk wr w.heap.size (o.a p) 48 ∧ Blk wr v3.heap.size (va (o.rv p)) 46) (fun _ i _ => 3 - (intOf i).toNat)
  case atStart => exact ⟨0, by simp [rpt], rfl, by omega, rfl, K.out⟩
  case round =>
    obtain ⟨j, rfl, rfl, hj, hr0, hbel, hbo, hbv⟩ := hrel
    have J := Lib.hid (And.intro hbel (And.intro hbo (And.intro hbv hr0)))
    have qv := hbv.cell
    clear hbel hbo hbv hr0
    by_cases hlt : j < 3
    · have hlt' : j < (o.rv p).length := hlt
      obtain ⟨y, hy⟩ : ∃ y, (o.rv p)[j] = y := ⟨_, rfl⟩
      have hm : y ∈ o.rv p := hy ▸ List.getElem_mem hlt'
      have hx : (va (o.rv p))[j]? = some (.slice y.ao y.xs.length y.cap) := by rw [va_at hlt', hy]; rfl
      obtain ⟨R, hR⟩ : ∃ R, A ++ rpt ((o.rv p).take j) = R := ⟨_, rfl⟩
      obtain ⟨W, hW⟩ : ∃ W, Rk.pw y.xs = W := ⟨_, rfl⟩
      obtain ⟨S, hS⟩ : ∃ S, Pk.tx W = S := ⟨_, rfl⟩
      obtain ⟨e, he⟩ : ∃ e, Rk.pe y.xs = e := ⟨_, rfl⟩
      have lS : S.length ≤ 620 := by rw [← hS, ← hW]; exact tpw_le _
      have lR : R.length ≤ 2000 := by rw [← hR, List.length_append]; have := rpt_le ((o.rv p).take j); have : ((o.rv p).take j).length ≤ 3 := by rw [List.length_take]; omega
                                      have := HA.out.2; omega
      have q9 : (9223372036854775807 < R.length + S.length) = False := by simp; omega
      have nx : A ++ rpt ((o.rv p).take (j + 1)) = R ++ S := by rw [rpt_next hlt', ← List.append_assoc, hR, hy, hW, hS]
      have HX := Lib.hid (And.intro nx (And.intro hS (And.intro hW (And.intro he (And.intro hm hy)))))
      have lW := Lib.hid (show W.length ≤ 610 from hW ▸ Rk.pw_len _)
      rw [hR]
      clear hR hS nx lS lR hW hm hy he
      go_wp2_with fail
      refine (Rk.dput_x y.xs W e y.xs.length y.ao y.cap _ rfl (rv_in (H.out.2.1.below J.out.1) y HX.out.2.2.2.2.1) (rv_ok H.out.2.1.2.2.2.2 y HX.out.2.2.2.2.1) HX.out.2.2.1 HX.out.2.2.2.1).mono ?_
      rintro e' w6 ⟨rfl, hb⟩
      have K6 := Lib.hid (And.intro (step0 J.out.1 hb) (And.intro (J.out.2.1.below hb) (J.out.2.2.1.below hb)))
      clear hb qv
      by_cases hz : e = 0
      · subst hz
        have NX := Lib.hid (rpe_next hlt' J.out.2.2.2 (by rw [HX.out.2.2.2.2.2]; exact HX.out.2.2.2.1))
        go_wp2_with fail
        refine (rtext_is W S _ (by have := lW.out; omega) HX.out.2.1).mono ?_
        rintro e w7 ⟨rfl, hb⟩
        have K7 := Lib.hid (And.intro (step0 K6.out.1 hb) (And.intro (K6.out.2.1.below hb) (K6.out.2.2.below hb)))
        clear hb
        go_wp2
        go_roundw
        case rel => exact ⟨j + 1, by rw [HX.out.1]; first | rfl | simp, by go_num, hlt, NX.out, K7.out⟩
        case measure => simp [intOf]; omega
      · have e1 := bne_t hz
        have NX := Lib.hid (show E = e ∧ T = [] from by
          have g := rpe_stop hlt' J.out.2.2.2 (by rw [HX.out.2.2.2.2.2, HX.out.2.2.2.1]; exact hz)
          rw [HX.out.2.2.2.2.2, HX.out.2.2.2.1] at g
          have g2 : o.pe = e := by rw [U.out.2.2.2.2.1, g, if_pos hz]
          exact ⟨U.out.2.2.2.2.2.2.symm.trans g2, U.out.2.2.2.2.2.1.symm.trans (opb_bad (by rw [g2]; exact hz))⟩)
        clear hz
        go_wp2
        go_ret2
        rw [NX.out.1, NX.out.2]
        exact ⟨rfl, K6.out.1⟩
    · obtain rfl : j = 3 := by omega
      have hr : rpe (o.rv p) = 0 := J.out.2.2.2
      rw [show (o.rv p).take 3 = o.rv p from rfl]
      obtain ⟨R, hR⟩ : ∃ R, A ++ rpt (o.rv p) = R := ⟨_, rfl⟩
      have lR : R.length ≤ 2000 := by rw [← hR, List.length_append]; have := rpt_le (o.rv p); have : (o.rv p).length = 3 := rfl
                                      have := HA.out.2; omega
      have l3 : (9223372036854775807 < R.length + N3.length) = False := by have := L.out; simp; omega
      have ghd : o.hd = R ++ N3 := by rw [U.out.2.2.2.1, ← hR, ← HA.out.1]
      have gpe : o.pe = if o.kind = 6 then o.ch.pe else 0 := by rw [U.out.2.2.2.2.1, if_neg (by simpa using hr)]
      have Y := Lib.hid (And.intro ghd (And.intro gpe lR))
      rw [hR]
      clear hR lR hr ghd gpe hlt hj qv
      have qc := J.out.2.1.cell
      go_wp2_with fail
      refine (ruint_is o.max N3 _ (by have := H.out.2.2; omega) (by have := H.out.2.2; omega) U.out.2.2.1).mono ?_
      rintro e w8 ⟨rfl, hb⟩
      have K8 := Lib.hid (And.intro (step0 J.out.1 hb) (J.out.2.1.below hb))
      clear hb qc
      have qc := K8.out.2.cell
      by_cases h6 : o.kind = 6
      · have e6 : (o.kind != 6) = false := by simpa using h6
        have gpe : o.pe = o.ch.pe := by rw [Y.out.2.1, if_pos h6]
        obtain ⟨C, hC⟩ : ∃ C, o.ch.pb = C := ⟨_, rfl⟩
        have lC : C.length ≤ 3000 := hC ▸ pb_le o.ch
        have l4 : (9223372036854775807 < R.length + N3.length + C.length) = False := by have := L.out; have := Y.out.2.2; simp; omega
        have G := Lib.hid (And.intro gpe (And.intro hC (show o.cb = C from by unfold O.cb; rw [if_pos h6]; exact hC)))
        clear gpe hC lC h6
        go_wp2_with ((refine (?_ : wpList _ _ _ (Oper.mk _ (Op.load 32 _) _ _ _ _ :: _) _ _)); refine wpList_load_part rfl 32 48 _ rfl (w.heap.size) 6 rfl (o.pre p) [] (o.ch.a p.n p.nc p.d p.dc) _ (K8.out.2) rfl Tryz.underlying32 rfl (infoCh) ?_; go_frame)
        refine (rputc_is o.ch p.n p.nc p.d p.dc C E _ (H.out.2.1.below K8.out.1).2.2.2.1 G.out.2.1 (by rw [← G.out.1]; exact U.out.2.2.2.2.2.2)).mono ?_
        rintro e w9 ⟨rfl, hb⟩
        have K9 := Lib.hid (step0 K8.out.1 hb)
        clear hb qc
        by_cases hz : E = 0
        · subst hz
          have FN := Lib.hid (show R ++ N3 ++ C = T from by
            rw [← U.out.2.2.2.2.2.1]
            unfold O.pb
            rw [if_neg (by simpa using U.out.2.2.2.2.2.2), Y.out.1, G.out.2.2])
          go_wp2
          refine bodyPost_ret (v := .tuple #[.string ⟨(R ++ N3 ++ C).toArray⟩, .int .i64 0]) ?_ rfl ⟨?_, K9.out⟩
          · simp [results, Tryz.results17, go_sem]
            rw [cat_list, cat_list]
            simp
          · rw [FN.out]
        · have e1 := bne_t hz
          have FN := Lib.hid (show T = [] from U.out.2.2.2.2.2.1.symm.trans (opb_bad (by rw [U.out.2.2.2.2.2.2]; exact hz)))
          clear hz
          go_wp2
          go_ret2
          rw [FN.out]
          exact ⟨rfl, K9.out⟩
      · have e6 : (o.kind != 6) = true := by simpa using h6
        have g0 : o.pe = 0 := by rw [Y.out.2.1, if_neg h6]
        have FN := Lib.hid (show R ++ N3 = T ∧ E = 0 from by
          refine ⟨?_, U.out.2.2.2.2.2.2.symm.trans g0⟩
          rw [← U.out.2.2.2.2.2.1]
          unfold O.pb O.cb
          rw [if_neg (by simpa using g0), Y.out.1, if_neg h6, List.append_nil])
        clear h6 g0
        go_wp2
        refine bodyPost_ret (v := .tuple #[.string ⟨(R ++ N3).toArray⟩, .int .i64 0]) ?_ rfl ⟨?_, K8.out.1⟩
        · simp [results, Tryz.results17, go_sem]
          exact cat_list _ _
        · rw [FN.out.1, FN.out.2]
theorem rputo_is (o : O) (p : Ps) (T : List UInt8) (E : Int) (w : World) (hi : InO w o p) (hT : o.pb = T) (hE : o.pe = E) :
    Calls Tryz.prog 17 #[.agg (o.a p)] w fun e w' => e = .returned (.tuple #[.string ⟨T.toArray⟩, .int .i64 E]) ∧ Below w.heap.size w w' := by
  have g : ∀ e : Int, o.pe = e → ¬ e = 0 → T = [] ∧ E = e := fun e h hn => ⟨hT.symm.trans (opb_bad (by rw [h]; exact hn)), hE.symm.trans h⟩
  by_cases h1 : o.kind < 1
  · obtain ⟨rfl, rfl⟩ := g 1 (if_pos (.inl h1)) (by decide); exact rpo_1 o p w h1
  by_cases h2 : 9 < o.kind
  · obtain ⟨rfl, rfl⟩ := g 1 (if_pos (.inr (.inl h2))) (by decide); exact rpo_2 o p w (by simpa using h1) h2
  by_cases h3 : o.max < 0
  · obtain ⟨rfl, rfl⟩ := g 1 (if_pos (.inr (.inr (.inl h3)))) (by decide); exact rpo_3 o p w (by simpa using h1) (by simpa using h2) h3
  by_cases h4 : 64 < o.max
  · obtain ⟨rfl, rfl⟩ := g 1 (if_pos (.inr (.inr (.inr h4)))) (by decide); exact rpo_4 o p w (by simpa using h1) (by simpa using h2) (by simpa using h3) h4
  by_cases h5 : 16 < o.table.length
  · obtain ⟨rfl, rfl⟩ := g 8 (by unfold O.pe; rw [if_neg (by omega), if_pos h5]) (by decide); exact rpo_5 o p w (by simpa using h1) (by simpa using h2) (by simpa using h3) (by simpa using h4) (by omega)
  exact rpo_6 o p T E w hi (by simpa using h1) (by simpa using h2) (by simpa using h3) (by simpa using h4) (by rw [decide_eq_false_iff_not]; omega) hT hE

end Go.Proofs.YtmgdciihpjifgaaGreatDoor

namespace Go.Proofs.YtmgdciihpjifgaaGreatDoor
open Go.RowKit
set_option linter.unusedVariables false
set_option linter.unusedSimpArgs false

theorem sro_1 (a b : O) (p q : Ps) (w : World) (h1 : (a.kind != b.kind) = true) :
    Calls Tryz.prog 20 #[.agg (a.a p), .agg (b.a q)] w fun e w' => e = .returned (.bool false) ∧ Below w.heap.size w w' := by
  go_enter Tryz.func20, Tryz.ntmps20
  go_wp2
  go_ret
  exact ⟨rfl, below2s _ _ _⟩

theorem sro_2 (a b : O) (p q : Ps) (w : World) (h1 : (a.kind != b.kind) = false) (h2 : ¬ a.table = b.table) :
    Calls Tryz.prog 20 #[.agg (a.a p), .agg (b.a q)] w fun e w' => e = .returned (.bool false) ∧ Below w.heap.size w w' := by
  have e2 : (a.table == b.table) = false := by simpa using h2
  have e2 : (a.table != b.table) = true := by simpa using h2
  go_enter Tryz.func20, Tryz.ntmps20
  go_wp2
  go_ret
  exact ⟨rfl, below2s _ _ _⟩

theorem sro_3 (a b : O) (p q : Ps) (w : World) (h1 : (a.kind != b.kind) = false) (h2 : a.table = b.table) (h3 : (a.max != b.max) = true) :
    Calls Tryz.prog 20 #[.agg (a.a p), .agg (b.a q)] w fun e w' => e = .returned (.bool false) ∧ Below w.heap.size w w' := by
  go_enter Tryz.func20, Tryz.ntmps20
  go_wp2
  go_ret
  exact ⟨rfl, below2s _ _ _⟩

set_option maxHeartbeats 4000000 in
theorem sro_4 (a b : O) (p q : Ps) (r : Bool) (w : World) (ha : InO w a p) (hb : InO w b q) (hla : a.row.length ≤ 1000000 ∧ a.lo.length ≤ 1000000 ∧ a.hi.length ≤ 1000000 ∧ True) (h1 : (a.kind != b.kind) = false) (h2 : a.table = b.table) (h3 : (a.max != b.max) = false) (h : (Rk.rs a.row b.row && Rk.rs a.lo b.lo && Rk.rs a.hi b.hi && (decide (a.kind ≠ 6) || (decide (a.ch.pe = 0) && decide (b.ch.pe = 0) && decide (a.ch.pb = b.ch.pb)))) = r) :
    Calls Tryz.prog 20 #[.agg (a.a p), .agg (b.a q)] w fun e w' => e = .returned (.bool r) ∧ Below w.heap.size w w' := by
  have H := Lib.hid (And.intro ha (And.intro hb (And.intro hla h)))
  obtain ⟨s0, hs0⟩ : ∃ s, Rk.rs a.row b.row = s := ⟨_, rfl⟩
  obtain ⟨s1, hs1⟩ : ∃ s, Rk.rs a.lo b.lo = s := ⟨_, rfl⟩
  obtain ⟨s2, hs2⟩ : ∃ s, Rk.rs a.hi b.hi = s := ⟨_, rfl⟩
  rw [hs0, hs1, hs2] at h
  have G := Lib.hid (And.intro hs0 (And.intro hs1 (And.intro hs2 h)))
  clear ha hb hla h hs0 hs1 hs2
  go_enter Tryz.func20, Tryz.ntmps20
  have K0 := Lib.hid (show Below w.heap.size w ((w.alloc (.cells (a.a p) 48)).alloc (.cells (b.a q) 48)) ∧ Blk ((w.alloc (.cells (a.a p) 48)).alloc (.cells (b.a q) 48)) w.heap.size (a.a p) 48 ∧ Blk ((w.alloc (.cells (a.a p) 48)).alloc (.cells (b.a q) 48)) (w.heap.size + 1) (b.a q) 48 from ⟨below2s w _ _, (Blk.new w _ _).alloc _, Blk.new' _ _ _ _ (by simp)⟩)
  go_wp2_with fail
  refine (Rk.same06 a.row b.row s0 p.r q.r p.rc q.rc _ (Nat.le_trans (H.out.2.2.1.1) (by decide)) (H.out.1.below K0.out.1).1 (H.out.2.1.below K0.out.1).1 G.out.1).mono ?_
  rintro e w1 ⟨rfl, hb⟩
  have K1 := Lib.hid (And.intro (step0 K0.out.1 hb) (And.intro (K0.out.2.1.below hb) (K0.out.2.2.below hb)))
  clear hb
  cases s0 with
  | false =>
    have FN := Lib.hid (show r = false from by rw [← G.out.2.2.2]; simp)
    go_wp2
    go_ret
    rw [FN.out]
    exact ⟨rfl, K1.out.1⟩
  | true =>
    have qc := K1.out.2.1.cell
    have qd := K1.out.2.2.cell
    go_wp2_with fail
    refine (Rk.same06 a.lo b.lo s1 p.l q.l p.lc q.lc _ (Nat.le_trans (H.out.2.2.1.2.1) (by decide)) (H.out.1.below K1.out.1).2.1 (H.out.2.1.below K1.out.1).2.1 G.out.2.1).mono ?_
    rintro e w2 ⟨rfl, hb⟩
    have K2 := Lib.hid (And.intro (step0 K1.out.1 hb) (And.intro (K1.out.2.1.below hb) (K1.out.2.2.below hb)))
    clear hb qc qd
    cases s1 with
    | false =>
      have FN := Lib.hid (show r = false from by rw [← G.out.2.2.2]; simp)
      go_wp2
      go_ret
      rw [FN.out]
      exact ⟨rfl, K2.out.1⟩
    | true =>
      have qc := K2.out.2.1.cell
      have qd := K2.out.2.2.cell
      go_wp2_with fail
      refine (Rk.same06 a.hi b.hi s2 p.h q.h p.hc q.hc _ (Nat.le_trans (H.out.2.2.1.2.2.1) (by decide)) (H.out.1.below K2.out.1).2.2.1 (H.out.2.1.below K2.out.1).2.2.1 G.out.2.2.1).mono ?_
      rintro e w3 ⟨rfl, hb⟩
      have K3 := Lib.hid (And.intro (step0 K2.out.1 hb) (And.intro (K2.out.2.1.below hb) (K2.out.2.2.below hb)))
      clear hb qc qd
      cases s2 with
      | false =>
        have FN := Lib.hid (show r = false from by rw [← G.out.2.2.2]; simp)
        go_wp2
        go_ret
        rw [FN.out]
        exact ⟨rfl, K3.out.1⟩
      | true =>
        have qc := K3.out.2.1.cell
        have qd := K3.out.2.2.cell
        obtain ⟨pa, hpa⟩ : ∃ x, a.ch.pe = x := ⟨_, rfl⟩
        obtain ⟨pb, hpb⟩ : ∃ x, b.ch.pe = x := ⟨_, rfl⟩
        obtain ⟨A, hA⟩ : ∃ x, a.ch.pb = x := ⟨_, rfl⟩
        obtain ⟨B, hB⟩ : ∃ x, b.ch.pb = x := ⟨_, rfl⟩
        have hr := G.out.2.2.2
        by_cases h6 : a.kind = 6
        · have e6 : (a.kind != 6) = false := by simpa using h6
          have HRR := Lib.hid (show (decide (pa = 0) && decide (pb = 0) && decide (A = B)) = r from by rw [← hr, hpa, hpb, hA, hB]; simp [h6])
          have U := Lib.hid (And.intro hpa (And.intro hpb (And.intro hA hB)))
          clear h6 hr hpa hpb hA hB
          go_wp2_with ((refine (?_ : wpList _ _ _ (Oper.mk _ (Op.load 32 _) _ _ _ _ :: _) _ _)); refine wpList_load_part rfl 32 48 _ rfl (w.heap.size) 6 rfl (a.pre p) [] (a.ch.a p.n p.nc p.d p.dc) _ (K3.out.2.1) rfl Tryz.underlying32 rfl (infoCh) ?_; go_frame)
          refine (rputc_is a.ch p.n p.nc p.d p.dc A pa _ (H.out.1.below K3.out.1).2.2.2.1 U.out.2.2.1 U.out.1).mono ?_
          rintro e w4 ⟨rfl, hb⟩
          have K4 := Lib.hid (And.intro (step0 K3.out.1 hb) (K3.out.2.2.below hb))
          clear hb qc qd
          go_wp2_with ((refine (?_ : wpList _ _ _ (Oper.mk _ (Op.load 32 _) _ _ _ _ :: _) _ _)); refine wpList_load_part rfl 32 48 _ rfl (w.heap.size + 1) 6 rfl (b.pre q) [] (b.ch.a q.n q.nc q.d q.dc) _ (K4.out.2) rfl Tryz.underlying32 rfl (infoCh) ?_; go_frame)
          refine (rputc_is b.ch q.n q.nc q.d q.dc B pb _ (H.out.2.1.below K4.out.1).2.2.2.1 U.out.2.2.2 U.out.2.1).mono ?_
          rintro e w5 ⟨rfl, hb⟩
          have K5 := Lib.hid (step0 K4.out.1 hb)
          clear hb
          have hr := HRR.out
          by_cases hp : pa = 0
          · have e1 : (pa == 0) = true := eqb_t hp
            subst hp
            by_cases hq : pb = 0
            · have e2 : (pb == 0) = true := eqb_t hq
              subst hq
              by_cases he : A = B
              · have e3 : (A == B) = true := by simpa using he
                have FN := Lib.hid (show r = true by rw [← hr]; simp [he])
                clear he hr
                go_wp2
                go_ret
                rw [FN.out]
                exact ⟨rfl, K5.out⟩
              · have e3 : (A == B) = false := by simpa using he
                have FN := Lib.hid (show r = false by rw [← hr]; simp [he])
                clear he hr
                go_wp2
                go_ret
                rw [FN.out]
                exact ⟨rfl, K5.out⟩
            · have e2 : (pb == 0) = false := eqb_f hq
              have FN := Lib.hid (show r = false by rw [← hr]; simp [hq])
              clear hq hr
              go_wp2
              go_ret
              rw [FN.out]
              exact ⟨rfl, K5.out⟩
          · have e1 : (pa == 0) = false := eqb_f hp
            have FN := Lib.hid (show r = false by rw [← hr]; simp [hp])
            clear hp hr
            go_wp2
            go_ret
            rw [FN.out]
            exact ⟨rfl, K5.out⟩
        · have e6 : (a.kind != 6) = true := by simpa using h6
          have FN := Lib.hid (show r = true from by rw [← hr]; simp [h6])
          clear h6 hr hpa hpb hA hB
          go_wp2
          go_ret
          rw [FN.out]
          exact ⟨rfl, K3.out.1⟩

theorem same_ro (a b : O) (p q : Ps) (r : Bool) (w : World) (ha : InO w a p) (hb : InO w b q) (hla : ∀ y ∈ a.rv p, y.xs.length ≤ 1000000) (h : a.sm b = r) :
    Calls Tryz.prog 20 #[.agg (a.a p), .agg (b.a q)] w fun e w' => e = .returned (.bool r) ∧ Below w.heap.size w w' := by
  subst h
  unfold O.sm
  by_cases h1 : a.kind = b.kind
  · have e1 : (a.kind != b.kind) = false := by simpa using h1
    by_cases h2 : a.table = b.table
    · by_cases h3 : a.max = b.max
      · exact sro_4 a b p q _ w ha hb ⟨hla ⟨a.row, p.r, p.rc⟩ (by simp [O.rv]), hla ⟨a.lo, p.l, p.lc⟩ (by simp [O.rv]), hla ⟨a.hi, p.h, p.hc⟩ (by simp [O.rv]), trivial⟩ e1 h2 (by simpa using h3) (by simp [h1, h2, h3])
      · rw [show (decide (a.kind = b.kind) && decide (a.table = b.table) && decide (a.max = b.max)) = false from by simp [h3]]
        exact sro_3 a b p q w e1 h2 (by simpa using h3)
    · rw [show (decide (a.kind = b.kind) && decide (a.table = b.table)) = false from by simp [h2]]
      exact sro_2 a b p q w e1 h2
  · rw [show decide (a.kind = b.kind) = false from by simp [h1]]
    exact sro_1 a b p q w (by simpa using h1)

end Go.Proofs.YtmgdciihpjifgaaGreatDoor
