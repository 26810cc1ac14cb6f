/-
  The walk of the law ArenaPlays. Condition: the slice of deeds lies in memory.
-/
import Derived.Test.YtlommgljkjkmkaaArPl
namespace Go.Proofs.Ytlommgljkjkmkaa.Gn
open Go.RowKit
set_option linter.unusedVariables false
set_option linter.unusedSimpArgs false

set_option maxHeartbeats 2000000 in
set_option maxRecDepth 100000 in
theorem plays_long (most : Int) (xs : List Deed) (lo : Option Addr) (lc : Nat) (w : World) (h : 80 < xs.length) :
    Calls Try.prog 3 #[.int .i64 most, .slice lo xs.length lc] w fun e w' => e = .returned (.bool true) ∧ Below w.heap.size w w' := by
  have h1 : (80 : Int) < (xs.length : Int) := by omega
  clear h
  go_enter Try.func3, Try.ntmps3
  go_wp2_with fail
  refine (awake_any _).mono ?_
  rintro _ w1 ⟨rfl, hb⟩
  have B := Lib.hid hb
  clear hb
  go_wp2
  go_ret
  exact ⟨rfl, B.out⟩
set_option maxHeartbeats 2000000 in
set_option maxRecDepth 100000 in
theorem plays_most (most : Int) (xs : List Deed) (lo : Option Addr) (lc : Nat) (w : World) (h : xs.length ≤ 80) (hm : 5000 < most) :
    Calls Try.prog 3 #[.int .i64 most, .slice lo xs.length lc] w fun e w' => e = .returned (.bool true) ∧ Below w.heap.size w w' := by
  have h1 : decide ((80 : Int) < (xs.length : Int)) = false := by rw [decide_eq_false_iff_not]; omega
  clear h
  go_enter Try.func3, Try.ntmps3
  go_wp2_with fail
  refine (awake_any _).mono ?_
  rintro _ w1 ⟨rfl, hb⟩
  have B := Lib.hid hb
  clear hb
  go_wp2
  go_ret
  exact ⟨rfl, B.out⟩

set_option maxHeartbeats 8000000 in
set_option maxRecDepth 100000 in
theorem plays_main (most : Int) (xs : List Deed) (lo : Option Addr) (lc : Nat) (w : World) (h : xs.length ≤ 80) (hm : most ≤ 5000) (hsl : Sg elD w lo xs) :
    Calls Try.prog 3 #[.int .i64 most, .slice lo xs.length lc] w fun e w' => e = .returned (.bool true) ∧ Below w.heap.size w w' := by
  have hmx : Try.prog.follows .mixedOrders = true := by kernel_rfl
  have h1 : decide ((80 : Int) < (xs.length : Int)) = false := by rw [decide_eq_false_iff_not]; omega
  have h2 : decide ((5000 : Int) < most) = false := by rw [decide_eq_false_iff_not]; omega
  have HX := Lib.hid (And.intro hm (And.intro h hsl))
  clear h hm hsl
  obtain ⟨n, hn⟩ : ∃ n : Nat, n = if 0 ≤ most ∧ most ≤ 4096 then most.toNat else 0 := ⟨_, rfl⟩
  have HN := Lib.hid (And.intro hn (show n ≤ 4096 from by rw [hn]; split <;> omega))
  clear hn
  go_enter Try.func3, Try.ntmps3
  go_wp2_with fail
  refine (new_is most _ n HN.out.1).mono ?_
  rintro _ w1 ⟨rfl, hA, hb⟩
  obtain ⟨M1, hM1⟩ : ∃ M : Nat → Prop, (fun k => k = w.heap.size) = M := ⟨_, rfl⟩
  rw [hM1] at hA
  obtain ⟨p, hp⟩ : ∃ p, w.heap.size = p := ⟨_, rfl⟩
  have hMp : ∀ k, M1 k → k = p := fun k hk => by rw [← hM1] at hk; exact hk.trans hp
  rw [hp] at hA ⊢
  have A1 := Lib.hid (And.intro hA (And.intro hMp (And.intro hb hp)))
  clear hA hb hM1 hMp hp
  go_wp2_with fail
  refine (dnew_is most _ n HN.out.1).mono ?_
  rintro _ w2 ⟨v, F0, rfl, hD, hF, hb⟩
  obtain ⟨ga, gc, ta, tc, ba, bc, rfl, hjunk⟩ := id hD
  clear hjunk
  rw [show (Dc0 n).gens.length = n from by simp [Dc0]] at hD ⊢
  obtain ⟨L1, hL1⟩ : ∃ L, (Dc0 n).taken.length = L := ⟨_, rfl⟩
  obtain ⟨L2, hL2⟩ : ∃ L, (Dc0 n).back.length = L := ⟨_, rfl⟩
  obtain ⟨L3, hL3⟩ : ∃ L, ((Dc0 n).ever : Int) = L := ⟨_, rfl⟩
  rw [hL1, hL2, hL3] at hD ⊢
  obtain ⟨q, hq⟩ : ∃ q, w2.heap.size = q := ⟨_, rfl⟩
  obtain ⟨W3, hW3⟩ : ∃ W3, w2.alloc (.cells #[.slice ga n gc, .slice ta L1 tc, .slice ba L2 bc, .int .i64 L3] 29) = W3 := ⟨_, rfl⟩
  have D2 := Lib.hid (show Ar W3 p M1 (Arn0 Int n) ∧ Blk W3 q #[.slice ga n gc, .slice ta L1 tc, .slice ba L2 bc, .int .i64 L3] 29 ∧ Dv W3 (.agg #[.slice ga n gc, .slice ta L1 tc, .slice ba L2 bc, .int .i64 L3]) (Dc0 n) F0 ∧ (∀ k, F0 k → w1.heap.size ≤ k ∧ k < q) ∧ w1.heap.size ≤ q ∧ Below w.heap.size w W3 from by
    rw [← hW3, ← hq]
    have hb3 : Below w2.heap.size w2 _ := below1 w2 (.cells #[.slice ga n gc, .slice ta L1 tc, .slice ba L2 bc, .int .i64 L3] 29)
    exact ⟨(A1.out.1.keep hb).keep hb3, Blk.new _ _ _, hD.keep hb3, fun k hk => ⟨hF k hk, hD.lt k hk⟩, hb.size, A1.out.2.2.1.trans ((hb.mono A1.out.2.2.1.size).trans (hb3.mono (Nat.le_trans A1.out.2.2.1.size hb.size)))⟩)
  have HQ := Lib.hid hq
  clear hD hF hb hL1 hL2 hL3 hq
  have x0 := D2.out.2.1.four.1.1
  rw [← HQ.out] at x0
  go_wp2_with (first
    | (simp only [hW3])
    | ((
       refine makeE elI rfl _ _ rfl .i64 .i64 (n : Int) (n : Int) n _ 0 rfl (by rfl) (by rfl) rfl rfl (by have := HN.out.2; omega) ?_
       intro hh w4 hhs hO hb
       have P0 := Lib.hid (Pl.new (W0 := w) (G := F0) (D2.out.1.keep hb) (D2.out.2.1.below hb) (D2.out.2.2.1.keep hb) (hO.base D2.out.2.2.2.2.2.size) (by simp) (Nat.le_of_eq A1.out.2.2.2) (Nat.le_trans A1.out.2.2.1.size D2.out.2.2.2.2.1) (by have := D2.out.2.2.2.2.2.size; omega) (fun e => by have h1 := A1.out.2.1 _ e; have h2 := A1.out.1.lt; have h3 := D2.out.2.2.2.2.1; omega) (fun e => by have h1 := A1.out.2.1 _ e; have h2 := D2.out.1.lt; omega) (fun k hk => ⟨fun e => by have h1 := A1.out.2.1 _ e; have h2 := A1.out.1.lt; have h3 := (D2.out.2.2.2.1 k hk).1; omega, Nat.ne_of_lt (D2.out.2.2.2.1 k hk).2, fun e => by have h1 := D2.out.2.2.1.lt k hk; omega⟩) (D2.out.2.2.2.2.2.trans (hb.mono D2.out.2.2.2.2.2.size)))
       clear hhs hO hb x0 hW3
       go_frame)))
  rw [HQ.out]
  rw [← doc_new (β := Int)] at P0
  go_loopw [7, 9] (fun vr o9 wr => ∃ (j : Nat) (a : Arn Int) (H : List Int) (R : List (Int × Int)) (M : Nat → Prop) (F : Nat → Prop) (c0 c1 c2 c3 : Value), o9 = .int .i64 j ∧ j ≤ xs.length ∧ Pn a H R n j ∧ Pl w wr p M a q F c0 c1 c2 c3 a.doc hh n H vr R []) (fun _ i _ => xs.length - (intOf i).toNat)
  case atStart => exact ⟨0, Arn0 Int n, List.replicate n 0, [], M1, F0, _, _, _, _, rfl, Nat.zero_le _, Pn.new n HN.out.2, P0.out⟩
  case round =>
    obtain ⟨j, a, H, R, M, F, c0, c1, c2, c3, rfl, hj, hI, hP⟩ := hrel
    obtain ⟨cga, cl0, cgc, cta, cl1, ctc, cba, cl2, cbc, ce, rfl, rfl, rfl, rfl⟩ := hP.dv.shape4
    by_cases hlt : j < xs.length
    · obtain ⟨lq, rfl, l0⟩ := HX.out.2.2.below hP.be j xs[j] (List.getElem?_eq_getElem hlt)
      obtain ⟨⟨K, N, Z, S0, G0⟩, hr⟩ : ∃ r, xs[j] = r := ⟨_, rfl⟩
      rw [hr] at l0
      have u0 : wr.cell? (lq.add (j * 5)) = some (.int .i64 K) := l0.1 _ rfl
      have u1 : wr.cell? ⟨(lq.add (j * 5)).block, (lq.add (j * 5)).off + 1, none⟩ = some (.int .i64 N) := l0.2 1 _ rfl (by decide)
      have u2 : wr.cell? ⟨(lq.add (j * 5)).block, (lq.add (j * 5)).off + 2, none⟩ = some (.int .i64 Z) := l0.2 2 _ rfl (by decide)
      have u3 : wr.cell? ⟨(lq.add (j * 5)).block, (lq.add (j * 5)).off + 3, none⟩ = some (.int .i64 S0) := l0.2 3 _ rfl (by decide)
      have u4 : wr.cell? ⟨(lq.add (j * 5)).block, (lq.add (j * 5)).off + 4, none⟩ = some (.int .i64 G0) := l0.2 4 _ rfl (by decide)
      have HB := Lib.hid (show j ≤ 80 ∧ R.length ≤ 80 ∧ a.most ≤ 4096 from by have := hI.1.2.1; have := hI.2.2.2.2; have := HX.out.2.1; omega)
      have hw : wrap64 ((j : Int) + 1) = (j : Int) + 1 := wrap_k (Nat.le_trans HB.out.1 (by decide))
      have n0 : (j : Int) < (xs.length : Int) := Int.ofNat_lt.2 hlt
      have n1 : (0 : Int) ≤ (j : Int) := Int.natCast_nonneg j
      obtain ⟨ro, rc, rfl, hjunk⟩ := hP.rb.sl
      clear hjunk
      have PI := Lib.hid hI
      have P1 := Lib.hid (hP.box #[.int .i64 K, .int .i64 N, .int .i64 Z, .int .i64 S0, .int .i64 G0] 35)
      have HJ := Lib.hid hj
      clear hI hP hj hr l0
      go_wp2_with fail
      refine (ref_is R ro rc K N Z S0 G0 _ P1.out.rb.seg (Nat.le_trans HB.out.2.1 (by decide))).mono ?_
      rintro _ w2 ⟨s, g, rfl, hb⟩
      have P2 := Lib.hid ((P1.out.keep hb).box #[.int .i64 s, .int .i64 g] 33)
      clear hb u0 u1 u2 u3 u4
      obtain ⟨⟨x0, x1, x2, x3⟩, y0, y1, y2, y3⟩ := P2.out.qb.four
      obtain ⟨⟨z0, z1⟩, hjunk⟩ := (P2.out.bx _ (List.Mem.head _)).1.two
      clear hjunk
      obtain ⟨r, hr⟩ : ∃ r, a.right s g = r := ⟨_, rfl⟩
      have RR := Lib.hid hr
      clear hr
      go_wp2_with fail
      refine (dright_arn a (j : Int) _ F _ s g r P2.out.dv PI.out.1 RR.out).mono ?_
      rintro _ w3 ⟨rfl, hb⟩
      have P3 := Lib.hid (P2.out.keep hb)
      clear hb x0 x1 x2 x3 y0 y1 y2 y3 z0 z1
      obtain ⟨⟨x0, x1, x2, x3⟩, y0, y1, y2, y3⟩ := P3.out.qb.four
      obtain ⟨⟨z0, z1⟩, hjunk⟩ := (P3.out.bx _ (List.Mem.head _)).1.two
      clear hjunk
      have d0 := (P3.out.bx _ (List.Mem.tail _ (List.Mem.head _))).1.cell 0
      have d1 := (P3.out.bx _ (List.Mem.tail _ (List.Mem.head _))).1.cell 1
      simp only [List.getElem?_toArray, List.getElem?_cons_zero, List.getElem?_cons_succ] at d0 d1
      by_cases k0 : K = 0
      · subst k0
        by_cases hr0 : a.room = 0
        · have HR := Lib.hid hr0
          clear hr0
          go_wp2_with fail
          refine (take_full a (j : Int) p M N _ P3.out.ar PI.out.1 HR.out).mono ?_
          rintro _ w4 ⟨rfl, hb⟩
          have P4 := Lib.hid ((P3.out.keep hb).box #[.int .i64 0, .int .i64 0] 33)
          clear hb x0 x1 x2 x3 y0 y1 y2 y3 d0 d1 z0 z1
          obtain ⟨⟨x0, x1, x2, x3⟩, y0, y1, y2, y3⟩ := P4.out.qb.four
          go_wp2_with fail
          refine (dtake_none a (j : Int) _ F _ P4.out.dv PI.out.1 HR.out).mono ?_
          rintro _ w5 ⟨rfl, hb⟩
          have P5 := Lib.hid (((P4.out.keep hb).box #[.slice cga cl0 cgc, .slice cta cl1 ctc, .slice cba cl2 cbc, .int .i64 ce] 29).box' #[.int .i64 0, .int .i64 0] 33 (w5.heap.size + 1) (by simp))
          clear hb x0 x1 x2 x3 y0 y1 y2 y3
          obtain ⟨⟨x0, x1, x2, x3⟩, y0, y1, y2, y3⟩ := P5.out.qb.four
          obtain ⟨W6, hW6⟩ : ∃ W, ((((((w5.alloc (.cells #[.slice cga cl0 cgc, .slice cta cl1 ctc, .slice cba cl2 cbc, .int .i64 ce] 29)).alloc (.cells #[.int .i64 0, .int .i64 0] 33)).setCell ⟨q, 0, none⟩ (.slice cga cl0 cgc)).setCell ⟨q, 1, none⟩ (.slice cta cl1 ctc)).setCell ⟨q, 2, none⟩ (.slice cba cl2 cbc)).setCell ⟨q, 3, none⟩ (.int .i64 ce)) = W := ⟨_, rfl⟩
          have P6 := P5.out.put P5.out.dv P5.out.FM
          rw [hW6] at P6
          have P6 := Lib.hid P6
          obtain ⟨⟨r0, r1⟩, hjunk⟩ := (P6.out.bx _ (List.Mem.head _)).1.two
          clear hjunk
          obtain ⟨⟨z0, z1⟩, hjunk⟩ := (P6.out.bx _ (List.Mem.tail _ (List.Mem.tail _ (List.Mem.head _)))).1.two
          clear hjunk
          go_wp2_with fail
          refine wp_region_held_drew (S := (fun v => v.cell? ⟨q, 0, none⟩ = some (.slice cga cl0 cgc) ∧ v.cell? ⟨q, 1, none⟩ = some (.slice cta cl1 ctc) ∧ v.cell? ⟨q, 2, none⟩ = some (.slice cba cl2 cbc) ∧ v.cell? ⟨q, 3, none⟩ = some (.int .i64 ce))) (by kernel_rfl) P6.out.qb.four.1 (fun hH0 => ?_)
          refine wpAnyH_take (i := 0) (oi := _) (v := .pointer (some ⟨p, 0, none⟩)) rfl (by kernel_rfl) (by kernel_rfl) (by kernel_rfl) (fun _ _ _ h => h) (Or.inl ⟨by rfl, by intro v hv; go_simp⟩) hH0 ?_
          try simp only [Act.put, List.getElem_toArray, List.getElem_cons_succ, List.getElem_cons_zero, List.setIfInBounds_toArray, List.set_cons_zero, List.set_cons_succ]
          refine wpAnyH_take (i := 2) (oi := _) (v := .agg #[.slice cga cl0 cgc, .slice cta cl1 ctc, .slice cba cl2 cbc, .int .i64 ce]) rfl (by kernel_rfl) (by kernel_rfl) (by kernel_rfl) (fun _ _ _ h => h) (Or.inl ⟨by rfl, by intro v hv; go_simp⟩) hH0 ?_
          try simp only [Act.put, List.getElem_toArray, List.getElem_cons_succ, List.getElem_cons_zero, List.setIfInBounds_toArray, List.set_cons_zero, List.set_cons_succ]
          refine wpAnyH_ready (rs := [1]) (by kernel_rfl) (by simp) ?_
          refine AllReadyH.cons (o := _) rfl (fun K' hK => ?_) AllReadyH.nil
          go_simp
          refine (room_is a _ p _ _ P6.out.drew.ar PI.out.1).mono ?_
          rintro _ wt1 ⟨rfl, hb⟩
          have T1 := Lib.hid (P6.out.drew.keep hb)
          clear hb
          go_wp2_with fail
          refine hK.out _ _ T1.out.qb.four.1 (fun hH1 => ?_)
          clear hK K' hH0
          try simp only [Act.put, List.getElem_toArray, List.getElem_cons_succ, List.getElem_cons_zero, List.setIfInBounds_toArray, List.set_cons_zero, List.set_cons_succ]
          refine wpAnyH_ready (rs := [3]) (by kernel_rfl) (by simp) ?_
          refine AllReadyH.cons (o := _) rfl (fun K' hK => ?_) AllReadyH.nil
          go_simp
          refine (droom_arn a _ _ _ _ T1.out.dv PI.out.1).mono ?_
          rintro _ wt2 ⟨rfl, hb⟩
          have T2 := Lib.hid (T1.out.keep hb)
          clear hb
          go_wp2_with fail
          refine hK.out _ _ T2.out.qb.four.1 (fun hH2 => ?_)
          clear hK K' hH1
          try simp only [Act.put, List.getElem_toArray, List.getElem_cons_succ, List.getElem_cons_zero, List.setIfInBounds_toArray, List.set_cons_zero, List.set_cons_succ]
          refine wpAnyH_take (i := 4) (oi := _) (v := .bool false) rfl (by kernel_rfl) (by kernel_rfl) (by kernel_rfl) (fun _ _ _ h => h) (Or.inl ⟨by rfl, by intro v hv; go_simp⟩) hH2 ?_
          try simp only [Act.put, List.getElem_toArray, List.getElem_cons_succ, List.getElem_cons_zero, List.setIfInBounds_toArray, List.set_cons_zero, List.set_cons_succ]
          refine wpAnyH_done (by kernel_rfl) ?_ _
          go_wp2
          go_roundw
          case rel => exact ⟨j + 1, a, H, R, M, F, _, _, _, _, by go_num, hlt, PI.out.full, T2.out.drop⟩
          case measure => first | (rw [hw]; simp [intOf]; omega) | (simp [intOf]; omega)
        · obtain ⟨A, hA⟩ : ∃ A, a.at = A := ⟨_, rfl⟩
          obtain ⟨G, hG⟩ : ∃ G, a.gen 0 + 1 = G := ⟨_, rfl⟩
          obtain ⟨b, hb⟩ : ∃ b, a.take 0 N = b := ⟨_, rfl⟩
          have HT := Lib.hid (And.intro hr0 (And.intro hA (And.intro hG hb)))
          have PT := Lib.hid (show Pn b (H.set A N) (R ++ [((A : Int), G)]) n (j + 1) ∧ A < n from by
            have := PI.out.take hr0 N ((A : Int), G)
            rwa [hA, hb] at this)
          clear hr0 hA hG hb
          have i0 : (0 : Int) ≤ (A : Int) := Int.natCast_nonneg A
          have i1 : (A : Int) < (n : Int) := Int.ofNat_lt.2 PT.out.2
          go_wp2_with fail
          refine (take_eq a (j : Int) p M N (A : Int) G b _ P3.out.ar PI.out.1 (Int.natCast_nonneg j) (by have := HB.out.1; omega) HT.out.1 (by rw [HT.out.2.1]) HT.out.2.2.1 HT.out.2.2.2).mono ?_
          rintro _ w4 ⟨rfl, hto⟩
          obtain ⟨M4, hP⟩ := P3.out.call hto
          have P4 := Lib.hid (hP.box #[.int .i64 (A : Int), .int .i64 G] 33)
          clear hto hP x0 x1 x2 x3 y0 y1 y2 y3 d0 d1 z0 z1
          obtain ⟨⟨x0, x1, x2, x3⟩, y0, y1, y2, y3⟩ := P4.out.qb.four
          go_wp2_with fail
          refine (dtake_arn a (j : Int) _ F _ N A G b P4.out.dv PI.out.1 (Int.natCast_nonneg j) (by have := HB.out.1; omega) HT.out.1 HT.out.2.1 HT.out.2.2.1 HT.out.2.2.2).mono ?_
          rintro _ w5 ⟨v5, F5, rfl, hD, hF, hb⟩
          obtain ⟨ega, el0, egc, eta, el1, etc, eba, el2, ebc, ee, rfl⟩ := hD.shape
          have P5 := Lib.hid (((P4.out.keep hb).box #[.slice ega el0 egc, .slice eta el1 etc, .slice eba el2 ebc, .int .i64 ee] 29).box' #[.int .i64 (A : Int), .int .i64 G] 33 (w5.heap.size + 1) (by simp))
          have hD5 := hD.keep (below2 w5 (.cells #[.slice ega el0 egc, .slice eta el1 etc, .slice eba el2 ebc, .int .i64 ee] 29) (.cells #[.int .i64 (A : Int), .int .i64 G] 33))
          have hF5 := P4.out.fresh hF
          clear hb hD hF x0 x1 x2 x3 y0 y1 y2 y3
          obtain ⟨⟨x0, x1, x2, x3⟩, y0, y1, y2, y3⟩ := P5.out.qb.four
          obtain ⟨W6, hW6⟩ : ∃ W, ((((((w5.alloc (.cells #[.slice ega el0 egc, .slice eta el1 etc, .slice eba el2 ebc, .int .i64 ee] 29)).alloc (.cells #[.int .i64 (A : Int), .int .i64 G] 33)).setCell ⟨q, 0, none⟩ (.slice ega el0 egc)).setCell ⟨q, 1, none⟩ (.slice eta el1 etc)).setCell ⟨q, 2, none⟩ (.slice eba el2 ebc)).setCell ⟨q, 3, none⟩ (.int .i64 ee)) = W := ⟨_, rfl⟩
          have P6 := P5.out.put hD5 hF5
          rw [hW6] at P6
          have P6 := Lib.hid P6
          clear hD5 hF5
          obtain ⟨⟨r0, r1⟩, hjunk⟩ := (P6.out.bx _ (List.Mem.head _)).1.two
          clear hjunk
          obtain ⟨⟨z0, z1⟩, hjunk⟩ := (P6.out.bx _ (List.Mem.tail _ (List.Mem.tail _ (List.Mem.head _)))).1.two
          clear hjunk
          go_wp2_with (at_builtin; go_loud (
            refine appE elR rfl _ _ rfl w.heap.size (.slice ro R.length rc) R ((A : Int), G) _ rfl W6 rfl P6.out.rb W6.heap.size rfl rfl (by have := HB.out.2.1; omega) P6.out.be.size ?_
            intro v7 w7 hown hgr hbk hbel
            have P7 := Lib.hid (P6.out.ref hown hgr hbk)
            clear hown hgr hbk hbel
            obtain ⟨⟨s0, s1⟩, hjunk⟩ := (P7.out.bx _ (List.Mem.head _)).1.two
            clear hjunk
            have t0 := (P7.out.bx _ (List.Mem.tail _ (List.Mem.tail _ (List.Mem.tail _ (List.Mem.tail _ (List.Mem.head _)))))).1.cell 0
            have t1 := (P7.out.bx _ (List.Mem.tail _ (List.Mem.tail _ (List.Mem.tail _ (List.Mem.tail _ (List.Mem.head _)))))).1.cell 1
            simp only [List.getElem?_toArray, List.getElem?_cons_zero, List.getElem?_cons_succ] at t0 t1
            obtain ⟨x7, hx7⟩ : ∃ x, H[A]? = some x := ⟨_, List.getElem?_eq_getElem (by have := PI.out.2.2.1; have := PT.out.2; omega)⟩
            have a7 := P7.out.at hx7
            have b7 := P7.out.fr A
            clear hx7
            have P8 := P7.out.hold PT.out.2 N
            obtain ⟨W8, hW8⟩ : ∃ W, w7.setCell ⟨hh, A, none⟩ (.int .i64 N) = W := ⟨_, rfl⟩
            rw [hW8] at P8
            have P8 := Lib.hid P8
            go_frame))
          go_wp2_with fail
          refine wp_region_held_drew (S := (fun v => v.cell? ⟨q, 0, none⟩ = some (.slice ega el0 egc) ∧ v.cell? ⟨q, 1, none⟩ = some (.slice eta el1 etc) ∧ v.cell? ⟨q, 2, none⟩ = some (.slice eba el2 ebc) ∧ v.cell? ⟨q, 3, none⟩ = some (.int .i64 ee))) (by kernel_rfl) P8.out.qb.four.1 (fun hH0 => ?_)
          refine wpAnyH_take (i := 0) (oi := _) (v := .pointer (some ⟨p, 0, none⟩)) rfl (by kernel_rfl) (by kernel_rfl) (by kernel_rfl) (fun _ _ _ h => h) (Or.inl ⟨by rfl, by intro v hv; go_simp⟩) hH0 ?_
          try simp only [Act.put, List.getElem_toArray, List.getElem_cons_succ, List.getElem_cons_zero, List.setIfInBounds_toArray, List.set_cons_zero, List.set_cons_succ]
          refine wpAnyH_take (i := 2) (oi := _) (v := .agg #[.slice ega el0 egc, .slice eta el1 etc, .slice eba el2 ebc, .int .i64 ee]) rfl (by kernel_rfl) (by kernel_rfl) (by kernel_rfl) (fun _ _ _ h => h) (Or.inl ⟨by rfl, by intro v hv; go_simp⟩) hH0 ?_
          try simp only [Act.put, List.getElem_toArray, List.getElem_cons_succ, List.getElem_cons_zero, List.setIfInBounds_toArray, List.set_cons_zero, List.set_cons_succ]
          refine wpAnyH_ready (rs := [1]) (by kernel_rfl) (by simp) ?_
          refine AllReadyH.cons (o := _) rfl (fun K' hK => ?_) AllReadyH.nil
          go_simp
          refine (room_is b _ p _ _ P8.out.drew.ar PT.out.1.1).mono ?_
          rintro _ wt1 ⟨rfl, hb⟩
          have T1 := Lib.hid (P8.out.drew.keep hb)
          clear hb
          go_wp2_with fail
          refine hK.out _ _ T1.out.qb.four.1 (fun hH1 => ?_)
          clear hK K' hH0
          try simp only [Act.put, List.getElem_toArray, List.getElem_cons_succ, List.getElem_cons_zero, List.setIfInBounds_toArray, List.set_cons_zero, List.set_cons_succ]
          refine wpAnyH_ready (rs := [3]) (by kernel_rfl) (by simp) ?_
          refine AllReadyH.cons (o := _) rfl (fun K' hK => ?_) AllReadyH.nil
          go_simp
          refine (droom_arn b _ _ _ _ T1.out.dv PT.out.1.1).mono ?_
          rintro _ wt2 ⟨rfl, hb⟩
          have T2 := Lib.hid (T1.out.keep hb)
          clear hb
          go_wp2_with fail
          refine hK.out _ _ T2.out.qb.four.1 (fun hH2 => ?_)
          clear hK K' hH1
          try simp only [Act.put, List.getElem_toArray, List.getElem_cons_succ, List.getElem_cons_zero, List.setIfInBounds_toArray, List.set_cons_zero, List.set_cons_succ]
          refine wpAnyH_take (i := 4) (oi := _) (v := .bool false) rfl (by kernel_rfl) (by kernel_rfl) (by kernel_rfl) (fun _ _ _ h => h) (Or.inl ⟨by rfl, by intro v hv; go_simp⟩) hH2 ?_
          try simp only [Act.put, List.getElem_toArray, List.getElem_cons_succ, List.getElem_cons_zero, List.setIfInBounds_toArray, List.set_cons_zero, List.set_cons_succ]
          refine wpAnyH_done (by kernel_rfl) ?_ _
          go_wp2
          go_roundw
          case rel => exact ⟨j + 1, b, (H.set A N), (R ++ [((A : Int), G)]), M4, F5, _, _, _, _, by go_num, hlt, PT.out.1, T2.out.drop⟩
          case measure => first | (rw [hw]; simp [intOf]; omega) | (simp [intOf]; omega)
      · have b0 : (K == 0) = false := by rw [beq_eq_false_iff_ne]; exact k0
        by_cases k1 : K = 1
        · subst k1
          clear b0 k0
          cases r with
          | true =>
            obtain ⟨i, x, hs, hi, hk, hg⟩ := Arn.right_t RR.out
            subst hs
            have HI := Lib.hid (And.intro hi (And.intro hk hg))
            obtain ⟨X, hX⟩ : ∃ X, x.h = X := ⟨_, rfl⟩
            have hil : i < n := by have h1 := (List.getElem?_eq_some_iff.1 hi).1; have h2 := PI.out.1.1; have h3 := PI.out.2.1; omega
            have HH := Lib.hid (show H[i]? = some X ∧ i < n ∧ a.sl.length ≤ 5000 ∧ a.bk.length ≤ 5000 ∧ x.h = X from ⟨hX ▸ PI.out.2.2.2.1 i x hi hk, hil, by have := PI.out.1.1; have := PI.out.1.2.1; omega, by have := PI.out.1.bk_le; have := PI.out.1.1; have := PI.out.1.2.1; omega, hX⟩)
            have i0 : (0 : Int) ≤ (i : Int) := Int.natCast_nonneg i
            have i1 : (i : Int) < (n : Int) := Int.ofNat_lt.2 hil
            clear hi hk hg hX hil
            go_wp2_with fail
            refine (get_eq a p M i x (i : Int) g X _ P3.out.ar HI.out.1 HI.out.2.1 HH.out.2.2.1 rfl HI.out.2.2 HH.out.2.2.2.2).mono ?_
            rintro _ w4 ⟨rfl, hb⟩
            have P4 := Lib.hid (P3.out.keep hb)
            clear hb x0 x1 x2 x3 y0 y1 y2 y3 d0 d1 z0 z1
            obtain ⟨⟨z0, z1⟩, hjunk⟩ := (P4.out.bx _ (List.Mem.head _)).1.two
            clear hjunk
            have a4 := P4.out.at HH.out.1
            go_wp2_with fail
            refine wp_region_held_drew (S := (fun v => v.cell? ⟨q, 0, none⟩ = some (.slice cga cl0 cgc) ∧ v.cell? ⟨q, 1, none⟩ = some (.slice cta cl1 ctc) ∧ v.cell? ⟨q, 2, none⟩ = some (.slice cba cl2 cbc) ∧ v.cell? ⟨q, 3, none⟩ = some (.int .i64 ce))) (by kernel_rfl) P4.out.qb.four.1 (fun hH0 => ?_)
            refine wpAnyH_take (i := 0) (oi := _) (v := .pointer (some ⟨p, 0, none⟩)) rfl (by kernel_rfl) (by kernel_rfl) (by kernel_rfl) (fun _ _ _ h => h) (Or.inl ⟨by rfl, by intro v hv; go_simp⟩) hH0 ?_
            try simp only [Act.put, List.getElem_toArray, List.getElem_cons_succ, List.getElem_cons_zero, List.setIfInBounds_toArray, List.set_cons_zero, List.set_cons_succ]
            refine wpAnyH_take (i := 2) (oi := _) (v := .agg #[.slice cga cl0 cgc, .slice cta cl1 ctc, .slice cba cl2 cbc, .int .i64 ce]) rfl (by kernel_rfl) (by kernel_rfl) (by kernel_rfl) (fun _ _ _ h => h) (Or.inl ⟨by rfl, by intro v hv; go_simp⟩) hH0 ?_
            try simp only [Act.put, List.getElem_toArray, List.getElem_cons_succ, List.getElem_cons_zero, List.setIfInBounds_toArray, List.set_cons_zero, List.set_cons_succ]
            refine wpAnyH_ready (rs := [1]) (by kernel_rfl) (by simp) ?_
            refine AllReadyH.cons (o := _) rfl (fun K' hK => ?_) AllReadyH.nil
            go_simp
            refine (room_is a _ p _ _ P4.out.drew.ar PI.out.1).mono ?_
            rintro _ wt1 ⟨rfl, hb⟩
            have T1 := Lib.hid (P4.out.drew.keep hb)
            clear hb
            go_wp2_with fail
            refine hK.out _ _ T1.out.qb.four.1 (fun hH1 => ?_)
            clear hK K' hH0
            try simp only [Act.put, List.getElem_toArray, List.getElem_cons_succ, List.getElem_cons_zero, List.setIfInBounds_toArray, List.set_cons_zero, List.set_cons_succ]
            refine wpAnyH_ready (rs := [3]) (by kernel_rfl) (by simp) ?_
            refine AllReadyH.cons (o := _) rfl (fun K' hK => ?_) AllReadyH.nil
            go_simp
            refine (droom_arn a _ _ _ _ T1.out.dv PI.out.1).mono ?_
            rintro _ wt2 ⟨rfl, hb⟩
            have T2 := Lib.hid (T1.out.keep hb)
            clear hb
            go_wp2_with fail
            refine hK.out _ _ T2.out.qb.four.1 (fun hH2 => ?_)
            clear hK K' hH1
            try simp only [Act.put, List.getElem_toArray, List.getElem_cons_succ, List.getElem_cons_zero, List.setIfInBounds_toArray, List.set_cons_zero, List.set_cons_succ]
            refine wpAnyH_take (i := 4) (oi := _) (v := .bool false) rfl (by kernel_rfl) (by kernel_rfl) (by kernel_rfl) (fun _ _ _ h => h) (Or.inl ⟨by rfl, by intro v hv; go_simp⟩) hH2 ?_
            try simp only [Act.put, List.getElem_toArray, List.getElem_cons_succ, List.getElem_cons_zero, List.setIfInBounds_toArray, List.set_cons_zero, List.set_cons_succ]
            refine wpAnyH_done (by kernel_rfl) ?_ _
            go_wp2
            go_roundw
            case rel => exact ⟨j + 1, a, H, R, M, F, _, _, _, _, by go_num, hlt, PI.out.full, T2.out.drop⟩
            case measure => first | (rw [hw]; simp [intOf]; omega) | (simp [intOf]; omega)
          | false =>
            go_wp2_with fail
            refine (get_no a p M s g _ P3.out.ar RR.out).mono ?_
            rintro _ w4 ⟨rfl, hb⟩
            have P4 := Lib.hid (P3.out.keep hb)
            clear hb x0 x1 x2 x3 y0 y1 y2 y3 d0 d1 z0 z1
            obtain ⟨⟨z0, z1⟩, hjunk⟩ := (P4.out.bx _ (List.Mem.head _)).1.two
            clear hjunk
            go_wp2_with fail
            refine wp_region_held_drew (S := (fun v => v.cell? ⟨q, 0, none⟩ = some (.slice cga cl0 cgc) ∧ v.cell? ⟨q, 1, none⟩ = some (.slice cta cl1 ctc) ∧ v.cell? ⟨q, 2, none⟩ = some (.slice cba cl2 cbc) ∧ v.cell? ⟨q, 3, none⟩ = some (.int .i64 ce))) (by kernel_rfl) P4.out.qb.four.1 (fun hH0 => ?_)
            refine wpAnyH_take (i := 0) (oi := _) (v := .pointer (some ⟨p, 0, none⟩)) rfl (by kernel_rfl) (by kernel_rfl) (by kernel_rfl) (fun _ _ _ h => h) (Or.inl ⟨by rfl, by intro v hv; go_simp⟩) hH0 ?_
            try simp only [Act.put, List.getElem_toArray, List.getElem_cons_succ, List.getElem_cons_zero, List.setIfInBounds_toArray, List.set_cons_zero, List.set_cons_succ]
            refine wpAnyH_take (i := 2) (oi := _) (v := .agg #[.slice cga cl0 cgc, .slice cta cl1 ctc, .slice cba cl2 cbc, .int .i64 ce]) rfl (by kernel_rfl) (by kernel_rfl) (by kernel_rfl) (fun _ _ _ h => h) (Or.inl ⟨by rfl, by intro v hv; go_simp⟩) hH0 ?_
            try simp only [Act.put, List.getElem_toArray, List.getElem_cons_succ, List.getElem_cons_zero, List.setIfInBounds_toArray, List.set_cons_zero, List.set_cons_succ]
            refine wpAnyH_ready (rs := [1]) (by kernel_rfl) (by simp) ?_
            refine AllReadyH.cons (o := _) rfl (fun K' hK => ?_) AllReadyH.nil
            go_simp
            refine (room_is a _ p _ _ P4.out.drew.ar PI.out.1).mono ?_
            rintro _ wt1 ⟨rfl, hb⟩
            have T1 := Lib.hid (P4.out.drew.keep hb)
            clear hb
            go_wp2_with fail
            refine hK.out _ _ T1.out.qb.four.1 (fun hH1 => ?_)
            clear hK K' hH0
            try simp only [Act.put, List.getElem_toArray, List.getElem_cons_succ, List.getElem_cons_zero, List.setIfInBounds_toArray, List.set_cons_zero, List.set_cons_succ]
            refine wpAnyH_ready (rs := [3]) (by kernel_rfl) (by simp) ?_
            refine AllReadyH.cons (o := _) rfl (fun K' hK => ?_) AllReadyH.nil
            go_simp
            refine (droom_arn a _ _ _ _ T1.out.dv PI.out.1).mono ?_
            rintro _ wt2 ⟨rfl, hb⟩
            have T2 := Lib.hid (T1.out.keep hb)
            clear hb
            go_wp2_with fail
            refine hK.out _ _ T2.out.qb.four.1 (fun hH2 => ?_)
            clear hK K' hH1
            try simp only [Act.put, List.getElem_toArray, List.getElem_cons_succ, List.getElem_cons_zero, List.setIfInBounds_toArray, List.set_cons_zero, List.set_cons_succ]
            refine wpAnyH_take (i := 4) (oi := _) (v := .bool false) rfl (by kernel_rfl) (by kernel_rfl) (by kernel_rfl) (fun _ _ _ h => h) (Or.inl ⟨by rfl, by intro v hv; go_simp⟩) hH2 ?_
            try simp only [Act.put, List.getElem_toArray, List.getElem_cons_succ, List.getElem_cons_zero, List.setIfInBounds_toArray, List.set_cons_zero, List.set_cons_succ]
            refine wpAnyH_done (by kernel_rfl) ?_ _
            go_wp2
            go_roundw
            case rel => exact ⟨j + 1, a, H, R, M, F, _, _, _, _, by go_num, hlt, PI.out.full, T2.out.drop⟩
            case measure => first | (rw [hw]; simp [intOf]; omega) | (simp [intOf]; omega)
        · have b1 : (K == 1) = false := by rw [beq_eq_false_iff_ne]; exact k1
          by_cases k2 : K = 2
          · subst k2
            clear b0 k0 b1 k1
            cases r with
            | true =>
              obtain ⟨i, x, hs, hi, hk, hg⟩ := Arn.right_t RR.out
              subst hs
              have HI := Lib.hid (And.intro hi (And.intro hk hg))
              obtain ⟨X, hX⟩ : ∃ X, x.h = X := ⟨_, rfl⟩
              have hil : i < n := by have h1 := (List.getElem?_eq_some_iff.1 hi).1; have h2 := PI.out.1.1; have h3 := PI.out.2.1; omega
              have HH := Lib.hid (show H[i]? = some X ∧ i < n ∧ a.sl.length ≤ 5000 ∧ a.bk.length ≤ 5000 ∧ x.h = X from ⟨hX ▸ PI.out.2.2.2.1 i x hi hk, hil, by have := PI.out.1.1; have := PI.out.1.2.1; omega, by have := PI.out.1.bk_le; have := PI.out.1.1; have := PI.out.1.2.1; omega, hX⟩)
              have i0 : (0 : Int) ≤ (i : Int) := Int.natCast_nonneg i
              have i1 : (i : Int) < (n : Int) := Int.ofNat_lt.2 hil
              clear hi hk hg hX hil
              obtain ⟨b, hb⟩ : ∃ b, a.put i x.g N = b := ⟨_, rfl⟩
              have PT := Lib.hid (show Pn b (H.set i N) R n (j + 1) ∧ b.doc = a.doc ∧ a.put i x.g N = b from by
                have := PI.out.put HI.out.1 HI.out.2.1 N
                rw [hb] at this
                exact ⟨this.1, this.2, hb⟩)
              clear hb
              go_wp2_with fail
              refine (set_eq a p M i x (i : Int) g N b _ P3.out.ar HI.out.1 HI.out.2.1 HH.out.2.2.1 HH.out.2.2.2.1 rfl HI.out.2.2 PT.out.2.2).mono ?_
              rintro _ w4 ⟨rfl, hto⟩
              obtain ⟨M4, hP⟩ := P3.out.call hto
              rw [← PT.out.2.1] at hP
              have P4 := Lib.hid hP
              clear hto hP x0 x1 x2 x3 y0 y1 y2 y3 d0 d1 z0 z1
              obtain ⟨⟨z0, z1⟩, hjunk⟩ := (P4.out.bx _ (List.Mem.head _)).1.two
              clear hjunk
              have d0 := (P4.out.bx _ (List.Mem.tail _ (List.Mem.head _))).1.cell 0
              have d1 := (P4.out.bx _ (List.Mem.tail _ (List.Mem.head _))).1.cell 1
              simp only [List.getElem?_toArray, List.getElem?_cons_zero, List.getElem?_cons_succ] at d0 d1
              have a4 := P4.out.at HH.out.1
              have b4 := P4.out.fr i
              have P5 := P4.out.hold HH.out.2.1 N
              obtain ⟨W5, hW5⟩ : ∃ W, w4.setCell ⟨hh, i, none⟩ (.int .i64 N) = W := ⟨_, rfl⟩
              rw [hW5] at P5
              have P5 := Lib.hid P5
              go_wp2_with fail
              refine wp_region_held_drew (S := (fun v => v.cell? ⟨q, 0, none⟩ = some (.slice cga cl0 cgc) ∧ v.cell? ⟨q, 1, none⟩ = some (.slice cta cl1 ctc) ∧ v.cell? ⟨q, 2, none⟩ = some (.slice cba cl2 cbc) ∧ v.cell? ⟨q, 3, none⟩ = some (.int .i64 ce))) (by kernel_rfl) P5.out.qb.four.1 (fun hH0 => ?_)
              refine wpAnyH_take (i := 0) (oi := _) (v := .pointer (some ⟨p, 0, none⟩)) rfl (by kernel_rfl) (by kernel_rfl) (by kernel_rfl) (fun _ _ _ h => h) (Or.inl ⟨by rfl, by intro v hv; go_simp⟩) hH0 ?_
              try simp only [Act.put, List.getElem_toArray, List.getElem_cons_succ, List.getElem_cons_zero, List.setIfInBounds_toArray, List.set_cons_zero, List.set_cons_succ]
              refine wpAnyH_take (i := 2) (oi := _) (v := .agg #[.slice cga cl0 cgc, .slice cta cl1 ctc, .slice cba cl2 cbc, .int .i64 ce]) rfl (by kernel_rfl) (by kernel_rfl) (by kernel_rfl) (fun _ _ _ h => h) (Or.inl ⟨by rfl, by intro v hv; go_simp⟩) hH0 ?_
              try simp only [Act.put, List.getElem_toArray, List.getElem_cons_succ, List.getElem_cons_zero, List.setIfInBounds_toArray, List.set_cons_zero, List.set_cons_succ]
              refine wpAnyH_ready (rs := [1]) (by kernel_rfl) (by simp) ?_
              refine AllReadyH.cons (o := _) rfl (fun K' hK => ?_) AllReadyH.nil
              go_simp
              refine (room_is b _ p _ _ P5.out.drew.ar PT.out.1.1).mono ?_
              rintro _ wt1 ⟨rfl, hb⟩
              have T1 := Lib.hid (P5.out.drew.keep hb)
              clear hb
              go_wp2_with fail
              refine hK.out _ _ T1.out.qb.four.1 (fun hH1 => ?_)
              clear hK K' hH0
              try simp only [Act.put, List.getElem_toArray, List.getElem_cons_succ, List.getElem_cons_zero, List.setIfInBounds_toArray, List.set_cons_zero, List.set_cons_succ]
              refine wpAnyH_ready (rs := [3]) (by kernel_rfl) (by simp) ?_
              refine AllReadyH.cons (o := _) rfl (fun K' hK => ?_) AllReadyH.nil
              go_simp
              refine (droom_arn b _ _ _ _ T1.out.dv PT.out.1.1).mono ?_
              rintro _ wt2 ⟨rfl, hb⟩
              have T2 := Lib.hid (T1.out.keep hb)
              clear hb
              go_wp2_with fail
              refine hK.out _ _ T2.out.qb.four.1 (fun hH2 => ?_)
              clear hK K' hH1
              try simp only [Act.put, List.getElem_toArray, List.getElem_cons_succ, List.getElem_cons_zero, List.setIfInBounds_toArray, List.set_cons_zero, List.set_cons_succ]
              refine wpAnyH_take (i := 4) (oi := _) (v := .bool false) rfl (by kernel_rfl) (by kernel_rfl) (by kernel_rfl) (fun _ _ _ h => h) (Or.inl ⟨by rfl, by intro v hv; go_simp⟩) hH2 ?_
              try simp only [Act.put, List.getElem_toArray, List.getElem_cons_succ, List.getElem_cons_zero, List.setIfInBounds_toArray, List.set_cons_zero, List.set_cons_succ]
              refine wpAnyH_done (by kernel_rfl) ?_ _
              go_wp2
              go_roundw
              case rel => exact ⟨j + 1, b, (H.set i N), R, M4, F, _, _, _, _, by go_num, hlt, PT.out.1, T2.out.drop⟩
              case measure => first | (rw [hw]; simp [intOf]; omega) | (simp [intOf]; omega)
            | false =>
              go_wp2_with fail
              refine (set_no a p M s g N _ P3.out.ar RR.out).mono ?_
              rintro _ w4 ⟨rfl, hb⟩
              have P4 := Lib.hid (P3.out.keep hb)
              clear hb x0 x1 x2 x3 y0 y1 y2 y3 d0 d1 z0 z1
              go_wp2_with fail
              refine wp_region_held_drew (S := (fun v => v.cell? ⟨q, 0, none⟩ = some (.slice cga cl0 cgc) ∧ v.cell? ⟨q, 1, none⟩ = some (.slice cta cl1 ctc) ∧ v.cell? ⟨q, 2, none⟩ = some (.slice cba cl2 cbc) ∧ v.cell? ⟨q, 3, none⟩ = some (.int .i64 ce))) (by kernel_rfl) P4.out.qb.four.1 (fun hH0 => ?_)
              refine wpAnyH_take (i := 0) (oi := _) (v := .pointer (some ⟨p, 0, none⟩)) rfl (by kernel_rfl) (by kernel_rfl) (by kernel_rfl) (fun _ _ _ h => h) (Or.inl ⟨by rfl, by intro v hv; go_simp⟩) hH0 ?_
              try simp only [Act.put, List.getElem_toArray, List.getElem_cons_succ, List.getElem_cons_zero, List.setIfInBounds_toArray, List.set_cons_zero, List.set_cons_succ]
              refine wpAnyH_take (i := 2) (oi := _) (v := .agg #[.slice cga cl0 cgc, .slice cta cl1 ctc, .slice cba cl2 cbc, .int .i64 ce]) rfl (by kernel_rfl) (by kernel_rfl) (by kernel_rfl) (fun _ _ _ h => h) (Or.inl ⟨by rfl, by intro v hv; go_simp⟩) hH0 ?_
              try simp only [Act.put, List.getElem_toArray, List.getElem_cons_succ, List.getElem_cons_zero, List.setIfInBounds_toArray, List.set_cons_zero, List.set_cons_succ]
              refine wpAnyH_ready (rs := [1]) (by kernel_rfl) (by simp) ?_
              refine AllReadyH.cons (o := _) rfl (fun K' hK => ?_) AllReadyH.nil
              go_simp
              refine (room_is a _ p _ _ P4.out.drew.ar PI.out.1).mono ?_
              rintro _ wt1 ⟨rfl, hb⟩
              have T1 := Lib.hid (P4.out.drew.keep hb)
              clear hb
              go_wp2_with fail
              refine hK.out _ _ T1.out.qb.four.1 (fun hH1 => ?_)
              clear hK K' hH0
              try simp only [Act.put, List.getElem_toArray, List.getElem_cons_succ, List.getElem_cons_zero, List.setIfInBounds_toArray, List.set_cons_zero, List.set_cons_succ]
              refine wpAnyH_ready (rs := [3]) (by kernel_rfl) (by simp) ?_
              refine AllReadyH.cons (o := _) rfl (fun K' hK => ?_) AllReadyH.nil
              go_simp
              refine (droom_arn a _ _ _ _ T1.out.dv PI.out.1).mono ?_
              rintro _ wt2 ⟨rfl, hb⟩
              have T2 := Lib.hid (T1.out.keep hb)
              clear hb
              go_wp2_with fail
              refine hK.out _ _ T2.out.qb.four.1 (fun hH2 => ?_)
              clear hK K' hH1
              try simp only [Act.put, List.getElem_toArray, List.getElem_cons_succ, List.getElem_cons_zero, List.setIfInBounds_toArray, List.set_cons_zero, List.set_cons_succ]
              refine wpAnyH_take (i := 4) (oi := _) (v := .bool false) rfl (by kernel_rfl) (by kernel_rfl) (by kernel_rfl) (fun _ _ _ h => h) (Or.inl ⟨by rfl, by intro v hv; go_simp⟩) hH2 ?_
              try simp only [Act.put, List.getElem_toArray, List.getElem_cons_succ, List.getElem_cons_zero, List.setIfInBounds_toArray, List.set_cons_zero, List.set_cons_succ]
              refine wpAnyH_done (by kernel_rfl) ?_ _
              go_wp2
              go_roundw
              case rel => exact ⟨j + 1, a, H, R, M, F, _, _, _, _, by go_num, hlt, PI.out.full, T2.out.drop⟩
              case measure => first | (rw [hw]; simp [intOf]; omega) | (simp [intOf]; omega)
          · have b2 : (K == 2) = false := by rw [beq_eq_false_iff_ne]; exact k2
            by_cases k3 : K = 3
            · subst k3
              clear b0 k0 b1 k1 b2 k2
              cases r with
              | true =>
                obtain ⟨i, x, hs, hi, hk, hg⟩ := Arn.right_t RR.out
                subst hs
                have HI := Lib.hid (And.intro hi (And.intro hk hg))
                obtain ⟨X, hX⟩ : ∃ X, x.h = X := ⟨_, rfl⟩
                have hil : i < n := by have h1 := (List.getElem?_eq_some_iff.1 hi).1; have h2 := PI.out.1.1; have h3 := PI.out.2.1; omega
                have HH := Lib.hid (show H[i]? = some X ∧ i < n ∧ a.sl.length ≤ 5000 ∧ a.bk.length ≤ 5000 ∧ x.h = X from ⟨hX ▸ PI.out.2.2.2.1 i x hi hk, hil, by have := PI.out.1.1; have := PI.out.1.2.1; omega, by have := PI.out.1.bk_le; have := PI.out.1.1; have := PI.out.1.2.1; omega, hX⟩)
                have i0 : (0 : Int) ≤ (i : Int) := Int.natCast_nonneg i
                have i1 : (i : Int) < (n : Int) := Int.ofNat_lt.2 hil
                clear hi hk hg hX hil
                obtain ⟨b, hb⟩ : ∃ b, a.free 0 i x.g = b := ⟨_, rfl⟩
                have PT := Lib.hid (show Pn b H R n (j + 1) ∧ a.free 0 i x.g = b from by
                  have := PI.out.free HI.out.1 HI.out.2.1
                  rw [hb] at this
                  exact ⟨this, hb⟩)
                clear hb
                go_wp2_with fail
                refine (dfree_arn a (j : Int) _ F _ i x g b P3.out.dv PI.out.1 HI.out.1 HI.out.2.1 HI.out.2.2 PT.out.2).mono ?_
                rintro _ w4 ⟨v4, F4, rfl, hD, hF, hb⟩
                obtain ⟨ega, el0, egc, eta, el1, etc, eba, el2, ebc, ee, rfl⟩ := hD.shape
                have P4 := Lib.hid ((P3.out.keep hb).box #[.slice ega el0 egc, .slice eta el1 etc, .slice eba el2 ebc, .int .i64 ee] 29)
                have hD4 := hD.keep (below1 w4 (.cells #[.slice ega el0 egc, .slice eta el1 etc, .slice eba el2 ebc, .int .i64 ee] 29))
                have hF4 := P3.out.fresh hF
                clear hb hD hF x0 x1 x2 x3 y0 y1 y2 y3 d0 d1 z0 z1
                obtain ⟨⟨x0, x1, x2, x3⟩, y0, y1, y2, y3⟩ := P4.out.qb.four
                obtain ⟨W5, hW5⟩ : ∃ W, (((((w4.alloc (.cells #[.slice ega el0 egc, .slice eta el1 etc, .slice eba el2 ebc, .int .i64 ee] 29)).setCell ⟨q, 0, none⟩ (.slice ega el0 egc)).setCell ⟨q, 1, none⟩ (.slice eta el1 etc)).setCell ⟨q, 2, none⟩ (.slice eba el2 ebc)).setCell ⟨q, 3, none⟩ (.int .i64 ee)) = W := ⟨_, rfl⟩
                have P5 := P4.out.put hD4 hF4
                rw [hW5] at P5
                have P5 := Lib.hid P5
                clear hD4 hF4
                obtain ⟨⟨z0, z1⟩, hjunk⟩ := (P5.out.bx _ (List.Mem.tail _ (List.Mem.head _))).1.two
                clear hjunk
                go_wp2_with fail
                refine (free_eq a p M i x (i : Int) g b _ P5.out.ar HI.out.1 HI.out.2.1 HH.out.2.2.1 HH.out.2.2.2.1 rfl HI.out.2.2 PT.out.2).mono ?_
                rintro _ w6 ⟨rfl, hto⟩
                obtain ⟨M6, hP⟩ := P5.out.call hto
                have P6 := Lib.hid hP
                clear hto hP x0 x1 x2 x3 y0 y1 y2 y3 z0 z1 hW5
                go_wp2_with fail
                refine wp_region_held_drew (S := (fun v => v.cell? ⟨q, 0, none⟩ = some (.slice ega el0 egc) ∧ v.cell? ⟨q, 1, none⟩ = some (.slice eta el1 etc) ∧ v.cell? ⟨q, 2, none⟩ = some (.slice eba el2 ebc) ∧ v.cell? ⟨q, 3, none⟩ = some (.int .i64 ee))) (by kernel_rfl) P6.out.qb.four.1 (fun hH0 => ?_)
                refine wpAnyH_take (i := 0) (oi := _) (v := .pointer (some ⟨p, 0, none⟩)) rfl (by kernel_rfl) (by kernel_rfl) (by kernel_rfl) (fun _ _ _ h => h) (Or.inl ⟨by rfl, by intro v hv; go_simp⟩) hH0 ?_
                try simp only [Act.put, List.getElem_toArray, List.getElem_cons_succ, List.getElem_cons_zero, List.setIfInBounds_toArray, List.set_cons_zero, List.set_cons_succ]
                refine wpAnyH_take (i := 2) (oi := _) (v := .agg #[.slice ega el0 egc, .slice eta el1 etc, .slice eba el2 ebc, .int .i64 ee]) rfl (by kernel_rfl) (by kernel_rfl) (by kernel_rfl) (fun _ _ _ h => h) (Or.inl ⟨by rfl, by intro v hv; go_simp⟩) hH0 ?_
                try simp only [Act.put, List.getElem_toArray, List.getElem_cons_succ, List.getElem_cons_zero, List.setIfInBounds_toArray, List.set_cons_zero, List.set_cons_succ]
                refine wpAnyH_ready (rs := [1]) (by kernel_rfl) (by simp) ?_
                refine AllReadyH.cons (o := _) rfl (fun K' hK => ?_) AllReadyH.nil
                go_simp
                refine (room_is b _ p _ _ P6.out.drew.ar PT.out.1.1).mono ?_
                rintro _ wt1 ⟨rfl, hb⟩
                have T1 := Lib.hid (P6.out.drew.keep hb)
                clear hb
                go_wp2_with fail
                refine hK.out _ _ T1.out.qb.four.1 (fun hH1 => ?_)
                clear hK K' hH0
                try simp only [Act.put, List.getElem_toArray, List.getElem_cons_succ, List.getElem_cons_zero, List.setIfInBounds_toArray, List.set_cons_zero, List.set_cons_succ]
                refine wpAnyH_ready (rs := [3]) (by kernel_rfl) (by simp) ?_
                refine AllReadyH.cons (o := _) rfl (fun K' hK => ?_) AllReadyH.nil
                go_simp
                refine (droom_arn b _ _ _ _ T1.out.dv PT.out.1.1).mono ?_
                rintro _ wt2 ⟨rfl, hb⟩
                have T2 := Lib.hid (T1.out.keep hb)
                clear hb
                go_wp2_with fail
                refine hK.out _ _ T2.out.qb.four.1 (fun hH2 => ?_)
                clear hK K' hH1
                try simp only [Act.put, List.getElem_toArray, List.getElem_cons_succ, List.getElem_cons_zero, List.setIfInBounds_toArray, List.set_cons_zero, List.set_cons_succ]
                refine wpAnyH_take (i := 4) (oi := _) (v := .bool false) rfl (by kernel_rfl) (by kernel_rfl) (by kernel_rfl) (fun _ _ _ h => h) (Or.inl ⟨by rfl, by intro v hv; go_simp⟩) hH2 ?_
                try simp only [Act.put, List.getElem_toArray, List.getElem_cons_succ, List.getElem_cons_zero, List.setIfInBounds_toArray, List.set_cons_zero, List.set_cons_succ]
                refine wpAnyH_done (by kernel_rfl) ?_ _
                go_wp2
                go_roundw
                case rel => exact ⟨j + 1, b, H, R, M6, F4, _, _, _, _, by go_num, hlt, PT.out.1, T2.out.drop⟩
                case measure => first | (rw [hw]; simp [intOf]; omega) | (simp [intOf]; omega)
              | false =>
                go_wp2_with fail
                refine (dfree_none a (j : Int) _ F _ s g P3.out.dv PI.out.1 RR.out).mono ?_
                rintro _ w4 ⟨rfl, hb⟩
                have P4 := Lib.hid ((P3.out.keep hb).box #[.slice cga cl0 cgc, .slice cta cl1 ctc, .slice cba cl2 cbc, .int .i64 ce] 29)
                clear hb x0 x1 x2 x3 y0 y1 y2 y3 d0 d1 z0 z1
                obtain ⟨⟨x0, x1, x2, x3⟩, y0, y1, y2, y3⟩ := P4.out.qb.four
                obtain ⟨W5, hW5⟩ : ∃ W, (((((w4.alloc (.cells #[.slice cga cl0 cgc, .slice cta cl1 ctc, .slice cba cl2 cbc, .int .i64 ce] 29)).setCell ⟨q, 0, none⟩ (.slice cga cl0 cgc)).setCell ⟨q, 1, none⟩ (.slice cta cl1 ctc)).setCell ⟨q, 2, none⟩ (.slice cba cl2 cbc)).setCell ⟨q, 3, none⟩ (.int .i64 ce)) = W := ⟨_, rfl⟩
                have P5 := P4.out.put P4.out.dv P4.out.FM
                rw [hW5] at P5
                have P5 := Lib.hid P5
                obtain ⟨⟨z0, z1⟩, hjunk⟩ := (P5.out.bx _ (List.Mem.tail _ (List.Mem.head _))).1.two
                clear hjunk
                go_wp2_with fail
                refine (free_no a p M s g _ P5.out.ar RR.out).mono ?_
                rintro _ w6 ⟨rfl, hb⟩
                have P6 := Lib.hid (P5.out.keep hb)
                clear hb x0 x1 x2 x3 y0 y1 y2 y3 z0 z1 hW5
                go_wp2_with fail
                refine wp_region_held_drew (S := (fun v => v.cell? ⟨q, 0, none⟩ = some (.slice cga cl0 cgc) ∧ v.cell? ⟨q, 1, none⟩ = some (.slice cta cl1 ctc) ∧ v.cell? ⟨q, 2, none⟩ = some (.slice cba cl2 cbc) ∧ v.cell? ⟨q, 3, none⟩ = some (.int .i64 ce))) (by kernel_rfl) P6.out.qb.four.1 (fun hH0 => ?_)
                refine wpAnyH_take (i := 0) (oi := _) (v := .pointer (some ⟨p, 0, none⟩)) rfl (by kernel_rfl) (by kernel_rfl) (by kernel_rfl) (fun _ _ _ h => h) (Or.inl ⟨by rfl, by intro v hv; go_simp⟩) hH0 ?_
                try simp only [Act.put, List.getElem_toArray, List.getElem_cons_succ, List.getElem_cons_zero, List.setIfInBounds_toArray, List.set_cons_zero, List.set_cons_succ]
                refine wpAnyH_take (i := 2) (oi := _) (v := .agg #[.slice cga cl0 cgc, .slice cta cl1 ctc, .slice cba cl2 cbc, .int .i64 ce]) rfl (by kernel_rfl) (by kernel_rfl) (by kernel_rfl) (fun _ _ _ h => h) (Or.inl ⟨by rfl, by intro v hv; go_simp⟩) hH0 ?_
                try simp only [Act.put, List.getElem_toArray, List.getElem_cons_succ, List.getElem_cons_zero, List.setIfInBounds_toArray, List.set_cons_zero, List.set_cons_succ]
                refine wpAnyH_ready (rs := [1]) (by kernel_rfl) (by simp) ?_
                refine AllReadyH.cons (o := _) rfl (fun K' hK => ?_) AllReadyH.nil
                go_simp
                refine (room_is a _ p _ _ P6.out.drew.ar PI.out.1).mono ?_
                rintro _ wt1 ⟨rfl, hb⟩
                have T1 := Lib.hid (P6.out.drew.keep hb)
                clear hb
                go_wp2_with fail
                refine hK.out _ _ T1.out.qb.four.1 (fun hH1 => ?_)
                clear hK K' hH0
                try simp only [Act.put, List.getElem_toArray, List.getElem_cons_succ, List.getElem_cons_zero, List.setIfInBounds_toArray, List.set_cons_zero, List.set_cons_succ]
                refine wpAnyH_ready (rs := [3]) (by kernel_rfl) (by simp) ?_
                refine AllReadyH.cons (o := _) rfl (fun K' hK => ?_) AllReadyH.nil
                go_simp
                refine (droom_arn a _ _ _ _ T1.out.dv PI.out.1).mono ?_
                rintro _ wt2 ⟨rfl, hb⟩
                have T2 := Lib.hid (T1.out.keep hb)
                clear hb
                go_wp2_with fail
                refine hK.out _ _ T2.out.qb.four.1 (fun hH2 => ?_)
                clear hK K' hH1
                try simp only [Act.put, List.getElem_toArray, List.getElem_cons_succ, List.getElem_cons_zero, List.setIfInBounds_toArray, List.set_cons_zero, List.set_cons_succ]
                refine wpAnyH_take (i := 4) (oi := _) (v := .bool false) rfl (by kernel_rfl) (by kernel_rfl) (by kernel_rfl) (fun _ _ _ h => h) (Or.inl ⟨by rfl, by intro v hv; go_simp⟩) hH2 ?_
                try simp only [Act.put, List.getElem_toArray, List.getElem_cons_succ, List.getElem_cons_zero, List.setIfInBounds_toArray, List.set_cons_zero, List.set_cons_succ]
                refine wpAnyH_done (by kernel_rfl) ?_ _
                go_wp2
                go_roundw
                case rel => exact ⟨j + 1, a, H, R, M, F, _, _, _, _, by go_num, hlt, PI.out.full, T2.out.drop⟩
                case measure => first | (rw [hw]; simp [intOf]; omega) | (simp [intOf]; omega)
            · have b3 : (K == 3) = false := by rw [beq_eq_false_iff_ne]; exact k3
              clear k0 k1 k2 k3
              go_wp2_with fail
              refine wp_region_held_drew (S := (fun v => v.cell? ⟨q, 0, none⟩ = some (.slice cga cl0 cgc) ∧ v.cell? ⟨q, 1, none⟩ = some (.slice cta cl1 ctc) ∧ v.cell? ⟨q, 2, none⟩ = some (.slice cba cl2 cbc) ∧ v.cell? ⟨q, 3, none⟩ = some (.int .i64 ce))) (by kernel_rfl) P3.out.qb.four.1 (fun hH0 => ?_)
              refine wpAnyH_take (i := 0) (oi := _) (v := .pointer (some ⟨p, 0, none⟩)) rfl (by kernel_rfl) (by kernel_rfl) (by kernel_rfl) (fun _ _ _ h => h) (Or.inl ⟨by rfl, by intro v hv; go_simp⟩) hH0 ?_
              try simp only [Act.put, List.getElem_toArray, List.getElem_cons_succ, List.getElem_cons_zero, List.setIfInBounds_toArray, List.set_cons_zero, List.set_cons_succ]
              refine wpAnyH_take (i := 2) (oi := _) (v := .agg #[.slice cga cl0 cgc, .slice cta cl1 ctc, .slice cba cl2 cbc, .int .i64 ce]) rfl (by kernel_rfl) (by kernel_rfl) (by kernel_rfl) (fun _ _ _ h => h) (Or.inl ⟨by rfl, by intro v hv; go_simp⟩) hH0 ?_
              try simp only [Act.put, List.getElem_toArray, List.getElem_cons_succ, List.getElem_cons_zero, List.setIfInBounds_toArray, List.set_cons_zero, List.set_cons_succ]
              refine wpAnyH_ready (rs := [1]) (by kernel_rfl) (by simp) ?_
              refine AllReadyH.cons (o := _) rfl (fun K' hK => ?_) AllReadyH.nil
              go_simp
              refine (room_is a _ p _ _ P3.out.drew.ar PI.out.1).mono ?_
              rintro _ wt1 ⟨rfl, hb⟩
              have T1 := Lib.hid (P3.out.drew.keep hb)
              clear hb
              go_wp2_with fail
              refine hK.out _ _ T1.out.qb.four.1 (fun hH1 => ?_)
              clear hK K' hH0
              try simp only [Act.put, List.getElem_toArray, List.getElem_cons_succ, List.getElem_cons_zero, List.setIfInBounds_toArray, List.set_cons_zero, List.set_cons_succ]
              refine wpAnyH_ready (rs := [3]) (by kernel_rfl) (by simp) ?_
              refine AllReadyH.cons (o := _) rfl (fun K' hK => ?_) AllReadyH.nil
              go_simp
              refine (droom_arn a _ _ _ _ T1.out.dv PI.out.1).mono ?_
              rintro _ wt2 ⟨rfl, hb⟩
              have T2 := Lib.hid (T1.out.keep hb)
              clear hb
              go_wp2_with fail
              refine hK.out _ _ T2.out.qb.four.1 (fun hH2 => ?_)
              clear hK K' hH1
              try simp only [Act.put, List.getElem_toArray, List.getElem_cons_succ, List.getElem_cons_zero, List.setIfInBounds_toArray, List.set_cons_zero, List.set_cons_succ]
              refine wpAnyH_take (i := 4) (oi := _) (v := .bool false) rfl (by kernel_rfl) (by kernel_rfl) (by kernel_rfl) (fun _ _ _ h => h) (Or.inl ⟨by rfl, by intro v hv; go_simp⟩) hH2 ?_
              try simp only [Act.put, List.getElem_toArray, List.getElem_cons_succ, List.getElem_cons_zero, List.setIfInBounds_toArray, List.set_cons_zero, List.set_cons_succ]
              refine wpAnyH_done (by kernel_rfl) ?_ _
              go_wp2
              go_roundw
              case rel => exact ⟨j + 1, a, H, R, M, F, _, _, _, _, by go_num, hlt, PI.out.full, T2.out.drop⟩
              case measure => first | (rw [hw]; simp [intOf]; omega) | (simp [intOf]; omega)
    · obtain rfl : j = xs.length := by omega
      have i1 : ¬ ((xs.length : Nat) : Int) < (xs.length : Int) := Int.lt_irrefl _
      have PI := Lib.hid hI
      have P1 := Lib.hid hP
      clear hI hP hj hlt
      go_wp2_with fail
      refine wp_region_held_drew (S := (fun v => v.cell? ⟨q, 0, none⟩ = some (.slice cga cl0 cgc) ∧ v.cell? ⟨q, 1, none⟩ = some (.slice cta cl1 ctc) ∧ v.cell? ⟨q, 2, none⟩ = some (.slice cba cl2 cbc) ∧ v.cell? ⟨q, 3, none⟩ = some (.int .i64 ce))) (by kernel_rfl) P1.out.qb.four.1 (fun hH0 => ?_)
      refine wpAnyH_take (i := 0) (oi := _) (v := .pointer (some ⟨p, 0, none⟩)) rfl (by kernel_rfl) (by kernel_rfl) (by kernel_rfl) (fun _ _ _ h => h) (Or.inl ⟨by rfl, by intro v hv; go_simp⟩) hH0 ?_
      try simp only [Act.put, List.getElem_toArray, List.getElem_cons_succ, List.getElem_cons_zero, List.setIfInBounds_toArray, List.set_cons_zero, List.set_cons_succ]
      refine wpAnyH_take (i := 2) (oi := _) (v := .agg #[.slice cga cl0 cgc, .slice cta cl1 ctc, .slice cba cl2 cbc, .int .i64 ce]) rfl (by kernel_rfl) (by kernel_rfl) (by kernel_rfl) (fun _ _ _ h => h) (Or.inl ⟨by rfl, by intro v hv; go_simp⟩) hH0 ?_
      try simp only [Act.put, List.getElem_toArray, List.getElem_cons_succ, List.getElem_cons_zero, List.setIfInBounds_toArray, List.set_cons_zero, List.set_cons_succ]
      refine wpAnyH_ready (rs := [1]) (by kernel_rfl) (by simp) ?_
      refine AllReadyH.cons (o := _) rfl (fun K' hK => ?_) AllReadyH.nil
      go_simp
      refine (live_is a _ p _ _ P1.out.drew.ar PI.out.1).mono ?_
      rintro _ wt1 ⟨v1, rfl, hL, hb⟩
      obtain ⟨o1, k1, rfl, hjunk⟩ := hL.sl
      have T1 := Lib.hid (And.intro (P1.out.drew.keep hb) hL.seg)
      clear hb hL hjunk
      go_wp2_with fail
      refine hK.out _ _ T1.out.1.qb.four.1 (fun hH1 => ?_)
      clear hK K' hH0
      try simp only [Act.put, List.getElem_toArray, List.getElem_cons_succ, List.getElem_cons_zero, List.setIfInBounds_toArray, List.set_cons_zero, List.set_cons_succ]
      refine wpAnyH_ready (rs := [3]) (by kernel_rfl) (by simp) ?_
      refine AllReadyH.cons (o := _) rfl (fun K' hK => ?_) AllReadyH.nil
      go_simp
      refine (dlive_arn a _ _ _ _ T1.out.1.dv PI.out.1).mono ?_
      rintro _ wt2 ⟨v2, rfl, hL, hb⟩
      obtain ⟨o2, k2, rfl, hjunk⟩ := hL.sl
      have T2 := Lib.hid (And.intro (T1.out.1.keep hb) (And.intro (T1.out.2.below hb) hL.seg))
      clear hb hL hjunk
      go_wp2_with fail
      refine hK.out _ _ T2.out.1.qb.four.1 (fun hH2 => ?_)
      clear hK K' hH1
      try simp only [Act.put, List.getElem_toArray, List.getElem_cons_succ, List.getElem_cons_zero, List.setIfInBounds_toArray, List.set_cons_zero, List.set_cons_succ]
      refine wpAnyH_ready (rs := [4]) (by kernel_rfl) (by simp) ?_
      refine AllReadyH.cons (o := _) rfl (fun K' hK => ?_) AllReadyH.nil
      go_simp
      refine (refs_is (a.lv a.sl.length) o1 o2 k1 k2 _ T2.out.2.1 T2.out.2.2 (by have := a.lv_len a.sl.length; have := PI.out.1.1; have := PI.out.1.2.1; omega)).mono ?_
      rintro _ wt3 ⟨rfl, hb⟩
      have T3 := Lib.hid (T2.out.1.keep hb)
      clear hb
      go_wp2_with fail
      refine hK.out _ _ T3.out.qb.four.1 (fun hH3 => ?_)
      clear hK K' hH2
      try simp only [Act.put, List.getElem_toArray, List.getElem_cons_succ, List.getElem_cons_zero, List.setIfInBounds_toArray, List.set_cons_zero, List.set_cons_succ]
      refine wpAnyH_take (i := 5) (oi := _) (v := .bool true) rfl (by kernel_rfl) (by kernel_rfl) (by kernel_rfl) (fun _ _ _ h => h) (Or.inl ⟨by rfl, by intro v hv; go_simp⟩) hH3 ?_
      try simp only [Act.put, List.getElem_toArray, List.getElem_cons_succ, List.getElem_cons_zero, List.setIfInBounds_toArray, List.set_cons_zero, List.set_cons_succ]
      refine wpAnyH_ready (rs := [6]) (by kernel_rfl) (by simp) ?_
      refine AllReadyH.cons (o := _) rfl (fun K' hK => ?_) AllReadyH.nil
      go_simp
      refine (awake_any _).mono ?_
      rintro _ wt4 ⟨rfl, hb⟩
      have T4 := Lib.hid (T3.out.keep hb)
      clear hb
      go_wp2_with fail
      refine hK.out _ _ T4.out.qb.four.1 (fun hH4 => ?_)
      clear hK K' hH3
      try simp only [Act.put, List.getElem_toArray, List.getElem_cons_succ, List.getElem_cons_zero, List.setIfInBounds_toArray, List.set_cons_zero, List.set_cons_succ]
      refine wpAnyH_take (i := 7) (oi := _) (v := .bool true) rfl (by kernel_rfl) (by kernel_rfl) (by kernel_rfl) (fun _ _ _ h => h) (Or.inl ⟨by rfl, by intro v hv; go_simp⟩) hH4 ?_
      try simp only [Act.put, List.getElem_toArray, List.getElem_cons_succ, List.getElem_cons_zero, List.setIfInBounds_toArray, List.set_cons_zero, List.set_cons_succ]
      refine wpAnyH_take (i := 8) (oi := _) (v := .bool true) rfl (by kernel_rfl) (by kernel_rfl) (by kernel_rfl) (fun _ _ _ h => h) (Or.inl ⟨by rfl, by intro v hv; go_simp⟩) hH4 ?_
      try simp only [Act.put, List.getElem_toArray, List.getElem_cons_succ, List.getElem_cons_zero, List.setIfInBounds_toArray, List.set_cons_zero, List.set_cons_succ]
      refine wpAnyH_done (by kernel_rfl) ?_ _
      go_wp2
      go_ret
      exact ⟨rfl, T4.out.be⟩

theorem arenaPlays_walk (most : Int) (xs : List Deed) (lo : Option Addr) (lc : Nat) (w : World) (hsl : Sg elD w lo xs) :
    Calls Try.prog 3 #[.int .i64 most, .slice lo xs.length lc] w fun e w' => e = .returned (.bool true) ∧ Below w.heap.size w w' := by
  by_cases h : 80 < xs.length
  · exact plays_long most xs lo lc w h
  · by_cases hm : 5000 < most
    · exact plays_most most xs lo lc w (by omega) hm
    · exact plays_main most xs lo lc w (by omega) (by omega) hsl

end Go.Proofs.Ytlommgljkjkmkaa.Gn
