/-
  What the methods of an arena of numbers answer: right. Conditions: the bounds named in each theorem.
-/
import Derived.Test.YtlommgljkjkmkaaArMem
namespace Go.Proofs.Ytlommgljkjkmkaa.Gn
open Go.RowKit
set_option linter.unusedVariables false

theorem Ar.at {W : World} {p : Nat} {M : Nat → Prop} {a : Arn Int} (h : Ar W p M a) {i : Nat} {x : ASl Int} (hi : a.sl[i]? = some x) :
    ∃ g c, W.cell? ⟨p, 1, none⟩ = some (.slice (some ⟨g, 0, none⟩) a.sl.length c) ∧ W.cell? ⟨g, i * 3, none⟩ = some (.int .i64 x.h) ∧ W.cell? ⟨g, i * 3 + 1, none⟩ = some (.int .i64 x.g) ∧ W.cell? ⟨g, i * 3 + 2, none⟩ = some (.bool x.k) := by
  obtain ⟨vs, vb, h1, h2, h3, h4⟩ := h
  have hl := (List.getElem?_eq_some_iff.1 hi).1
  obtain ⟨g, c, rfl, _⟩ := h2.open (by omega)
  exact ⟨g, c, h1.cell 1, h2.at hi 0 rfl, h2.at hi 1 rfl, h2.at hi 2 rfl⟩
theorem Ar.one {W : World} {p : Nat} {M : Nat → Prop} {a : Arn Int} (h : Ar W p M a) : ∃ ao c, W.cell? ⟨p, 1, none⟩ = some (.slice ao a.sl.length c) := by
  obtain ⟨vs, vb, h1, h2, h3, h4⟩ := h
  obtain ⟨ao, c, rfl, _⟩ := h2.sl
  exact ⟨ao, c, h1.cell 1⟩

set_option maxHeartbeats 1000000 in
theorem right_low (a : Arn Int) (p : Nat) (s g : Int) (w : World) (h0 : s < 0) :
    Calls Try.prog 24 #[.pointer (some ⟨p, 0, none⟩), .agg #[.int .i64 s, .int .i64 g]] w fun e w' => e = .returned (.bool false) ∧ Below w.heap.size w w' := by
  have hmx : Try.prog.follows .mixedOrders = true := by kernel_rfl
  go_enter Try.func24, Try.ntmps24
  go_wp2_with fail
  go_quiet (fail)
  go_wp2
  go_ret
  exact ⟨rfl, below_drewV _ (below1 _ _)⟩
set_option maxHeartbeats 1000000 in
theorem right_high (a : Arn Int) (p : Nat) (M : Nat → Prop) (s g : Int) (w : World) (ha : Ar w p M a) (h0 : 0 ≤ s) (h1 : (a.sl.length : Int) ≤ s) :
    Calls Try.prog 24 #[.pointer (some ⟨p, 0, none⟩), .agg #[.int .i64 s, .int .i64 g]] w fun e w' => e = .returned (.bool false) ∧ Below w.heap.size w w' := by
  have hmx : Try.prog.follows .mixedOrders = true := by kernel_rfl
  obtain ⟨ao, c, c1⟩ := (ha.keep (below1 w (.cells #[.int .i64 s, .int .i64 g] 33))).one
  have n0 : decide (s < 0) = false := by rw [decide_eq_false_iff_not]; omega
  clear ha h0
  go_enter Try.func24, Try.ntmps24
  go_wp2_with fail
  go_quiet (fail)
  go_wp2
  go_ret
  exact ⟨rfl, below_drewV _ (below1 _ _)⟩
set_option maxHeartbeats 2000000 in
theorem right_at (a : Arn Int) (p : Nat) (M : Nat → Prop) (i : Nat) (x : ASl Int) (g : Int) (w : World) (ha : Ar w p M a) (hi : a.sl[i]? = some x) :
    Calls Try.prog 24 #[.pointer (some ⟨p, 0, none⟩), .agg #[.int .i64 (i : Int), .int .i64 g]] w fun e w' => e = .returned (.bool (x.k && x.g == g)) ∧ Below w.heap.size w w' := by
  have hmx : Try.prog.follows .mixedOrders = true := by kernel_rfl
  obtain ⟨b, c, c1, d0, d1, d2⟩ := (ha.keep (below1 w (.cells #[.int .i64 (i : Int), .int .i64 g] 33))).at hi
  have n0 : decide ((i : Int) < 0) = false := by rw [decide_eq_false_iff_not]; omega
  have hl := (List.getElem?_eq_some_iff.1 hi).1
  have n1 : decide ((a.sl.length : Int) ≤ (i : Int)) = false := by rw [decide_eq_false_iff_not]; omega
  have e0 : (w.alloc (.cells #[.int .i64 (i : Int), .int .i64 g] 33)).cell? ⟨w.heap.size, 0, none⟩ = some (.int .i64 (i : Int)) := by simp
  have X := Lib.hid (And.intro c1 (And.intro e0 (And.intro d0 (And.intro d1 d2))))
  have ee := e0
  clear ha hi
  go_enter Try.func24, Try.ntmps24
  go_wp2_with fail
  go_quiet (fail)
  go_wp2
  go_region_held3 (fun v => v.cell? ⟨p, 1, none⟩ = some (.slice (some ⟨b, 0, none⟩) a.sl.length c) ∧ v.cell? ⟨w.heap.size, 0, none⟩ = some (.int .i64 (i : Int)) ∧ v.cell? ⟨b, i * 3, none⟩ = some (.int .i64 x.h) ∧ v.cell? ⟨b, i * 3 + 1, none⟩ = some (.int .i64 x.g) ∧ v.cell? ⟨b, i * 3 + 2, none⟩ = some (.bool x.k)) (go_keep) (fail)
  have bb : ∀ (n : Nat) (o q : Obj), Below w.heap.size w (((w.alloc o).drewN n).alloc q) := fun n o q => (below_drewV n (below1 w o)).alloc (by simp) q
  go_wp2
  all_goals go_ret
  all_goals exact ⟨by simp_all, bb _ _ _⟩

theorem right_is (a : Arn Int) (p : Nat) (M : Nat → Prop) (s g : Int) (r : Bool) (w : World) (ha : Ar w p M a) (hr : a.right s g = r) :
    Calls Try.prog 24 #[.pointer (some ⟨p, 0, none⟩), .agg #[.int .i64 s, .int .i64 g]] w fun e w' => e = .returned (.bool r) ∧ Below w.heap.size w w' := by
  subst hr
  by_cases h0 : s < 0
  · rw [Arn.right_no (Or.inl h0)]
    exact right_low a p s g w h0
  · by_cases h1 : (a.sl.length : Int) ≤ s
    · rw [Arn.right_no (Or.inr h1)]
      exact right_high a p M s g w ha (by omega) h1
    · obtain ⟨i, rfl⟩ : ∃ i : Nat, s = (i : Int) := ⟨s.toNat, by omega⟩
      have hl : i < a.sl.length := by omega
      have hi := List.getElem?_eq_getElem hl
      rw [Arn.right_at hi]
      exact right_at a p M i _ g w ha hi

set_option maxHeartbeats 2000000 in
theorem pick_new (a : Arn Int) (p : Nat) (M : Nat → Prop) (w : World) (ha : Ar w p M a) (hb : a.bk = []) (hl : a.sl.length ≤ 5000) :
    Calls Try.prog 22 #[.pointer (some ⟨p, 0, none⟩)] w fun e w' => e = .returned (.int .i64 (a.at : Int)) ∧ ArTo w p M (a.picked 0) w' := by
  rw [Arn.at_none hb, Arn.picked_none hb]
  obtain ⟨vs, vb, h1, h2, h3, h4⟩ := ha
  obtain ⟨so, sc, rfl, _⟩ := h2.sl
  obtain ⟨bo, bc, rfl, _⟩ := h3.sl
  have h3' := h3
  rw [hb] at h1 h3 h4
  have c1 := h1.cell 1
  have c2 := h1.cell 2
  have f1 := h1.frozen 1
  simp at c1 c2
  have hw : wrap64 (((a.sl.length + 1 : Nat) : Int) - 1) = (a.sl.length : Int) := by unfold wrap64; omega
  have H := Lib.hid (And.intro h1 (And.intro h2 (And.intro h3 (And.intro h4 hl))))
  clear h1 h2 h3 h4 hl h3'
  go_enter Try.func22, Try.ntmps22
  go_wp2_with (at_builtin; refine appE elS rfl _ _ rfl (p + 1) (.slice so a.sl.length sc) a.sl ⟨0, 0, false⟩ _ rfl w rfl H.out.2.1 w.heap.size rfl rfl (by have := H.out.2.2.2.2; omega) H.out.1.lt ?_; intro v' w1 hown hgr hbk hbel; obtain ⟨vo, vc, rfl, _⟩ := hown.sl; obtain ⟨L, hL⟩ : ∃ L, (a.sl ++ [(⟨0, 0, false⟩ : ASl Int)]).length = L := ⟨_, rfl⟩; rw [hL] at hown hbk ⊢; have hL' : L = a.sl.length + 1 := hL ▸ List.length_append; have b1 := H.out.1.below' hbel (Nat.lt_succ_self p); have g1 := b1.frozen 1; have b2 := b1.setAt 1 (.slice vo L vc); have n1 : w1.cell? ⟨p, 1, none⟩ = some (.slice so a.sl.length sc) := b1.cell 1; have K := Lib.hid (And.intro hown (And.intro hgr hbk)); obtain ⟨W2, hW2⟩ : ∃ W2, w1.setCell ⟨p, 1, none⟩ (.slice vo L vc) = W2 := ⟨_, rfl⟩; have K2 := Lib.hid (And.intro hW2 b2); rw [hW2] at b2; have m1 : W2.cell? ⟨p, 1, none⟩ = some (.slice vo L vc) := b2.cell 1; clear hown hgr hbk hbel b1 b2 hL; subst hL'; go_frame)
  go_ret
  refine ⟨ret_int (wrap_in _ (by omega) (by have := H.out.2.2.2.2; omega)), ?_⟩
  rw [← hW2]
  exact Parts.slots ⟨H.out.1, H.out.2.1, H.out.2.2.1, H.out.2.2.2.1⟩ K.out.1 K.out.2.1 K.out.2.2

set_option maxHeartbeats 2000000 in
theorem pick_last (a : Arn Int) (p : Nat) (M : Nat → Prop) (w : World) (ha : Ar w p M a) (hb : a.bk ≠ []) (hl : a.bk.length ≤ 5000) :
    Calls Try.prog 22 #[.pointer (some ⟨p, 0, none⟩)] w fun e w' => e = .returned (.int .i64 (a.at : Int)) ∧ ArTo w p M (a.picked 0) w' := by
  rw [Arn.at_last hb, Arn.picked_last hb]
  obtain ⟨vs, vb, h1, h2, h3, h4⟩ := ha
  obtain ⟨n, hn⟩ : ∃ n, a.bk.length = n + 1 := ⟨a.bk.length - 1, by have : a.bk.length ≠ 0 := fun e => hb (List.eq_nil_of_length_eq_zero e); omega⟩
  obtain ⟨g, c, rfl, hc, _⟩ := h3.open (by omega)
  have hx : a.bk[n]? = some (a.bk.getLast hb) := by rw [List.getLast_eq_getElem, List.getElem?_eq_getElem (by omega)]; congr 1; congr 1; omega
  obtain ⟨x, hx'⟩ : ∃ x, a.bk.getLast hb = x := ⟨_, rfl⟩
  rw [hx'] at hx ⊢
  have d0 : w.cell? ⟨g, n * 1 + 0, none⟩ = some (.int .i64 (x : Int)) := h3.at hx 0 rfl
  rw [Nat.mul_one, Nat.add_zero] at d0
  have H := Lib.hid (show Parts w p M a.most a.sl a.bk vs (.slice (some ⟨g, 0, none⟩) a.bk.length c) from ⟨h1, h2, h3, h4⟩)
  have c2 : w.cell? ⟨p, 2, none⟩ = some (.slice (some ⟨g, 0, none⟩) (n + 1) c) := by rw [← hn]; exact h1.cell 2
  have f2 := h1.frozen 2
  have hw : wrap64 (n : Int) = (n : Int) := wrap_in _ (by omega) (by omega)
  have i1 : (n : Int) ≤ (c : Int) := by omega
  have HN := Lib.hid (And.intro hn (And.intro hl hc))
  have n0 : decide ((n : Int) < 0) = false := by rw [decide_eq_false_iff_not]; omega
  clear h1 h2 h3 h4 hl hn hb hc hx hx'
  go_enter Try.func22, Try.ntmps22
  go_wp2
  go_ret
  exact ⟨rfl, H.out.pop HN.out.1.symm⟩

theorem pick_is (a : Arn Int) (p : Nat) (M : Nat → Prop) (w : World) (ha : Ar w p M a) (hl : a.sl.length ≤ 5000) (hb : a.bk.length ≤ 5000) :
    Calls Try.prog 22 #[.pointer (some ⟨p, 0, none⟩)] w fun e w' => e = .returned (.int .i64 (a.at : Int)) ∧ ArTo w p M (a.picked 0) w' := by
  by_cases h : a.bk = []
  · exact pick_new a p M w ha h hl
  · exact pick_last a p M w ha h hb
theorem Ar.parts {W : World} {p : Nat} {M : Nat → Prop} {a : Arn Int} (h : Ar W p M a) {i : Nat} {x : ASl Int} (hi : a.sl[i]? = some x) :
    ∃ g c vb, Parts W p M a.most a.sl a.bk (.slice (some ⟨g, 0, none⟩) a.sl.length c) vb ∧ W.cell? ⟨p, 1, none⟩ = some (.slice (some ⟨g, 0, none⟩) a.sl.length c) ∧ W.cell? ⟨g, i * 3, none⟩ = some (.int .i64 x.h) ∧ W.cell? ⟨g, i * 3 + 1, none⟩ = some (.int .i64 x.g) ∧ W.cell? ⟨g, i * 3 + 2, none⟩ = some (.bool x.k) ∧ (∀ j, W.frozen? ⟨g, j, none⟩ = false) ∧ g < W.heap.size := by
  obtain ⟨vs, vb, h1, h2, h3, h4⟩ := h
  have hl := (List.getElem?_eq_some_iff.1 hi).1
  obtain ⟨g, c, rfl, _, _, _, hg, hf⟩ := h2.open (by omega)
  exact ⟨g, c, vb, ⟨h1, h2, h3, h4⟩, h1.cell 1, h2.at hi 0 rfl, h2.at hi 1 rfl, h2.at hi 2 rfl, hf, hg⟩

set_option maxHeartbeats 2000000 in
theorem take_full (a : Arn Int) (N : Int) (p : Nat) (M : Nat → Prop) (x : Int) (w : World) (ha : Ar w p M a) (hok : a.ok N) (hr : a.room = 0) :
    Calls Try.prog 11 #[.pointer (some ⟨p, 0, none⟩), .int .i64 x] w fun e w' => e = .returned (.tuple #[.agg #[.int .i64 0, .int .i64 0], .int .i64 20]) ∧ Below w.heap.size w w' := by
  have H := Lib.hid (And.intro (ha.keep (below1 w (.cells #[.int .i64 0, .int .i64 0] 33))) (And.intro hok hr))
  clear ha hok hr
  go_enter Try.func11, Try.ntmps11
  go_wp2_with fail
  refine (room_is a N p M _ H.out.1 H.out.2.1).mono ?_
  rintro _ w1 ⟨rfl, hb⟩
  rw [H.out.2.2]
  have B1 := (Blk.new w #[.int .i64 0, .int .i64 0] 33).below hb
  have b0 := B1.cell 0
  have b1 := B1.cell 1
  simp at b0 b1
  have f0 := B1.frozen 0
  have f1 := B1.frozen 1
  have B := Lib.hid (And.intro B1 ((below1 w _).trans (hb.mono (below1 w _).size)))
  clear hb B1
  go_wp2
  have q := (B.out.1.setAt 0 (.int .i64 0)).setAt 1 (.int .i64 0)
  refine bodyPost_ret (v := .tuple #[.agg #[.int .i64 0, .int .i64 0], .int .i64 20]) ?_ rfl ⟨rfl, (B.out.2.setCell (p := ⟨w.heap.size, 0, none⟩) (Nat.le_refl _) _).setCell (p := ⟨w.heap.size, 1, none⟩) (Nat.le_refl _) _⟩
  have e0 := q.cell 0
  have e1 := q.cell 1
  simp [results, Try.results11, go_sem, e0, e1]

set_option maxHeartbeats 4000000 in
theorem take_ok (a : Arn Int) (N : Int) (p : Nat) (M : Nat → Prop) (x : Int) (w : World) (ha : Ar w p M a) (hok : a.ok N) (hN : 0 ≤ N) (hN' : N ≤ 1000000) (hr : a.room ≠ 0) :
    Calls Try.prog 11 #[.pointer (some ⟨p, 0, none⟩), .int .i64 x] w fun e w' => e = .returned (.tuple #[.agg #[.int .i64 (a.at : Int), .int .i64 (a.gen 0 + 1)], .int .i64 0]) ∧ ArTo w p M (a.take 0 x) w' := by
  have hr' : ((a.room : Int) == 0) = false := by simp; omega
  obtain ⟨y, hy, hk, hg, g0, g1, hat⟩ := hok.slot (z := (0 : Int)) hN
  have H := Lib.hid (And.intro (ha.keep (below1 w (.cells #[.int .i64 0, .int .i64 0] 33))) (And.intro hok (And.intro ha (And.intro hy (And.intro hg (And.intro g0 (And.intro g1 hat)))))))
  have LT := Lib.hid (And.intro ha.lt ha.from)
  clear ha hok hr hy hk g0 g1 hat
  go_enter Try.func11, Try.ntmps11
  go_wp2_with fail
  refine (room_is a N p M _ H.out.1 H.out.2.1).mono ?_
  rintro _ w1 ⟨rfl, hb⟩
  have B := Lib.hid (And.intro ((Blk.new w #[.int .i64 0, .int .i64 0] 33).below hb) (And.intro ((below1 w _).trans (hb.mono (below1 w _).size)) (H.out.1.keep hb)))
  clear hb
  go_wp2_with fail
  refine (pick_is a p M _ B.out.2.2 (by have := H.out.2.1.1; have := H.out.2.1.2.1; omega) (by have := H.out.2.1.bk_le; have := H.out.2.1.1; have := H.out.2.1.2.1; omega)).mono ?_
  rintro _ w2 ⟨rfl, hto⟩
  obtain ⟨M2, hA2, hM2, hC2⟩ := hto
  obtain ⟨g, c, vb, hP, c1, d0, d1, d2, hf, hgl⟩ := hA2.parts H.out.2.2.2.1
  have hp : (a.picked (0 : Int)).sl.length ≤ 5000 := by
    have q := H.out.2.1.picked (z := (0 : Int)) hN (by intro e; rw [e] at hr'; simp at hr')
    have := q.1; have := H.out.2.1.2.1; omega
  obtain ⟨I, hI⟩ : ∃ I, a.at = I := ⟨_, rfl⟩
  rw [hI] at d0 d1 d2 ⊢
  have hIl : I < (a.picked (0 : Int)).sl.length := by have := (List.getElem?_eq_some_iff.1 H.out.2.2.2.1).1; rw [hI] at this; exact this
  obtain ⟨L, hL⟩ : ∃ L, (a.picked (0 : Int)).sl.length = L := ⟨_, rfl⟩
  rw [hL] at c1 hP hIl hp
  have hnM : ¬ M w.heap.size := fun e => by have := (LT.out.2 _ e).2; omega
  have hB2 := B.out.1.move (hC2.block _ B.out.1.lt hnM)
  have hnM2 : ¬ M2 w.heap.size := fun e => by
    rcases hM2 _ e with h | h
    · exact hnM h
    · have := B.out.1.lt; omega
  have hgb : g ≠ w.heap.size := fun e => hnM2 (e ▸ (hP.2.2.2 g).2 (.inr (.inl rfl)))
  have f0 := hf (I * 3)
  have f1 := hf (I * 3 + 1)
  have f2 := hf (I * 3 + 2)
  have hgg : y.g = a.gen 0 := hg
  have hw : wrap64 (y.g + 1) = a.gen 0 + 1 := by have u := H.out.2.2.2.2; have u1 := u.2.1; have u2 := u.2.2.1; rw [← hgg]; unfold wrap64; omega
  obtain ⟨G, hG⟩ : ∃ G, a.gen 0 + 1 = G := ⟨_, rfl⟩
  rw [hG] at hw
  have il : (I : Int) < (L : Int) := by omega
  have i0 : (0 : Int) ≤ (I : Int) := by omega
  have sz : L < 4611686018427387904 := by omega
  have K := Lib.hid (And.intro hP (And.intro hM2 (And.intro hC2 (And.intro hB2 (And.intro hgb (And.intro hnM2 (And.intro hI (And.intro hL (And.intro hG hIl)))))))))
  have B2 := K.out.2.2.2.1
  have n0 := B2.otherAt (B' := g) (fun e => K.out.2.2.2.2.1 e.symm) (I * 3) (.int .i64 x)
  have n1 := n0.otherAt (B' := g) (fun e => K.out.2.2.2.2.1 e.symm) (I * 3 + 1) (.int .i64 G)
  have n2 := n1.otherAt (B' := g) (fun e => K.out.2.2.2.2.1 e.symm) (I * 3 + 2) (.bool true)
  obtain ⟨W3, hW3⟩ : ∃ W3, ((w2.setCell ⟨g, I * 3, none⟩ (.int .i64 x)).setCell ⟨g, I * 3 + 1, none⟩ (.int .i64 G)).setCell ⟨g, I * 3 + 2, none⟩ (.bool true) = W3 := ⟨_, rfl⟩
  rw [hW3] at n2
  have m0 := n2.cell 0
  have m1 := n2.cell 1
  simp at m0 m1
  have p0 := n2.frozen 0
  have p1 := n2.frozen 1
  have KN := Lib.hid n2
  clear hP hM2 hC2 hB2 hgb hnM2 hI hL hG hf hgl hA2 hIl hg hgg hnM hp B2 n0 n1 n2
  go_wp2
  have q := (KN.out.setAt 0 (.int .i64 (I : Int))).setAt 1 (.int .i64 G)
  refine bodyPost_ret (v := .tuple #[.agg #[.int .i64 (I : Int), .int .i64 G], .int .i64 0]) ?_ rfl ⟨?_, ?_⟩
  · have e0 := q.cell 0
    have e1 := q.cell 1
    simp [results, Try.results11, go_sem, hw, e0, e1]
  · rw [K.out.2.2.2.2.2.2.1, K.out.2.2.2.2.2.2.2.2.1]
  · obtain ⟨hP, hM2, hC2, hB2, hgb, hnM2, hI, hL, hG, hIl⟩ := K.out
    have hy := H.out.2.2.2.1
    rw [hI] at hy
    rw [← hL] at hP
    obtain ⟨M3, hA3, hM3, hC3⟩ := hP.put3 (y := ⟨x, G, true⟩) hy
    have hn3 : ¬ M3 w.heap.size := fun e => by
      rcases hM3 _ e with h | h
      · exact hnM2 h
      · have := hB2.lt; omega
    have hM : ∀ k, M3 k → M k ∨ w.heap.size ≤ k := fun k hk => by
      have s1 := B.out.2.1.size
      have s2 := hC2.size
      rcases hM3 k hk with e | e
      · rcases hM2 k e with e | e
        · exact .inl e
        · exact .inr (by omega)
      · exact .inr (by omega)
    have hC : Chg M w W3 := by
      rw [← hW3]
      refine ((Chg.of_below B.out.2.1).trans hC2 (fun k e => .inl e)).trans hC3 (fun k e => ?_)
      rcases hM2 k e with e | e
      · exact .inl e
      · exact .inr (Nat.le_trans B.out.2.1.size e)
    have hA : Ar W3 p M3 (a.take 0 x) := by
      rw [← hW3]
      unfold Arn.take
      rw [hI, hG]
      have em : (a.picked 0).most = a.most := by unfold Arn.picked; split <;> rfl
      rw [em] at hA3
      exact hA3
    exact ⟨M3, (hA.off hn3 _).off hn3 _, hM, (hC.set (.inr (Nat.le_refl _)) _).set (.inr (Nat.le_refl _)) _⟩

set_option maxHeartbeats 2000000 in
theorem get_no (a : Arn Int) (p : Nat) (M : Nat → Prop) (s g : Int) (w : World) (ha : Ar w p M a) (hr : a.right s g = false) :
    Calls Try.prog 13 #[.pointer (some ⟨p, 0, none⟩), .agg #[.int .i64 s, .int .i64 g]] w fun e w' => e = .returned (.tuple #[.int .i64 0, .bool false]) ∧ Below w.heap.size w w' := by
  have H := Lib.hid (And.intro (ha.keep (below1 w (.cells #[.int .i64 s, .int .i64 g] 33))) hr)
  clear ha hr
  go_enter Try.func13, Try.ntmps13
  go_wp2_with fail
  refine (right_is a p M s g false _ H.out.1 H.out.2).mono ?_
  rintro _ w1 ⟨rfl, hb⟩
  have B := Lib.hid ((below1 w _).trans (hb.mono (below1 w _).size))
  clear hb
  go_wp2
  refine bodyPost_ret (v := .tuple #[.int .i64 0, .bool false]) (by simp [results, Try.results13, go_sem]) rfl ⟨rfl, ?_⟩
  exact B.out.alloc B.out.size _

set_option maxHeartbeats 2000000 in
theorem get_ok (a : Arn Int) (p : Nat) (M : Nat → Prop) (i : Nat) (x : ASl Int) (w : World) (ha : Ar w p M a) (hi : a.sl[i]? = some x) (hk : x.k = true) (hsz : a.sl.length ≤ 5000) :
    Calls Try.prog 13 #[.pointer (some ⟨p, 0, none⟩), .agg #[.int .i64 (i : Int), .int .i64 x.g]] w fun e w' => e = .returned (.tuple #[.int .i64 x.h, .bool true]) ∧ Below w.heap.size w w' := by
  have hmx : Try.prog.follows .mixedOrders = true := by kernel_rfl
  have hr : a.right (i : Int) x.g = true := by rw [Arn.right_at hi, hk]; simp
  have H := Lib.hid (And.intro (ha.keep (below1 w (.cells #[.int .i64 (i : Int), .int .i64 x.g] 33))) (And.intro hr (And.intro hi hsz)))
  have hl := (List.getElem?_eq_some_iff.1 hi).1
  clear ha hr hk hi
  go_enter Try.func13, Try.ntmps13
  go_wp2_with fail
  refine (right_is a p M _ _ true _ H.out.1 H.out.2.1).mono ?_
  rintro _ w1 ⟨rfl, hb⟩
  have B1 := (Blk.new w #[.int .i64 (i : Int), .int .i64 x.g] 33).below hb
  obtain ⟨g, c, c1, d0, d1, d2⟩ := (H.out.1.keep hb).at H.out.2.2.1
  have b0 := B1.cell 0
  simp at b0
  have il : (i : Int) < (a.sl.length : Int) := by omega
  have i0 : (0 : Int) ≤ (i : Int) := by omega
  have B := Lib.hid ((below1 w _).trans (hb.mono (below1 w _).size))
  clear hb B1 hl
  go_wp2
  go_quiet (fail)
  go_wp2
  refine bodyPost_ret (v := .tuple #[.int .i64 x.h, .bool true]) (by simp [results, Try.results13, go_sem]) rfl ⟨rfl, ?_⟩
  exact below_drewV _ B.out

set_option maxHeartbeats 2000000 in
theorem set_no (a : Arn Int) (p : Nat) (M : Nat → Prop) (s g x : Int) (w : World) (ha : Ar w p M a) (hr : a.right s g = false) :
    Calls Try.prog 14 #[.pointer (some ⟨p, 0, none⟩), .agg #[.int .i64 s, .int .i64 g], .int .i64 x] w fun e w' => e = .returned (.bool false) ∧ Below w.heap.size w w' := by
  have H := Lib.hid (And.intro (ha.keep (below1 w (.cells #[.int .i64 s, .int .i64 g] 33))) hr)
  clear ha hr
  go_enter Try.func14, Try.ntmps14
  go_wp2_with fail
  refine (right_is a p M s g false _ H.out.1 H.out.2).mono ?_
  rintro _ w1 ⟨rfl, hb⟩
  have B := Lib.hid ((below1 w _).trans (hb.mono (below1 w _).size))
  clear hb
  go_wp2
  go_ret
  exact ⟨rfl, B.out⟩

set_option maxHeartbeats 2000000 in
theorem free_no (a : Arn Int) (p : Nat) (M : Nat → Prop) (s g : Int) (w : World) (ha : Ar w p M a) (hr : a.right s g = false) :
    Calls Try.prog 16 #[.pointer (some ⟨p, 0, none⟩), .agg #[.int .i64 s, .int .i64 g]] w fun e w' => e = .returned (.bool false) ∧ Below w.heap.size w w' := by
  have H := Lib.hid (And.intro (ha.keep (below1 w (.cells #[.int .i64 s, .int .i64 g] 33))) hr)
  clear ha hr
  go_enter Try.func16, Try.ntmps16
  go_wp2_with fail
  refine (right_is a p M s g false _ H.out.1 H.out.2).mono ?_
  rintro _ w1 ⟨rfl, hb⟩
  have B := Lib.hid ((below1 w _).trans (hb.mono (below1 w _).size))
  clear hb
  go_wp2
  go_ret
  exact ⟨rfl, B.out⟩

end Go.Proofs.Ytlommgljkjkmkaa.Gn
