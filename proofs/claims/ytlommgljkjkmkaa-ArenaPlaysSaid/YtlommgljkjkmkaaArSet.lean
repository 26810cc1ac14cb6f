/-
  What Set and Free of an arena of numbers answer of a right ref, and Live. Conditions: the bounds named in each theorem.
-/
import Derived.Test.YtlommgljkjkmkaaArGo
namespace Go.Proofs.Ytlommgljkjkmkaa.Gn
open Go.RowKit
set_option linter.unusedVariables false
set_option linter.unusedSimpArgs false

set_option maxHeartbeats 4000000 in
theorem set_ok (a : Arn Int) (p : Nat) (M : Nat → Prop) (i : Nat) (x : ASl Int) (y : Int) (w : World) (ha : Ar w p M a) (hi : a.sl[i]? = some x) (hk : x.k = true) (hsz : a.sl.length ≤ 5000) (hbz : a.bk.length ≤ 5000) :
    Calls Try.prog 14 #[.pointer (some ⟨p, 0, none⟩), .agg #[.int .i64 (i : Int), .int .i64 x.g], .int .i64 y] w fun e w' => e = .returned (.bool true) ∧ ArTo w p M (a.put i x.g y) w' := by
  have hmx : Try.prog.follows .mixedOrders = true := by kernel_rfl
  have hr : a.right (i : Int) x.g = true := by rw [Arn.right_at hi, hk]; simp
  have H := Lib.hid (And.intro (ha.keep (below1 w (.cells #[.int .i64 (i : Int), .int .i64 x.g] 33))) (And.intro hr (And.intro hi hbz)))
  have LT := Lib.hid (And.intro ha.lt (And.intro ha.from hk))
  have hl := (List.getElem?_eq_some_iff.1 hi).1
  clear ha hr hk hi hbz
  go_enter Try.func14, Try.ntmps14
  go_wp2_with fail
  refine (right_is a p M _ _ true _ H.out.1 H.out.2.1).mono ?_
  rintro _ w1 ⟨rfl, hb⟩
  have B1 := (Blk.new w #[.int .i64 (i : Int), .int .i64 x.g] 33).below hb
  obtain ⟨g, c, vb, hP, c1, d0, d1, d2, hf, hgl⟩ := (H.out.1.keep hb).parts H.out.2.2.1
  have b0 : w1.cell? ⟨w.heap.size, 0, none⟩ = some (.int .i64 (i : Int)) := B1.cell 0
  have b1 : w1.cell? ⟨w.heap.size, 1, none⟩ = some (.int .i64 x.g) := B1.cell 1
  have il : (i : Int) < (a.sl.length : Int) := by omega
  have i0 : (0 : Int) ≤ (i : Int) := by omega
  have sz : a.sl.length < 4611686018427387904 := by omega
  have f0 := hf (i * 3)
  have f1 := hf (i * 3 + 1)
  have f2 := hf (i * 3 + 2)
  have hgp : p ≠ g := by have := (hP.2.1.lt g rfl).1; omega
  have hgm : M g := (hP.2.2.2 g).2 (.inr (.inl rfl))
  have hgw : w.heap.size ≠ g := by have := (LT.out.2.1 g hgm).2; omega
  have k1 : (w1.setCell ⟨g, i * 3, none⟩ (.int .i64 y)).cell? ⟨p, 1, none⟩ = some (.slice (some ⟨g, 0, none⟩) a.sl.length c) := (World.cell?_of_block (w := w1) (Below.heap_setCell w1 ⟨g, i * 3, none⟩ _ p hgp)).trans c1
  have k2 : (w1.setCell ⟨g, i * 3, none⟩ (.int .i64 y)).cell? ⟨w.heap.size, 0, none⟩ = some (.int .i64 (i : Int)) := (World.cell?_of_block (w := w1) (Below.heap_setCell w1 ⟨g, i * 3, none⟩ _ w.heap.size hgw)).trans b0
  have K := Lib.hid (And.intro hP ((below1 w _).trans (hb.mono (below1 w _).size)))
  have KK := Lib.hid (And.intro k1 k2)
  clear hb B1 hl hP hf hgl hgp hgm hgw k1 k2 f1 f2 b1 d1 d2
  go_wp2_with fail
  refine wp_region_held_drew (S := (fun v => v.cell? ⟨p, 1, none⟩ = some (.slice (some ⟨g, 0, none⟩) a.sl.length c) ∧ v.cell? ⟨w.heap.size, 0, none⟩ = some (.int .i64 (i : Int)))) (by kernel_rfl) ⟨c1, b0⟩ (fun hH0 => ?_)
  refine wpAnyH_take (i := 0) (oi := _) (v := .pointer (some ⟨p, 0, none⟩)) rfl (by kernel_rfl) (by kernel_rfl) (by kernel_rfl) (fun _ _ _ h => h) (Or.inl ⟨by rfl, by intro v hv; go_simp⟩) hH0 ?_
  try simp only [Act.put, List.getElem_toArray, List.getElem_cons_succ, List.getElem_cons_zero, List.setIfInBounds_toArray, List.set_cons_zero, List.set_cons_succ]
  refine wpAnyH_take (i := 1) (oi := _) (v := .pointer (some ⟨p, 0, none⟩)) rfl (by kernel_rfl) (by kernel_rfl) (by kernel_rfl) (fun _ _ _ h => h) (Or.inl ⟨by rfl, by intro v hv; go_simp⟩) hH0 ?_
  try simp only [Act.put, List.getElem_toArray, List.getElem_cons_succ, List.getElem_cons_zero, List.setIfInBounds_toArray, List.set_cons_zero, List.set_cons_succ]
  refine wpAnyH_take (i := 2) (oi := _) (v := .pointer (some ⟨p, 1, none⟩)) rfl (by kernel_rfl) (by kernel_rfl) (by kernel_rfl) (fun _ _ _ h => h) (Or.inl ⟨by rfl, by intro v hv; go_simp⟩) hH0 ?_
  try simp only [Act.put, List.getElem_toArray, List.getElem_cons_succ, List.getElem_cons_zero, List.setIfInBounds_toArray, List.set_cons_zero, List.set_cons_succ]
  refine wpAnyH_take (i := 3) (oi := _) (v := .slice (some ⟨g, 0, none⟩) a.sl.length c) rfl (by kernel_rfl) (by kernel_rfl) (by kernel_rfl) (fun _ _ _ h => h) (Or.inl ⟨by rfl, by intro v hv; go_simp⟩) hH0 ?_
  try simp only [Act.put, List.getElem_toArray, List.getElem_cons_succ, List.getElem_cons_zero, List.setIfInBounds_toArray, List.set_cons_zero, List.set_cons_succ]
  refine wpAnyH_take (i := 4) (oi := _) (v := .pointer (some ⟨w.heap.size, 0, none⟩)) rfl (by kernel_rfl) (by kernel_rfl) (by kernel_rfl) (fun _ _ _ h => h) (Or.inl ⟨by rfl, by intro v hv; go_simp⟩) hH0 ?_
  try simp only [Act.put, List.getElem_toArray, List.getElem_cons_succ, List.getElem_cons_zero, List.setIfInBounds_toArray, List.set_cons_zero, List.set_cons_succ]
  refine wpAnyH_take (i := 5) (oi := _) (v := .int .i64 (i : Int)) rfl (by kernel_rfl) (by kernel_rfl) (by kernel_rfl) (fun _ _ _ h => h) (Or.inl ⟨by rfl, by intro v hv; go_simp⟩) hH0 ?_
  try simp only [Act.put, List.getElem_toArray, List.getElem_cons_succ, List.getElem_cons_zero, List.setIfInBounds_toArray, List.set_cons_zero, List.set_cons_succ]
  refine wpAnyH_take (i := 6) (oi := _) (v := .int .i64 y) rfl (by kernel_rfl) (by kernel_rfl) (by kernel_rfl) (fun _ _ _ h => h) (Or.inl ⟨by rfl, by intro v hv; go_simp⟩) hH0 ?_
  try simp only [Act.put, List.getElem_toArray, List.getElem_cons_succ, List.getElem_cons_zero, List.setIfInBounds_toArray, List.set_cons_zero, List.set_cons_succ]
  refine wpAnyH_take (i := 7) (oi := _) (v := .pointer (some ⟨g, i * 3, none⟩)) rfl (by kernel_rfl) (by kernel_rfl) (by kernel_rfl) (fun _ _ _ h => h) (Or.inl ⟨by rfl, by intro v hv; go_simp⟩) hH0 ?_
  try simp only [Act.put, List.getElem_toArray, List.getElem_cons_succ, List.getElem_cons_zero, List.setIfInBounds_toArray, List.set_cons_zero, List.set_cons_succ]
  refine wpAnyH_take (i := 8) (oi := _) (v := .pointer (some ⟨g, i * 3, none⟩)) rfl (by kernel_rfl) (by kernel_rfl) (by kernel_rfl) (fun _ _ _ h => h) (Or.inl ⟨by rfl, by intro v hv; go_simp⟩) hH0 ?_
  try simp only [Act.put, List.getElem_toArray, List.getElem_cons_succ, List.getElem_cons_zero, List.setIfInBounds_toArray, List.set_cons_zero, List.set_cons_succ]
  refine wpAnyH_ready (rs := [9]) (by kernel_rfl) (by simp) ?_
  refine AllReadyH.cons (o := _) rfl (fun K' hK => ?_) AllReadyH.nil
  go_simp
  refine hK.out _ _ ⟨KK.out.1, KK.out.2⟩ (fun hH1 => ?_)
  clear hK K' hH0
  try simp only [Act.put, List.getElem_toArray, List.getElem_cons_succ, List.getElem_cons_zero, List.setIfInBounds_toArray, List.set_cons_zero, List.set_cons_succ]
  refine wpAnyH_done (by kernel_rfl) ?_ _
  go_wp2
  go_ret
  refine ⟨rfl, ?_⟩
  have hA := K.out.1.put1 H.out.2.2.1 y
  rw [LT.out.2.2] at hA
  obtain ⟨M', h1, h2, h3⟩ := hA
  refine ⟨M', h1.move (fun k _ => rfl), fun k hk => (h2 k hk).imp id (fun e => Nat.le_trans K.out.2.size e), ((Chg.of_below K.out.2).trans h3 (fun k e => .inl e)).drew⟩

set_option maxHeartbeats 4000000 in
theorem free_ok (a : Arn Int) (p : Nat) (M : Nat → Prop) (i : Nat) (x : ASl Int) (w : World) (ha : Ar w p M a) (hi : a.sl[i]? = some x) (hk : x.k = true) (hsz : a.sl.length ≤ 5000) (hbz : a.bk.length ≤ 5000) :
    Calls Try.prog 16 #[.pointer (some ⟨p, 0, none⟩), .agg #[.int .i64 (i : Int), .int .i64 x.g]] w fun e w' => e = .returned (.bool true) ∧ ArTo w p M (a.free 0 i x.g) w' := by
  have hmx : Try.prog.follows .mixedOrders = true := by kernel_rfl
  have hr : a.right (i : Int) x.g = true := by rw [Arn.right_at hi, hk]; simp
  have H := Lib.hid (And.intro (ha.keep (below1 w (.cells #[.int .i64 (i : Int), .int .i64 x.g] 33))) (And.intro hr (And.intro hi hbz)))
  have LT := Lib.hid (And.intro ha.lt (And.intro ha.from hk))
  have hl := (List.getElem?_eq_some_iff.1 hi).1
  clear ha hr hk hi hbz
  go_enter Try.func16, Try.ntmps16
  go_wp2_with fail
  refine (right_is a p M _ _ true _ H.out.1 H.out.2.1).mono ?_
  rintro _ w1 ⟨rfl, hb⟩
  have B1 := (Blk.new w #[.int .i64 (i : Int), .int .i64 x.g] 33).below hb
  obtain ⟨g, c, vb, hP, c1, d0, d1, d2, hf, hgl⟩ := (H.out.1.keep hb).parts H.out.2.2.1
  have b0 : w1.cell? ⟨w.heap.size, 0, none⟩ = some (.int .i64 (i : Int)) := B1.cell 0
  have b1 : w1.cell? ⟨w.heap.size, 1, none⟩ = some (.int .i64 x.g) := B1.cell 1
  have il : (i : Int) < (a.sl.length : Int) := by omega
  have i0 : (0 : Int) ≤ (i : Int) := by omega
  have sz : a.sl.length < 4611686018427387904 := by omega
  have f0 := hf (i * 3)
  have f1 := hf (i * 3 + 1)
  have f2 := hf (i * 3 + 2)
  have hgp : p ≠ g := by have := (hP.2.1.lt g rfl).1; omega
  have hgm : M g := (hP.2.2.2 g).2 (.inr (.inl rfl))
  have hgw : w.heap.size ≠ g := by have := (LT.out.2.1 g hgm).2; omega
  obtain ⟨W2, hW2⟩ : ∃ W2, ((w1.setCell ⟨g, i * 3, none⟩ (.int .i64 0)).setCell ⟨g, i * 3 + 1, none⟩ (.int .i64 x.g)).setCell ⟨g, i * 3 + 2, none⟩ (.bool false) = W2 := ⟨_, rfl⟩
  have sb : ∀ k, k ≠ g → W2.heap[k]? = w1.heap[k]? := fun k hk => by
    rw [← hW2, Below.heap_setCell _ ⟨g, _, none⟩ _ k hk, Below.heap_setCell _ ⟨g, _, none⟩ _ k hk, Below.heap_setCell _ ⟨g, _, none⟩ _ k hk]
  have k1 : W2.cell? ⟨p, 1, none⟩ = some (.slice (some ⟨g, 0, none⟩) a.sl.length c) := (World.cell?_of_block (w := w1) (sb p hgp)).trans c1
  have k2 : W2.cell? ⟨w.heap.size, 0, none⟩ = some (.int .i64 (i : Int)) := (World.cell?_of_block (w := w1) (sb _ hgw)).trans b0
  have k3 : W2.cell? ⟨w.heap.size, 1, none⟩ = some (.int .i64 x.g) := (World.cell?_of_block (w := w1) (sb _ hgw)).trans b1
  have P2 := hP.put3 (y := ⟨0, x.g, false⟩) H.out.2.2.1
  rw [show ((w1.setCell ⟨g, i * 3, none⟩ (.int .i64 (⟨0, x.g, false⟩ : ASl Int).h)).setCell ⟨g, i * 3 + 1, none⟩ (.int .i64 (⟨0, x.g, false⟩ : ASl Int).g)).setCell ⟨g, i * 3 + 2, none⟩ (.bool (⟨0, x.g, false⟩ : ASl Int).k) = W2 from hW2] at P2
  have B2 : Blk W2 w.heap.size #[.int .i64 (i : Int), .int .i64 x.g] 33 := B1.move (sb _ hgw)
  have NM : ¬ M w.heap.size := fun e => by have := (LT.out.2.1 _ e).2; omega
  have K := Lib.hid (And.intro P2 (And.intro B2 (And.intro NM (And.intro ((below1 w _).trans (hb.mono (below1 w _).size)) (And.intro (B1.lt) k1)))))
  clear hb B1 hl hP hf hgl hgp hgm hgw P2 B2 sb NM
  go_wp2_with fail
  refine wp_region_held_drew (S := (fun v => v.cell? ⟨p, 1, none⟩ = some (.slice (some ⟨g, 0, none⟩) a.sl.length c) ∧ v.cell? ⟨w.heap.size, 0, none⟩ = some (.int .i64 (i : Int)) ∧ v.cell? ⟨w.heap.size, 1, none⟩ = some (.int .i64 x.g))) (by kernel_rfl) ⟨c1, b0, b1⟩ (fun hH0 => ?_)
  refine wpAnyH_take (i := 0) (oi := _) (v := .pointer (some ⟨p, 0, none⟩)) rfl (by kernel_rfl) (by kernel_rfl) (by kernel_rfl) (fun _ _ _ h => h) (Or.inl ⟨by rfl, by intro v hv; go_simp⟩) hH0 ?_
  try simp only [Act.put, List.getElem_toArray, List.getElem_cons_succ, List.getElem_cons_zero, List.setIfInBounds_toArray, List.set_cons_zero, List.set_cons_succ]
  refine wpAnyH_take (i := 1) (oi := _) (v := .pointer (some ⟨p, 0, none⟩)) rfl (by kernel_rfl) (by kernel_rfl) (by kernel_rfl) (fun _ _ _ h => h) (Or.inl ⟨by rfl, by intro v hv; go_simp⟩) hH0 ?_
  try simp only [Act.put, List.getElem_toArray, List.getElem_cons_succ, List.getElem_cons_zero, List.setIfInBounds_toArray, List.set_cons_zero, List.set_cons_succ]
  refine wpAnyH_take (i := 2) (oi := _) (v := .pointer (some ⟨p, 1, none⟩)) rfl (by kernel_rfl) (by kernel_rfl) (by kernel_rfl) (fun _ _ _ h => h) (Or.inl ⟨by rfl, by intro v hv; go_simp⟩) hH0 ?_
  try simp only [Act.put, List.getElem_toArray, List.getElem_cons_succ, List.getElem_cons_zero, List.setIfInBounds_toArray, List.set_cons_zero, List.set_cons_succ]
  refine wpAnyH_take (i := 3) (oi := _) (v := .slice (some ⟨g, 0, none⟩) a.sl.length c) rfl (by kernel_rfl) (by kernel_rfl) (by kernel_rfl) (fun _ _ _ h => h) (Or.inl ⟨by rfl, by intro v hv; go_simp⟩) hH0 ?_
  try simp only [Act.put, List.getElem_toArray, List.getElem_cons_succ, List.getElem_cons_zero, List.setIfInBounds_toArray, List.set_cons_zero, List.set_cons_succ]
  refine wpAnyH_take (i := 4) (oi := _) (v := .pointer (some ⟨w.heap.size, 0, none⟩)) rfl (by kernel_rfl) (by kernel_rfl) (by kernel_rfl) (fun _ _ _ h => h) (Or.inl ⟨by rfl, by intro v hv; go_simp⟩) hH0 ?_
  try simp only [Act.put, List.getElem_toArray, List.getElem_cons_succ, List.getElem_cons_zero, List.setIfInBounds_toArray, List.set_cons_zero, List.set_cons_succ]
  refine wpAnyH_take (i := 5) (oi := _) (v := .int .i64 (i : Int)) rfl (by kernel_rfl) (by kernel_rfl) (by kernel_rfl) (fun _ _ _ h => h) (Or.inl ⟨by rfl, by intro v hv; go_simp⟩) hH0 ?_
  try simp only [Act.put, List.getElem_toArray, List.getElem_cons_succ, List.getElem_cons_zero, List.setIfInBounds_toArray, List.set_cons_zero, List.set_cons_succ]
  refine wpAnyH_take (i := 6) (oi := _) (v := .pointer (some ⟨w.heap.size, 1, none⟩)) rfl (by kernel_rfl) (by kernel_rfl) (by kernel_rfl) (fun _ _ _ h => h) (Or.inl ⟨by rfl, by intro v hv; go_simp⟩) hH0 ?_
  try simp only [Act.put, List.getElem_toArray, List.getElem_cons_succ, List.getElem_cons_zero, List.setIfInBounds_toArray, List.set_cons_zero, List.set_cons_succ]
  refine wpAnyH_take (i := 7) (oi := _) (v := .int .i64 x.g) rfl (by kernel_rfl) (by kernel_rfl) (by kernel_rfl) (fun _ _ _ h => h) (Or.inl ⟨by rfl, by intro v hv; go_simp⟩) hH0 ?_
  try simp only [Act.put, List.getElem_toArray, List.getElem_cons_succ, List.getElem_cons_zero, List.setIfInBounds_toArray, List.set_cons_zero, List.set_cons_succ]
  refine wpAnyH_take (i := 8) (oi := _) (v := .agg #[.int .i64 0, .int .i64 x.g, .bool false]) rfl (by kernel_rfl) (by kernel_rfl) (by kernel_rfl) (fun _ _ _ h => h) (Or.inl ⟨by rfl, by intro v hv; go_simp⟩) hH0 ?_
  try simp only [Act.put, List.getElem_toArray, List.getElem_cons_succ, List.getElem_cons_zero, List.setIfInBounds_toArray, List.set_cons_zero, List.set_cons_succ]
  refine wpAnyH_take (i := 9) (oi := _) (v := .pointer (some ⟨g, i * 3, none⟩)) rfl (by kernel_rfl) (by kernel_rfl) (by kernel_rfl) (fun _ _ _ h => h) (Or.inl ⟨by rfl, by intro v hv; go_simp⟩) hH0 ?_
  try simp only [Act.put, List.getElem_toArray, List.getElem_cons_succ, List.getElem_cons_zero, List.setIfInBounds_toArray, List.set_cons_zero, List.set_cons_succ]
  refine wpAnyH_ready (rs := [10]) (by kernel_rfl) (by simp) ?_
  refine AllReadyH.cons (o := _) rfl (fun K' hK => ?_) AllReadyH.nil
  go_simp
  refine hK.out _ _ ⟨k1, k2, k3⟩ (fun hH1 => ?_)
  clear hK K' hH0
  try simp only [Act.put, List.getElem_toArray, List.getElem_cons_succ, List.getElem_cons_zero, List.setIfInBounds_toArray, List.set_cons_zero, List.set_cons_succ]
  refine wpAnyH_done (by kernel_rfl) ?_ _
  obtain ⟨M2, hA2, hM2, hC2⟩ := K.out.1.drew.drew
  obtain ⟨Wd, hWd⟩ : ∃ Wd, W2.drew.drew = Wd := ⟨_, rfl⟩
  rw [hWd] at hA2 hC2
  obtain ⟨vs, vb2, hP2⟩ := hA2
  obtain ⟨bo, bc, rfl, _⟩ := hP2.2.2.1.sl
  have PP := Lib.hid (show Parts Wd p M2 a.most (a.sl.set i ⟨0, x.g, false⟩) a.bk vs (.slice bo a.bk.length bc) from hP2)
  have hBd : Blk Wd w.heap.size #[.int .i64 (i : Int), .int .i64 x.g] 33 := hWd ▸ K.out.2.1
  have k4 : Wd.cell? ⟨p, 2, none⟩ = some (.slice bo a.bk.length bc) := PP.out.1.cell 2
  have k4a : (Wd.alloc (.cells #[.int .i64 (i : Int)] 3)).cell? ⟨p, 2, none⟩ = some (.slice bo a.bk.length bc) := (PP.out.1.alloc _).cell 2
  have q2 : (Wd.alloc (.cells #[.int .i64 (i : Int)] 3)).cell? ⟨w.heap.size, 0, none⟩ = some (.int .i64 (i : Int)) := (hBd.alloc _).cell 0
  have kd2 : Wd.cell? ⟨w.heap.size, 0, none⟩ = some (.int .i64 (i : Int)) := hBd.cell 0
  have k2d : W2.drew.cell? ⟨w.heap.size, 0, none⟩ = some (.int .i64 (i : Int)) := k2
  have NM2 : ¬ M2 w.heap.size := fun e => by
    rcases hM2 _ e with h | h
    · exact K.out.2.2.1 h
    · have := K.out.2.2.2.2.1; omega
  have Q := Lib.hid (And.intro PP.out.2.2.1 (And.intro (show p + 1 ≤ Wd.heap.size by have := PP.out.1.lt; omega) (And.intro PP.out.1 (And.intro hBd (And.intro (fun k (e : (Value.slice bo a.bk.length bc).ownBlock = some k) => (PP.out.2.2.2 k).2 (.inr (.inr e))) NM2)))))
  have fin : ∀ v, ArTo Wd p M2 ⟨a.most, a.sl.set i ⟨0, x.g, false⟩, a.bk ++ [i]⟩ v → ArTo w p M (a.free 0 i x.g) v := fun v hv => by
    obtain ⟨M3, hA3, hM3, hC3⟩ := hv
    have s1 := K.out.2.2.2.1
    refine ⟨M3, hA3, fun k hk => ?_, ((Chg.of_below s1).trans hC2 (fun k e => .inl e)).trans hC3 (fun k e => ?_)⟩
    · rcases hM3 k hk with e | e
      · rcases hM2 k e with e | e
        · exact .inl e
        · exact .inr (Nat.le_trans s1.size e)
      · exact .inr (Nat.le_trans s1.size (Nat.le_trans hC2.size e))
    · rcases hM2 k e with e | e
      · exact .inl e
      · exact .inr (Nat.le_trans s1.size e)
  clear hP2 hBd NM2 hM2 hC2 k1 k3
  go_wp2_with fail
  refine wp_region_held_drew (S := (fun v => v.cell? ⟨w.heap.size, 0, none⟩ = some (.int .i64 (i : Int)))) (by kernel_rfl) k2d (fun hH0 => ?_)
  rw [hWd] at hH0 ⊢
  refine wpAnyH_take (i := 0) (oi := _) (v := .pointer (some ⟨p, 0, none⟩)) rfl (by kernel_rfl) (by kernel_rfl) (by kernel_rfl) (fun _ _ _ h => h) (Or.inl ⟨by rfl, by intro v hv; go_simp⟩) hH0 ?_
  try simp only [Act.put, List.getElem_toArray, List.getElem_cons_succ, List.getElem_cons_zero, List.setIfInBounds_toArray, List.set_cons_zero, List.set_cons_succ]
  refine wpAnyH_take (i := 1) (oi := _) (v := .pointer (some ⟨p, 0, none⟩)) rfl (by kernel_rfl) (by kernel_rfl) (by kernel_rfl) (fun _ _ _ h => h) (Or.inl ⟨by rfl, by intro v hv; go_simp⟩) hH0 ?_
  try simp only [Act.put, List.getElem_toArray, List.getElem_cons_succ, List.getElem_cons_zero, List.setIfInBounds_toArray, List.set_cons_zero, List.set_cons_succ]
  refine wpAnyH_take (i := 2) (oi := _) (v := .pointer (some ⟨p, 0, none⟩)) rfl (by kernel_rfl) (by kernel_rfl) (by kernel_rfl) (fun _ _ _ h => h) (Or.inl ⟨by rfl, by intro v hv; go_simp⟩) hH0 ?_
  try simp only [Act.put, List.getElem_toArray, List.getElem_cons_succ, List.getElem_cons_zero, List.setIfInBounds_toArray, List.set_cons_zero, List.set_cons_succ]
  refine wpAnyH_take (i := 3) (oi := _) (v := .pointer (some ⟨p, 2, none⟩)) rfl (by kernel_rfl) (by kernel_rfl) (by kernel_rfl) (fun _ _ _ h => h) (Or.inl ⟨by rfl, by intro v hv; go_simp⟩) hH0 ?_
  try simp only [Act.put, List.getElem_toArray, List.getElem_cons_succ, List.getElem_cons_zero, List.setIfInBounds_toArray, List.set_cons_zero, List.set_cons_succ]
  refine wpAnyH_take (i := 5) (oi := _) (v := .pointer (some ⟨w.heap.size, 0, none⟩)) rfl (by kernel_rfl) (by kernel_rfl) (by kernel_rfl) (fun _ _ _ h => h) (Or.inl ⟨by rfl, by intro v hv; go_simp⟩) hH0 ?_
  try simp only [Act.put, List.getElem_toArray, List.getElem_cons_succ, List.getElem_cons_zero, List.setIfInBounds_toArray, List.set_cons_zero, List.set_cons_succ]
  refine wpAnyH_take (i := 6) (oi := _) (v := .int .i64 (i : Int)) rfl (by kernel_rfl) (by kernel_rfl) (by kernel_rfl) (fun _ _ _ h => h) (Or.inl ⟨by rfl, by intro v hv; go_simp⟩) hH0 ?_
  try simp only [Act.put, List.getElem_toArray, List.getElem_cons_succ, List.getElem_cons_zero, List.setIfInBounds_toArray, List.set_cons_zero, List.set_cons_succ]
  refine wpAnyH_ready (rs := [4, 7]) (by kernel_rfl) (by simp) ?_
  refine AllReadyH.cons (o := _) rfl (fun K' hK => ?_) (AllReadyH.cons (o := _) rfl (fun K' hK => ?_) AllReadyH.nil)
  · go_simp
    refine hK.out _ _ kd2 (fun hH1 => ?_)
    clear hK K' hH0
    try simp only [Act.put, List.getElem_toArray, List.getElem_cons_succ, List.getElem_cons_zero, List.setIfInBounds_toArray, List.set_cons_zero, List.set_cons_succ]
    refine wpAnyH_ready (rs := [7]) (by kernel_rfl) (by simp) ?_
    refine AllReadyH.cons (o := _) rfl (fun K' hK => ?_) AllReadyH.nil
    go_simp
    refine hK.out _ _ q2 (fun hH2 => ?_)
    clear hK K' hH1
    try simp only [Act.put, List.getElem_toArray, List.getElem_cons_succ, List.getElem_cons_zero, List.setIfInBounds_toArray, List.set_cons_zero, List.set_cons_succ]
    refine wpAnyH_ready (rs := [8]) (by kernel_rfl) (by simp) ?_
    refine AllReadyH.cons (o := _) rfl (fun K' hK => ?_) AllReadyH.nil
    refine step_appE elN rfl (.tmp 23) (.tmp 26) rfl (p + 1) (.slice bo a.bk.length bc) a.bk i Wd.heap.size (by simp [Act.eval, Act.put]) (by simp [Act.eval, Act.put]) (Q.out.1.keep (below1 _ _)) (Blk.new Wd _ _) (by have := H.out.2.2.2; omega) (by have := Q.out.2.1; simp; omega) ?_
    intro v' w3 hown hgr hbk hbel
    have hp1 := (Q.out.2.2.1.alloc (.cells #[.int .i64 (i : Int)] 3)).below' hbel (Nat.lt_succ_self p)
    have ub := Q.out.2.2.2.1.alloc (.cells #[.int .i64 (i : Int)] 3) |>.move (hgr.block w.heap.size (by simp; have := Q.out.2.2.2.1.lt; omega) (fun e => Q.out.2.2.2.2.2 (Q.out.2.2.2.2.1 _ e.symm)))
    have u2 : w3.cell? ⟨w.heap.size, 0, none⟩ = some (.int .i64 (i : Int)) := ub.cell 0
    refine hK.out _ _ u2 (fun hH3 => ?_)
    clear hK K' hH2
    try simp only [Act.put, List.getElem_toArray, List.getElem_cons_succ, List.getElem_cons_zero, List.setIfInBounds_toArray, List.set_cons_zero, List.set_cons_succ]
    obtain ⟨vo, vc, rfl, _⟩ := hown.sl
    obtain ⟨L, hL⟩ : ∃ L, (a.bk ++ [i]).length = L := ⟨_, rfl⟩
    rw [hL] at hown hbk ⊢
    have n1 : w3.cell? ⟨p, 2, none⟩ = some (.slice bo a.bk.length bc) := hp1.cell 2
    have n2 := hp1.frozen 2
    have z2 : (w3.setCell ⟨p, 2, none⟩ (.slice vo L vc)).cell? ⟨w.heap.size, 0, none⟩ = some (.int .i64 (i : Int)) := (World.cell?_of_block (w := w3) (Below.heap_setCell w3 ⟨p, 2, none⟩ _ w.heap.size (by have := LT.out.1; simp; omega))).trans u2
    have Z := Lib.hid (And.intro hown (And.intro hgr (And.intro hbk (And.intro hL z2))))
    clear hown hgr hbk hbel hp1 ub hL z2
    refine wpAnyH_take (i := 9) (oi := _) (v := .pointer (some ⟨p, 0, none⟩)) rfl (by kernel_rfl) (by kernel_rfl) (by kernel_rfl) (fun _ _ _ h => h) (Or.inl ⟨by rfl, by intro v hv; go_simp⟩) hH3 ?_
    try simp only [Act.put, List.getElem_toArray, List.getElem_cons_succ, List.getElem_cons_zero, List.setIfInBounds_toArray, List.set_cons_zero, List.set_cons_succ]
    refine wpAnyH_take (i := 10) (oi := _) (v := .pointer (some ⟨p, 2, none⟩)) rfl (by kernel_rfl) (by kernel_rfl) (by kernel_rfl) (fun _ _ _ h => h) (Or.inl ⟨by rfl, by intro v hv; go_simp⟩) hH3 ?_
    try simp only [Act.put, List.getElem_toArray, List.getElem_cons_succ, List.getElem_cons_zero, List.setIfInBounds_toArray, List.set_cons_zero, List.set_cons_succ]
    refine wpAnyH_ready (rs := [11]) (by kernel_rfl) (by simp) ?_
    refine AllReadyH.cons (o := _) rfl (fun K' hK => ?_) AllReadyH.nil
    go_simp
    refine hK.out _ _ Z.out.2.2.2.2 (fun hH4 => ?_)
    clear hK K' hH3
    try simp only [Act.put, List.getElem_toArray, List.getElem_cons_succ, List.getElem_cons_zero, List.setIfInBounds_toArray, List.set_cons_zero, List.set_cons_succ]
    refine wpAnyH_done (by kernel_rfl) ?_ _
    go_wp2
    go_ret
    refine ⟨rfl, ?_⟩
    have hP := Parts.backs (w1 := w3) (vb' := .slice vo L vc) (bk' := a.bk ++ [i]) PP.out (by rw [← Z.out.2.2.2.1]; rw [Z.out.2.2.2.1]; exact Z.out.1) (grown_alloc Z.out.2.1) (Z.out.2.2.1.imp id (fun e => ⟨_, e, by simp⟩))
    exact fin _ hP
  · go_simp
    refine hK.out _ _ q2 (fun hH1 => ?_)
    clear hK K' hH0
    try simp only [Act.put, List.getElem_toArray, List.getElem_cons_succ, List.getElem_cons_zero, List.setIfInBounds_toArray, List.set_cons_zero, List.set_cons_succ]
    refine wpAnyH_ready (rs := [4]) (by kernel_rfl) (by simp) ?_
    refine AllReadyH.cons (o := _) rfl (fun K' hK => ?_) AllReadyH.nil
    go_simp
    refine hK.out _ _ q2 (fun hH2 => ?_)
    clear hK K' hH1
    try simp only [Act.put, List.getElem_toArray, List.getElem_cons_succ, List.getElem_cons_zero, List.setIfInBounds_toArray, List.set_cons_zero, List.set_cons_succ]
    refine wpAnyH_ready (rs := [8]) (by kernel_rfl) (by simp) ?_
    refine AllReadyH.cons (o := _) rfl (fun K' hK => ?_) AllReadyH.nil
    refine step_appE elN rfl (.tmp 23) (.tmp 26) rfl (p + 1) (.slice bo a.bk.length bc) a.bk i Wd.heap.size (by simp [Act.eval, Act.put]) (by simp [Act.eval, Act.put]) (Q.out.1.keep (below1 _ _)) (Blk.new Wd _ _) (by have := H.out.2.2.2; omega) (by have := Q.out.2.1; simp; omega) ?_
    intro v' w3 hown hgr hbk hbel
    have hp1 := (Q.out.2.2.1.alloc (.cells #[.int .i64 (i : Int)] 3)).below' hbel (Nat.lt_succ_self p)
    have ub := Q.out.2.2.2.1.alloc (.cells #[.int .i64 (i : Int)] 3) |>.move (hgr.block w.heap.size (by simp; have := Q.out.2.2.2.1.lt; omega) (fun e => Q.out.2.2.2.2.2 (Q.out.2.2.2.2.1 _ e.symm)))
    have u2 : w3.cell? ⟨w.heap.size, 0, none⟩ = some (.int .i64 (i : Int)) := ub.cell 0
    refine hK.out _ _ u2 (fun hH3 => ?_)
    clear hK K' hH2
    try simp only [Act.put, List.getElem_toArray, List.getElem_cons_succ, List.getElem_cons_zero, List.setIfInBounds_toArray, List.set_cons_zero, List.set_cons_succ]
    obtain ⟨vo, vc, rfl, _⟩ := hown.sl
    obtain ⟨L, hL⟩ : ∃ L, (a.bk ++ [i]).length = L := ⟨_, rfl⟩
    rw [hL] at hown hbk ⊢
    have n1 : w3.cell? ⟨p, 2, none⟩ = some (.slice bo a.bk.length bc) := hp1.cell 2
    have n2 := hp1.frozen 2
    have z2 : (w3.setCell ⟨p, 2, none⟩ (.slice vo L vc)).cell? ⟨w.heap.size, 0, none⟩ = some (.int .i64 (i : Int)) := (World.cell?_of_block (w := w3) (Below.heap_setCell w3 ⟨p, 2, none⟩ _ w.heap.size (by have := LT.out.1; simp; omega))).trans u2
    have Z := Lib.hid (And.intro hown (And.intro hgr (And.intro hbk (And.intro hL z2))))
    clear hown hgr hbk hbel hp1 ub hL z2
    refine wpAnyH_take (i := 9) (oi := _) (v := .pointer (some ⟨p, 0, none⟩)) rfl (by kernel_rfl) (by kernel_rfl) (by kernel_rfl) (fun _ _ _ h => h) (Or.inl ⟨by rfl, by intro v hv; go_simp⟩) hH3 ?_
    try simp only [Act.put, List.getElem_toArray, List.getElem_cons_succ, List.getElem_cons_zero, List.setIfInBounds_toArray, List.set_cons_zero, List.set_cons_succ]
    refine wpAnyH_take (i := 10) (oi := _) (v := .pointer (some ⟨p, 2, none⟩)) rfl (by kernel_rfl) (by kernel_rfl) (by kernel_rfl) (fun _ _ _ h => h) (Or.inl ⟨by rfl, by intro v hv; go_simp⟩) hH3 ?_
    try simp only [Act.put, List.getElem_toArray, List.getElem_cons_succ, List.getElem_cons_zero, List.setIfInBounds_toArray, List.set_cons_zero, List.set_cons_succ]
    refine wpAnyH_ready (rs := [11]) (by kernel_rfl) (by simp) ?_
    refine AllReadyH.cons (o := _) rfl (fun K' hK => ?_) AllReadyH.nil
    go_simp
    refine hK.out _ _ Z.out.2.2.2.2 (fun hH4 => ?_)
    clear hK K' hH3
    try simp only [Act.put, List.getElem_toArray, List.getElem_cons_succ, List.getElem_cons_zero, List.setIfInBounds_toArray, List.set_cons_zero, List.set_cons_succ]
    refine wpAnyH_done (by kernel_rfl) ?_ _
    go_wp2
    go_ret
    refine ⟨rfl, ?_⟩
    have hP := Parts.backs (w1 := w3) (vb' := .slice vo L vc) (bk' := a.bk ++ [i]) PP.out (by rw [← Z.out.2.2.2.1]; rw [Z.out.2.2.2.1]; exact Z.out.1) (grown_alloc Z.out.2.1) (Z.out.2.2.1.imp id (fun e => ⟨_, e, by simp⟩))
    exact fin _ hP

end Go.Proofs.Ytlommgljkjkmkaa.Gn
