/-
  The document's Take. Conditions: the bounds named in each theorem.
-/
import Derived.Test.YtlommgljkjkmkaaDcSt
namespace Go.Proofs.Ytlommgljkjkmkaa.Gn
open Go.RowKit
set_option linter.unusedVariables false
set_option linter.unusedSimpArgs false

set_option maxHeartbeats 4000000 in
theorem dtake_full (d : Dc) (v : Value) (F : Nat → Prop) (w : World) (h : Dv w v d F) (hsz : d.taken.length ≤ 5000) (hr : d.room = 0) :
    Calls Try.prog 12 #[v] w fun e w' => e = .returned (.tuple #[v, .agg #[.int .i64 0, .int .i64 0], .int .i64 20]) ∧ Below w.heap.size w w' := by
  obtain ⟨ga, gc, ta, tc, ba, bc, rfl, h1, h2, h3, h4, h5, h6, h7, h8, h9, h10, h11⟩ := id h
  have H := Lib.hid (And.intro hr (And.intro hsz trivial))
  clear hr hsz
  have D0 := Lib.hid (And.intro h (And.intro h1 (And.intro h2 (And.intro h3 (And.intro h4 (And.intro h5 (And.intro h6 (And.intro h7 (And.intro h10 h11)))))))))
  clear h h1 h2 h3 h4 h5 h6 h7 h8 h9 h10 h11
  go_enter Try.func12, Try.ntmps12
  go_wp2_with fail
  refine (droom_is d _ F _ (D0.out.1.keep (below3 w (.cells #[.slice ga d.gens.length gc, .slice ta d.taken.length tc, .slice ba d.back.length bc, .int .i64 (d.ever : Int)] 29) (.cells #[.slice none 0 0, .slice none 0 0, .slice none 0 0, .int .i64 0] 29) (.cells #[.int .i64 0, .int .i64 0] 33))) H.out.2.1).mono ?_
  rintro _ w1 ⟨rfl, hb⟩
  have BQ : Blk w1 w.heap.size #[.slice ga d.gens.length gc, .slice ta d.taken.length tc, .slice ba d.back.length bc, .int .i64 (d.ever : Int)] 29 := (((Blk.new w _ _).alloc _).alloc _).below hb
  have BA : Blk w1 (w.heap.size + 1) #[.slice none 0 0, .slice none 0 0, .slice none 0 0, .int .i64 0] 29 := ((Blk.new' (w.alloc _) _ _ _ (by simp)).alloc _).below hb
  have BR : Blk w1 (w.heap.size + 2) #[.int .i64 0, .int .i64 0] 33 := (Blk.new' ((w.alloc _).alloc _) _ _ _ (by simp)).below hb
  have hbe : Below w.heap.size w w1 := step0 (below3 w _ _ _) hb
  clear hb
  rw [H.out.1]
  obtain ⟨⟨b0, b1, b2, b3⟩, _⟩ := BQ.four
  obtain ⟨⟨y0, y1, y2, y3⟩, z0, z1, z2, z3⟩ := BA.four
  obtain ⟨W2, hW2⟩ : ∃ W2, ((((w1.setCell ⟨w.heap.size + 1, 0, none⟩ (.slice ga d.gens.length gc)).setCell ⟨w.heap.size + 1, 1, none⟩ (.slice ta d.taken.length tc)).setCell ⟨w.heap.size + 1, 2, none⟩ (.slice ba d.back.length bc)).setCell ⟨w.heap.size + 1, 3, none⟩ (.int .i64 (d.ever : Int))) = W2 := ⟨_, rfl⟩
  have BA2 : Blk W2 (w.heap.size + 1) #[.slice ga d.gens.length gc, .slice ta d.taken.length tc, .slice ba d.back.length bc, .int .i64 (d.ever : Int)] 29 := hW2 ▸ BA.set4
  have BR2 : Blk W2 (w.heap.size + 2) #[.int .i64 0, .int .i64 0] 33 := hW2 ▸ (BR.move (heap_set4 w1 (by omega)))
  have hb2 : Below w.heap.size w W2 := hW2 ▸ below_set4 hbe (by omega)
  obtain ⟨⟨x0, x1⟩, u0, u1⟩ := BR2.two
  have K := Lib.hid (And.intro BA2 (And.intro BR2 hb2))
  clear BQ BA BR hbe BA2 BR2 hb2
  go_wp2
  obtain ⟨⟨y0', y1', y2', y3'⟩, _⟩ := (K.out.1.move (heap_set2 (B := w.heap.size + 2) (a' := .int .i64 0) (b' := .int .i64 0) W2 (by omega))).four
  obtain ⟨⟨x0', x1'⟩, _⟩ := (K.out.2.1.set2 (a' := .int .i64 0) (b' := .int .i64 0)).two
  refine bodyPost_ret (v := .tuple #[.agg #[.slice ga d.gens.length gc, .slice ta d.taken.length tc, .slice ba d.back.length bc, .int .i64 (d.ever : Int)], .agg #[.int .i64 0, .int .i64 0], .int .i64 20]) (by simp [results, Try.results12, go_sem, y0', y1', y2', y3', x0', x1']) rfl ⟨rfl, below_set2 K.out.2.2 (by omega)⟩

set_option maxHeartbeats 8000000 in
theorem dtake_back (d : Dc) (v : Value) (F : Nat → Prop) (w : World) (n : Nat) (gen : Int) (b0 : Bool) (m at_ : Nat) (hm : d.back.length = m + 1) (h : Dv w v d F) (hg : d.gens.length = n) (ht : d.taken.length = n) (hsz : n ≤ 5000) (hev : d.ever ≤ 5000) (hbk : d.back.length ≤ 5000) (hr : d.room ≠ 0) (hat : d.at = at_) (hx : d.gens[at_]? = some gen) (hy : d.taken[at_]? = some b0) (g0 : 0 ≤ gen) (g1 : gen ≤ 1000000) :
    Calls Try.prog 12 #[v] w fun e w' => ∃ v' F', e = .returned (.tuple #[v', .agg #[.int .i64 (at_ : Int), .int .i64 (gen + 1)], .int .i64 0]) ∧ Dv w' v' ⟨d.gens.set at_ (gen + 1), d.taken.set at_ true, d.back.dropLast, d.ever⟩ F' ∧ (∀ k, F' k → F k ∨ w.heap.size ≤ k) ∧ Below w.heap.size w w' := by
  obtain ⟨ga, gc, ta, tc, ba, bc, rfl, h1, h2, h3, h4, h5, h6, h7, h8, h9, h10, h11⟩ := id h
  have hl := (List.getElem?_eq_some_iff.1 hx).1
  have hmx : Try.prog.follows .mixedOrders = true := by kernel_rfl
  have il : (at_ : Int) < (n : Int) := by omega
  have i0 : (0 : Int) ≤ (at_ : Int) := Int.natCast_nonneg _
  have hwg : wrap64 (gen + 1) = gen + 1 := wrap_in _ (by omega) (by omega)
  have hrm : ¬ ((d.room : Nat) : Int) = 0 := by omega
  have H := Lib.hid (And.intro hr (And.intro (show d.taken.length ≤ 5000 by omega) (And.intro hx (And.intro hy (And.intro hg (And.intro ht hsz))))))
  have e1 : d.back[m]? = some at_ := by
    have : d.back.getLast? = some at_ := by
      cases hgl : d.back.getLast? with
      | none => rw [List.getLast?_eq_none_iff] at hgl; rw [hgl] at hm; simp at hm
      | some y => unfold Dc.at at hat; rw [hgl] at hat; simp only at hat; rw [hat]
    rw [List.getLast?_eq_getElem?, hm] at this
    exact this
  obtain ⟨bq, rfl, hbq⟩ := h3 m at_ e1
  have HB := Lib.hid (And.intro e1 hm)
  have HQ := Lib.hid hbq
  clear hbq e1
  have j2 : (0 : Int) ≤ (m : Int) := Int.natCast_nonneg m
  have j3 : (m : Int) ≤ (bc : Int) := by rw [hm] at h7; omega
  have j4 : (0 : Int) < (m : Int) + 1 := by omega
  have j5 : (m : Int) < (m : Int) + 1 := by omega
  have j6 : decide ((m : Int) < 0) = false := by rw [decide_eq_false_iff_not]; omega
  have HM := Lib.hid (show wrap64 (m : Int) = (m : Int) from wrap_in _ (by omega) (by omega))
  clear hm
  clear hr hsz hl hx hy g0 g1 hev hbk hat hg ht
  have D0 := Lib.hid (And.intro h (And.intro h1 (And.intro h2 (And.intro h3 (And.intro h4 (And.intro h5 (And.intro h6 (And.intro h7 (And.intro h10 h11)))))))))
  clear h h1 h2 h3 h4 h5 h6 h7 h8 h9 h10 h11
  go_enter Try.func12, Try.ntmps12
  go_wp2_with fail
  refine (droom_is d _ F _ (D0.out.1.keep (below3 w (.cells #[.slice ga d.gens.length gc, .slice ta d.taken.length tc, .slice (some bq) d.back.length bc, .int .i64 (d.ever : Int)] 29) (.cells #[.slice none 0 0, .slice none 0 0, .slice none 0 0, .int .i64 0] 29) (.cells #[.int .i64 0, .int .i64 0] 33))) H.out.2.1).mono ?_
  rintro _ w1 ⟨rfl, hb⟩
  have BQ : Blk w1 w.heap.size #[.slice ga d.gens.length gc, .slice ta d.taken.length tc, .slice (some bq) d.back.length bc, .int .i64 (d.ever : Int)] 29 := (((Blk.new w _ _).alloc _).alloc _).below hb
  have BA : Blk w1 (w.heap.size + 1) #[.slice none 0 0, .slice none 0 0, .slice none 0 0, .int .i64 0] 29 := ((Blk.new' (w.alloc _) _ _ _ (by simp)).alloc _).below hb
  have BR : Blk w1 (w.heap.size + 2) #[.int .i64 0, .int .i64 0] 33 := (Blk.new' ((w.alloc _).alloc _) _ _ _ (by simp)).below hb
  have hbe : Below w.heap.size w w1 := step0 (below3 w _ _ _) hb
  clear hb
  obtain ⟨⟨b0', b1', b2', b3'⟩, _⟩ := BQ.four
  have hbe0 := Lib.hid hbe
  have K1 := Lib.hid (And.intro BQ (And.intro BA BR))
  clear BQ BA BR hbe
  go_wp2_with fail
  refine (with_is ga ta (some bq) gc tc d.back.length bc (d.ever : Int) d.gens d.taken _ (D0.out.2.1.below hbe0.out) (D0.out.2.2.1.below hbe0.out) D0.out.2.2.2.2.1 D0.out.2.2.2.2.2.1 (by have := H.out.2.2.2.2.1; have := H.out.2.2.2.2.2.2; omega) (by have := H.out.2.2.2.2.2.1; have := H.out.2.2.2.2.2.2; omega)).mono ?_
  rintro _ w2 ⟨vg, vt, rfl, hvg, hvt, hb⟩
  have hpos : 0 < n := by have := List.getElem?_eq_some_iff.1 H.out.2.2.1; have := this.1; have := H.out.2.2.2.2.1; omega
  obtain ⟨g, cg, rfl, hj⟩ := hvg.open (by rw [H.out.2.2.2.2.1]; exact hpos)
  clear hj
  obtain ⟨t, ct, rfl, hj⟩ := hvt.open (by rw [H.out.2.2.2.2.2.1]; exact hpos)
  clear hj hpos
  rw [H.out.2.2.2.2.1] at hvg
  rw [H.out.2.2.2.2.2.1] at hvt
  rw [H.out.2.2.2.2.1, H.out.2.2.2.2.2.1]
  have BQ2 := K1.out.1.below hb
  have BA2 := K1.out.2.1.below hb
  have BR2 := K1.out.2.2.below hb
  have hs1 : w.heap.size ≤ w1.heap.size := hbe0.out.size
  have hbe2 : Below w.heap.size w w2 := step0 hbe0.out hb
  obtain ⟨⟨c0, c1, c2, c3⟩, f0, f1, f2, f3⟩ := BQ2.four
  have S3 := DS.start (vb := .slice (some bq) d.back.length bc) (ve := .int .i64 (d.ever : Int)) BQ2 hbe2 hvg hvt hs1 H.out.2.2.2.2.1 H.out.2.2.2.2.2.1
  have BA3 := BA2.move (heap_set4 (B := w.heap.size) (a' := .slice (some ⟨g, 0, none⟩) n cg) (b' := .slice (some ⟨t, 0, none⟩) n ct) (c' := .slice (some bq) d.back.length bc) (d' := .int .i64 (d.ever : Int)) w2 (k := w.heap.size + 1) (by omega))
  have BR3 := BR2.move (heap_set4 (B := w.heap.size) (a' := .slice (some ⟨g, 0, none⟩) n cg) (b' := .slice (some ⟨t, 0, none⟩) n ct) (c' := .slice (some bq) d.back.length bc) (d' := .int .i64 (d.ever : Int)) w2 (k := w.heap.size + 2) (by omega))
  obtain ⟨W3, hW3⟩ : ∃ W3, ((((w2.setCell ⟨w.heap.size, 0, none⟩ (.slice (some ⟨g, 0, none⟩) n cg)).setCell ⟨w.heap.size, 1, none⟩ (.slice (some ⟨t, 0, none⟩) n ct)).setCell ⟨w.heap.size, 2, none⟩ (.slice (some bq) d.back.length bc)).setCell ⟨w.heap.size, 3, none⟩ (.int .i64 (d.ever : Int))) = W3 := ⟨_, rfl⟩
  rw [hW3] at S3 BA3 BR3
  obtain ⟨⟨d0, d1, d2, d3⟩, e0, e1, e2, e3⟩ := S3.box.four
  clear d0 d1 e0 e1
  have hat3 := (show Sg elN w (some bq) d.back from D0.out.2.2.2.1).below S3.be
  have q3 : W3.cell? (bq.add m) = some (.int .i64 (at_ : Int)) := by have := (hat3.at HB.out.1).1 _ rfl; rwa [show m * elN.n = m from Nat.mul_one m] at this
  clear hat3
  rw [HB.out.2] at hW3 S3 d2
  have S4 := S3.setB (.slice (some bq) m bc)
  have BA4 := BA3.otherAt (B' := w.heap.size) (by omega) 2 (.slice (some bq) m bc)
  have BR4 := BR3.otherAt (B' := w.heap.size) (by omega) 2 (.slice (some bq) m bc)
  obtain ⟨W4, hW4⟩ : ∃ W4, W3.setCell ⟨w.heap.size, 2, none⟩ (.slice (some bq) m bc) = W4 := ⟨_, rfl⟩
  rw [hW4] at S4 BA4 BR4
  clear e3
  rw [HB.out.2]
  have k5 := S4.box.four.1.2.1
  have l5 := S4.ceT (H.out.2.2.2.1)
  have m5 := S4.frT at_
  have S5 := S4.setT H.out.2.2.2.1 true
  have BA5 := BA4.otherAt (S4.neT BA4 (by decide)) at_ (.bool true)
  have BR5 := BR4.otherAt (S4.neT BR4 (by decide)) at_ (.bool true)
  obtain ⟨W5, hW5⟩ : ∃ W5, W4.setCell ⟨t, at_, none⟩ (.bool true) = W5 := ⟨_, rfl⟩
  rw [hW5] at S5 BA5 BR5
  have k6 := S5.box.four.1.1
  have l6 := S5.ceG (H.out.2.2.1)
  have m6 := S5.frG at_
  have S6 := S5.setG H.out.2.2.1 (gen + 1)
  have BA6 := BA5.otherAt (S5.neG BA5 (by decide)) at_ (.int .i64 (gen + 1))
  have BR6 := BR5.otherAt (S5.neG BR5 (by decide)) at_ (.int .i64 (gen + 1))
  obtain ⟨W6, hW6⟩ : ∃ W6, W5.setCell ⟨g, at_, none⟩ (.int .i64 (gen + 1)) = W6 := ⟨_, rfl⟩
  rw [hW6] at S6 BA6 BR6
  have hl' := (List.getElem?_eq_some_iff.1 H.out.2.2.1).1
  have l7 := S6.ceG (i := at_) (x := gen + 1) (List.getElem?_set_self hl')
  obtain ⟨⟨p0, p1, p2, p3⟩, _⟩ := S6.box.four
  obtain ⟨⟨y0, y1, y2, y3⟩, z0, z1, z2, z3⟩ := BA6.four
  obtain ⟨W7, hW7⟩ : ∃ W7, ((((W6.setCell ⟨w.heap.size + 1, 0, none⟩ (.slice (some ⟨g, 0, none⟩) n cg)).setCell ⟨w.heap.size + 1, 1, none⟩ (.slice (some ⟨t, 0, none⟩) n ct)).setCell ⟨w.heap.size + 1, 2, none⟩ (.slice (some bq) m bc)).setCell ⟨w.heap.size + 1, 3, none⟩ (.int .i64 (d.ever : Int))) = W7 := ⟨_, rfl⟩
  have BA7 : Blk W7 (w.heap.size + 1) #[.slice (some ⟨g, 0, none⟩) n cg, .slice (some ⟨t, 0, none⟩) n ct, (.slice (some bq) m bc), (.int .i64 (d.ever : Int))] 29 := hW7 ▸ BA6.set4
  have BR7 : Blk W7 (w.heap.size + 2) #[.int .i64 0, .int .i64 0] 33 := hW7 ▸ (BR6.move (heap_set4 _ (by omega)))
  have S7 := S6.ot (W' := W7) (fun k hk => by
    have a1 := S6.neG BA6 (by decide)
    have a2 := S6.neT BA6 (by decide)
    rw [← hW7, heap_set4 W6 (by rcases hk with rfl | rfl | rfl <;> omega)]) (hW7 ▸ below_set4 S6.be (by omega))
  obtain ⟨⟨x0, x1⟩, u0, u1⟩ := BR7.two
  have n7g := S7.neG BR7 (by decide)
  have n7t := S7.neT BR7 (by decide)
  have K := Lib.hid (And.intro S7 (And.intro BA7 (And.intro BR7 (And.intro n7g n7t))))
  have KW := Lib.hid hW7
  have PW := Lib.hid (show ∀ V, DS w V w.heap.size g t n cg ct (d.gens.set at_ (gen + 1)) (d.taken.set at_ true) (.slice (some bq) m bc) (.int .i64 (d.ever : Int)) → (fun v => v.cell? ⟨w.heap.size, 0, none⟩ = some (.slice (some ⟨g, 0, none⟩) n cg) ∧ v.cell? ⟨w.heap.size, 1, none⟩ = some (.slice (some ⟨t, 0, none⟩) n ct) ∧ v.cell? ⟨w.heap.size, 2, none⟩ = some (.slice (some bq) m bc) ∧ v.cell? ⟨w.heap.size, 3, none⟩ = some (.int .i64 (d.ever : Int)) ∧ v.cell? ⟨g, at_, none⟩ = some (.int .i64 (gen + 1))) V from fun V h => ⟨h.box.four.1.1, h.box.four.1.2.1, h.box.four.1.2.2.1, h.box.four.1.2.2.2, h.ceG (List.getElem?_set_self hl')⟩)
  have S7d := Lib.hid (K.out.1.ot (W' := W7.drew) (fun k hk => rfl) (below_drew1 K.out.1.be))
  have S6d := S6.ot (W' := W6.drew) (fun k hk => rfl) (below_drew1 S6.be)
  have S8 := Lib.hid (K.out.1.ot (W' := (W7.setCell ⟨w.heap.size + 2, 0, none⟩ (.int .i64 (at_ : Int))).setCell ⟨w.heap.size + 2, 1, none⟩ (.int .i64 (gen + 1))) (fun k hk => heap_set2 W7 (by
    have a1 := K.out.2.2.2.1
    have a2 := K.out.2.2.2.2
    rcases hk with rfl | rfl | rfl <;> omega)) (below_set2 K.out.1.be (by omega)))
  have S8d := Lib.hid (S8.out.ot (W' := ((W7.setCell ⟨w.heap.size + 1 + 1, 0, none⟩ (.int .i64 (at_ : Int))).setCell ⟨w.heap.size + 1 + 1, 1, none⟩ (.int .i64 (gen + 1))).drew) (fun k hk => rfl) (below_drew1 S8.out.be))
  clear S3 S4 S5 S6 S7 BA2 BA3 BA4 BA5 BA6 BA7 BR2 BR3 BR4 BR5 BR6 BR7 BQ2 hvg hvt hb hs1 hbe2 hl' n7g n7t hW7
  have hwm := HM.out
  go_wp2_with fail
  clear hwm
  refine wp_region_held_drew (S := (fun v => v.cell? ⟨w.heap.size, 0, none⟩ = some (.slice (some ⟨g, 0, none⟩) n cg) ∧ v.cell? ⟨w.heap.size, 1, none⟩ = some (.slice (some ⟨t, 0, none⟩) n ct) ∧ v.cell? ⟨w.heap.size, 2, none⟩ = some (.slice (some bq) m bc) ∧ v.cell? ⟨w.heap.size, 3, none⟩ = some (.int .i64 (d.ever : Int)) ∧ v.cell? ⟨g, at_, none⟩ = some (.int .i64 (gen + 1)))) (by kernel_rfl) (PW.out _ S6d) (fun hH0 => ?_)
  refine wpAnyH_take (i := 0) (oi := _) (v := .agg #[.slice (some ⟨g, 0, none⟩) n cg, .slice (some ⟨t, 0, none⟩) n ct, (.slice (some bq) m bc), (.int .i64 (d.ever : Int))]) rfl (by kernel_rfl) (by kernel_rfl) (by kernel_rfl) (fun _ _ _ h => h) (Or.inl ⟨by rfl, by intro v hv; go_simp⟩) hH0 ?_
  try simp only [Act.put, List.getElem_toArray, List.getElem_cons_succ, List.getElem_cons_zero, List.setIfInBounds_toArray, List.set_cons_zero, List.set_cons_succ]
  refine wpAnyH_take (i := 1) (oi := _) (v := .int .i64 (at_ : Int)) rfl (by kernel_rfl) (by kernel_rfl) (by kernel_rfl) (fun _ _ _ h => h) (Or.inl ⟨by rfl, by intro v hv; go_simp⟩) hH0 ?_
  try simp only [Act.put, List.getElem_toArray, List.getElem_cons_succ, List.getElem_cons_zero, List.setIfInBounds_toArray, List.set_cons_zero, List.set_cons_succ]
  refine wpAnyH_take (i := 2) (oi := _) (v := .pointer (some ⟨w.heap.size, 0, none⟩)) rfl (by kernel_rfl) (by kernel_rfl) (by kernel_rfl) (fun _ _ _ h => h) (Or.inl ⟨by rfl, by intro v hv; go_simp⟩) hH0 ?_
  try simp only [Act.put, List.getElem_toArray, List.getElem_cons_succ, List.getElem_cons_zero, List.setIfInBounds_toArray, List.set_cons_zero, List.set_cons_succ]
  refine wpAnyH_take (i := 3) (oi := _) (v := .slice (some ⟨g, 0, none⟩) n cg) rfl (by kernel_rfl) (by kernel_rfl) (by kernel_rfl) (fun _ _ _ h => h) (Or.inl ⟨by rfl, by intro v hv; go_simp⟩) hH0 ?_
  try simp only [Act.put, List.getElem_toArray, List.getElem_cons_succ, List.getElem_cons_zero, List.setIfInBounds_toArray, List.set_cons_zero, List.set_cons_succ]
  refine wpAnyH_take (i := 4) (oi := _) (v := .int .i64 (at_ : Int)) rfl (by kernel_rfl) (by kernel_rfl) (by kernel_rfl) (fun _ _ _ h => h) (Or.inl ⟨by rfl, by intro v hv; go_simp⟩) hH0 ?_
  try simp only [Act.put, List.getElem_toArray, List.getElem_cons_succ, List.getElem_cons_zero, List.setIfInBounds_toArray, List.set_cons_zero, List.set_cons_succ]
  refine wpAnyH_take (i := 5) (oi := _) (v := .pointer (some ⟨g, at_, none⟩)) rfl (by kernel_rfl) (by kernel_rfl) (by kernel_rfl) (fun _ _ _ h => h) (Or.inl ⟨by rfl, by intro v hv; go_simp⟩) hH0 ?_
  try simp only [Act.put, List.getElem_toArray, List.getElem_cons_succ, List.getElem_cons_zero, List.setIfInBounds_toArray, List.set_cons_zero, List.set_cons_succ]
  refine wpAnyH_take (i := 6) (oi := _) (v := .int .i64 (gen + 1)) rfl (by kernel_rfl) (by kernel_rfl) (by kernel_rfl) (fun _ _ _ h => h) (Or.inl ⟨by rfl, by intro v hv; go_simp⟩) hH0 ?_
  try simp only [Act.put, List.getElem_toArray, List.getElem_cons_succ, List.getElem_cons_zero, List.setIfInBounds_toArray, List.set_cons_zero, List.set_cons_succ]
  refine wpAnyH_take (i := 7) (oi := _) (v := .agg #[.int .i64 (at_ : Int), .int .i64 (gen + 1)]) rfl (by kernel_rfl) (by kernel_rfl) (by kernel_rfl) (fun _ _ _ h => h) (Or.inl ⟨by rfl, by intro v hv; go_simp⟩) hH0 ?_
  try simp only [Act.put, List.getElem_toArray, List.getElem_cons_succ, List.getElem_cons_zero, List.setIfInBounds_toArray, List.set_cons_zero, List.set_cons_succ]
  refine wpAnyH_ready (rs := [8]) (by kernel_rfl) (by simp) ?_
  refine AllReadyH.cons (o := _) rfl (fun K' hK => ?_) AllReadyH.nil
  have hW7 := KW.out
  go_simp
  clear hW7
  refine hK.out _ _ (PW.out _ S7d.out) (fun hH1 => ?_)
  clear hK K' hH0
  try simp only [Act.put, List.getElem_toArray, List.getElem_cons_succ, List.getElem_cons_zero, List.setIfInBounds_toArray, List.set_cons_zero, List.set_cons_succ]
  refine wpAnyH_ready (rs := [9]) (by kernel_rfl) (by simp) ?_
  refine AllReadyH.cons (o := _) rfl (fun K' hK => ?_) AllReadyH.nil
  go_simp
  refine hK.out _ _ (PW.out _ S8d.out) (fun hH2 => ?_)
  clear hK K' hH1
  try simp only [Act.put, List.getElem_toArray, List.getElem_cons_succ, List.getElem_cons_zero, List.setIfInBounds_toArray, List.set_cons_zero, List.set_cons_succ]
  refine wpAnyH_take (i := 10) (oi := _) (v := .int .i64 0) rfl (by kernel_rfl) (by kernel_rfl) (by kernel_rfl) (fun _ _ _ h => h) (Or.inl ⟨by rfl, by intro v hv; go_simp⟩) hH2 ?_
  try simp only [Act.put, List.getElem_toArray, List.getElem_cons_succ, List.getElem_cons_zero, List.setIfInBounds_toArray, List.set_cons_zero, List.set_cons_succ]
  refine wpAnyH_done (by kernel_rfl) ?_ _
  go_wp2
  obtain ⟨⟨y0', y1', y2', y3'⟩, _⟩ := (K.out.2.1.move (heap_set2 (B := w.heap.size + 2) (a' := .int .i64 (at_ : Int)) (b' := .int .i64 (gen + 1)) W7 (by omega))).four
  obtain ⟨⟨x0', x1'⟩, _⟩ := (K.out.2.2.1.set2 (a' := .int .i64 (at_ : Int)) (b' := .int .i64 (gen + 1))).two
  refine bodyPost_ret (v := .tuple #[.agg #[.slice (some ⟨g, 0, none⟩) n cg, .slice (some ⟨t, 0, none⟩) n ct, (.slice (some bq) m bc), (.int .i64 (d.ever : Int))], .agg #[.int .i64 (at_ : Int), .int .i64 (gen + 1)], .int .i64 0]) (by simp [results, Try.results12, go_sem, y0', y1', y2', y3', x0', x1']) rfl ⟨_, fun k => F k ∨ k = g ∨ k = t, rfl, ?_⟩
  have S9 := S8d.out
  refine ⟨S9.dv (F := F) (((show Sg elN w (some bq) d.back.dropLast from by rw [List.dropLast_eq_take]; exact (show Sg elN w (some bq) d.back from D0.out.2.2.2.1).take _)).below S9.be) (by rw [List.length_dropLast, HB.out.2]; rfl) D0.out.2.2.2.2.2.2.1 (by rw [List.length_dropLast]; have := D0.out.2.2.2.2.2.2.2.1; omega) D0.out.2.2.2.2.2.2.2.2.1 (fun k hk => Nat.lt_of_lt_of_le (D0.out.2.2.2.2.2.2.2.2.2 k hk) S9.be.size), fun k hk => ?_, S9.be⟩
  rcases hk with e | rfl | rfl
  · exact .inl e
  · exact .inr (S9.rg.lt _ rfl).1
  · exact .inr (S9.rt.lt _ rfl).1

set_option maxHeartbeats 8000000 in
theorem dtake_new (d : Dc) (v : Value) (F : Nat → Prop) (w : World) (n : Nat) (gen : Int) (b0 : Bool) (at_ : Nat) (hb : d.back = []) (h : Dv w v d F) (hg : d.gens.length = n) (ht : d.taken.length = n) (hsz : n ≤ 5000) (hev : d.ever ≤ 5000) (hbk : d.back.length ≤ 5000) (hr : d.room ≠ 0) (hat : d.at = at_) (hx : d.gens[at_]? = some gen) (hy : d.taken[at_]? = some b0) (g0 : 0 ≤ gen) (g1 : gen ≤ 1000000) :
    Calls Try.prog 12 #[v] w fun e w' => ∃ v' F', e = .returned (.tuple #[v', .agg #[.int .i64 (at_ : Int), .int .i64 (gen + 1)], .int .i64 0]) ∧ Dv w' v' ⟨d.gens.set at_ (gen + 1), d.taken.set at_ true, [], d.ever + 1⟩ F' ∧ (∀ k, F' k → F k ∨ w.heap.size ≤ k) ∧ Below w.heap.size w w' := by
  obtain ⟨ga, gc, ta, tc, ba, bc, rfl, h1, h2, h3, h4, h5, h6, h7, h8, h9, h10, h11⟩ := id h
  have hl := (List.getElem?_eq_some_iff.1 hx).1
  have hmx : Try.prog.follows .mixedOrders = true := by kernel_rfl
  have il : (at_ : Int) < (n : Int) := by omega
  have i0 : (0 : Int) ≤ (at_ : Int) := Int.natCast_nonneg _
  have hwg : wrap64 (gen + 1) = gen + 1 := wrap_in _ (by omega) (by omega)
  have hrm : ¬ ((d.room : Nat) : Int) = 0 := by omega
  have H := Lib.hid (And.intro hr (And.intro (show d.taken.length ≤ 5000 by omega) (And.intro hx (And.intro hy (And.intro hg (And.intro ht hsz))))))
  have e1 : at_ = d.ever := by unfold Dc.at at hat; rw [hb] at hat; exact hat.symm
  have hb' : d.back.length = 0 := by rw [hb]; rfl
  obtain ⟨E, hE⟩ : ∃ E : Int, ((d.ever + 1 : Nat) : Int) = E := ⟨_, rfl⟩
  have hwa : wrap64 ((at_ : Int) + 1) = E := by rw [← hE, e1, wrap_in _ (by omega) (by omega)]; omega
  have HE := Lib.hid hE
  have HB := Lib.hid (And.intro hb (And.intro hb' e1))
  clear hb hb' e1 hE
  clear hr hsz hl hx hy g0 g1 hev hbk hat hg ht
  have D0 := Lib.hid (And.intro h (And.intro h1 (And.intro h2 (And.intro h3 (And.intro h4 (And.intro h5 (And.intro h6 (And.intro h7 (And.intro h10 h11)))))))))
  clear h h1 h2 h3 h4 h5 h6 h7 h8 h9 h10 h11
  go_enter Try.func12, Try.ntmps12
  go_wp2_with fail
  refine (droom_is d _ F _ (D0.out.1.keep (below3 w (.cells #[.slice ga d.gens.length gc, .slice ta d.taken.length tc, .slice ba d.back.length bc, .int .i64 (d.ever : Int)] 29) (.cells #[.slice none 0 0, .slice none 0 0, .slice none 0 0, .int .i64 0] 29) (.cells #[.int .i64 0, .int .i64 0] 33))) H.out.2.1).mono ?_
  rintro _ w1 ⟨rfl, hb⟩
  have BQ : Blk w1 w.heap.size #[.slice ga d.gens.length gc, .slice ta d.taken.length tc, .slice ba d.back.length bc, .int .i64 (d.ever : Int)] 29 := (((Blk.new w _ _).alloc _).alloc _).below hb
  have BA : Blk w1 (w.heap.size + 1) #[.slice none 0 0, .slice none 0 0, .slice none 0 0, .int .i64 0] 29 := ((Blk.new' (w.alloc _) _ _ _ (by simp)).alloc _).below hb
  have BR : Blk w1 (w.heap.size + 2) #[.int .i64 0, .int .i64 0] 33 := (Blk.new' ((w.alloc _).alloc _) _ _ _ (by simp)).below hb
  have hbe : Below w.heap.size w w1 := step0 (below3 w _ _ _) hb
  clear hb
  obtain ⟨⟨b0', b1', b2', b3'⟩, _⟩ := BQ.four
  have hbe0 := Lib.hid hbe
  have K1 := Lib.hid (And.intro BQ (And.intro BA BR))
  clear BQ BA BR hbe
  go_wp2_with fail
  refine (with_is ga ta ba gc tc d.back.length bc (d.ever : Int) d.gens d.taken _ (D0.out.2.1.below hbe0.out) (D0.out.2.2.1.below hbe0.out) D0.out.2.2.2.2.1 D0.out.2.2.2.2.2.1 (by have := H.out.2.2.2.2.1; have := H.out.2.2.2.2.2.2; omega) (by have := H.out.2.2.2.2.2.1; have := H.out.2.2.2.2.2.2; omega)).mono ?_
  rintro _ w2 ⟨vg, vt, rfl, hvg, hvt, hb⟩
  have hpos : 0 < n := by have := List.getElem?_eq_some_iff.1 H.out.2.2.1; have := this.1; have := H.out.2.2.2.2.1; omega
  obtain ⟨g, cg, rfl, hj⟩ := hvg.open (by rw [H.out.2.2.2.2.1]; exact hpos)
  clear hj
  obtain ⟨t, ct, rfl, hj⟩ := hvt.open (by rw [H.out.2.2.2.2.2.1]; exact hpos)
  clear hj hpos
  rw [H.out.2.2.2.2.1] at hvg
  rw [H.out.2.2.2.2.2.1] at hvt
  rw [H.out.2.2.2.2.1, H.out.2.2.2.2.2.1]
  have BQ2 := K1.out.1.below hb
  have BA2 := K1.out.2.1.below hb
  have BR2 := K1.out.2.2.below hb
  have hs1 : w.heap.size ≤ w1.heap.size := hbe0.out.size
  have hbe2 : Below w.heap.size w w2 := step0 hbe0.out hb
  obtain ⟨⟨c0, c1, c2, c3⟩, f0, f1, f2, f3⟩ := BQ2.four
  have S3 := DS.start (vb := .slice ba d.back.length bc) (ve := .int .i64 (d.ever : Int)) BQ2 hbe2 hvg hvt hs1 H.out.2.2.2.2.1 H.out.2.2.2.2.2.1
  have BA3 := BA2.move (heap_set4 (B := w.heap.size) (a' := .slice (some ⟨g, 0, none⟩) n cg) (b' := .slice (some ⟨t, 0, none⟩) n ct) (c' := .slice ba d.back.length bc) (d' := .int .i64 (d.ever : Int)) w2 (k := w.heap.size + 1) (by omega))
  have BR3 := BR2.move (heap_set4 (B := w.heap.size) (a' := .slice (some ⟨g, 0, none⟩) n cg) (b' := .slice (some ⟨t, 0, none⟩) n ct) (c' := .slice ba d.back.length bc) (d' := .int .i64 (d.ever : Int)) w2 (k := w.heap.size + 2) (by omega))
  obtain ⟨W3, hW3⟩ : ∃ W3, ((((w2.setCell ⟨w.heap.size, 0, none⟩ (.slice (some ⟨g, 0, none⟩) n cg)).setCell ⟨w.heap.size, 1, none⟩ (.slice (some ⟨t, 0, none⟩) n ct)).setCell ⟨w.heap.size, 2, none⟩ (.slice ba d.back.length bc)).setCell ⟨w.heap.size, 3, none⟩ (.int .i64 (d.ever : Int))) = W3 := ⟨_, rfl⟩
  rw [hW3] at S3 BA3 BR3
  obtain ⟨⟨d0, d1, d2, d3⟩, e0, e1, e2, e3⟩ := S3.box.four
  clear d0 d1 e0 e1
  rw [← HB.out.2.2] at d3
  have S4 := S3.setE (.int .i64 E)
  have BA4 := BA3.otherAt (B' := w.heap.size) (by omega) 3 (.int .i64 E)
  have BR4 := BR3.otherAt (B' := w.heap.size) (by omega) 3 (.int .i64 E)
  obtain ⟨W4, hW4⟩ : ∃ W4, W3.setCell ⟨w.heap.size, 3, none⟩ (.int .i64 E) = W4 := ⟨_, rfl⟩
  rw [hW4] at S4 BA4 BR4
  clear e2
  rw [HB.out.2.1] at hW3 S4 d2 ⊢
  have k5 := S4.box.four.1.2.1
  have l5 := S4.ceT (H.out.2.2.2.1)
  have m5 := S4.frT at_
  have S5 := S4.setT H.out.2.2.2.1 true
  have BA5 := BA4.otherAt (S4.neT BA4 (by decide)) at_ (.bool true)
  have BR5 := BR4.otherAt (S4.neT BR4 (by decide)) at_ (.bool true)
  obtain ⟨W5, hW5⟩ : ∃ W5, W4.setCell ⟨t, at_, none⟩ (.bool true) = W5 := ⟨_, rfl⟩
  rw [hW5] at S5 BA5 BR5
  have k6 := S5.box.four.1.1
  have l6 := S5.ceG (H.out.2.2.1)
  have m6 := S5.frG at_
  have S6 := S5.setG H.out.2.2.1 (gen + 1)
  have BA6 := BA5.otherAt (S5.neG BA5 (by decide)) at_ (.int .i64 (gen + 1))
  have BR6 := BR5.otherAt (S5.neG BR5 (by decide)) at_ (.int .i64 (gen + 1))
  obtain ⟨W6, hW6⟩ : ∃ W6, W5.setCell ⟨g, at_, none⟩ (.int .i64 (gen + 1)) = W6 := ⟨_, rfl⟩
  rw [hW6] at S6 BA6 BR6
  have hl' := (List.getElem?_eq_some_iff.1 H.out.2.2.1).1
  have l7 := S6.ceG (i := at_) (x := gen + 1) (List.getElem?_set_self hl')
  obtain ⟨⟨p0, p1, p2, p3⟩, _⟩ := S6.box.four
  obtain ⟨⟨y0, y1, y2, y3⟩, z0, z1, z2, z3⟩ := BA6.four
  obtain ⟨W7, hW7⟩ : ∃ W7, ((((W6.setCell ⟨w.heap.size + 1, 0, none⟩ (.slice (some ⟨g, 0, none⟩) n cg)).setCell ⟨w.heap.size + 1, 1, none⟩ (.slice (some ⟨t, 0, none⟩) n ct)).setCell ⟨w.heap.size + 1, 2, none⟩ (.slice ba 0 bc)).setCell ⟨w.heap.size + 1, 3, none⟩ (.int .i64 E)) = W7 := ⟨_, rfl⟩
  have BA7 : Blk W7 (w.heap.size + 1) #[.slice (some ⟨g, 0, none⟩) n cg, .slice (some ⟨t, 0, none⟩) n ct, (.slice ba 0 bc), (.int .i64 E)] 29 := hW7 ▸ BA6.set4
  have BR7 : Blk W7 (w.heap.size + 2) #[.int .i64 0, .int .i64 0] 33 := hW7 ▸ (BR6.move (heap_set4 _ (by omega)))
  have S7 := S6.ot (W' := W7) (fun k hk => by
    have a1 := S6.neG BA6 (by decide)
    have a2 := S6.neT BA6 (by decide)
    rw [← hW7, heap_set4 W6 (by rcases hk with rfl | rfl | rfl <;> omega)]) (hW7 ▸ below_set4 S6.be (by omega))
  obtain ⟨⟨x0, x1⟩, u0, u1⟩ := BR7.two
  have n7g := S7.neG BR7 (by decide)
  have n7t := S7.neT BR7 (by decide)
  have K := Lib.hid (And.intro S7 (And.intro BA7 (And.intro BR7 (And.intro n7g n7t))))
  have KW := Lib.hid hW7
  have PW := Lib.hid (show ∀ V, DS w V w.heap.size g t n cg ct (d.gens.set at_ (gen + 1)) (d.taken.set at_ true) (.slice ba 0 bc) (.int .i64 E) → (fun v => v.cell? ⟨w.heap.size, 0, none⟩ = some (.slice (some ⟨g, 0, none⟩) n cg) ∧ v.cell? ⟨w.heap.size, 1, none⟩ = some (.slice (some ⟨t, 0, none⟩) n ct) ∧ v.cell? ⟨w.heap.size, 2, none⟩ = some (.slice ba 0 bc) ∧ v.cell? ⟨w.heap.size, 3, none⟩ = some (.int .i64 E) ∧ v.cell? ⟨g, at_, none⟩ = some (.int .i64 (gen + 1))) V from fun V h => ⟨h.box.four.1.1, h.box.four.1.2.1, h.box.four.1.2.2.1, h.box.four.1.2.2.2, h.ceG (List.getElem?_set_self hl')⟩)
  have S7d := Lib.hid (K.out.1.ot (W' := W7.drew) (fun k hk => rfl) (below_drew1 K.out.1.be))
  have S6d := S6.ot (W' := W6.drew) (fun k hk => rfl) (below_drew1 S6.be)
  have S8 := Lib.hid (K.out.1.ot (W' := (W7.setCell ⟨w.heap.size + 2, 0, none⟩ (.int .i64 (at_ : Int))).setCell ⟨w.heap.size + 2, 1, none⟩ (.int .i64 (gen + 1))) (fun k hk => heap_set2 W7 (by
    have a1 := K.out.2.2.2.1
    have a2 := K.out.2.2.2.2
    rcases hk with rfl | rfl | rfl <;> omega)) (below_set2 K.out.1.be (by omega)))
  have S8d := Lib.hid (S8.out.ot (W' := ((W7.setCell ⟨w.heap.size + 1 + 1, 0, none⟩ (.int .i64 (at_ : Int))).setCell ⟨w.heap.size + 1 + 1, 1, none⟩ (.int .i64 (gen + 1))).drew) (fun k hk => rfl) (below_drew1 S8.out.be))
  clear S3 S4 S5 S6 S7 BA2 BA3 BA4 BA5 BA6 BA7 BR2 BR3 BR4 BR5 BR6 BR7 BQ2 hvg hvt hb hs1 hbe2 hl' n7g n7t hW7
  go_wp2_with fail
  refine wp_region_held_drew (S := (fun v => v.cell? ⟨w.heap.size, 0, none⟩ = some (.slice (some ⟨g, 0, none⟩) n cg) ∧ v.cell? ⟨w.heap.size, 1, none⟩ = some (.slice (some ⟨t, 0, none⟩) n ct) ∧ v.cell? ⟨w.heap.size, 2, none⟩ = some (.slice ba 0 bc) ∧ v.cell? ⟨w.heap.size, 3, none⟩ = some (.int .i64 E) ∧ v.cell? ⟨g, at_, none⟩ = some (.int .i64 (gen + 1)))) (by kernel_rfl) (PW.out _ S6d) (fun hH0 => ?_)
  refine wpAnyH_take (i := 0) (oi := _) (v := .agg #[.slice (some ⟨g, 0, none⟩) n cg, .slice (some ⟨t, 0, none⟩) n ct, (.slice ba 0 bc), (.int .i64 E)]) rfl (by kernel_rfl) (by kernel_rfl) (by kernel_rfl) (fun _ _ _ h => h) (Or.inl ⟨by rfl, by intro v hv; go_simp⟩) hH0 ?_
  try simp only [Act.put, List.getElem_toArray, List.getElem_cons_succ, List.getElem_cons_zero, List.setIfInBounds_toArray, List.set_cons_zero, List.set_cons_succ]
  refine wpAnyH_take (i := 1) (oi := _) (v := .int .i64 (at_ : Int)) rfl (by kernel_rfl) (by kernel_rfl) (by kernel_rfl) (fun _ _ _ h => h) (Or.inl ⟨by rfl, by intro v hv; go_simp⟩) hH0 ?_
  try simp only [Act.put, List.getElem_toArray, List.getElem_cons_succ, List.getElem_cons_zero, List.setIfInBounds_toArray, List.set_cons_zero, List.set_cons_succ]
  refine wpAnyH_take (i := 2) (oi := _) (v := .pointer (some ⟨w.heap.size, 0, none⟩)) rfl (by kernel_rfl) (by kernel_rfl) (by kernel_rfl) (fun _ _ _ h => h) (Or.inl ⟨by rfl, by intro v hv; go_simp⟩) hH0 ?_
  try simp only [Act.put, List.getElem_toArray, List.getElem_cons_succ, List.getElem_cons_zero, List.setIfInBounds_toArray, List.set_cons_zero, List.set_cons_succ]
  refine wpAnyH_take (i := 3) (oi := _) (v := .slice (some ⟨g, 0, none⟩) n cg) rfl (by kernel_rfl) (by kernel_rfl) (by kernel_rfl) (fun _ _ _ h => h) (Or.inl ⟨by rfl, by intro v hv; go_simp⟩) hH0 ?_
  try simp only [Act.put, List.getElem_toArray, List.getElem_cons_succ, List.getElem_cons_zero, List.setIfInBounds_toArray, List.set_cons_zero, List.set_cons_succ]
  refine wpAnyH_take (i := 4) (oi := _) (v := .int .i64 (at_ : Int)) rfl (by kernel_rfl) (by kernel_rfl) (by kernel_rfl) (fun _ _ _ h => h) (Or.inl ⟨by rfl, by intro v hv; go_simp⟩) hH0 ?_
  try simp only [Act.put, List.getElem_toArray, List.getElem_cons_succ, List.getElem_cons_zero, List.setIfInBounds_toArray, List.set_cons_zero, List.set_cons_succ]
  refine wpAnyH_take (i := 5) (oi := _) (v := .pointer (some ⟨g, at_, none⟩)) rfl (by kernel_rfl) (by kernel_rfl) (by kernel_rfl) (fun _ _ _ h => h) (Or.inl ⟨by rfl, by intro v hv; go_simp⟩) hH0 ?_
  try simp only [Act.put, List.getElem_toArray, List.getElem_cons_succ, List.getElem_cons_zero, List.setIfInBounds_toArray, List.set_cons_zero, List.set_cons_succ]
  refine wpAnyH_take (i := 6) (oi := _) (v := .int .i64 (gen + 1)) rfl (by kernel_rfl) (by kernel_rfl) (by kernel_rfl) (fun _ _ _ h => h) (Or.inl ⟨by rfl, by intro v hv; go_simp⟩) hH0 ?_
  try simp only [Act.put, List.getElem_toArray, List.getElem_cons_succ, List.getElem_cons_zero, List.setIfInBounds_toArray, List.set_cons_zero, List.set_cons_succ]
  refine wpAnyH_take (i := 7) (oi := _) (v := .agg #[.int .i64 (at_ : Int), .int .i64 (gen + 1)]) rfl (by kernel_rfl) (by kernel_rfl) (by kernel_rfl) (fun _ _ _ h => h) (Or.inl ⟨by rfl, by intro v hv; go_simp⟩) hH0 ?_
  try simp only [Act.put, List.getElem_toArray, List.getElem_cons_succ, List.getElem_cons_zero, List.setIfInBounds_toArray, List.set_cons_zero, List.set_cons_succ]
  refine wpAnyH_ready (rs := [8]) (by kernel_rfl) (by simp) ?_
  refine AllReadyH.cons (o := _) rfl (fun K' hK => ?_) AllReadyH.nil
  have hW7 := KW.out
  go_simp
  clear hW7
  refine hK.out _ _ (PW.out _ S7d.out) (fun hH1 => ?_)
  clear hK K' hH0
  try simp only [Act.put, List.getElem_toArray, List.getElem_cons_succ, List.getElem_cons_zero, List.setIfInBounds_toArray, List.set_cons_zero, List.set_cons_succ]
  refine wpAnyH_ready (rs := [9]) (by kernel_rfl) (by simp) ?_
  refine AllReadyH.cons (o := _) rfl (fun K' hK => ?_) AllReadyH.nil
  go_simp
  refine hK.out _ _ (PW.out _ S8d.out) (fun hH2 => ?_)
  clear hK K' hH1
  try simp only [Act.put, List.getElem_toArray, List.getElem_cons_succ, List.getElem_cons_zero, List.setIfInBounds_toArray, List.set_cons_zero, List.set_cons_succ]
  refine wpAnyH_take (i := 10) (oi := _) (v := .int .i64 0) rfl (by kernel_rfl) (by kernel_rfl) (by kernel_rfl) (fun _ _ _ h => h) (Or.inl ⟨by rfl, by intro v hv; go_simp⟩) hH2 ?_
  try simp only [Act.put, List.getElem_toArray, List.getElem_cons_succ, List.getElem_cons_zero, List.setIfInBounds_toArray, List.set_cons_zero, List.set_cons_succ]
  refine wpAnyH_done (by kernel_rfl) ?_ _
  go_wp2
  obtain ⟨⟨y0', y1', y2', y3'⟩, _⟩ := (K.out.2.1.move (heap_set2 (B := w.heap.size + 2) (a' := .int .i64 (at_ : Int)) (b' := .int .i64 (gen + 1)) W7 (by omega))).four
  obtain ⟨⟨x0', x1'⟩, _⟩ := (K.out.2.2.1.set2 (a' := .int .i64 (at_ : Int)) (b' := .int .i64 (gen + 1))).two
  refine bodyPost_ret (v := .tuple #[.agg #[.slice (some ⟨g, 0, none⟩) n cg, .slice (some ⟨t, 0, none⟩) n ct, (.slice ba 0 bc), (.int .i64 E)], .agg #[.int .i64 (at_ : Int), .int .i64 (gen + 1)], .int .i64 0]) (by simp [results, Try.results12, go_sem, y0', y1', y2', y3', x0', x1']) rfl ⟨_, fun k => F k ∨ k = g ∨ k = t, rfl, ?_⟩
  have hE := HE.out
  subst hE
  have S9 := S8d.out
  refine ⟨S9.dv (F := F) (((Sg.nil w ba)).below S9.be) rfl D0.out.2.2.2.2.2.2.1 (Nat.zero_le _) D0.out.2.2.2.2.2.2.2.2.1 (fun k hk => Nat.lt_of_lt_of_le (D0.out.2.2.2.2.2.2.2.2.2 k hk) S9.be.size), fun k hk => ?_, S9.be⟩
  rcases hk with e | rfl | rfl
  · exact .inl e
  · exact .inr (S9.rg.lt _ rfl).1
  · exact .inr (S9.rt.lt _ rfl).1

end Go.Proofs.Ytlommgljkjkmkaa.Gn
