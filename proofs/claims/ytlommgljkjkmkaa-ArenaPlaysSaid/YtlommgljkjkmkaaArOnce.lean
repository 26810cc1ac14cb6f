/-
  The walk of the law ArenaOnce. Condition: the slice of truths lies in memory.
-/
import Derived.Test.YtlommgljkjkmkaaArAwake
import Derived.Test.YtlommgljkjkmkaaArOnceP
import Derived.Test.YtlommgljkjkmkaaGnOff
namespace Go.Proofs.Ytlommgljkjkmkaa.Gn
open Go.RowKit
set_option linter.unusedVariables false
set_option linter.unusedSimpArgs false

theorem Ar.notR {w : World} {p : Nat} {M : Nat → Prop} {a : Arn Int} {k : Nat} {cur : Array Value} (h : Ar w p M a) (hk : w.heap[k]? = some (.cells cur 33 (0, 0))) : ¬ M k := by
  intro hm
  have dif : ∀ (t : TypeId) (c : Array Value) , w.heap[k]? = some (.cells c t (0, 0)) → t = 33 := fun t c e => by
    rw [e] at hk
    have := Option.some.inj hk
    injection this
  obtain ⟨vs, vb, h1, h2, h3, h4⟩ := h
  rcases (h4 k).1 hm with rfl | e | e
  · exact absurd (dif _ _ h1) (by decide)
  · obtain ⟨c, hc⟩ := h2.type k e
    exact absurd (dif _ _ hc) (by decide)
  · obtain ⟨c, hc⟩ := h3.type k e
    exact absurd (dif _ _ hc) (by decide)
/-- An arena, all refs that were given, and those that live. -/
def On (w0 w : World) (p : Nat) (M : Nat → Prop) (a : Arn Int) (vo : Value) (al : List (Int × Int)) (vl : Value) (lv : List (Int × Int)) : Prop :=
  w0.heap.size ≤ p ∧ Ar w p M a ∧ Rw elR w w0.heap.size vo al ∧ Ro elR w w0.heap.size vl lv ∧ (∀ k, vo.ownBlock = some k → vl.ownBlock ≠ some k) ∧ Below w0.heap.size w0 w
section
variable {w0 w w' : World} {p : Nat} {M : Nat → Prop} {a a' : Arn Int} {vo vl vo' vl' : Value} {al lv al' lv' : List (Int × Int)}
theorem On.keep (h : On w0 w p M a vo al vl lv) (hb : Below w.heap.size w w') : On w0 w' p M a vo al vl lv :=
  ⟨h.1, h.2.1.keep hb, h.2.2.1.keep hb, h.2.2.2.1.keep hb, h.2.2.2.2.1, step0 h.2.2.2.2.2 hb⟩
theorem On.call (h : On w0 w p M a vo al vl lv) (hto : ArTo w p M a' w') : ∃ M', On w0 w' p M' a' vo al vl lv ∧ ∀ (B : Nat) (cs : Array Value), Blk w B cs 33 → Blk w' B cs 33 := by
  obtain ⟨h1, h2, h3, h4, h5, h6⟩ := h
  obtain ⟨M', k1, k2, k3⟩ := hto
  refine ⟨M', ⟨h1, k1, h3.chg k3 (fun k hk => ?_), h4.chg k3 (fun k hk => ?_), h5, h6.trans (k3.below (fun k hk => Nat.le_trans h1 (h2.from k hk).1) h6.size)⟩, fun B cs hB => hB.move (k3.block _ hB.lt (h2.notR hB))⟩
  · obtain ⟨c, hc⟩ := h3.type k hk
    exact h2.notR hc
  · obtain ⟨c, hc⟩ := h4.type k hk
    exact h2.notR hc
theorem Ar.grow {v : Value} (h : Ar w p M a) (hg : w.grownBy w' v.ownBlock) (ht : ∀ k, v.ownBlock = some k → ∃ cur, w.heap[k]? = some (.cells cur 33 (0, 0))) : Ar w' p M a :=
  h.move fun k hk => hg.block k (h.from k hk).2 (fun e => by obtain ⟨c, hc⟩ := ht k e.symm; exact h.notR hc hk)
theorem On.all (h : On w0 w p M a vo al vl lv) (hr : Rw elR w' w0.heap.size vo' al') (hg : w.grownBy w' vo.ownBlock) (hk : vo'.ownBlock = vo.ownBlock ∨ ∃ k, vo'.ownBlock = some k ∧ w.heap.size ≤ k) : On w0 w' p M a vo' al' vl lv := by
  obtain ⟨h1, h2, h3, h4, h5, h6⟩ := h
  refine ⟨h1, h2.grow hg h3.type, hr, h4.move fun k hk' => hg.block k (h4.lt k hk').2 (fun e => h5 k e.symm hk'), fun k hk' e => ?_, h6.grown hg h6.size (fun k e => (h3.lt k e).1)⟩
  rcases hk with q | ⟨i, q, hi⟩
  · exact h5 k (q ▸ hk') e
  · rw [q] at hk'
    obtain rfl := Option.some.inj hk'
    have := (h4.lt _ e).2; omega
theorem On.lives (h : On w0 w p M a vo al vl lv) (hr : Ro elR w' w0.heap.size vl' lv') (hg : w.grownBy w' vl.ownBlock) (hk : vl'.ownBlock = vl.ownBlock ∨ ∃ k, vl'.ownBlock = some k ∧ w.heap.size ≤ k) : On w0 w' p M a vo al vl' lv' := by
  obtain ⟨h1, h2, h3, h4, h5, h6⟩ := h
  refine ⟨h1, h2.grow hg h4.type, h3.move fun k hk' => hg.block k (h3.lt k hk').2 (fun e => h5 k hk' e.symm), hr, fun k hk' e => ?_, h6.grown hg h6.size (fun k e => (h4.lt k e).1)⟩
  rcases hk with q | ⟨i, q, hi⟩
  · exact h5 k hk' (q ▸ e)
  · rw [q] at e
    obtain rfl := Option.some.inj e
    have := (h3.lt _ hk').2; omega
theorem On.cut {r : Int × Int} (h : On w0 w p M a vo al vl (r :: lv)) : ∃ g off cap A, vl = .slice (some ⟨g, off, none⟩) (lv.length + 1) cap ∧ lv.length + 1 ≤ cap ∧ w.cell? ⟨g, off, none⟩ = some (.int .i64 r.1) ∧ w.cell? ⟨g, off + 1, none⟩ = some (.int .i64 r.2) ∧ (if cap = 1 then some (⟨g, off, none⟩ : Addr) else some ⟨g, off + 2, none⟩) = A ∧ On w0 w p M a vo al (.slice A lv.length (cap - 1)) lv := by
  obtain ⟨h1, h2, h3, h4, h5, h6⟩ := h
  obtain ⟨g, off, cap, rfl, hc, hat, _, _, hro⟩ := h4.first
  refine ⟨g, off, cap, _, rfl, hc, hat.1 _ rfl, hat.2 1 _ rfl (by decide), rfl, h1, h2, h3, hro, fun k hk e => ?_, h6⟩
  refine h5 k hk ?_
  rw [← e]
  by_cases hc1 : cap = 1
  · rw [if_pos hc1]; rfl
  · rw [if_neg hc1]; rfl
theorem On.new (h : Ar w w0.heap.size M a) (hb : Below w0.heap.size w0 w) : On w0 w w0.heap.size M a (.slice none 0 0) [] (.slice none 0 0) [] := ⟨Nat.le_refl _, h, Rw.nil _ _, Ro.nil _ _, (fun k hk => by cases hk), hb⟩
end


set_option maxHeartbeats 2000000 in
theorem once_long (most : Int) (xs : List Bool) (lo : Option Addr) (lc : Nat) (w : World) (h : 100 < xs.length) :
    Calls Try.prog 4 #[.int .i64 most, .slice lo xs.length lc] w fun e w' => e = .returned (.bool true) ∧ Below w.heap.size w w' := by
  have h1 : (100 : Int) < (xs.length : Int) := by omega
  clear h
  go_enter Try.func4, Try.ntmps4
  go_wp2_with fail
  refine (awake_any _).mono ?_
  rintro _ w1 ⟨rfl, hb⟩
  have B := Lib.hid hb
  clear hb
  go_wp2
  go_ret
  exact ⟨rfl, B.out⟩
set_option maxHeartbeats 2000000 in
theorem once_most (most : Int) (xs : List Bool) (lo : Option Addr) (lc : Nat) (w : World) (h : xs.length ≤ 100) (hm : 5000 < most) :
    Calls Try.prog 4 #[.int .i64 most, .slice lo xs.length lc] w fun e w' => e = .returned (.bool true) ∧ Below w.heap.size w w' := by
  have h1 : decide ((100 : Int) < (xs.length : Int)) = false := by rw [decide_eq_false_iff_not]; omega
  clear h
  go_enter Try.func4, Try.ntmps4
  go_wp2_with fail
  refine (awake_any _).mono ?_
  rintro _ w1 ⟨rfl, hb⟩
  have B := Lib.hid hb
  clear hb
  go_wp2
  go_ret
  exact ⟨rfl, B.out⟩

set_option maxHeartbeats 8000000 in
set_option maxRecDepth 100000 in
theorem once_main (most : Int) (xs : List Bool) (lo : Option Addr) (lc : Nat) (w : World) (h : xs.length ≤ 100) (hm : most ≤ 5000) (hsl : Sg elB w lo xs) :
    Calls Try.prog 4 #[.int .i64 most, .slice lo xs.length lc] w fun e w' => e = .returned (.bool true) ∧ Below w.heap.size w w' := by
  have hmx : Try.prog.follows .mixedOrders = true := by kernel_rfl
  have h1 : decide ((100 : Int) < (xs.length : Int)) = false := by rw [decide_eq_false_iff_not]; omega
  have h2 : decide ((5000 : Int) < most) = false := by rw [decide_eq_false_iff_not]; omega
  have H := Lib.hid (And.intro hm (And.intro h hsl))
  clear h hm hsl
  obtain ⟨n, hn⟩ : ∃ n : Nat, n = if 0 ≤ most ∧ most ≤ 4096 then most.toNat else 0 := ⟨_, rfl⟩
  have HN := Lib.hid (And.intro hn (show n ≤ 4096 from by rw [hn]; split <;> omega))
  clear hn
  go_enter Try.func4, Try.ntmps4
  go_wp2_with fail
  refine (new_is most _ n HN.out.1).mono ?_
  rintro _ w1 ⟨rfl, hA, hb⟩
  obtain ⟨M1, hM1⟩ : ∃ M : Nat → Prop, (fun k => k = w.heap.size) = M := ⟨_, rfl⟩
  have O1 := Lib.hid (show On w w1 w.heap.size M1 (Arn0 Int n) (.slice none 0 0) [] (.slice none 0 0) [] from by rw [← hM1]; exact On.new hA hb)
  clear hA hb hM1
  obtain ⟨p, hp⟩ : ∃ p, w.heap.size = p := ⟨_, rfl⟩
  rw [hp] at O1 ⊢
  clear hp
  go_wp2
  go_loopw [6, 7, 8] (fun vo vl o8 wr => ∃ (j : Nat) (a : Arn Int) (al lv : List (Int × Int)) (M : Nat → Prop), o8 = .int .i64 j ∧ j ≤ xs.length ∧ OInv a al lv j ∧ On w wr p M a vo al vl lv) (fun _ _ i _ => xs.length - (intOf i).toNat)
  case atStart => exact ⟨0, Arn0 Int n, [], [], M1, rfl, Nat.zero_le _, OInv.new n HN.out.2, O1.out⟩
  case round =>
    obtain ⟨j, a, al, lv, M, rfl, hj, hI, hO⟩ := hrel
    have HB := Lib.hid (show al.length ≤ 100 ∧ lv.length ≤ 100 ∧ j ≤ 100 from by have := hI.2.2.2.2.2.1; have := hI.2.2.2.2.2.2; have := H.out.2.1; omega)
    by_cases hlt : j < xs.length
    · obtain ⟨q, rfl, q0⟩ := H.out.2.2.below hO.2.2.2.2.2 j xs[j] (List.getElem?_eq_getElem hlt)
      have q1 : wr.cell? (q.add j) = some (.bool xs[j]) := by have := q0.1 _ rfl; rwa [show j * elB.n = j from Nat.mul_one j] at this
      have hw : wrap64 ((j : Int) + 1) = (j : Int) + 1 := wrap_k (Nat.le_trans HB.out.2.2 (by decide))
      have n0 : (j : Int) < (xs.length : Int) := by omega
      have n1 : (0 : Int) ≤ (j : Int) := by omega
      cases hb : xs[j] with
      | false =>
        rw [hb] at q1
        clear hb q0
        cases lv with
        | nil =>
          obtain ⟨lao, lcap, hvl, hjunk⟩ := hO.2.2.2.1.sl
          clear hjunk
          subst hvl
          simp only [List.length_nil] at hO
          have J := Lib.hid (And.intro hj (And.intro hlt (And.intro hI hO)))
          clear hI hO hj
          by_cases hr : a.room = 0
          · go_wp2_with fail
            refine (take_full a (j : Int) p _ _ _ J.out.2.2.2.2.1 J.out.2.2.1.1 hr).mono ?_
            rintro _ w2 ⟨rfl, hb⟩
            have G2 := Lib.hid ((J.out.2.2.2.keep hb).keep (below1 _ (.cells #[.int .i64 0, .int .i64 0] 33)))
            clear hb
            have HI := Lib.hid J.out.2.2.1.full
            go_wp2
            go_roundw
            case rel => exact ⟨j + 1, a, al, ([] : List (Int × Int)), M, by go_num, hlt, HI.out, G2.out⟩
            case measure => first | (rw [hw]; simp [intOf]; omega) | (simp [intOf]; omega)
          · have HT := Lib.hid (J.out.2.2.1.take hr (j : Int))
            obtain ⟨R1, hR1⟩ : ∃ R, (a.at : Int) = R := ⟨_, rfl⟩
            obtain ⟨R2, hR2⟩ : ∃ R, a.gen 0 + 1 = R := ⟨_, rfl⟩
            obtain ⟨a2, ha2⟩ : ∃ b, a.take 0 (j : Int) = b := ⟨_, rfl⟩
            rw [hR1, hR2, ha2] at HT
            have HR := Lib.hid (And.intro hr (And.intro hR1 (And.intro hR2 ha2)))
            clear hr hR1 hR2 ha2
            go_wp2_with fail
            refine (take_eq a (j : Int) p _ (j : Int) R1 R2 a2 _ J.out.2.2.2.2.1 J.out.2.2.1.1 (Int.natCast_nonneg j) (by have := HB.out.2.2; omega) HR.out.1 HR.out.2.1 HR.out.2.2.1 HR.out.2.2.2).mono ?_
            rintro _ w2 ⟨rfl, hto⟩
            obtain ⟨M2, hO2, hbox⟩ := J.out.2.2.2.call hto
            obtain ⟨W3, hW3⟩ : ∃ W3, w2.alloc (.cells #[.int .i64 R1, .int .i64 R2] 33) = W3 := ⟨_, rfl⟩
            have G3 := Lib.hid (show On w W3 p M2 a2 u6 al (Value.slice lao 0 lcap) ([] : List (Int × Int)) ∧ Blk W3 w2.heap.size #[.int .i64 R1, .int .i64 R2] 33 ∧ (∀ k, u6.ownBlock = some k → k ≠ w2.heap.size) ∧ (∀ k, (Value.slice lao 0 lcap).ownBlock = some k → k ≠ w2.heap.size) from by
              rw [← hW3]
              exact ⟨hO2.keep (below1 _ _), Blk.new _ _ _, fun k hk => Nat.ne_of_lt (hO2.2.2.1.lt k hk).2, fun k hk => Nat.ne_of_lt (hO2.2.2.2.1.lt k hk).2⟩)
            clear hto hO2 hbox
            obtain ⟨bx, hbx⟩ : ∃ b, w2.heap.size = b := ⟨_, rfl⟩
            rw [hbx] at G3
            obtain ⟨ao, ac, rfl, hjunk⟩ := G3.out.1.2.2.1.sl
            clear hjunk
            go_wp2_with (simp only [hbx])
            go_loopw [12] (fun o12 wr' => ∃ (k : Nat), o12 = .int .i64 k ∧ k ≤ al.length ∧ Below W3.heap.size W3 wr') (fun i _ => al.length - (intOf i).toNat)
            case atStart => exact ⟨0, rfl, Nat.zero_le _, Below.refl _ _⟩
            case round =>
              obtain ⟨k, rfl, hk, hbk⟩ := hrel
              by_cases hkl : k < al.length
              · obtain ⟨_, _, hvl2, _, hsg, _⟩ := (G3.out.1.keep hbk).2.2.1.sl
                injection hvl2 with e1 e2 e3
                subst e1
                clear e2 e3
                obtain ⟨qq, rfl, hat⟩ := hsg k al[k] (List.getElem?_eq_getElem hkl)
                obtain ⟨⟨S1, S2⟩, hr⟩ : ∃ r, al[k] = r := ⟨_, rfl⟩
                have hne := HT.out.2 al[k] (List.getElem_mem hkl)
                rw [hr] at hat hne
                have x0 : wr.cell? (qq.add (k * 2)) = some (.int .i64 S1) := hat.1 _ rfl
                have x1 : wr.cell? ⟨(qq.add (k * 2)).block, (qq.add (k * 2)).off + 1, none⟩ = some (.int .i64 S2) := hat.2 1 _ rfl (by decide)
                have z0 : wr.cell? ⟨bx, 0, none⟩ = some (.int .i64 R1) := (G3.out.2.1.below hbk).cell 0
                have z1 : wr.cell? ⟨bx, 1, none⟩ = some (.int .i64 R2) := (G3.out.2.1.below hbk).cell 1
                have hwk : wrap64 ((k : Int) + 1) = (k : Int) + 1 := wrap_k (Nat.le_trans (Nat.le_of_lt hkl) (Nat.le_trans HB.out.1 (by decide)))
                have m0 : (k : Int) < (al.length : Int) := Int.ofNat_lt.2 hkl
                have m1 : (0 : Int) ≤ (k : Int) := Int.natCast_nonneg k
                have K := Lib.hid hbk
                have NE := Lib.hid hne
                clear hbk hr hat hsg hk hne
                by_cases e : S1 = R1
                · have b1 : (S1 == R1) = true := by simp [e]
                  have b2 : (S2 == R2) = false := by
                    rw [beq_eq_false_iff_ne]
                    intro e'
                    exact NE.out (by rw [e, e'])
                  clear e
                  go_wp2
                  go_quiet (fail)
                  go_wp2
                  go_roundw
                  case rel => exact ⟨k + 1, by go_num, hkl, below_drewV _ K.out⟩
                  case measure => first | (rw [hwk]; simp [intOf]; omega) | (simp [intOf]; omega)
                · have b1 : (S1 == R1) = false := by rw [beq_eq_false_iff_ne]; exact e
                  clear e
                  go_wp2
                  go_quiet (fail)
                  go_wp2
                  go_roundw
                  case rel => exact ⟨k + 1, by go_num, hkl, below_drewV _ K.out⟩
                  case measure => first | (rw [hwk]; simp [intOf]; omega) | (simp [intOf]; omega)
              · obtain rfl : k = al.length := by omega
                have hbx := G3.out.2.1.below hbk
                have z0 : wr.cell? ⟨bx, 0, none⟩ = some (.int .i64 R1) := hbx.cell 0
                have z1 : wr.cell? ⟨bx, 1, none⟩ = some (.int .i64 R2) := hbx.cell 1
                have G := Lib.hid (And.intro (G3.out.1.keep hbk) hbx)
                have BD := Lib.hid (And.intro (show al.length ≤ 1000000000 from Nat.le_trans HB.out.1 (by decide)) (show ([] : List (Int × Int)).length ≤ 1000000000 from Nat.le_trans HB.out.2.1 (by decide)))
                clear hbk hkl hk hbx
                go_wp2_with (first | (at_builtin; refine appE elR rfl _ _ rfl w.heap.size (.slice ao al.length ac) al (R1, R2) _ rfl wr rfl G.out.1.2.2.1 wr.heap.size rfl rfl BD.out.1 G.out.1.2.2.2.2.2.size ?_; intro v6 w6 hown hgr hbk hbel; have hb6 := G.out.2.move (hgr.block bx G.out.2.lt (fun e => G3.out.2.2.1 _ e.symm rfl)); have y0 : w6.cell? ⟨bx, 0, none⟩ = some (.int .i64 R1) := hb6.cell 0; have y1 : w6.cell? ⟨bx, 1, none⟩ = some (.int .i64 R2) := hb6.cell 1; have G6 := Lib.hid (G.out.1.all hown hgr hbk); clear hown hgr hbk hbel hb6; go_frame) | (at_builtin; refine appO elR rfl _ _ rfl w.heap.size (Value.slice lao 0 lcap) ([] : List (Int × Int)) (R1, R2) _ rfl w6 rfl G6.out.2.2.2.1 w6.heap.size rfl rfl BD.out.2 G6.out.2.2.2.2.2.size ?_; intro v7 w7 hown hgr hbk hbel; have G7 := Lib.hid (G6.out.lives hown hgr hbk); clear hown hgr hbk hbel; go_frame))
                go_roundw
                case rel => exact ⟨j + 1, a2, al ++ [(R1, R2)], ([] : List (Int × Int)) ++ [(R1, R2)], M2, by go_num, hlt, HT.out.1, G7.out⟩
                case measure => first | (rw [hw]; simp [intOf]; omega) | (simp [intOf]; omega)
        | cons r lv =>
          have J := Lib.hid (And.intro hj (And.intro hlt (And.intro hI hO)))
          clear hI hO hj
          obtain ⟨g, off, cap, A, rfl, hcap, x0, x1, hA, hOn'⟩ := J.out.2.2.2.cut
          obtain ⟨k, y, e1, e2, e3, e4, hI2, hR2⟩ := J.out.2.2.1.free
          have i1 : (0 : Int) < ((lv.length + 1 : Nat) : Int) := by omega
          have i2 : (1 : Int) ≤ ((lv.length + 1 : Nat) : Int) := by omega
          have i3 : (1 : Int) ≤ (cap : Int) := by omega
          have K := Lib.hid (And.intro hOn' (And.intro e1 (And.intro e2 (And.intro e3 (And.intro e4 (And.intro hI2 hR2))))))
          have AA := Lib.hid hA
          clear hOn' e1 e2 e3 e4 hI2 hR2
          obtain ⟨R1, hR1⟩ : ∃ R, r.1 = R := ⟨_, rfl⟩
          obtain ⟨R2, hR2⟩ : ∃ R, r.2 = R := ⟨_, rfl⟩
          rw [hR1] at x0 K
          rw [hR2] at x1 K
          clear hR1 hR2
          go_wp2_with fail
          refine (free_eq a p _ k y R1 R2 _ _ (K.out.1.keep (below1 _ (.cells #[.int .i64 R1, .int .i64 R2] 33))).2.1 K.out.2.2.1 K.out.2.2.2.1 (by have := J.out.2.2.1.1.1; have := J.out.2.2.1.1.2.1; omega) (by have := J.out.2.2.1.1.bk_le; have := J.out.2.2.1.1.1; have := J.out.2.2.1.1.2.1; omega) K.out.2.1.symm K.out.2.2.2.2.1 rfl).mono ?_
          rintro _ w2 ⟨rfl, hto⟩
          obtain ⟨M2, hO2, hbox⟩ := (K.out.1.keep (below1 _ (.cells #[.int .i64 R1, .int .i64 R2] 33))).call hto
          have G2 := Lib.hid (And.intro hO2 (hbox _ _ (Blk.new _ _ _)))
          clear hto hO2 hbox
          have z0 : w2.cell? ⟨wr.heap.size, 0, none⟩ = some (.int .i64 R1) := G2.out.2.cell 0
          have z1 : w2.cell? ⟨wr.heap.size, 1, none⟩ = some (.int .i64 R2) := G2.out.2.cell 1
          go_wp2_with fail
          refine (free_no _ p _ R1 R2 _ G2.out.1.2.1 K.out.2.2.2.2.2.2).mono ?_
          rintro _ w3 ⟨rfl, hb⟩
          have G3 := Lib.hid (And.intro (G2.out.1.keep hb) (G2.out.2.below hb))
          clear hb z0 z1
          have z0 : w3.cell? ⟨wr.heap.size, 0, none⟩ = some (.int .i64 R1) := G3.out.2.cell 0
          have z1 : w3.cell? ⟨wr.heap.size, 1, none⟩ = some (.int .i64 R2) := G3.out.2.cell 1
          go_wp2_with fail
          refine (set_no _ p _ R1 R2 1 _ G3.out.1.2.1 K.out.2.2.2.2.2.2).mono ?_
          rintro _ w4 ⟨rfl, hb⟩
          have G4 := Lib.hid (G3.out.1.keep hb)
          clear hb z0 z1 x0 x1
          go_wp2
          go_roundw
          case rel => exact ⟨j + 1, _, al, lv, M2, by go_num, hlt, K.out.2.2.2.2.2.1, G4.out⟩
          case measure => first | (rw [hw]; simp [intOf]; omega) | (simp [intOf]; omega)
      | true =>
        rw [hb] at q1
        clear hb q0
        have J := Lib.hid (And.intro hj (And.intro hlt (And.intro hI hO)))
        clear hI hO hj
        by_cases hr : a.room = 0
        · go_wp2_with fail
          refine (take_full a (j : Int) p _ _ _ J.out.2.2.2.2.1 J.out.2.2.1.1 hr).mono ?_
          rintro _ w2 ⟨rfl, hb⟩
          have G2 := Lib.hid ((J.out.2.2.2.keep hb).keep (below1 _ (.cells #[.int .i64 0, .int .i64 0] 33)))
          clear hb
          have HI := Lib.hid J.out.2.2.1.full
          go_wp2
          go_roundw
          case rel => exact ⟨j + 1, a, al, lv, M, by go_num, hlt, HI.out, G2.out⟩
          case measure => first | (rw [hw]; simp [intOf]; omega) | (simp [intOf]; omega)
        · have HT := Lib.hid (J.out.2.2.1.take hr (j : Int))
          obtain ⟨R1, hR1⟩ : ∃ R, (a.at : Int) = R := ⟨_, rfl⟩
          obtain ⟨R2, hR2⟩ : ∃ R, a.gen 0 + 1 = R := ⟨_, rfl⟩
          obtain ⟨a2, ha2⟩ : ∃ b, a.take 0 (j : Int) = b := ⟨_, rfl⟩
          rw [hR1, hR2, ha2] at HT
          have HR := Lib.hid (And.intro hr (And.intro hR1 (And.intro hR2 ha2)))
          clear hr hR1 hR2 ha2
          go_wp2_with fail
          refine (take_eq a (j : Int) p _ (j : Int) R1 R2 a2 _ J.out.2.2.2.2.1 J.out.2.2.1.1 (Int.natCast_nonneg j) (by have := HB.out.2.2; omega) HR.out.1 HR.out.2.1 HR.out.2.2.1 HR.out.2.2.2).mono ?_
          rintro _ w2 ⟨rfl, hto⟩
          obtain ⟨M2, hO2, hbox⟩ := J.out.2.2.2.call hto
          obtain ⟨W3, hW3⟩ : ∃ W3, w2.alloc (.cells #[.int .i64 R1, .int .i64 R2] 33) = W3 := ⟨_, rfl⟩
          have G3 := Lib.hid (show On w W3 p M2 a2 u6 al u7 lv ∧ Blk W3 w2.heap.size #[.int .i64 R1, .int .i64 R2] 33 ∧ (∀ k, u6.ownBlock = some k → k ≠ w2.heap.size) ∧ (∀ k, u7.ownBlock = some k → k ≠ w2.heap.size) from by
            rw [← hW3]
            exact ⟨hO2.keep (below1 _ _), Blk.new _ _ _, fun k hk => Nat.ne_of_lt (hO2.2.2.1.lt k hk).2, fun k hk => Nat.ne_of_lt (hO2.2.2.2.1.lt k hk).2⟩)
          clear hto hO2 hbox
          obtain ⟨bx, hbx⟩ : ∃ b, w2.heap.size = b := ⟨_, rfl⟩
          rw [hbx] at G3
          obtain ⟨ao, ac, rfl, hjunk⟩ := G3.out.1.2.2.1.sl
          clear hjunk
          go_wp2_with (simp only [hbx])
          go_loopw [12] (fun o12 wr' => ∃ (k : Nat), o12 = .int .i64 k ∧ k ≤ al.length ∧ Below W3.heap.size W3 wr') (fun i _ => al.length - (intOf i).toNat)
          case atStart => exact ⟨0, rfl, Nat.zero_le _, Below.refl _ _⟩
          case round =>
            obtain ⟨k, rfl, hk, hbk⟩ := hrel
            by_cases hkl : k < al.length
            · obtain ⟨_, _, hvl2, _, hsg, _⟩ := (G3.out.1.keep hbk).2.2.1.sl
              injection hvl2 with e1 e2 e3
              subst e1
              clear e2 e3
              obtain ⟨qq, rfl, hat⟩ := hsg k al[k] (List.getElem?_eq_getElem hkl)
              obtain ⟨⟨S1, S2⟩, hr⟩ : ∃ r, al[k] = r := ⟨_, rfl⟩
              have hne := HT.out.2 al[k] (List.getElem_mem hkl)
              rw [hr] at hat hne
              have x0 : wr.cell? (qq.add (k * 2)) = some (.int .i64 S1) := hat.1 _ rfl
              have x1 : wr.cell? ⟨(qq.add (k * 2)).block, (qq.add (k * 2)).off + 1, none⟩ = some (.int .i64 S2) := hat.2 1 _ rfl (by decide)
              have z0 : wr.cell? ⟨bx, 0, none⟩ = some (.int .i64 R1) := (G3.out.2.1.below hbk).cell 0
              have z1 : wr.cell? ⟨bx, 1, none⟩ = some (.int .i64 R2) := (G3.out.2.1.below hbk).cell 1
              have hwk : wrap64 ((k : Int) + 1) = (k : Int) + 1 := wrap_k (Nat.le_trans (Nat.le_of_lt hkl) (Nat.le_trans HB.out.1 (by decide)))
              have m0 : (k : Int) < (al.length : Int) := Int.ofNat_lt.2 hkl
              have m1 : (0 : Int) ≤ (k : Int) := Int.natCast_nonneg k
              have K := Lib.hid hbk
              have NE := Lib.hid hne
              clear hbk hr hat hsg hk hne
              by_cases e : S1 = R1
              · have b1 : (S1 == R1) = true := by simp [e]
                have b2 : (S2 == R2) = false := by
                  rw [beq_eq_false_iff_ne]
                  intro e'
                  exact NE.out (by rw [e, e'])
                clear e
                go_wp2
                go_quiet (fail)
                go_wp2
                go_roundw
                case rel => exact ⟨k + 1, by go_num, hkl, below_drewV _ K.out⟩
                case measure => first | (rw [hwk]; simp [intOf]; omega) | (simp [intOf]; omega)
              · have b1 : (S1 == R1) = false := by rw [beq_eq_false_iff_ne]; exact e
                clear e
                go_wp2
                go_quiet (fail)
                go_wp2
                go_roundw
                case rel => exact ⟨k + 1, by go_num, hkl, below_drewV _ K.out⟩
                case measure => first | (rw [hwk]; simp [intOf]; omega) | (simp [intOf]; omega)
            · obtain rfl : k = al.length := by omega
              have hbx := G3.out.2.1.below hbk
              have z0 : wr.cell? ⟨bx, 0, none⟩ = some (.int .i64 R1) := hbx.cell 0
              have z1 : wr.cell? ⟨bx, 1, none⟩ = some (.int .i64 R2) := hbx.cell 1
              have G := Lib.hid (And.intro (G3.out.1.keep hbk) hbx)
              have BD := Lib.hid (And.intro (show al.length ≤ 1000000000 from Nat.le_trans HB.out.1 (by decide)) (show lv.length ≤ 1000000000 from Nat.le_trans HB.out.2.1 (by decide)))
              clear hbk hkl hk hbx
              go_wp2_with (first | (at_builtin; refine appE elR rfl _ _ rfl w.heap.size (.slice ao al.length ac) al (R1, R2) _ rfl wr rfl G.out.1.2.2.1 wr.heap.size rfl rfl BD.out.1 G.out.1.2.2.2.2.2.size ?_; intro v6 w6 hown hgr hbk hbel; have hb6 := G.out.2.move (hgr.block bx G.out.2.lt (fun e => G3.out.2.2.1 _ e.symm rfl)); have y0 : w6.cell? ⟨bx, 0, none⟩ = some (.int .i64 R1) := hb6.cell 0; have y1 : w6.cell? ⟨bx, 1, none⟩ = some (.int .i64 R2) := hb6.cell 1; have G6 := Lib.hid (G.out.1.all hown hgr hbk); clear hown hgr hbk hbel hb6; go_frame) | (at_builtin; refine appO elR rfl _ _ rfl w.heap.size u7 lv (R1, R2) _ rfl w6 rfl G6.out.2.2.2.1 w6.heap.size rfl rfl BD.out.2 G6.out.2.2.2.2.2.size ?_; intro v7 w7 hown hgr hbk hbel; have G7 := Lib.hid (G6.out.lives hown hgr hbk); clear hown hgr hbk hbel; go_frame))
              go_roundw
              case rel => exact ⟨j + 1, a2, al ++ [(R1, R2)], lv ++ [(R1, R2)], M2, by go_num, hlt, HT.out.1, G7.out⟩
              case measure => first | (rw [hw]; simp [intOf]; omega) | (simp [intOf]; omega)
    · obtain rfl : j = xs.length := by omega
      obtain ⟨lao, lcap, hvl, hjunk⟩ := hO.2.2.2.1.sl
      clear hjunk
      subst hvl
      have J := Lib.hid (And.intro hj (And.intro hI hO))
      clear hI hO hj hlt
      obtain ⟨w0', hw0⟩ : ∃ w0', w0' = wr := ⟨_, rfl⟩
      subst hw0
      go_wp2
      go_loopw [13] (fun o13 wr' => ∃ (k : Nat), o13 = .int .i64 k ∧ k ≤ lv.length ∧ Below w0'.heap.size w0' wr') (fun i _ => lv.length - (intOf i).toNat)
      case atStart => exact ⟨0, rfl, Nat.zero_le _, Below.refl _ _⟩
      case round =>
        obtain ⟨k, rfl, hk, hbk⟩ := hrel
        by_cases hkl : k < lv.length
        · obtain ⟨_, _, hvl2, _, hsg⟩ := (J.out.2.2.keep hbk).2.2.2.1.sl
          injection hvl2 with e1 e2 e3
          subst e1
          clear e2 e3
          obtain ⟨qq, rfl, hat⟩ := hsg k lv[k] (List.getElem?_eq_getElem hkl)
          obtain ⟨⟨R1, R2⟩, hr⟩ : ∃ r, lv[k] = r := ⟨_, rfl⟩
          obtain ⟨i, x, e1, e2, e3, e4⟩ := Arn.right_t (J.out.2.1.2.2.1 lv[k] (List.getElem_mem hkl))
          rw [hr] at hat e1 e4
          have x0 : wr.cell? (qq.add (k * 2)) = some (.int .i64 R1) := hat.1 _ rfl
          have x1 : wr.cell? ⟨(qq.add (k * 2)).block, (qq.add (k * 2)).off + 1, none⟩ = some (.int .i64 R2) := hat.2 1 _ rfl (by decide)
          have hw : wrap64 ((k : Int) + 1) = (k : Int) + 1 := wrap_k (Nat.le_trans (Nat.le_of_lt hkl) (Nat.le_trans HB.out.2.1 (by decide)))
          have m0 : (k : Int) < (lv.length : Int) := Int.ofNat_lt.2 hkl
          have m1 : (0 : Int) ≤ (k : Int) := Int.natCast_nonneg k
          have K := Lib.hid (And.intro hbk (And.intro e1 (And.intro e2 (And.intro e3 e4))))
          clear hbk e1 e2 e3 e4 hr hat hsg hk
          go_wp2_with fail
          refine (get_eq a p M i x R1 R2 x.h _ (J.out.2.2.2.1.keep K.out.1) K.out.2.2.1 K.out.2.2.2.1 (by have := J.out.2.1.1.1; have := J.out.2.1.1.2.1; omega) K.out.2.1.symm K.out.2.2.2.2 rfl).mono ?_
          rintro _ w2 ⟨rfl, hb⟩
          have G := Lib.hid (step0 K.out.1 hb)
          clear hb
          go_wp2
          go_roundw
          case rel => exact ⟨k + 1, by go_num, hkl, G.out⟩
          case measure => first | (rw [hw]; simp [intOf]; omega) | (simp [intOf]; omega)
        · obtain rfl : k = lv.length := by omega
          have G := Lib.hid (J.out.2.2.keep hbk)
          clear hbk hkl hk
          go_wp2_with fail
          refine (live_is a (xs.length : Int) p M _ G.out.2.1 J.out.2.1.1).mono ?_
          rintro _ w2 ⟨v, rfl, hL, hb⟩
          obtain ⟨o2, c2, rfl, hjunk⟩ := hL.sl
          rw [J.out.2.1.live]
          have G2 := Lib.hid (step0 G.out.2.2.2.2.2 (hb.mono (Nat.le_refl _)))
          clear hL hb hjunk
          go_wp2_with fail
          refine (awake_any _).mono ?_
          rintro _ w3 ⟨rfl, hb⟩
          have G3 := Lib.hid (step0 G2.out hb)
          clear hb
          go_wp2
          go_ret
          exact ⟨rfl, G3.out⟩

theorem arenaOnce_walk (most : Int) (xs : List Bool) (lo : Option Addr) (lc : Nat) (w : World) (hsl : Sg elB w lo xs) :
    Calls Try.prog 4 #[.int .i64 most, .slice lo xs.length lc] w fun e w' => e = .returned (.bool true) ∧ Below w.heap.size w w' := by
  by_cases h : 100 < xs.length
  · exact once_long most xs lo lc w h
  · by_cases hm : 5000 < most
    · exact once_most most xs lo lc w (by omega) hm
    · exact once_main most xs lo lc w (by omega) (by omega) hsl

end Go.Proofs.Ytlommgljkjkmkaa.Gn
