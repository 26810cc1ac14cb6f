/-
 What bytes ask, by the document: Read. Conditions: texts of 1000000 bytes at most.
-/
import Derived.Test.YtmgdciihpjifgaaGreatDoorQrOpRefW
import Derived.Test.YtmgdciihpjifgaaGreatDoorQrOpRefH
import Derived.Test.YtmgdciihpjifgaaGreatDoorQrOpRefO
import Derived.Test.YtmgdciihpjifgaaGreatDoorQrOpReadO
import Derived.Maps.AppendAt
import Derived.Deep.DeepCutAuto
import Derived.Deep.RegionHeld3
set_option maxHeartbeats 16000000
namespace Go.Proofs.YtmgdciihpjifgaaGreatDoor
open Go.RowKit
set_option linter.unusedVariables false
set_option linter.unusedSimpArgs false
def Apt (v : Value) (y : RV) : Prop := ∀ a, y.ao = some a → y.xs ≠ [] → v.ownBlock ≠ some a.block
theorem Sl.grown {W w' : World} {row : Option Nat} {ao : Option Addr} {xs : List V} (h : Sl W ao xs) (hg : W.grownBy w' row) (hn : ∀ a, ao = some a → xs ≠ [] → row ≠ some a.block) : Sl w' ao xs := by
 intro i x hi
 obtain ⟨a, rfl, c0, c1, c2, c3⟩ := h i x hi
 have hx : xs ≠ [] := by rintro rfl; simp at hi
 have ne := hn a rfl hx
 have k : ∀ (p : Addr) (v : Value), W.cell? p = some v → p.block = a.block → w'.cell? p = some v := fun p v g q => by
  have lt := cell_lt g
  unfold World.cell? at g ⊢
  rw [hg.block p.block lt (by rw [q]; exact fun e => ne e.symm)]
  exact g
 have e := add_block a (i * 4)
 exact ⟨a, rfl, k _ _ c0 e, k _ _ c1 e, k _ _ c2 e, k _ _ c3 e⟩
theorem Sl.blk_lt {W : World} {a : Addr} {xs : List V} (h : Sl W (some a) xs) (hx : xs ≠ []) : a.block < W.heap.size := by
 match xs, hx with
 | x :: xs, _ =>
  obtain ⟨_, ha, c0, _⟩ := h 0 x rfl
  cases ha
  have := cell_lt c0
  rwa [add_block] at this
section
variable {ops : Array Oper} {rest : List Oper} {o : Oper} {a : Act} {Q : Exit → Act → World → Prop}
theorem appRg (hgd : o.guard = none) (s x : Operand) (ho : o.op = .call { callee := .builtin .append, args := #[s, x], argTypes := #[60, 60] })
  (base : Nat) (v : Value) (l : List RV) (b : RV) (w0 : World) (hs : a.eval s = v) (hown : OwR w0 base v l)
  (G : Nat) (hG : w0.heap.size = G) (hx : a.eval x = .slice (some ⟨G, 0, none⟩) 1 1) (hlen : l.length ≤ 1000000000) (hb : base ≤ w0.heap.size)
  (h : ∀ v' w', OwR w' base v' (l ++ [b]) → w0.grownBy w' v.ownBlock → (v'.ownBlock = v.ownBlock ∨ ∃ k, v'.ownBlock = some k ∧ w0.heap.size ≤ k) → Below base w0 w' → wpList Tryz.prog ops Q rest (a.put o.dst v') w') : wpList Tryz.prog ops Q (o :: rest) a (w0.alloc (.cells #[.slice b.ao b.xs.length b.cap] 46)) := by
 subst hG
 obtain ⟨i0, hi, hz0, hz1, hz2⟩ := info_parts Tryz.infoR
 refine wpList_append_own_at _ hgd s x 60 ho base 46 i0 _ 1 24 Tryz.underlying60 hi hz0 hz1 hz2 rfl (by decide) v _ _ hs (World.ownsRow.alloc hown _) ⟨w0.heap.size, 0, none⟩ 1 1 [b.val] hx rfl ?_ ?_ (by unfold maxLen; omega) (by omega) (by simp; omega) ?_
 ·intro j u hj
  match j, hj with
  | 0, hj => simp [RV.val] at hj; subst hj; simp [Addr.add]
  | (j + 1), hj => simp at hj
 ·intro u hu; simp [RV.val] at hu; subst hu; rfl
 ·intro v' w' hown' hgrow _ hbk
  have hg0 : w0.grownBy w' v.ownBlock := by
   refine ⟨hgrow.os, hgrow.tape, hgrow.output, Nat.le_trans (by simp) hgrow.size, fun k hk hne => ?_⟩
   rw [hgrow.block k (by simp; omega) hne, Below.heap_alloc _ _ _ hk]
  refine h v' w' ?_ hg0 ?_ (((Below.refl base w0).alloc hb _).grown hgrow (by simp; omega) (fun k hk => (World.ownsRow.lt hown k hk).1))
  ·unfold OwR
   rw [List.length_append, List.map_append]
   exact hown'
  ·rcases hbk with g | g
   ·exact .inl g
   ·exact .inr ⟨_, g, by simp⟩
end
theorem rdo_bad {l : List UInt8} {R X : O × List UInt8 × Int} {e : Int} (h : bnd (rop l) O0 (rck2 l) = R) (hq : X = rop l) (hx : X = (O0, [], e)) (he : e ≠ 0) : R = (O0, [], e) := by
 rw [← h]
 exact bnd_err (hq.symm.trans hx) he _ _
set_option maxRecDepth 100000 in
theorem rreado_is (l : List UInt8) (w : World) (hl : l.length ≤ 1000000) :
  Calls Tryz.prog 19 #[.string ⟨l.toArray⟩] w (RP (rdo l) w) := by
 have hmx : Tryz.prog.follows .mixedOrders = true := by kernel_rfl
 obtain ⟨k, l1, E, h1⟩ : ∃ k l1 E, small 9 1 l = (k, l1, E) := ⟨_, _, _, rfl⟩
 have n1 := small_sf 9 1 l
 rw [h1] at n1
 have X := zh (za (za h1 n1) hl)
 have S1 := zh (show l1.length ≤ 1000000 by have := suf_len n1; simp only at this; omega)
 obtain ⟨R, hR⟩ : ∃ R, rdo l = R := ⟨_, rfl⟩
 rw [hR]
 have HX := zh (show bnd (rop l) O0 (rck2 l) = R from hR)
 have HQ := zh (show _ = rop l from (rop_is l).symm)
 clear n1 h1 hl hR
 go_enter Tryz.func19, Tryz.ntmps19
 go_wp2_with fail
 refine (rbelow_is 10 9 k E l l1 k _ rfl (by decide) X.out.1.1 rfl).mono ?_
 rintro y w1 ⟨rfl, hb⟩
 have q2 := (Blk.new w (O0.a P0) 48).below hb
 have K1 := zh (za (step1 (Below.refl _ w) hb) q2)
 clear hb q2
 by_cases hE : E = 0
 ·subst hE
  by_cases hk : k = 0
  ·have e0 : ((k : Int) == 0) = true := by simp; omega
   have Q := zh (rdo_bad HX.out HQ.out (by rw [smb_lo 9 X.out.1.1 hk]; exact bnd_err rfl (by decide) _ _) (by decide))
   clear hk
   go_wp2_with ((refine (?_ : wpList _ _ _ (Oper.mk _ (Op.store 48 _ _) _ _ _ _ :: _) _ _)); refine wpList_store_blk rfl 48 _ _ rfl (w.heap.size) (O0.a P0) (O0.a P0) rfl rfl (K1.out.2) (by first | rfl | simp [sa_size]) (infoO) (O.a_one _ _) ?_)
   intro w9 q9 r9
   go_wp2
   refine bodyPost_ret (results_3 Tryz.results19 rfl rfl rfl (loadO q9)) rfl (RP.bad Q.out (r9.below _ _ (Nat.le_refl _) K1.out.1))
  ·have e0 : ((k : Int) == 0) = false := by simp; omega
   have HQ := zh (show _ = rop l from by rw [← HQ.out, smb_hi 9 X.out.1.1 hk, bnd_ok rfl])
   clear hk
   obtain ⟨tb, l2, E2, h2⟩ : ∃ a b c, Pk.rt l1 = (a, b, c) := ⟨_, _, _, rfl⟩
   have n2 := suf_len (rt_sf l1)
   rw [h2] at n2
   simp only at n2
   have X2 := zh (za h2 (show l2.length ≤ 1000000 by have := S1.out; omega))
   have HQ := zh (show _ = rop l from by rw [← HQ.out, h2])
   clear h2 n2
   go_wp2_with fail
   refine (rtextO l1 tb l2 E2 _ S1.out X2.out.1).mono ?_
   rintro y w2 ⟨rfl, hb⟩
   have K2 := zh (za (step0 K1.out.1 hb) (K1.out.2.below hb))
   have Ne := zh (show w.heap.size < w2.heap.size from K2.out.2.lt)
   clear hb
   by_cases hE2 : E2 = 0
   ·subst hE2
    have HQ := zh ((bnd_ok rfl _ _).symm.trans HQ.out)
    go_wp2
    go_loopw [0, 9, 10] (fun s v i wr => ∃ (j : Nat) (d : List RV) (L : List UInt8), s = .string ⟨L.toArray⟩ ∧ i = .int .i64 j ∧ j ≤ 3 ∧ d.length = j ∧ rrs 3 l2 = prV (rxs d) (rrs (3 - j) L) ∧ L.length ≤ 1000000 ∧ OwR wr w2.heap.size v d ∧ Below w.heap.size w wr ∧ Blk wr w.heap.size (O0.a P0) 48 ∧ InR wr d ∧ (∀ y ∈ d, Up (w.heap.size + 1) y.ao) ∧ (∀ y ∈ d, Apt v y) ∧ w2.heap.size ≤ wr.heap.size) (fun _ _ i _ => 3 - (intOf i).toNat)
    case atStart => exact ⟨0, [], l2, rfl, rfl, by omega, rfl, (prV_nil _ _).symm, X2.out.2, owr_nil _ _, K2.out.1, K2.out.2, fun y hy => by simp at hy, fun y hy => by simp at hy, fun y hy => by simp at hy, Nat.le_refl _⟩
    case round =>
     obtain ⟨j, d, L, rfl, rfl, hj, hd, hQ, hL, hO, hbel, hb2, hin, hup, hap, hsz⟩ := hrel
     have J := zh (za hO (za hbel (za hb2 (za hd (za hQ (za hL (za hin (za hup (za hap hsz)))))))))
     clear hO hbel hb2 hd hQ hL hin hup hap hsz
     by_cases hlt : j < 3
     ·obtain ⟨xs, r, e, hs⟩ : ∃ s r e, rrw L = (s, r, e) := ⟨_, _, _, rfl⟩
      have lr := suf_len (rrw_sf L)
      rw [hs] at lr
      have Y := zh (za hs (show r.length ≤ 1000000 by have := J.out.2.2.2.2.2.1; simp only at lr; omega))
      have eN : 3 - j = (3 - (j + 1)) + 1 := by omega
      clear hs lr
      go_wp2_with fail
      refine (rrowO_is L _ J.out.2.2.2.2.2.1).mono ?_
      rintro y w6 hrw
      rw [Y.out.1] at hrw
      obtain ⟨ao, cap, rfl, hsl, hup, hb⟩ := hrw
      simp only at hsl
      have hsz := J.out.2.2.2.2.2.2.2.2.2
      have hI : InR w6 (d ++ [⟨xs, ao, cap⟩]) := by
       intro y hy
       rcases List.mem_append.1 hy with g | g
       ·exact (J.out.2.2.2.2.2.2.1 y g).below hb
       ·obtain rfl := List.mem_singleton.1 g
        exact hsl
      have hU : ∀ y ∈ d ++ [(⟨xs, ao, cap⟩ : RV)], Up (w.heap.size + 1) y.ao := by
       intro y hy
       rcases List.mem_append.1 hy with g | g
       ·exact J.out.2.2.2.2.2.2.2.1 y g
       ·obtain rfl := List.mem_singleton.1 g
        exact hup.mono (by have := Ne.out; omega)
      have hA : ∀ y ∈ d ++ [(⟨xs, ao, cap⟩ : RV)], Apt u9 y := by
       intro y hy
       rcases List.mem_append.1 hy with g | g
       ·exact J.out.2.2.2.2.2.2.2.2.1 y g
       ·obtain rfl := List.mem_singleton.1 g
        intro q hq _ hk
        have := (J.out.1.lt _ hk).2
        have := hup q hq
        omega
      have K6 := zh (za (J.out.1.keep hb) (za (step0 J.out.2.1 hb) (za (J.out.2.2.1.below hb) (za hI (za hU (za hA (Nat.le_trans hsz hb.size)))))))
      clear hb hsl hup hI hU hA hsz
      by_cases he : e = 0
      ·subst he
       have Q := zh (show rrs 3 l2 = prV (rxs (d ++ [⟨xs, ao, cap⟩])) (rrs (3 - (j + 1)) r) from by rw [J.out.2.2.2.2.1, eN, show rxs (d ++ [⟨xs, ao, cap⟩]) = rxs d ++ [xs] from by simp [rxs]]; exact prV_step (rxs d) _ Y.out.1)
       clear eN
       have dl := zh (show d.length ≤ 1000000000 by have := J.out.2.2.2.1; omega)
       go_wp2_with (at_builtin; refine appRg rfl _ _ rfl w2.heap.size u9 d ⟨xs, ao, cap⟩ _ rfl K6.out.1 _ rfl rfl dl.out K6.out.2.2.2.2.2.2 ?_; intro v' w7 hown hgrow hbk hb; have K7 := zh (za hown (za hgrow (za hbk hb))); clear hown hgrow hbk hb; go_frame)
       have hI : InR w7 (d ++ [⟨xs, ao, cap⟩]) := fun y hy => (K6.out.2.2.2.1 y hy).grown K7.out.2.1 (K6.out.2.2.2.2.2.1 y hy)
       have hA : ∀ y ∈ d ++ [(⟨xs, ao, cap⟩ : RV)], Apt v' y := by
        intro y hy q hq hne hk
        rcases K7.out.2.2.1 with g | ⟨z, g, hz⟩
        ·exact K6.out.2.2.2.2.2.1 y hy q hq hne (g.symm.trans hk)
        ·have h1 := K6.out.2.2.2.1 y hy
         rw [hq] at h1
         have := h1.blk_lt hne
         rw [hk] at g
         have := Option.some.inj g
         omega
       have BB : Below w.heap.size w w7 := K6.out.2.1.trans (K7.out.2.2.2.mono (by have := Ne.out; omega))
       have BZ : Blk w7 w.heap.size (O0.a P0) 48 := (K7.out.2.2.2.block _ (by have := Ne.out; omega)).trans K6.out.2.2.1
       have K8 := zh (za BB (za BZ (za hI (za K6.out.2.2.2.2.1 (za hA (Nat.le_trans K6.out.2.2.2.2.2.2 K7.out.2.2.2.size))))))
       clear hI hA BB BZ
       go_roundw
       case rel => exact ⟨j + 1, d ++ [⟨xs, ao, cap⟩], r, rfl, by go_num, hlt, by simp [J.out.2.2.2.1], Q.out, Y.out.2, K7.out.1, K8.out⟩
       case measure => simp [intOf]; omega
      ·have e1 := bne_t he
       have Q := zh (rdo_bad HX.out HQ.out (by rw [show rrs 3 l2 = ([], [], e) from by rw [J.out.2.2.2.2.1, eN]; exact prV_err (rxs d) _ Y.out.1 he]; exact bnd_err rfl he _ _) he)
       clear eN he
       go_wp2_with ((refine (?_ : wpList _ _ _ (Oper.mk _ (Op.store 48 _ _) _ _ _ _ :: _) _ _)); refine wpList_store_blk rfl 48 _ _ rfl (w.heap.size) (O0.a P0) (O0.a P0) rfl rfl (K6.out.2.2.1) (by first | rfl | simp [sa_size]) (infoO) (O.a_one _ _) ?_)
       intro w9 q9 r9
       go_wp2
       refine bodyPost_ret (results_3 Tryz.results19 rfl rfl rfl (loadO q9)) rfl (RP.bad Q.out (r9.below _ _ (Nat.le_refl _) K6.out.2.1))
     ·obtain rfl : j = 3 := by omega
      have hQ := J.out.2.2.2.2.1
      rw [Nat.sub_self, prV_end] at hQ
      obtain ⟨a, b, c, rfl⟩ := va3 d J.out.2.2.2.1
      obtain ⟨mo, mc, rfl, _, hsr⟩ := J.out.1.sl
      simp only [List.length_cons, List.length_nil, Nat.zero_add, Nat.reduceAdd]
      have HQ := zh (show bnd (small 64 1 L) O0 (fun mx l6 => roc k tb a.xs b.xs c.xs mx l6) = rop l from by rw [← HQ.out, bnd_ok hQ]; rfl)
      obtain ⟨mx, l6, E3, h3⟩ : ∃ k l E, small 64 1 L = (k, l, E) := ⟨_, _, _, rfl⟩
      have n3 := suf_len (small_sf 64 1 L)
      rw [h3] at n3
      simp only at n3
      have X3 := zh (za h3 (show l6.length ≤ 1000000 by have := J.out.2.2.2.2.2.1; omega))
      have HQ := zh (show _ = rop l from by rw [← HQ.out, h3])
      have HS := zh hsr
      clear h3 n3 hQ hlt hj hsr
      go_wp2_with fail
      refine (rbelow_is 65 64 mx E3 L l6 mx _ rfl (by decide) X3.out.1 rfl).mono ?_
      rintro y w4 ⟨rfl, hb⟩
      have hi := J.out.2.2.2.2.2.2.1
      have hu := J.out.2.2.2.2.2.2.2.1
      have K4 := zh (za (step0 J.out.2.1 hb) (za (J.out.2.2.1.below hb) (za (show Sl w4 a.ao a.xs ∧ Sl w4 b.ao b.xs ∧ Sl w4 c.ao c.xs from ⟨(hi a (by simp)).below hb, (hi b (by simp)).below hb, (hi c (by simp)).below hb⟩) (show Up (w.heap.size + 1) a.ao ∧ Up (w.heap.size + 1) b.ao ∧ Up (w.heap.size + 1) c.ao from ⟨hu a (by simp), hu b (by simp), hu c (by simp)⟩))))
      have HS := zh (HS.out.below hb)
      clear hb hi hu
      by_cases hE3 : E3 = 0
      ·subst hE3
       have HQ := zh ((bnd_ok rfl _ _).symm.trans HQ.out)
       obtain ⟨q, rfl, c0⟩ := HS.out 0 a rfl
       obtain ⟨_, hq, c1⟩ := HS.out 1 b rfl
       cases hq
       obtain ⟨_, hq, c2⟩ := HS.out 2 c rfl
       cases hq
       have C := zh (show w4.cell? q = some (.slice a.ao a.xs.length a.cap) ∧ w4.cell? ⟨q.block, q.off + 1, none⟩ = some (.slice b.ao b.xs.length b.cap) ∧ w4.cell? ⟨q.block, q.off + 2, none⟩ = some (.slice c.ao c.xs.length c.cap) from ⟨c0, c1, c2⟩)
       clear c0 c1 c2 HS
       go_wp2
       go_cut [15] (fun s wx => ∃ b9, s = .pointer (some ⟨b9, 0, none⟩) ∧ w4.heap.size ≤ b9 ∧ Below w4.heap.size w4 wx ∧ Blk wx b9 ((⟨(k : Int), tb, a.xs, b.xs, c.xs, (mx : Int), Ch0⟩ : O).a (⟨a.ao, a.cap, b.ao, b.cap, c.ao, c.cap, none, 0, none, 0⟩ : Ps)) 48)
       case first =>
        refine wp_region_held_drew (S := fun v => Below w4.heap.size w4 v ∧ v.cell? q = some (.slice a.ao a.xs.length a.cap) ∧ v.cell? ⟨q.block, q.off + 1, none⟩ = some (.slice b.ao b.xs.length b.cap) ∧ v.cell? ⟨q.block, q.off + 2, none⟩ = some (.slice c.ao c.xs.length c.cap)) (by kernel_rfl) ⟨(Below.refl _ _).drew, C.out.1, C.out.2.1, C.out.2.2⟩ (fun hH => ?_)
        obtain ⟨v0, hv0⟩ : ∃ v, World.drew w4 = v := ⟨_, rfl⟩
        rw [hv0] at hH ⊢
        have D := zh (show Below w4.heap.size w4 v0 from hv0 ▸ (Below.refl _ _).drew)
        clear hv0
        refine wpAnyH_take (i := 0) (oi := _) (v := .int .i64 (k : Int)) rfl (by kernel_rfl) (by kernel_rfl) (by kernel_rfl) (fun _ _ _ h => h) (Or.inl ⟨by rfl, by intro v hv; go_simp⟩) hH ?_
        try simp only [Act.put, zyc, zyd, zye, zyf, zyi, zyj]
        refine wpAnyH_take (i := 1) (oi := _) (v := .string ⟨tb.toArray⟩) rfl (by kernel_rfl) (by kernel_rfl) (by kernel_rfl) (fun _ _ _ h => h) (Or.inl ⟨by rfl, by intro v hv; go_simp⟩) hH ?_
        try simp only [Act.put, zyc, zyd, zye, zyf, zyi, zyj]
        refine wpAnyH_take (i := 2) (oi := _) (v := .slice (some q) 3 mc) rfl (by kernel_rfl) (by kernel_rfl) (by kernel_rfl) (fun _ _ _ h => h) (Or.inl ⟨by rfl, by intro v hv; go_simp⟩) hH ?_
        try simp only [Act.put, zyc, zyd, zye, zyf, zyi, zyj]
        refine wpAnyH_take (i := 3) (oi := _) (v := .pointer (some q)) rfl (by kernel_rfl) (by kernel_rfl) (by kernel_rfl) (fun _ _ _ h => h) (Or.inl ⟨by rfl, by intro v hv; go_simp⟩) hH ?_
        try simp only [Act.put, zyc, zyd, zye, zyf, zyi, zyj]
        refine wpAnyH_take (i := 4) (oi := _) (v := .slice a.ao a.xs.length a.cap) rfl (by kernel_rfl) (by kernel_rfl) (by kernel_rfl) (fun _ _ _ h => h) (Or.inl ⟨by rfl, by intro v hv; obtain ⟨_, e0, e1, e2⟩ := hv; go_simp⟩) hH ?_
        try simp only [Act.put, zyc, zyd, zye, zyf, zyi, zyj]
        refine wpAnyH_take (i := 5) (oi := _) (v := .slice (some q) 3 mc) rfl (by kernel_rfl) (by kernel_rfl) (by kernel_rfl) (fun _ _ _ h => h) (Or.inl ⟨by rfl, by intro v hv; go_simp⟩) hH ?_
        try simp only [Act.put, zyc, zyd, zye, zyf, zyi, zyj]
        refine wpAnyH_take (i := 6) (oi := _) (v := .pointer (some ⟨q.block, q.off + 1, none⟩)) rfl (by kernel_rfl) (by kernel_rfl) (by kernel_rfl) (fun _ _ _ h => h) (Or.inl ⟨by rfl, by intro v hv; go_simp⟩) hH ?_
        try simp only [Act.put, zyc, zyd, zye, zyf, zyi, zyj]
        refine wpAnyH_take (i := 7) (oi := _) (v := .slice b.ao b.xs.length b.cap) rfl (by kernel_rfl) (by kernel_rfl) (by kernel_rfl) (fun _ _ _ h => h) (Or.inl ⟨by rfl, by intro v hv; obtain ⟨_, e0, e1, e2⟩ := hv; go_simp⟩) hH ?_
        try simp only [Act.put, zyc, zyd, zye, zyf, zyi, zyj]
        refine wpAnyH_take (i := 8) (oi := _) (v := .slice (some q) 3 mc) rfl (by kernel_rfl) (by kernel_rfl) (by kernel_rfl) (fun _ _ _ h => h) (Or.inl ⟨by rfl, by intro v hv; go_simp⟩) hH ?_
        try simp only [Act.put, zyc, zyd, zye, zyf, zyi, zyj]
        refine wpAnyH_take (i := 9) (oi := _) (v := .pointer (some ⟨q.block, q.off + 2, none⟩)) rfl (by kernel_rfl) (by kernel_rfl) (by kernel_rfl) (fun _ _ _ h => h) (Or.inl ⟨by rfl, by intro v hv; go_simp⟩) hH ?_
        try simp only [Act.put, zyc, zyd, zye, zyf, zyi, zyj]
        refine wpAnyH_take (i := 10) (oi := _) (v := .slice c.ao c.xs.length c.cap) rfl (by kernel_rfl) (by kernel_rfl) (by kernel_rfl) (fun _ _ _ h => h) (Or.inl ⟨by rfl, by intro v hv; obtain ⟨_, e0, e1, e2⟩ := hv; go_simp⟩) hH ?_
        try simp only [Act.put, zyc, zyd, zye, zyf, zyi, zyj]
        refine wpAnyH_take (i := 11) (oi := _) (v := .int .i64 (mx : Int)) rfl (by kernel_rfl) (by kernel_rfl) (by kernel_rfl) (fun _ _ _ h => h) (Or.inl ⟨by rfl, by intro v hv; go_simp⟩) hH ?_
        try simp only [Act.put, zyc, zyd, zye, zyf, zyi, zyj]
        refine wpAnyH_take (i := 12) (oi := _) (v := .agg ((⟨(k : Int), tb, a.xs, b.xs, c.xs, (mx : Int), Ch0⟩ : O).a (⟨a.ao, a.cap, b.ao, b.cap, c.ao, c.cap, none, 0, none, 0⟩ : Ps))) rfl (by kernel_rfl) (by kernel_rfl) (by kernel_rfl) (fun _ _ _ h => h) (Or.inl ⟨by rfl, by intro v hv; first | rfl | (go_simp; rfl)⟩) hH ?_
        try simp only [Act.put, zyc, zyd, zye, zyf, zyi, zyj]
        refine wpAnyH_ready (rs := [13]) (by kernel_rfl) (by simp) ?_
        refine AllReadyH.cons (o := _) rfl (fun K' hK => ?_) AllReadyH.nil
        go_simp
        have D1 := zh (show Below w4.heap.size w4 (v0.alloc (.cells (O0.a P0) 48)) from D.out.alloc D.out.size _)
        refine hK.out _ (v0.alloc (.cells (O0.a P0) 48)) ⟨D1.out, keep0 C.out.1 D1.out, keep0 C.out.2.1 D1.out, keep0 C.out.2.2 D1.out⟩ (fun hH => ?_)
        clear hK K'
        have q9 : Blk (v0.alloc (.cells (O0.a P0) 48)) v0.heap.size (O0.a P0) 48 := Blk.new v0 (O0.a P0) _
        have la := zh (show w4.heap.size ≤ v0.heap.size from D.out.size)
        obtain ⟨b9, hb9⟩ : ∃ b, v0.heap.size = b := ⟨_, rfl⟩
        obtain ⟨v1, hv1⟩ : ∃ v, (v0.alloc (.cells (O0.a P0) 48)) = v := ⟨_, rfl⟩
        rw [hb9] at q9 la
        rw [hv1] at q9 D1 hH ⊢
        try rw [hb9]
        clear hv1
        try simp only [Act.put, zyc, zyd, zye, zyf, zyi, zyj]
        refine wpAnyH_ready (rs := [14]) (by kernel_rfl) (by simp) ?_
        refine AllReadyH.cons (o := _) rfl (fun K' hK => ?_) AllReadyH.nil
        rw [if_pos (by rfl)]
        refine wp_store_mid 48 _ _ rfl b9 0 ((⟨(k : Int), tb, a.xs, b.xs, c.xs, (mx : Int), Ch0⟩ : O).a (⟨a.ao, a.cap, b.ao, b.cap, c.ao, c.cap, none, 0, none, 0⟩ : Ps)) rfl rfl (show v1.there b9 0 ((⟨(k : Int), tb, a.xs, b.xs, c.xs, (mx : Int), Ch0⟩ : O).a (⟨a.ao, a.cap, b.ao, b.cap, c.ao, c.cap, none, 0, none, 0⟩ : Ps)).size from q9.there) infoO (O.a_one _ _) ?_
        have r := Wr.all b9 ((⟨(k : Int), tb, a.xs, b.xs, c.xs, (mx : Int), Ch0⟩ : O).a (⟨a.ao, a.cap, b.ao, b.cap, c.ao, c.cap, none, 0, none, 0⟩ : Ps)).toList 0 v1
        have st := Blk.stored (cells := (⟨(k : Int), tb, a.xs, b.xs, c.xs, (mx : Int), Ch0⟩ : O).a (⟨a.ao, a.cap, b.ao, b.cap, c.ao, c.cap, none, 0, none, 0⟩ : Ps)) q9 rfl
        obtain ⟨v2, hv2⟩ : ∃ v, v1.setCells b9 0 ((⟨(k : Int), tb, a.xs, b.xs, c.xs, (mx : Int), Ch0⟩ : O).a (⟨a.ao, a.cap, b.ao, b.cap, c.ao, c.cap, none, 0, none, 0⟩ : Ps)).toList = v := ⟨_, rfl⟩
        rw [hv2] at r st ⊢
        clear hv2
        have l2 := la.out
        have D2 := zh (r.below _ _ l2 D1.out)
        refine hK.out _ _ ⟨D2.out, keep0 C.out.1 D2.out, keep0 C.out.2.1 D2.out, keep0 C.out.2.2 D2.out⟩ (fun hH => ?_)
        clear hK K'
        try simp only [Act.put, zyc, zyd, zye, zyf, zyi, zyj]
        refine wpAnyH_done (by kernel_rfl) ?_ _
        go_wp2_with fail
        go_meet
        exact ⟨b9, rfl, l2, D2.out, st⟩
       obtain ⟨b9, rfl, hle9, kb, k9⟩ := hcut
       rename World => wx
       have K9 := zh (show Below w.heap.size w wx ∧ Blk wx w.heap.size (O0.a P0) 48 ∧ Blk wx b9 ((⟨(k : Int), tb, a.xs, b.xs, c.xs, (mx : Int), Ch0⟩ : O).a (⟨a.ao, a.cap, b.ao, b.cap, c.ao, c.cap, none, 0, none, 0⟩ : Ps)) 48 ∧ InU wx (w.heap.size + 1) (⟨(k : Int), tb, a.xs, b.xs, c.xs, (mx : Int), Ch0⟩ : O) (⟨a.ao, a.cap, b.ao, b.cap, c.ao, c.cap, none, 0, none, 0⟩ : Ps) from ⟨step0 K4.out.1 kb, K4.out.2.1.below kb, k9, ⟨K4.out.2.2.1.1.below kb, K4.out.2.2.1.2.1.below kb, K4.out.2.2.1.2.2.below kb, SlS.nil _ _, slc_nil _ _, Nat.le_refl _⟩, K4.out.2.2.2.1, K4.out.2.2.2.2.1, K4.out.2.2.2.2.2, up_none _, up_none _⟩)
       have KB := zh (za kb (show w.heap.size < b9 by have := K4.out.2.1.lt; omega))
       have L9 := zh hle9
       clear kb k9 hle9
       by_cases h6 : k = 6
       ·have e6 : ((k : Int) == 6) = true := by simp; omega
        have HQ := zh (show bnd (rdch l6) O0 (fun ch r => (((⟨(k : Int), tb, a.xs, b.xs, c.xs, (mx : Int), ch⟩ : O) : O), r, 0)) = rop l from by rw [← HQ.out]; unfold roc; rw [if_pos h6])
        obtain ⟨ch, l7, E5, h5⟩ : ∃ a b c, rdch l6 = (a, b, c) := ⟨_, _, _, rfl⟩
        have HQ := zh (show _ = rop l from by rw [← HQ.out, h5])
        have H5 := zh h5
        clear h5 h6
        go_wp2_with fail
        refine (rreadC_is l6 _ X3.out.2).mono ?_
        rintro y w11 hrc
        rw [H5.out] at hrc
        obtain ⟨no, nc, dO, dc, rfl, hsl, hup, hsd, hdc, hud, hb⟩ := hrc
        simp only at hsl hsd hdc
        have K11 := zh (za (step0 K9.out.1 hb) (za (K9.out.2.1.below hb) (za (K9.out.2.2.1.below hb) (za (step0 KB.out.1 hb) (za (za hsl (za hsd hdc)) (za (za hup hud) (show b9 < wx.heap.size from K9.out.2.2.1.lt)))))))
        clear hsl hup hsd hdc hud hb
        go_wp2_with ((refine (?_ : wpList _ _ _ (Oper.mk _ (Op.store 32 _ _) _ _ _ _ :: _) _ _)); refine wpList_store_blk rfl 32 _ _ rfl (w11.heap.size) (Ch0.a none 0 none 0) (ch.a no nc dO dc) rfl rfl (Blk.new' _ _ _ _ rfl) (by first | rfl | simp [sa_size]) (infoCh) (Ch.a_one _ _ _ _ _) ?_)
        intro w12 q12 r12
        have bb := r12.below _ _ (Nat.le_refl _) (below1 w11 _)
        have K12 := zh (za (step0 K11.out.1 bb) (za (K11.out.2.1.below bb) (za (K11.out.2.2.1.below bb) (za (step0 K11.out.2.2.2.1 bb) (za (za (K11.out.2.2.2.2.1.1.below bb) (K11.out.2.2.2.2.1.2.1.below bb)) q12)))))
        clear bb q12 r12
        by_cases hE5 : E5 = 0
        ·subst hE5
         have HQ := zh (show (((⟨(k : Int), tb, a.xs, b.xs, c.xs, (mx : Int), ch⟩ : O) : O), l7, (0 : Int)) = rop l from (bnd_ok rfl _ _).symm.trans HQ.out)
         go_wp2_with (first | ((refine (?_ : wpList _ _ _ (Oper.mk _ (Op.load 32 _) _ _ _ _ :: _) _ _)); refine wpList_load_blk rfl 32 _ rfl (w11.heap.size) rfl (ch.a no nc dO dc) _ (K12.out.2.2.2.2.2) Tryz.underlying32 rfl (infoCh) ?_; go_frame) | ((refine (?_ : wpList _ _ _ (Oper.mk _ (Op.store 32 _ _) _ _ _ _ :: _) _ _)); refine wpList_store_part rfl 32 48 _ _ rfl b9 6 ((⟨(k : Int), tb, a.xs, b.xs, c.xs, (mx : Int), Ch0⟩ : O).pre (⟨a.ao, a.cap, b.ao, b.cap, c.ao, c.cap, none, 0, none, 0⟩ : Ps)) ((Ch0.a none 0 none 0).toList) ((ch.a no nc dO dc).toList) [] rfl rfl (K12.out.2.2.1) rfl rfl infoCh (Ch.a_all _ _ _ _ _) ?_))
         intro w13 q13 r13
         rw [O.setCh] at q13
         have kw : Below w4.heap.size w4 w13 := r13.below _ _ L9.out K12.out.2.2.2.1
         have hlt9 := K11.out.2.2.2.2.2.2
         have hltw := KB.out.2
         have K := zh (show Below w.heap.size w w13 ∧ Blk w13 w.heap.size (O0.a P0) 48 ∧ Blk w13 b9 ((⟨(k : Int), tb, a.xs, b.xs, c.xs, (mx : Int), ch⟩ : O).a (⟨a.ao, a.cap, b.ao, b.cap, c.ao, c.cap, no, nc, dO, dc⟩ : Ps)) 48 ∧ InU w13 (w.heap.size + 1) (⟨(k : Int), tb, a.xs, b.xs, c.xs, (mx : Int), ch⟩ : O) (⟨a.ao, a.cap, b.ao, b.cap, c.ao, c.cap, no, nc, dO, dc⟩ : Ps) from ⟨r13.below _ _ (by omega) K12.out.1, K12.out.2.1.wr r13 (by omega), q13, ⟨K4.out.2.2.1.1.below kw, K4.out.2.2.1.2.1.below kw, K4.out.2.2.1.2.2.below kw, r13.sls K12.out.2.2.2.2.1.1 K11.out.2.2.2.2.2.1.1 hlt9, r13.slc K12.out.2.2.2.2.1.2 K11.out.2.2.2.2.2.1.2 hlt9, K11.out.2.2.2.2.1.2.2⟩, K4.out.2.2.2.1, K4.out.2.2.2.2.1, K4.out.2.2.2.2.2, K11.out.2.2.2.2.2.1.1.mono (by omega), K11.out.2.2.2.2.2.1.2.mono (by omega)⟩)
         clear kw hlt9 hltw q13 r13
         have s1 := rop_sf l
         have k1 := rop_okv l
         rw [← HQ.out] at s1 k1
         simp only at s1 k1
         have SF := zh (za s1 k1)
         have HR := zh (show rck2 l (⟨(k : Int), tb, a.xs, b.xs, c.xs, (mx : Int), ch⟩ : O) l7 = R from by rw [← HX.out, ← HQ.out, bnd_ok rfl])
         clear s1 k1
         go_wp2_with ((refine (?_ : wpList _ _ _ (Oper.mk _ (Op.load 48 _) _ _ _ _ :: _) _ _)); refine wpList_load_blk rfl 48 _ rfl (b9) rfl ((⟨(k : Int), tb, a.xs, b.xs, c.xs, (mx : Int), ch⟩ : O).a (⟨a.ao, a.cap, b.ao, b.cap, c.ao, c.cap, no, nc, dO, dc⟩ : Ps)) _ (K.out.2.2.1) Tryz.underlying48 rfl (infoO) ?_; go_frame)
         refine (rputo_is (⟨(k : Int), tb, a.xs, b.xs, c.xs, (mx : Int), ch⟩ : O) (⟨a.ao, a.cap, b.ao, b.cap, c.ao, c.cap, no, nc, dO, dc⟩ : Ps) _ _ _ (K.out.2.2.2.in SF.out.2) rfl rfl).mono ?_
         rintro e w5 ⟨rfl, hb⟩
         have K5 := zh (za (step0 K.out.1 hb) (za (K.out.2.1.below hb) (za (K.out.2.2.1.below hb) (K.out.2.2.2.below hb))))
         clear hb
         obtain ⟨pe, hpe⟩ : ∃ pe, (⟨(k : Int), tb, a.xs, b.xs, c.xs, (mx : Int), ch⟩ : O).pe = pe := ⟨_, rfl⟩
         obtain ⟨P, hP⟩ : ∃ P, (⟨(k : Int), tb, a.xs, b.xs, c.xs, (mx : Int), ch⟩ : O).pb = P := ⟨_, rfl⟩
         obtain ⟨m, hm⟩ : ∃ m, l.length = m + l7.length := ⟨l.length - l7.length, by have := suf_len SF.out.1; omega⟩
         have em : l.length - l7.length = m := by omega
         have lb : (l.length : Int) ≤ 1000000 := by have := X.out.2; omega
         have hw : (l.length : Int) - (l7.length : Int) = (m : Int) := by omega
         have hmi : (m : Int) ≤ (l.length : Int) := by omega
         have hmn : m ≤ l.length := by omega
         have ct := cut_to l m
         obtain ⟨D, hD⟩ : ∃ D, l.take m = D := ⟨_, rfl⟩
         rw [hD] at ct
         have HR := zh (show (if pe ≠ 0 ∨ P ≠ D then (O0, [], (4 : Int)) else ((⟨(k : Int), tb, a.xs, b.xs, c.xs, (mx : Int), ch⟩ : O), l7, 0)) = R from by rw [← HR.out]; unfold rck2; rw [em, hpe, hP, hD])
         rw [hpe, hP]
         clear hpe hP hm hD em
         by_cases hp : pe = 0
         ·subst hp
          by_cases he : P = D
          ·have n1 : (P == D) = true := by simpa using he
           have n2 : (P != D) = false := bneq_f he
           have HR := zh (show ((⟨(k : Int), tb, a.xs, b.xs, c.xs, (mx : Int), ch⟩ : O), l7, (0 : Int)) = R from by rw [← HR.out, if_neg]; simp [he])
           clear he
           go_wp2_with (first | ((refine (?_ : wpList _ _ _ (Oper.mk _ (Op.load 48 _) _ _ _ _ :: _) _ _)); refine wpList_load_blk rfl 48 _ rfl (b9) rfl ((⟨(k : Int), tb, a.xs, b.xs, c.xs, (mx : Int), ch⟩ : O).a (⟨a.ao, a.cap, b.ao, b.cap, c.ao, c.cap, no, nc, dO, dc⟩ : Ps)) _ (K5.out.2.2.1) Tryz.underlying48 rfl (infoO) ?_; go_frame) | ((refine (?_ : wpList _ _ _ (Oper.mk _ (Op.store 48 _ _) _ _ _ _ :: _) _ _)); refine wpList_store_blk rfl 48 _ _ rfl (w.heap.size) (O0.a P0) ((⟨(k : Int), tb, a.xs, b.xs, c.xs, (mx : Int), ch⟩ : O).a (⟨a.ao, a.cap, b.ao, b.cap, c.ao, c.cap, no, nc, dO, dc⟩ : Ps)) rfl rfl (K5.out.2.1) (by first | rfl | simp [sa_size]) (infoO) (O.a_one _ _) ?_))
           intro w9 q9 r9
           go_wp2
           refine bodyPost_ret (results_3 Tryz.results19 rfl rfl rfl (loadO q9)) rfl ?_
           rw [← HR.out]
           exact ⟨(⟨a.ao, a.cap, b.ao, b.cap, c.ao, c.cap, no, nc, dO, dc⟩ : Ps), rfl, (K5.out.2.2.2.wr r9 (by omega)).mono (by omega), r9.below _ _ (Nat.le_refl _) K5.out.1⟩
          ·have n1 : (P == D) = false := by simpa using he
           have n2 : (P != D) = true := bneq_t he
           have Q := zh (show R = (O0, [], 4) from by rw [← HR.out, if_pos (.inr he)])
           clear he
           go_wp2_with ((refine (?_ : wpList _ _ _ (Oper.mk _ (Op.store 48 _ _) _ _ _ _ :: _) _ _)); refine wpList_store_blk rfl 48 _ _ rfl (w.heap.size) (O0.a P0) (O0.a P0) rfl rfl (K5.out.2.1) (by first | rfl | simp [sa_size]) (infoO) (O.a_one _ _) ?_)
           intro w9 q9 r9
           go_wp2
           refine bodyPost_ret (results_3 Tryz.results19 rfl rfl rfl (loadO q9)) rfl (RP.bad Q.out (r9.below _ _ (Nat.le_refl _) K5.out.1))
         ·have e1 := bne_t hp
          have Q := zh (show R = (O0, [], 4) from by rw [← HR.out, if_pos (.inl hp)])
          clear hp
          go_wp2_with ((refine (?_ : wpList _ _ _ (Oper.mk _ (Op.store 48 _ _) _ _ _ _ :: _) _ _)); refine wpList_store_blk rfl 48 _ _ rfl (w.heap.size) (O0.a P0) (O0.a P0) rfl rfl (K5.out.2.1) (by first | rfl | simp [sa_size]) (infoO) (O.a_one _ _) ?_)
          intro w9 q9 r9
          go_wp2
          refine bodyPost_ret (results_3 Tryz.results19 rfl rfl rfl (loadO q9)) rfl (RP.bad Q.out (r9.below _ _ (Nat.le_refl _) K5.out.1))
        ·have e1 := bne_t hE5
         have Q := zh (rdo_bad HX.out HQ.out (bnd_err rfl hE5 _ _) hE5)
         clear hE5
         go_wp2_with ((refine (?_ : wpList _ _ _ (Oper.mk _ (Op.store 48 _ _) _ _ _ _ :: _) _ _)); refine wpList_store_blk rfl 48 _ _ rfl (w.heap.size) (O0.a P0) (O0.a P0) rfl rfl (K12.out.2.1) (by first | rfl | simp [sa_size]) (infoO) (O.a_one _ _) ?_)
         intro w9 q9 r9
         go_wp2
         refine bodyPost_ret (results_3 Tryz.results19 rfl rfl rfl (loadO q9)) rfl (RP.bad Q.out (r9.below _ _ (Nat.le_refl _) K12.out.1))
       ·have e6 : ((k : Int) == 6) = false := by simp; omega
        have HQ := zh (show (((⟨(k : Int), tb, a.xs, b.xs, c.xs, (mx : Int), Ch0⟩ : O) : O), l6, (0 : Int)) = rop l from by rw [← HQ.out]; unfold roc; rw [if_neg h6])
        have K := zh K9.out
        clear h6
        have s1 := rop_sf l
        have k1 := rop_okv l
        rw [← HQ.out] at s1 k1
        simp only at s1 k1
        have SF := zh (za s1 k1)
        have HR := zh (show rck2 l (⟨(k : Int), tb, a.xs, b.xs, c.xs, (mx : Int), Ch0⟩ : O) l6 = R from by rw [← HX.out, ← HQ.out, bnd_ok rfl])
        clear s1 k1
        go_wp2_with ((refine (?_ : wpList _ _ _ (Oper.mk _ (Op.load 48 _) _ _ _ _ :: _) _ _)); refine wpList_load_blk rfl 48 _ rfl (b9) rfl ((⟨(k : Int), tb, a.xs, b.xs, c.xs, (mx : Int), Ch0⟩ : O).a (⟨a.ao, a.cap, b.ao, b.cap, c.ao, c.cap, none, 0, none, 0⟩ : Ps)) _ (K.out.2.2.1) Tryz.underlying48 rfl (infoO) ?_; go_frame)
        refine (rputo_is (⟨(k : Int), tb, a.xs, b.xs, c.xs, (mx : Int), Ch0⟩ : O) (⟨a.ao, a.cap, b.ao, b.cap, c.ao, c.cap, none, 0, none, 0⟩ : Ps) _ _ _ (K.out.2.2.2.in SF.out.2) rfl rfl).mono ?_
        rintro e w5 ⟨rfl, hb⟩
        have K5 := zh (za (step0 K.out.1 hb) (za (K.out.2.1.below hb) (za (K.out.2.2.1.below hb) (K.out.2.2.2.below hb))))
        clear hb
        obtain ⟨pe, hpe⟩ : ∃ pe, (⟨(k : Int), tb, a.xs, b.xs, c.xs, (mx : Int), Ch0⟩ : O).pe = pe := ⟨_, rfl⟩
        obtain ⟨P, hP⟩ : ∃ P, (⟨(k : Int), tb, a.xs, b.xs, c.xs, (mx : Int), Ch0⟩ : O).pb = P := ⟨_, rfl⟩
        obtain ⟨m, hm⟩ : ∃ m, l.length = m + l6.length := ⟨l.length - l6.length, by have := suf_len SF.out.1; omega⟩
        have em : l.length - l6.length = m := by omega
        have lb : (l.length : Int) ≤ 1000000 := by have := X.out.2; omega
        have hw : (l.length : Int) - (l6.length : Int) = (m : Int) := by omega
        have hmi : (m : Int) ≤ (l.length : Int) := by omega
        have hmn : m ≤ l.length := by omega
        have ct := cut_to l m
        obtain ⟨D, hD⟩ : ∃ D, l.take m = D := ⟨_, rfl⟩
        rw [hD] at ct
        have HR := zh (show (if pe ≠ 0 ∨ P ≠ D then (O0, [], (4 : Int)) else ((⟨(k : Int), tb, a.xs, b.xs, c.xs, (mx : Int), Ch0⟩ : O), l6, 0)) = R from by rw [← HR.out]; unfold rck2; rw [em, hpe, hP, hD])
        rw [hpe, hP]
        clear hpe hP hm hD em
        by_cases hp : pe = 0
        ·subst hp
         by_cases he : P = D
         ·have n1 : (P == D) = true := by simpa using he
          have n2 : (P != D) = false := bneq_f he
          have HR := zh (show ((⟨(k : Int), tb, a.xs, b.xs, c.xs, (mx : Int), Ch0⟩ : O), l6, (0 : Int)) = R from by rw [← HR.out, if_neg]; simp [he])
          clear he
          go_wp2_with (first | ((refine (?_ : wpList _ _ _ (Oper.mk _ (Op.load 48 _) _ _ _ _ :: _) _ _)); refine wpList_load_blk rfl 48 _ rfl (b9) rfl ((⟨(k : Int), tb, a.xs, b.xs, c.xs, (mx : Int), Ch0⟩ : O).a (⟨a.ao, a.cap, b.ao, b.cap, c.ao, c.cap, none, 0, none, 0⟩ : Ps)) _ (K5.out.2.2.1) Tryz.underlying48 rfl (infoO) ?_; go_frame) | ((refine (?_ : wpList _ _ _ (Oper.mk _ (Op.store 48 _ _) _ _ _ _ :: _) _ _)); refine wpList_store_blk rfl 48 _ _ rfl (w.heap.size) (O0.a P0) ((⟨(k : Int), tb, a.xs, b.xs, c.xs, (mx : Int), Ch0⟩ : O).a (⟨a.ao, a.cap, b.ao, b.cap, c.ao, c.cap, none, 0, none, 0⟩ : Ps)) rfl rfl (K5.out.2.1) (by first | rfl | simp [sa_size]) (infoO) (O.a_one _ _) ?_))
          intro w9 q9 r9
          go_wp2
          refine bodyPost_ret (results_3 Tryz.results19 rfl rfl rfl (loadO q9)) rfl ?_
          rw [← HR.out]
          exact ⟨(⟨a.ao, a.cap, b.ao, b.cap, c.ao, c.cap, none, 0, none, 0⟩ : Ps), rfl, (K5.out.2.2.2.wr r9 (by omega)).mono (by omega), r9.below _ _ (Nat.le_refl _) K5.out.1⟩
         ·have n1 : (P == D) = false := by simpa using he
          have n2 : (P != D) = true := bneq_t he
          have Q := zh (show R = (O0, [], 4) from by rw [← HR.out, if_pos (.inr he)])
          clear he
          go_wp2_with ((refine (?_ : wpList _ _ _ (Oper.mk _ (Op.store 48 _ _) _ _ _ _ :: _) _ _)); refine wpList_store_blk rfl 48 _ _ rfl (w.heap.size) (O0.a P0) (O0.a P0) rfl rfl (K5.out.2.1) (by first | rfl | simp [sa_size]) (infoO) (O.a_one _ _) ?_)
          intro w9 q9 r9
          go_wp2
          refine bodyPost_ret (results_3 Tryz.results19 rfl rfl rfl (loadO q9)) rfl (RP.bad Q.out (r9.below _ _ (Nat.le_refl _) K5.out.1))
        ·have e1 := bne_t hp
         have Q := zh (show R = (O0, [], 4) from by rw [← HR.out, if_pos (.inl hp)])
         clear hp
         go_wp2_with ((refine (?_ : wpList _ _ _ (Oper.mk _ (Op.store 48 _ _) _ _ _ _ :: _) _ _)); refine wpList_store_blk rfl 48 _ _ rfl (w.heap.size) (O0.a P0) (O0.a P0) rfl rfl (K5.out.2.1) (by first | rfl | simp [sa_size]) (infoO) (O.a_one _ _) ?_)
         intro w9 q9 r9
         go_wp2
         refine bodyPost_ret (results_3 Tryz.results19 rfl rfl rfl (loadO q9)) rfl (RP.bad Q.out (r9.below _ _ (Nat.le_refl _) K5.out.1))
      ·have e1 := bne_t hE3
       have Q := zh (rdo_bad HX.out HQ.out (bnd_err rfl hE3 _ _) hE3)
       clear hE3
       go_wp2_with ((refine (?_ : wpList _ _ _ (Oper.mk _ (Op.store 48 _ _) _ _ _ _ :: _) _ _)); refine wpList_store_blk rfl 48 _ _ rfl (w.heap.size) (O0.a P0) (O0.a P0) rfl rfl (K4.out.2.1) (by first | rfl | simp [sa_size]) (infoO) (O.a_one _ _) ?_)
       intro w9 q9 r9
       go_wp2
       refine bodyPost_ret (results_3 Tryz.results19 rfl rfl rfl (loadO q9)) rfl (RP.bad Q.out (r9.below _ _ (Nat.le_refl _) K4.out.1))
   ·have e1 := bne_t hE2
    have Q := zh (rdo_bad HX.out HQ.out (bnd_err rfl hE2 _ _) hE2)
    clear hE2
    go_wp2_with ((refine (?_ : wpList _ _ _ (Oper.mk _ (Op.store 48 _ _) _ _ _ _ :: _) _ _)); refine wpList_store_blk rfl 48 _ _ rfl (w.heap.size) (O0.a P0) (O0.a P0) rfl rfl (K2.out.2) (by first | rfl | simp [sa_size]) (infoO) (O.a_one _ _) ?_)
    intro w9 q9 r9
    go_wp2
    refine bodyPost_ret (results_3 Tryz.results19 rfl rfl rfl (loadO q9)) rfl (RP.bad Q.out (r9.below _ _ (Nat.le_refl _) K2.out.1))
 ·have e1 := bne_t hE
  have e2 : (E == 0) = false := by simpa using hE
  have Q := zh (rdo_bad HX.out HQ.out (by rw [smb_er 9 X.out.1.1 hE]; exact bnd_err rfl hE _ _) hE)
  clear hE
  go_wp2_with ((refine (?_ : wpList _ _ _ (Oper.mk _ (Op.store 48 _ _) _ _ _ _ :: _) _ _)); refine wpList_store_blk rfl 48 _ _ rfl (w.heap.size) (O0.a P0) (O0.a P0) rfl rfl (K1.out.2) (by first | rfl | simp [sa_size]) (infoO) (O.a_one _ _) ?_)
  intro w9 q9 r9
  go_wp2
  refine bodyPost_ret (results_3 Tryz.results19 rfl rfl rfl (loadO q9)) rfl (RP.bad Q.out (r9.below _ _ (Nat.le_refl _) K1.out.1))
end Go.Proofs.YtmgdciihpjifgaaGreatDoor
