/-
 What bytes begin with, by the document: ReadChange. Conditions: texts of 1000000 bytes at most.
-/
import Derived.Test.YtmgdciihpjifgaaGreatDoorQrOpRefC
import Derived.Test.YtmgdciihpjifgaaGreatDoorQrOpRefR
import Derived.Test.YtmgdciihpjifgaaGreatDoorQrOpReadG
import Derived.Test.YtmgdciihpjifgaaGreatDoorQrScRefColB
import Derived.BigRegion
import Derived.Deep.DeepCutAuto
import Derived.Deep.RegionHeld3
set_option maxHeartbeats 16000000
namespace Go.Proofs.YtmgdciihpjifgaaGreatDoor
open Go.RowKit
set_option linter.unusedVariables false
set_option linter.unusedSimpArgs false
theorem rdch_is (l : List UInt8) : rdch l = bnd (smb 1 6 1 l) Ch0 fun k l1 => bnd (rts 5 l1) Ch0 fun ts l2 => bnd (small 100 1 l2) Ch0 fun ty l3 => bnd (small 8 1 l3) Ch0 fun n l4 => bnd (rts n l4) Ch0 fun ns l5 => bnd (rtb (mkc k ts ty ns) l5) Ch0 (rck l) := by
 unfold rdch rfs
 simp only [bnd_bnd]
 rfl
theorem smb_lo {l r : List UInt8} {N : Nat} (top : Nat) (h : small top 1 l = (N, r, 0)) (h0 : N = 0) : smb 1 top 1 l = (0, [], 1) := by
 unfold smb
 rw [h, if_pos ⟨rfl, by omega⟩]
theorem smb_hi {l r : List UInt8} {N : Nat} (top : Nat) (h : small top 1 l = (N, r, 0)) (h0 : ¬ N = 0) : smb 1 top 1 l = (N, r, 0) := by
 unfold smb
 rw [h, if_neg (by rintro ⟨_, g⟩; simp only at g; omega)]
theorem smb_er {l r : List UInt8} {N : Nat} {e : Int} (top : Nat) (h : small top 1 l = (N, r, e)) (he : ¬ e = 0) : smb 1 top 1 l = (N, r, e) := by
 unfold smb
 rw [h, if_neg (by rintro ⟨g, _⟩; exact he g)]
theorem slc_n (W : World) (ao : Option Addr) : SlC W ao [] := fun i x h => by simp at h
set_option maxRecDepth 100000 in
theorem rreadC_is (l : List UInt8) (w : World) (hl : l.length ≤ 1000000) :
  Calls Tryz.prog 13 #[.string ⟨l.toArray⟩] w (RC (rdch l) w) := by
 have hmx : Tryz.prog.follows .mixedOrders = true := by kernel_rfl
 obtain ⟨k, l1, E, h1⟩ : ∃ k l1 E, small 6 1 l = (k, l1, E) := ⟨_, _, _, rfl⟩
 have n1 := small_sf 6 1 l
 rw [h1] at n1
 have X := zh (za (za h1 n1) hl)
 have S1 := zh (show l1.length ≤ 1000000 by have := suf_len n1; simp only at this; omega)
 obtain ⟨R, hR⟩ : ∃ R, rdch l = R := ⟨_, rfl⟩
 rw [hR]
 have HR := zh (show _ = R from (by rw [← hR, rdch_is]))
 clear n1 h1 hl hR
 go_enter Tryz.func13, Tryz.ntmps13
 go_wp2_with fail
 refine (rbelow_is 7 6 k E l l1 k _ rfl (by decide) X.out.1.1 rfl).mono ?_
 rintro y w1 ⟨rfl, hb⟩
 have q2 := (Blk.new w (Ch0.a none 0 none 0) 32).below hb
 have K1 := zh (za (step1 (Below.refl _ w) hb) q2)
 clear hb q2
 by_cases hE : E = 0
 ·subst hE
  by_cases hk : k = 0
  ·have e0 : ((k : Int) == 0) = true := by simp; omega
   have Q := zh (show R = (Ch0, [], 1) from by rw [← HR.out, smb_lo 6 X.out.1.1 hk]; exact bnd_err rfl (by decide) _ _)
   clear hk
   go_wp2_with ((refine (?_ : wpList _ _ _ (Oper.mk _ (Op.store 32 _ _) _ _ _ _ :: _) _ _)); refine wpList_store_blk rfl 32 _ _ rfl (w.heap.size) (Ch0.a none 0 none 0) (Ch0.a none 0 none 0) rfl rfl (K1.out.2) (by first | rfl | simp [sa_size]) (infoCh) (Ch.a_one _ _ _ _ _) ?_)
   intro w9 q9 r9
   go_wp2
   refine bodyPost_ret (results_3 Tryz.results13 rfl rfl rfl (loadCh q9)) rfl (RC.bad Q.out (r9.below _ _ (Nat.le_refl _) K1.out.1))
  ·have e0 : ((k : Int) == 0) = false := by simp; omega
   have HR := zh (show _ = R from by rw [← HR.out, smb_hi 6 X.out.1.1 hk, bnd_ok rfl])
   clear hk
   obtain ⟨ts, l2, E2, h2⟩ : ∃ a b c, rts 5 l1 = (a, b, c) := ⟨_, _, _, rfl⟩
   have n2 := rts_sf 5 l1
   rw [h2] at n2
   have X2 := zh (za h2 n2)
   have S2 := zh (show l2.length ≤ 1000000 by have := suf_len n2; simp only at this; have := S1.out; omega)
   have HR := zh (show _ = R from by rw [← HR.out, h2])
   clear h2 n2
   go_wp2_with fail
   refine (rtexts_is l1 5 _ S1.out (by decide)).mono ?_
   intro e w2 hrn
   obtain ⟨mo, mc, rfl, hsl, hup, hb⟩ := hrn.sl
   rw [X2.out.1] at hsl ⊢
   simp only at hsl ⊢
   obtain ⟨n, hn⟩ : ∃ n, ts.length = n := ⟨_, rfl⟩
   rw [hn]
   have K2 := zh (za (step0 K1.out.1 hb) (za (K1.out.2.below hb) (za hsl hn)))
   have Ne := zh (show w.heap.size < w2.heap.size from K2.out.2.1.lt)
   clear hrn hsl hup hb hn
   by_cases hE2 : E2 = 0
   ·subst hE2
    have HR := zh ((bnd_ok rfl _ _).symm.trans HR.out)
    obtain rfl : n = 5 := K2.out.2.2.2.symm.trans (rts_len 5 l1 ts l2 X2.out.1)
    obtain ⟨a0, a1, a2, a3, a4, rfl⟩ := sa5 ts K2.out.2.2.2
    obtain ⟨a, rfl, c0⟩ := K2.out.2.2.1 0 a0 rfl
    obtain ⟨_, ha, c1⟩ := K2.out.2.2.1 1 a1 rfl
    cases ha
    obtain ⟨_, ha, c2⟩ := K2.out.2.2.1 2 a2 rfl
    cases ha
    obtain ⟨_, ha, c3⟩ := K2.out.2.2.1 3 a3 rfl
    cases ha
    obtain ⟨_, ha, c4⟩ := K2.out.2.2.1 4 a4 rfl
    cases ha
    have hA : a.block < w2.heap.size := by have := cell_lt c0; rwa [add_block] at this
    have c0 : w2.cell? a = some (.string ⟨a0.toArray⟩) := c0
    have c1 : w2.cell? ⟨a.block, a.off + 1, none⟩ = some (.string ⟨a1.toArray⟩) := c1
    have c2 : w2.cell? ⟨a.block, a.off + 2, none⟩ = some (.string ⟨a2.toArray⟩) := c2
    have c3 : w2.cell? ⟨a.block, a.off + 3, none⟩ = some (.string ⟨a3.toArray⟩) := c3
    have c4 : w2.cell? ⟨a.block, a.off + 4, none⟩ = some (.string ⟨a4.toArray⟩) := c4
    go_wp2
    go_cut [9] (fun s wx => ∃ b9, s = .pointer (some ⟨b9, 0, none⟩) ∧ w.heap.size < b9 ∧ Below w.heap.size w wx ∧ Blk wx w.heap.size (Ch0.a none 0 none 0) 32 ∧ Blk wx b9 ((⟨(k : Int), a0, a1, a2, a3, a4, 0, [], C0, T0⟩ : Ch).a none 0 none 0) 32)
    case first =>
     refine wp_region_held_drew (S := fun v => Blk v w.heap.size (Ch0.a none 0 none 0) 32 ∧ v.cell? a = some (.string ⟨a0.toArray⟩) ∧ v.cell? ⟨a.block, a.off + 1, none⟩ = some (.string ⟨a1.toArray⟩) ∧ v.cell? ⟨a.block, a.off + 2, none⟩ = some (.string ⟨a2.toArray⟩) ∧ v.cell? ⟨a.block, a.off + 3, none⟩ = some (.string ⟨a3.toArray⟩) ∧ v.cell? ⟨a.block, a.off + 4, none⟩ = some (.string ⟨a4.toArray⟩)) (by kernel_rfl) ⟨K2.out.2.1, c0, c1, c2, c3, c4⟩ (fun hH => ?_)
     obtain ⟨v0, hv0⟩ : ∃ v, World.drew w2 = v := ⟨_, rfl⟩
     rw [hv0] at hH ⊢
     have D := zh (show Below w.heap.size w v0 ∧ Blk v0 w.heap.size (Ch0.a none 0 none 0) 32 ∧ v0.cell? a = some (.string ⟨a0.toArray⟩) ∧ v0.cell? ⟨a.block, a.off + 1, none⟩ = some (.string ⟨a1.toArray⟩) ∧ v0.cell? ⟨a.block, a.off + 2, none⟩ = some (.string ⟨a2.toArray⟩) ∧ v0.cell? ⟨a.block, a.off + 3, none⟩ = some (.string ⟨a3.toArray⟩) ∧ v0.cell? ⟨a.block, a.off + 4, none⟩ = some (.string ⟨a4.toArray⟩) from hv0 ▸ ⟨K2.out.1.drew, K2.out.2.1.drew, c0, c1, c2, c3, c4⟩)
     clear hv0 c0 c1 c2 c3 c4
     refine wpAnyH_take (i := 0) (oi := _) (v := .int .i64 (k : Int)) rfl (by kernel_rfl) (by kernel_rfl) (by kernel_rfl) (fun _ _ _ h => h) (Or.inl ⟨by rfl, by intro v hv; go_simp⟩) hH ?_
     try simp only [Act.put, zyc, zyd, zye, zyf, zyi, zyj]
     refine wpAnyH_take (i := 1) (oi := _) (v := .slice (some a) 5 mc) rfl (by kernel_rfl) (by kernel_rfl) (by kernel_rfl) (fun _ _ _ h => h) (Or.inl ⟨by rfl, by intro v hv; go_simp⟩) hH ?_
     try simp only [Act.put, zyc, zyd, zye, zyf, zyi, zyj]
     refine wpAnyH_take (i := 2) (oi := _) (v := .pointer (some a)) rfl (by kernel_rfl) (by kernel_rfl) (by kernel_rfl) (fun _ _ _ h => h) (Or.inl ⟨by rfl, by intro v hv; go_simp⟩) hH ?_
     try simp only [Act.put, zyc, zyd, zye, zyf, zyi, zyj]
     refine wpAnyH_take (i := 3) (oi := _) (v := .string ⟨a0.toArray⟩) rfl (by kernel_rfl) (by kernel_rfl) (by kernel_rfl) (fun _ _ _ h => h) (Or.inl ⟨by rfl, by intro v hv; obtain ⟨_, e0, e1, e2, e3, e4⟩ := hv; go_simp⟩) hH ?_
     try simp only [Act.put, zyc, zyd, zye, zyf, zyi, zyj]
     refine wpAnyH_take (i := 4) (oi := _) (v := .slice (some a) 5 mc) rfl (by kernel_rfl) (by kernel_rfl) (by kernel_rfl) (fun _ _ _ h => h) (Or.inl ⟨by rfl, by intro v hv; go_simp⟩) hH ?_
     try simp only [Act.put, zyc, zyd, zye, zyf, zyi, zyj]
     refine wpAnyH_take (i := 5) (oi := _) (v := .pointer (some ⟨a.block, a.off + 1, none⟩)) rfl (by kernel_rfl) (by kernel_rfl) (by kernel_rfl) (fun _ _ _ h => h) (Or.inl ⟨by rfl, by intro v hv; go_simp⟩) hH ?_
     try simp only [Act.put, zyc, zyd, zye, zyf, zyi, zyj]
     refine wpAnyH_take (i := 6) (oi := _) (v := .string ⟨a1.toArray⟩) rfl (by kernel_rfl) (by kernel_rfl) (by kernel_rfl) (fun _ _ _ h => h) (Or.inl ⟨by rfl, by intro v hv; obtain ⟨_, e0, e1, e2, e3, e4⟩ := hv; go_simp⟩) hH ?_
     try simp only [Act.put, zyc, zyd, zye, zyf, zyi, zyj]
     refine wpAnyH_take (i := 7) (oi := _) (v := .slice (some a) 5 mc) rfl (by kernel_rfl) (by kernel_rfl) (by kernel_rfl) (fun _ _ _ h => h) (Or.inl ⟨by rfl, by intro v hv; go_simp⟩) hH ?_
     try simp only [Act.put, zyc, zyd, zye, zyf, zyi, zyj]
     refine wpAnyH_take (i := 8) (oi := _) (v := .pointer (some ⟨a.block, a.off + 2, none⟩)) rfl (by kernel_rfl) (by kernel_rfl) (by kernel_rfl) (fun _ _ _ h => h) (Or.inl ⟨by rfl, by intro v hv; go_simp⟩) hH ?_
     try simp only [Act.put, zyc, zyd, zye, zyf, zyi, zyj]
     refine wpAnyH_take (i := 9) (oi := _) (v := .string ⟨a2.toArray⟩) rfl (by kernel_rfl) (by kernel_rfl) (by kernel_rfl) (fun _ _ _ h => h) (Or.inl ⟨by rfl, by intro v hv; obtain ⟨_, e0, e1, e2, e3, e4⟩ := hv; go_simp⟩) hH ?_
     try simp only [Act.put, zyc, zyd, zye, zyf, zyi, zyj]
     refine wpAnyH_take (i := 10) (oi := _) (v := .slice (some a) 5 mc) rfl (by kernel_rfl) (by kernel_rfl) (by kernel_rfl) (fun _ _ _ h => h) (Or.inl ⟨by rfl, by intro v hv; go_simp⟩) hH ?_
     try simp only [Act.put, zyc, zyd, zye, zyf, zyi, zyj]
     refine wpAnyH_take (i := 11) (oi := _) (v := .pointer (some ⟨a.block, a.off + 3, none⟩)) rfl (by kernel_rfl) (by kernel_rfl) (by kernel_rfl) (fun _ _ _ h => h) (Or.inl ⟨by rfl, by intro v hv; go_simp⟩) hH ?_
     try simp only [Act.put, zyc, zyd, zye, zyf, zyi, zyj]
     refine wpAnyH_take (i := 12) (oi := _) (v := .string ⟨a3.toArray⟩) rfl (by kernel_rfl) (by kernel_rfl) (by kernel_rfl) (fun _ _ _ h => h) (Or.inl ⟨by rfl, by intro v hv; obtain ⟨_, e0, e1, e2, e3, e4⟩ := hv; go_simp⟩) hH ?_
     try simp only [Act.put, zyc, zyd, zye, zyf, zyi, zyj]
     refine wpAnyH_take (i := 13) (oi := _) (v := .slice (some a) 5 mc) rfl (by kernel_rfl) (by kernel_rfl) (by kernel_rfl) (fun _ _ _ h => h) (Or.inl ⟨by rfl, by intro v hv; go_simp⟩) hH ?_
     try simp only [Act.put, zyc, zyd, zye, zyf, zyi, zyj]
     refine wpAnyH_take (i := 14) (oi := _) (v := .pointer (some ⟨a.block, a.off + 4, none⟩)) rfl (by kernel_rfl) (by kernel_rfl) (by kernel_rfl) (fun _ _ _ h => h) (Or.inl ⟨by rfl, by intro v hv; go_simp⟩) hH ?_
     try simp only [Act.put, zyc, zyd, zye, zyf, zyi, zyj]
     refine wpAnyH_take (i := 15) (oi := _) (v := .string ⟨a4.toArray⟩) rfl (by kernel_rfl) (by kernel_rfl) (by kernel_rfl) (fun _ _ _ h => h) (Or.inl ⟨by rfl, by intro v hv; obtain ⟨_, e0, e1, e2, e3, e4⟩ := hv; go_simp⟩) hH ?_
     try simp only [Act.put, zyc, zyd, zye, zyf, zyi, zyj]
     refine wpAnyH_take (i := 16) (oi := _) (v := .agg ((⟨(k : Int), a0, a1, a2, a3, a4, 0, [], C0, T0⟩ : Ch).a none 0 none 0)) rfl (by kernel_rfl) (by kernel_rfl) (by kernel_rfl) (fun _ _ _ h => h) (Or.inl ⟨by rfl, by intro v hv; first | rfl | (go_simp; rfl)⟩) hH ?_
     try simp only [Act.put, zyc, zyd, zye, zyf, zyi, zyj]
     refine wpAnyH_ready (rs := [17]) (by kernel_rfl) (by simp) ?_
     refine AllReadyH.cons (o := _) rfl (fun K' hK => ?_) AllReadyH.nil
     go_simp
     refine hK.out _ (v0.alloc (.cells (Ch0.a none 0 none 0) 32)) ⟨D.out.2.1.alloc _, keep0 D.out.2.2.1 (below1 v0 _), keep0 D.out.2.2.2.1 (below1 v0 _), keep0 D.out.2.2.2.2.1 (below1 v0 _), keep0 D.out.2.2.2.2.2.1 (below1 v0 _), keep0 D.out.2.2.2.2.2.2 (below1 v0 _)⟩ (fun hH => ?_)
     clear hK K'
     have q9 : Blk (v0.alloc (.cells (Ch0.a none 0 none 0) 32)) v0.heap.size (Ch0.a none 0 none 0) 32 := Blk.new v0 (Ch0.a none 0 none 0) _
     have D1 := zh (show Below w.heap.size w (v0.alloc (.cells (Ch0.a none 0 none 0) 32)) ∧ Blk (v0.alloc (.cells (Ch0.a none 0 none 0) 32)) w.heap.size (Ch0.a none 0 none 0) 32 ∧ (v0.alloc (.cells (Ch0.a none 0 none 0) 32)).cell? a = some (.string ⟨a0.toArray⟩) ∧ (v0.alloc (.cells (Ch0.a none 0 none 0) 32)).cell? ⟨a.block, a.off + 1, none⟩ = some (.string ⟨a1.toArray⟩) ∧ (v0.alloc (.cells (Ch0.a none 0 none 0) 32)).cell? ⟨a.block, a.off + 2, none⟩ = some (.string ⟨a2.toArray⟩) ∧ (v0.alloc (.cells (Ch0.a none 0 none 0) 32)).cell? ⟨a.block, a.off + 3, none⟩ = some (.string ⟨a3.toArray⟩) ∧ (v0.alloc (.cells (Ch0.a none 0 none 0) 32)).cell? ⟨a.block, a.off + 4, none⟩ = some (.string ⟨a4.toArray⟩) from ⟨D.out.1.alloc D.out.1.size _, D.out.2.1.alloc _, keep0 D.out.2.2.1 (below1 v0 _), keep0 D.out.2.2.2.1 (below1 v0 _), keep0 D.out.2.2.2.2.1 (below1 v0 _), keep0 D.out.2.2.2.2.2.1 (below1 v0 _), keep0 D.out.2.2.2.2.2.2 (below1 v0 _)⟩)
     have la := zh (cell_lt D.out.2.2.1)
     have lw := zh D.out.2.1.lt
     obtain ⟨b9, hb9⟩ : ∃ b, v0.heap.size = b := ⟨_, rfl⟩
     obtain ⟨v1, hv1⟩ : ∃ v, v0.alloc (.cells (Ch0.a none 0 none 0) 32) = v := ⟨_, rfl⟩
     rw [hb9] at q9 la lw
     rw [hv1] at q9 D1 hH ⊢
     try rw [hb9]
     clear hv1
     try simp only [Act.put, zyc, zyd, zye, zyf, zyi, zyj]
     refine wpAnyH_ready (rs := [18]) (by kernel_rfl) (by simp) ?_
     refine AllReadyH.cons (o := _) rfl (fun K' hK => ?_) AllReadyH.nil
     rw [if_pos (by rfl)]
     refine wp_store_mid 32 _ _ rfl b9 0 ((⟨(k : Int), a0, a1, a2, a3, a4, 0, [], C0, T0⟩ : Ch).a none 0 none 0) rfl rfl (show v1.there b9 0 ((⟨(k : Int), a0, a1, a2, a3, a4, 0, [], C0, T0⟩ : Ch).a none 0 none 0).size from q9.there) infoCh (Ch.a_one _ _ _ _ _) ?_
     have r := Wr.all b9 ((⟨(k : Int), a0, a1, a2, a3, a4, 0, [], C0, T0⟩ : Ch).a none 0 none 0).toList 0 v1
     have st := Blk.stored (cells := (⟨(k : Int), a0, a1, a2, a3, a4, 0, [], C0, T0⟩ : Ch).a none 0 none 0) q9 rfl
     obtain ⟨v2, hv2⟩ : ∃ v, v1.setCells b9 0 ((⟨(k : Int), a0, a1, a2, a3, a4, 0, [], C0, T0⟩ : Ch).a none 0 none 0).toList = v := ⟨_, rfl⟩
     rw [hv2] at r st ⊢
     clear hv2
     have l2 := la.out
     have l3 := lw.out
     refine hK.out _ _ ⟨D1.out.2.1.wr r (by omega), (r.cell _ (by omega)).trans D1.out.2.2.1, (r.cell _ (by simp only; omega)).trans D1.out.2.2.2.1, (r.cell _ (by simp only; omega)).trans D1.out.2.2.2.2.1, (r.cell _ (by simp only; omega)).trans D1.out.2.2.2.2.2.1, (r.cell _ (by simp only; omega)).trans D1.out.2.2.2.2.2.2⟩ (fun hH => ?_)
     clear hK K'
     try simp only [Act.put, zyc, zyd, zye, zyf, zyi, zyj]
     refine wpAnyH_done (by kernel_rfl) ?_ _
     go_wp2_with fail
     go_meet
     exact ⟨b9, rfl, l3, r.below _ _ (by omega) D1.out.1, D1.out.2.1.wr r (by omega), st⟩
    obtain ⟨b9, rfl, hlt9, kb, k0, k9⟩ := hcut
    rename World => w4
    have K4 := zh (za kb (za k0 k9))
    have Ne := zh hlt9
    clear kb k0 k9 hlt9
    obtain ⟨ty, l3, E3, h3⟩ : ∃ a b c, small 100 1 l2 = (a, b, c) := ⟨_, _, _, rfl⟩
    have n3 := small_sf 100 1 l2
    rw [h3] at n3
    have X3 := zh (za h3 n3)
    have S3 := zh (show l3.length ≤ 1000000 by have := suf_len n3; simp only at this; have := S2.out; omega)
    have HR := zh (show _ = R from by rw [← HR.out, h3])
    clear h3 n3
    go_wp2_with fail
    refine (rbelow_is 101 100 ty E3 l2 l3 ty _ rfl (by decide) X3.out.1 rfl).mono ?_
    rintro y w5 ⟨rfl, hb⟩
    have K5 := zh (za (step0 K4.out.1 hb) (za (K4.out.2.1.below hb) (K4.out.2.2.below hb)))
    clear hb
    by_cases hE3 : E3 = 0
    ·subst hE3
     have HR := zh ((bnd_ok rfl _ _).symm.trans HR.out)
     obtain ⟨n, l4, E4, h4⟩ : ∃ a b c, small 8 1 l3 = (a, b, c) := ⟨_, _, _, rfl⟩
     have n4 := small_sf 8 1 l3
     have t4 := small_top 8 1 l3
     rw [h4] at n4 t4
     have X4 := zh (za h4 (za n4 (show n ≤ 1000 by simp only at t4; omega)))
     have S4 := zh (show l4.length ≤ 1000000 by have := suf_len n4; simp only at this; have := S3.out; omega)
     have HR := zh (show _ = R from by rw [← HR.out, h4])
     clear h4 n4 t4
     go_wp2_with fail
     refine (rbelow_is 9 8 n E4 l3 l4 n _ rfl (by decide) X4.out.1 rfl).mono ?_
     rintro y w6 ⟨rfl, hb⟩
     have K6 := zh (za (step0 K5.out.1 hb) (za (K5.out.2.1.below hb) (K5.out.2.2.below hb)))
     clear hb
     by_cases hE4 : E4 = 0
     ·subst hE4
      have HR := zh ((bnd_ok rfl _ _).symm.trans HR.out)
      obtain ⟨ns, l5, E5, h5⟩ : ∃ a b c, rts n l4 = (a, b, c) := ⟨_, _, _, rfl⟩
      have n5 := rts_sf n l4
      rw [h5] at n5
      have X5 := zh (za h5 n5)
      have S5 := zh (show l5.length ≤ 1000000 by have := suf_len n5; simp only at this; have := S4.out; omega)
      have HR := zh (show _ = R from by rw [← HR.out, h5])
      clear h5 n5
      go_wp2_with fail
      refine (rtexts_is l4 n _ S4.out X4.out.2.2).mono ?_
      intro e w7 hrn
      obtain ⟨no, nc, rfl, hsl, hup, hb⟩ := hrn.sl
      rw [X5.out.1] at hsl ⊢
      simp only at hsl ⊢
      have K7 := zh (za (step0 K6.out.1 hb) (za (K6.out.2.1.below hb) (za (K6.out.2.2.below hb) (za hsl (hup.mono (show b9 + 1 ≤ _ from K6.out.2.2.lt))))))
      clear hrn hsl hup hb
      by_cases hE5 : E5 = 0
      ·subst hE5
       have HR := zh (show bnd (rtb (⟨(k : Int), a0, a1, a2, a3, a4, (ty : Int), ns, C0, T0⟩ : Ch) l5) Ch0 (rck l) = R from (bnd_ok rfl _ _).symm.trans HR.out)
       have SF5 := zh (X5.out.2.trans (X4.out.2.1.trans (X3.out.2.trans (X2.out.2.trans X.out.1.2))))
       have qc := K7.out.2.2.1.cell
       have qf := K7.out.2.2.1.frozen
       have BC : Blk ((w7.setCell ⟨b9, 6, none⟩ (.int .i64 (ty : Int))).setCell ⟨b9, 7, none⟩ (.slice no ns.length nc)) b9 ((⟨(k : Int), a0, a1, a2, a3, a4, (ty : Int), ns, C0, T0⟩ : Ch).a no nc none 0) 32 := by
        have := (K7.out.2.2.1.setAt 6 (.int .i64 (ty : Int))).setAt 7 (.slice no ns.length nc)
        rwa [Ch.set6, Ch.set7] at this
       have WR : Wr w7 ((w7.setCell ⟨b9, 6, none⟩ (.int .i64 (ty : Int))).setCell ⟨b9, 7, none⟩ (.slice no ns.length nc)) b9 := (Wr.one _ _ 6 _).trans (Wr.one _ _ 7 _)
       obtain ⟨w8, hw8⟩ : ∃ w8, (w7.setCell ⟨b9, 6, none⟩ (.int .i64 (ty : Int))).setCell ⟨b9, 7, none⟩ (.slice no ns.length nc) = w8 := ⟨_, rfl⟩
       rw [hw8] at BC WR
       have K8 := zh (za (WR.below _ _ (by have := Ne.out; omega) K7.out.1) (za (K7.out.2.1.wr WR (by have := Ne.out; omega)) (za BC (za (WR.sls K7.out.2.2.2.1 K7.out.2.2.2.2 (by omega)) K7.out.2.2.2.2))))
       clear BC WR
       by_cases hk1 : k = 1
       ·have f1 : ((k : Int) == 1) = true := by first | omega | (simp; omega)
        obtain ⟨t, l6, E6, h6⟩ : ∃ a b c, rdt l5 = (a, b, c) := ⟨_, _, _, rfl⟩
        have X6 := zh h6
        have HR := zh (show bnd (t, l6, E6) Ch0 (fun t r => bnd ((⟨(k : Int), a0, a1, a2, a3, a4, (ty : Int), ns, C0, T0⟩ : Ch).wt t, r, (0 : Int)) Ch0 (rck l)) = R from by rw [← HR.out]; unfold rtb; rw [if_pos (.inl (show (⟨(k : Int), a0, a1, a2, a3, a4, (ty : Int), ns, C0, T0⟩ : Ch).kind = 1 by first | omega | (simp; omega))), h6, bnd_bnd])
        have WT := zh (show (⟨(k : Int), a0, a1, a2, a3, a4, (ty : Int), ns, C0, T0⟩ : Ch).wt t = (⟨(k : Int), a0, a1, a2, a3, a4, (ty : Int), ns, C0, t⟩ : Ch) from by unfold Ch.wt; rw [if_pos (show (⟨(k : Int), a0, a1, a2, a3, a4, (ty : Int), ns, C0, T0⟩ : Ch).kind = 1 by first | omega | (simp; omega))])
        clear h6 hk1
        by_cases hE6 : E6 = 0
        ·subst hE6
         have HR := zh (show bnd ((⟨(k : Int), a0, a1, a2, a3, a4, (ty : Int), ns, C0, T0⟩ : Ch).wt t, l6, (0 : Int)) Ch0 (rck l) = R from (bnd_ok rfl _ _).symm.trans HR.out)
         have HR := zh (show rck l (⟨(k : Int), a0, a1, a2, a3, a4, (ty : Int), ns, C0, t⟩ : Ch) l6 = R from by rw [← HR.out, bnd_ok rfl, WT.out])
         go_wp2_with fail
         clear qc qf
         refine (rread_t l5 _ S5.out).mono ?_
         intro y w10 hrt
         rw [X6.out] at hrt
         obtain ⟨ao, cap, rfl, hsl, hcap, hup, hb⟩ := hrt
         simp only at hsl hcap
         have q1 := (K8.out.2.2.1.below hb).alloc (.cells #[.string ⟨t.name.toArray⟩, .int .i64 t.keys, .slice ao t.cs.length cap] 30)
         have qc := q1.cell
         have qf := q1.frozen
         have K10 := zh (za ((step0 K8.out.1 hb).alloc (step0 K8.out.1 hb).size (.cells #[.string ⟨t.name.toArray⟩, .int .i64 t.keys, .slice ao t.cs.length cap] 30)) (za ((K8.out.2.1.below hb).alloc (.cells #[.string ⟨t.name.toArray⟩, .int .i64 t.keys, .slice ao t.cs.length cap] 30)) (za q1 (za ((K8.out.2.2.2.1.below hb).below (below1 w10 (.cells #[.string ⟨t.name.toArray⟩, .int .i64 t.keys, .slice ao t.cs.length cap] 30))) (za (hsl.below (below1 w10 (.cells #[.string ⟨t.name.toArray⟩, .int .i64 t.keys, .slice ao t.cs.length cap] 30))) (za hcap (Up.mono hup (show b9 + 1 ≤ _ from K8.out.2.2.1.lt))))))))
         clear hsl hcap hup hb q1
         have WR : Wr (w10.alloc (.cells #[.string ⟨t.name.toArray⟩, .int .i64 t.keys, .slice ao t.cs.length cap] 30)) ((((w10.alloc (.cells #[.string ⟨t.name.toArray⟩, .int .i64 t.keys, .slice ao t.cs.length cap] 30)).setCell ⟨b9, 15, none⟩ (.string ⟨t.name.toArray⟩)).setCell ⟨b9, 16, none⟩ (.int .i64 t.keys)).setCell ⟨b9, 17, none⟩ (.slice ao t.cs.length cap)) b9 := ((((Wr.refl _ _).trans (Wr.one _ _ 15 _)).trans (Wr.one _ _ 16 _)).trans (Wr.one _ _ 17 _))
         have BC : Blk ((((w10.alloc (.cells #[.string ⟨t.name.toArray⟩, .int .i64 t.keys, .slice ao t.cs.length cap] 30)).setCell ⟨b9, 15, none⟩ (.string ⟨t.name.toArray⟩)).setCell ⟨b9, 16, none⟩ (.int .i64 t.keys)).setCell ⟨b9, 17, none⟩ (.slice ao t.cs.length cap)) b9 ((⟨(k : Int), a0, a1, a2, a3, a4, (ty : Int), ns, C0, t⟩ : Ch).a no nc ao cap) 32 := by
          have := (((K10.out.2.2.1.setAt 15 (.string ⟨t.name.toArray⟩)).setAt 16 (.int .i64 t.keys)).setAt 17 (.slice ao t.cs.length cap))
          rwa [Ch.setT] at this
         obtain ⟨w11, hw11⟩ : ∃ w', ((((w10.alloc (.cells #[.string ⟨t.name.toArray⟩, .int .i64 t.keys, .slice ao t.cs.length cap] 30)).setCell ⟨b9, 15, none⟩ (.string ⟨t.name.toArray⟩)).setCell ⟨b9, 16, none⟩ (.int .i64 t.keys)).setCell ⟨b9, 17, none⟩ (.slice ao t.cs.length cap)) = w' := ⟨_, rfl⟩
         rw [hw11] at WR BC
         have K := zh (za (WR.below _ _ (by have := Ne.out; omega) K10.out.1) (za (K10.out.2.1.wr WR (by have := Ne.out; omega)) (za BC (za (WR.sls K10.out.2.2.2.1 K8.out.2.2.2.2 (by omega)) (za K8.out.2.2.2.2 (za (WR.slc K10.out.2.2.2.2.1 K10.out.2.2.2.2.2.2 (by omega)) (za K10.out.2.2.2.2.2.1 K10.out.2.2.2.2.2.2)))))))
         have KO := zh (show (⟨(k : Int), a0, a1, a2, a3, a4, (ty : Int), ns, C0, t⟩ : Ch).okv from ⟨okv0.1, by have := rdt_ok' l5; rw [X6.out] at this; exact this⟩)
         have SF := zh (show l6 <:+ l from by have := rdt_sf l5; rw [X6.out] at this; exact this.trans SF5.out)
         clear WR BC
         go_wp2_with ((refine (?_ : wpList _ _ _ (Oper.mk _ (Op.load 32 _) _ _ _ _ :: _) _ _)); refine wpList_load_blk rfl 32 _ rfl (b9) rfl (((⟨(k : Int), a0, a1, a2, a3, a4, (ty : Int), ns, C0, t⟩ : Ch)).a no nc ao cap) _ (K.out.2.2.1) Tryz.underlying32 rfl (infoCh) ?_; go_frame)
         refine (rputc_is (⟨(k : Int), a0, a1, a2, a3, a4, (ty : Int), ns, C0, t⟩ : Ch) no nc ao cap _ _ _ ⟨K.out.2.2.2.1, ⟨K.out.2.2.2.2.2.1, K.out.2.2.2.2.2.2.1, KO.out.2⟩, KO.out.1⟩ rfl rfl).mono ?_
         rintro e w5 ⟨rfl, hb⟩
         have K5 := zh (za (step0 K.out.1 hb) (za (K.out.2.1.below hb) (za (K.out.2.2.1.below hb) (za (K.out.2.2.2.1.below hb) (K.out.2.2.2.2.2.1.below hb)))))
         clear hb
         obtain ⟨pe, hpe⟩ : ∃ pe, ((⟨(k : Int), a0, a1, a2, a3, a4, (ty : Int), ns, C0, t⟩ : Ch)).pe = pe := ⟨_, rfl⟩
         obtain ⟨P, hP⟩ : ∃ P, ((⟨(k : Int), a0, a1, a2, a3, a4, (ty : Int), ns, C0, t⟩ : Ch)).pb = P := ⟨_, rfl⟩
         obtain ⟨m, hm⟩ : ∃ m, l.length = m + l6.length := ⟨l.length - l6.length, by have := suf_len SF.out; omega⟩
         have em : l.length - l6.length = m := by omega
         have lb : (l.length : Int) ≤ 1000000 := by have := X.out.2; omega
         have hw : (l.length : Int) - (l6.length : Int) = (m : Int) := by omega
         have hmi : (m : Int) ≤ (l.length : Int) := by omega
         have hmn : m ≤ l.length := by omega
         have ct := cut_to l m
         obtain ⟨D, hD⟩ : ∃ D, l.take m = D := ⟨_, rfl⟩
         rw [hD] at ct
         have HR := zh (show (if pe ≠ 0 ∨ P ≠ D then (Ch0, [], (4 : Int)) else ((⟨(k : Int), a0, a1, a2, a3, a4, (ty : Int), ns, C0, t⟩ : Ch), l6, 0)) = R from by rw [← HR.out]; unfold rck; rw [em, hpe, hP, hD])
         rw [hpe, hP]
         clear hpe hP hm hD em
         by_cases hp : pe = 0
         ·subst hp
          by_cases he : P = D
          ·have n1 : (P == D) = true := by simpa using he
           have n2 : (P != D) = false := bneq_f he
           have HR := zh (show ((⟨(k : Int), a0, a1, a2, a3, a4, (ty : Int), ns, C0, t⟩ : Ch), l6, (0 : Int)) = R from by rw [← HR.out, if_neg]; simp [he])
           clear he
           go_wp2_with (first | ((refine (?_ : wpList _ _ _ (Oper.mk _ (Op.load 32 _) _ _ _ _ :: _) _ _)); refine wpList_load_blk rfl 32 _ rfl (b9) rfl (((⟨(k : Int), a0, a1, a2, a3, a4, (ty : Int), ns, C0, t⟩ : Ch)).a no nc ao cap) _ (K5.out.2.2.1) Tryz.underlying32 rfl (infoCh) ?_; go_frame) | ((refine (?_ : wpList _ _ _ (Oper.mk _ (Op.store 32 _ _) _ _ _ _ :: _) _ _)); refine wpList_store_blk rfl 32 _ _ rfl (w.heap.size) (Ch0.a none 0 none 0) (((⟨(k : Int), a0, a1, a2, a3, a4, (ty : Int), ns, C0, t⟩ : Ch)).a no nc ao cap) rfl rfl (K5.out.2.1) (by first | rfl | simp [sa_size]) (infoCh) (Ch.a_one _ _ _ _ _) ?_))
           intro w9 q9 r9
           go_wp2
           refine bodyPost_ret (results_3 Tryz.results13 rfl rfl rfl (loadCh q9)) rfl ?_
           rw [← HR.out]
           have hlt := Ne.out
           exact ⟨_, _, _, _, rfl, r9.sls K5.out.2.2.2.1 K.out.2.2.2.2.1 (by omega), K.out.2.2.2.2.1.mono (by omega), r9.slc K5.out.2.2.2.2 K.out.2.2.2.2.2.2.2 (by omega), K.out.2.2.2.2.2.2.1, K.out.2.2.2.2.2.2.2.mono (by omega), r9.below _ _ (Nat.le_refl _) K5.out.1⟩
          ·have n1 : (P == D) = false := by simpa using he
           have n2 : (P != D) = true := bneq_t he
           have Q := zh (show R = (Ch0, [], 4) from by rw [← HR.out, if_pos (.inr he)])
           clear he
           go_wp2_with ((refine (?_ : wpList _ _ _ (Oper.mk _ (Op.store 32 _ _) _ _ _ _ :: _) _ _)); refine wpList_store_blk rfl 32 _ _ rfl (w.heap.size) (Ch0.a none 0 none 0) (Ch0.a none 0 none 0) rfl rfl (K5.out.2.1) (by first | rfl | simp [sa_size]) (infoCh) (Ch.a_one _ _ _ _ _) ?_)
           intro w9 q9 r9
           go_wp2
           refine bodyPost_ret (results_3 Tryz.results13 rfl rfl rfl (loadCh q9)) rfl (RC.bad Q.out (r9.below _ _ (Nat.le_refl _) K5.out.1))
         ·have e1 := bne_t hp
          have Q := zh (show R = (Ch0, [], 4) from by rw [← HR.out, if_pos (.inl hp)])
          clear hp
          go_wp2_with ((refine (?_ : wpList _ _ _ (Oper.mk _ (Op.store 32 _ _) _ _ _ _ :: _) _ _)); refine wpList_store_blk rfl 32 _ _ rfl (w.heap.size) (Ch0.a none 0 none 0) (Ch0.a none 0 none 0) rfl rfl (K5.out.2.1) (by first | rfl | simp [sa_size]) (infoCh) (Ch.a_one _ _ _ _ _) ?_)
          intro w9 q9 r9
          go_wp2
          refine bodyPost_ret (results_3 Tryz.results13 rfl rfl rfl (loadCh q9)) rfl (RC.bad Q.out (r9.below _ _ (Nat.le_refl _) K5.out.1))
        ·have e9 := bne_t hE6
         have Q := zh (show R = (Ch0, [], E6) from by rw [← HR.out]; exact bnd_err rfl hE6 _ _)
         clear hE6
         go_wp2_with fail
         clear qc qf
         refine (rread_t l5 _ S5.out).mono ?_
         intro y w10 hrt
         rw [X6.out] at hrt
         obtain ⟨ao, cap, rfl, hsl, hcap, hup, hb⟩ := hrt
         have K10 := zh (za ((step0 K8.out.1 hb).alloc (step0 K8.out.1 hb).size (.cells #[.string ⟨t.name.toArray⟩, .int .i64 t.keys, .slice ao t.cs.length cap] 30)) ((K8.out.2.1.below hb).alloc (.cells #[.string ⟨t.name.toArray⟩, .int .i64 t.keys, .slice ao t.cs.length cap] 30)))
         clear hsl hcap hup hb
         go_wp2_with ((refine (?_ : wpList _ _ _ (Oper.mk _ (Op.store 32 _ _) _ _ _ _ :: _) _ _)); refine wpList_store_blk rfl 32 _ _ rfl (w.heap.size) (Ch0.a none 0 none 0) (Ch0.a none 0 none 0) rfl rfl (K10.out.2) (by first | rfl | simp [sa_size]) (infoCh) (Ch.a_one _ _ _ _ _) ?_)
         intro w9 q9 r9
         go_wp2
         refine bodyPost_ret (results_3 Tryz.results13 rfl rfl rfl (loadCh q9)) rfl (RC.bad Q.out (r9.below _ _ (Nat.le_refl _) K10.out.1))
       ·by_cases hk2 : k = 2
        ·have f1 : ((k : Int) == 1) = false := by first | omega | (simp; omega)
         have f2 : ((k : Int) == 2) = true := by first | omega | (simp; omega)
         obtain ⟨t, l6, E6, h6⟩ : ∃ a b c, rdt l5 = (a, b, c) := ⟨_, _, _, rfl⟩
         have X6 := zh h6
         have HR := zh (show bnd (t, l6, E6) Ch0 (fun t r => bnd ((⟨(k : Int), a0, a1, a2, a3, a4, (ty : Int), ns, C0, T0⟩ : Ch).wt t, r, (0 : Int)) Ch0 (rck l)) = R from by rw [← HR.out]; unfold rtb; rw [if_pos (.inr (show (⟨(k : Int), a0, a1, a2, a3, a4, (ty : Int), ns, C0, T0⟩ : Ch).kind = 2 by first | omega | (simp; omega))), h6, bnd_bnd])
         have WT := zh (show (⟨(k : Int), a0, a1, a2, a3, a4, (ty : Int), ns, C0, T0⟩ : Ch).wt t = (⟨(k : Int), a0, a1, a2, a3, a4, (ty : Int), ns, t.cs.getLastD C0, T0⟩ : Ch) from by unfold Ch.wt; rw [if_neg (show ¬ (⟨(k : Int), a0, a1, a2, a3, a4, (ty : Int), ns, C0, T0⟩ : Ch).kind = 1 by first | omega | (simp; omega))])
         clear h6 hk2 hk1
         by_cases hE6 : E6 = 0
         ·subst hE6
          have HR := zh (show bnd ((⟨(k : Int), a0, a1, a2, a3, a4, (ty : Int), ns, C0, T0⟩ : Ch).wt t, l6, (0 : Int)) Ch0 (rck l) = R from (bnd_ok rfl _ _).symm.trans HR.out)
          obtain ⟨n, hn⟩ : ∃ n, t.cs.length = n + 1 := ⟨t.cs.length - 1, by have := (T.ck_ok (rdt_ck X6.out)).2.1; omega⟩
          have n8 : n ≤ 7 := by have := (T.ck_ok (rdt_ck X6.out)).2.2.1; omega
          have hlt : n < t.cs.length := by omega
          obtain ⟨x, hx⟩ : ∃ x, t.cs[n] = x := ⟨_, rfl⟩
          have HR := zh (show rck l (⟨(k : Int), a0, a1, a2, a3, a4, (ty : Int), ns, x, T0⟩ : Ch) l6 = R from by rw [← HR.out, bnd_ok rfl, WT.out, last_at hn, hx])
          have NN := zh (za hn (za n8 (show t.cs[n]? = some x from by rw [List.getElem?_eq_getElem hlt, hx])))
          clear hn n8 hlt hx
          go_wp2_with fail
          clear qc qf
          refine (rread_t l5 _ S5.out).mono ?_
          intro y w10 hrt
          rw [X6.out] at hrt
          obtain ⟨ao, cap, rfl, hsl, hcap, hup, hb⟩ := hrt
          simp only at hsl hcap
          simp only [NN.out.1]
          have q1 := (K8.out.2.2.1.below hb).alloc (.cells #[.string ⟨t.name.toArray⟩, .int .i64 t.keys, .slice ao (n + 1) cap] 30)
          have qc := q1.cell
          have qf := q1.frozen
          have K10 := zh (za ((step0 K8.out.1 hb).alloc (step0 K8.out.1 hb).size (.cells #[.string ⟨t.name.toArray⟩, .int .i64 t.keys, .slice ao (n + 1) cap] 30)) (za ((K8.out.2.1.below hb).alloc (.cells #[.string ⟨t.name.toArray⟩, .int .i64 t.keys, .slice ao (n + 1) cap] 30)) (za q1 (za ((K8.out.2.2.2.1.below hb).below (below1 w10 (.cells #[.string ⟨t.name.toArray⟩, .int .i64 t.keys, .slice ao (n + 1) cap] 30))) (za (hsl.below (below1 w10 (.cells #[.string ⟨t.name.toArray⟩, .int .i64 t.keys, .slice ao (n + 1) cap] 30))) (za hcap (Up.mono hup (show b9 + 1 ≤ _ from K8.out.2.2.1.lt))))))))
          clear hsl hcap hup hb q1
          obtain ⟨a, rfl, c0, c1, c2, c3, c4, c5, c6⟩ := K10.out.2.2.2.2.1 n x NN.out.2.2
          have n8 : (n : Int) ≤ 7 := by have := NN.out.2.1; omega
          go_wp2_with ((refine (?_ : wpList _ _ _ (Oper.mk _ (Op.store 27 _ _) _ _ _ _ :: _) _ _)); refine wpList_store_part rfl 27 32 _ _ rfl b9 8 ([.int .i64 (k : Int), .string ⟨a0.toArray⟩, .string ⟨a1.toArray⟩, .string ⟨a2.toArray⟩, .string ⟨a3.toArray⟩, .string ⟨a4.toArray⟩, .int .i64 (ty : Int), .slice no ns.length nc]) ([.string ⟨C0.name.toArray⟩, .int .i64 C0.kind, .bool C0.null, .int .i64 C0.d.k, .int .i64 C0.d.n, .int .u64 C0.d.b, .string ⟨C0.d.s.toArray⟩]) ([.string ⟨x.name.toArray⟩, .int .i64 x.kind, .bool x.null, .int .i64 x.d.k, .int .i64 x.d.n, .int .u64 x.d.b, .string ⟨x.d.s.toArray⟩]) ([.string ⟨T0.name.toArray⟩, .int .i64 T0.keys, .slice none T0.cs.length 0]) rfl rfl (K10.out.2.2.1) rfl rfl infoCo (by simp [Value.oneCell']) ?_)
          intro w11 q4 WR
          have q4' : Blk w11 b9 ((⟨(k : Int), a0, a1, a2, a3, a4, (ty : Int), ns, x, T0⟩ : Ch).a no nc none 0) 32 := q4
          have K := zh (za (WR.below _ _ (by have := Ne.out; omega) K10.out.1) (za (K10.out.2.1.wr WR (by have := Ne.out; omega)) (za q4' (za (WR.sls K10.out.2.2.2.1 K8.out.2.2.2.2 (by omega)) (za K8.out.2.2.2.2 (za (slc_n w11 none) (za (Nat.le_refl 0) (up_none (b9 + 1)))))))))
          have KO := zh (show (⟨(k : Int), a0, a1, a2, a3, a4, (ty : Int), ns, x, T0⟩ : Ch).okv from ⟨by have := rdt_ok' l5; rw [X6.out] at this; exact this x (List.mem_of_getElem? NN.out.2.2), okv0.2⟩)
          have SF := zh (show l6 <:+ l from by have := rdt_sf l5; rw [X6.out] at this; exact this.trans SF5.out)
          clear q4 q4' WR c0 c1 c2 c3 c4 c5 c6 n8 qc qf
          go_wp2_with ((refine (?_ : wpList _ _ _ (Oper.mk _ (Op.load 32 _) _ _ _ _ :: _) _ _)); refine wpList_load_blk rfl 32 _ rfl (b9) rfl (((⟨(k : Int), a0, a1, a2, a3, a4, (ty : Int), ns, x, T0⟩ : Ch)).a no nc none 0) _ (K.out.2.2.1) Tryz.underlying32 rfl (infoCh) ?_; go_frame)
          refine (rputc_is (⟨(k : Int), a0, a1, a2, a3, a4, (ty : Int), ns, x, T0⟩ : Ch) no nc none 0 _ _ _ ⟨K.out.2.2.2.1, ⟨K.out.2.2.2.2.2.1, K.out.2.2.2.2.2.2.1, KO.out.2⟩, KO.out.1⟩ rfl rfl).mono ?_
          rintro e w5 ⟨rfl, hb⟩
          have K5 := zh (za (step0 K.out.1 hb) (za (K.out.2.1.below hb) (za (K.out.2.2.1.below hb) (za (K.out.2.2.2.1.below hb) (K.out.2.2.2.2.2.1.below hb)))))
          clear hb
          obtain ⟨pe, hpe⟩ : ∃ pe, ((⟨(k : Int), a0, a1, a2, a3, a4, (ty : Int), ns, x, T0⟩ : Ch)).pe = pe := ⟨_, rfl⟩
          obtain ⟨P, hP⟩ : ∃ P, ((⟨(k : Int), a0, a1, a2, a3, a4, (ty : Int), ns, x, T0⟩ : Ch)).pb = P := ⟨_, rfl⟩
          obtain ⟨m, hm⟩ : ∃ m, l.length = m + l6.length := ⟨l.length - l6.length, by have := suf_len SF.out; omega⟩
          have em : l.length - l6.length = m := by omega
          have lb : (l.length : Int) ≤ 1000000 := by have := X.out.2; omega
          have hw : (l.length : Int) - (l6.length : Int) = (m : Int) := by omega
          have hmi : (m : Int) ≤ (l.length : Int) := by omega
          have hmn : m ≤ l.length := by omega
          have ct := cut_to l m
          obtain ⟨D, hD⟩ : ∃ D, l.take m = D := ⟨_, rfl⟩
          rw [hD] at ct
          have HR := zh (show (if pe ≠ 0 ∨ P ≠ D then (Ch0, [], (4 : Int)) else ((⟨(k : Int), a0, a1, a2, a3, a4, (ty : Int), ns, x, T0⟩ : Ch), l6, 0)) = R from by rw [← HR.out]; unfold rck; rw [em, hpe, hP, hD])
          rw [hpe, hP]
          clear hpe hP hm hD em
          by_cases hp : pe = 0
          ·subst hp
           by_cases he : P = D
           ·have n1 : (P == D) = true := by simpa using he
            have n2 : (P != D) = false := bneq_f he
            have HR := zh (show ((⟨(k : Int), a0, a1, a2, a3, a4, (ty : Int), ns, x, T0⟩ : Ch), l6, (0 : Int)) = R from by rw [← HR.out, if_neg]; simp [he])
            clear he
            go_wp2_with (first | ((refine (?_ : wpList _ _ _ (Oper.mk _ (Op.load 32 _) _ _ _ _ :: _) _ _)); refine wpList_load_blk rfl 32 _ rfl (b9) rfl (((⟨(k : Int), a0, a1, a2, a3, a4, (ty : Int), ns, x, T0⟩ : Ch)).a no nc none 0) _ (K5.out.2.2.1) Tryz.underlying32 rfl (infoCh) ?_; go_frame) | ((refine (?_ : wpList _ _ _ (Oper.mk _ (Op.store 32 _ _) _ _ _ _ :: _) _ _)); refine wpList_store_blk rfl 32 _ _ rfl (w.heap.size) (Ch0.a none 0 none 0) (((⟨(k : Int), a0, a1, a2, a3, a4, (ty : Int), ns, x, T0⟩ : Ch)).a no nc none 0) rfl rfl (K5.out.2.1) (by first | rfl | simp [sa_size]) (infoCh) (Ch.a_one _ _ _ _ _) ?_))
            intro w9 q9 r9
            go_wp2
            refine bodyPost_ret (results_3 Tryz.results13 rfl rfl rfl (loadCh q9)) rfl ?_
            rw [← HR.out]
            have hlt := Ne.out
            exact ⟨_, _, _, _, rfl, r9.sls K5.out.2.2.2.1 K.out.2.2.2.2.1 (by omega), K.out.2.2.2.2.1.mono (by omega), r9.slc K5.out.2.2.2.2 K.out.2.2.2.2.2.2.2 (by omega), K.out.2.2.2.2.2.2.1, K.out.2.2.2.2.2.2.2.mono (by omega), r9.below _ _ (Nat.le_refl _) K5.out.1⟩
           ·have n1 : (P == D) = false := by simpa using he
            have n2 : (P != D) = true := bneq_t he
            have Q := zh (show R = (Ch0, [], 4) from by rw [← HR.out, if_pos (.inr he)])
            clear he
            go_wp2_with ((refine (?_ : wpList _ _ _ (Oper.mk _ (Op.store 32 _ _) _ _ _ _ :: _) _ _)); refine wpList_store_blk rfl 32 _ _ rfl (w.heap.size) (Ch0.a none 0 none 0) (Ch0.a none 0 none 0) rfl rfl (K5.out.2.1) (by first | rfl | simp [sa_size]) (infoCh) (Ch.a_one _ _ _ _ _) ?_)
            intro w9 q9 r9
            go_wp2
            refine bodyPost_ret (results_3 Tryz.results13 rfl rfl rfl (loadCh q9)) rfl (RC.bad Q.out (r9.below _ _ (Nat.le_refl _) K5.out.1))
          ·have e1 := bne_t hp
           have Q := zh (show R = (Ch0, [], 4) from by rw [← HR.out, if_pos (.inl hp)])
           clear hp
           go_wp2_with ((refine (?_ : wpList _ _ _ (Oper.mk _ (Op.store 32 _ _) _ _ _ _ :: _) _ _)); refine wpList_store_blk rfl 32 _ _ rfl (w.heap.size) (Ch0.a none 0 none 0) (Ch0.a none 0 none 0) rfl rfl (K5.out.2.1) (by first | rfl | simp [sa_size]) (infoCh) (Ch.a_one _ _ _ _ _) ?_)
           intro w9 q9 r9
           go_wp2
           refine bodyPost_ret (results_3 Tryz.results13 rfl rfl rfl (loadCh q9)) rfl (RC.bad Q.out (r9.below _ _ (Nat.le_refl _) K5.out.1))
         ·have e9 := bne_t hE6
          have Q := zh (show R = (Ch0, [], E6) from by rw [← HR.out]; exact bnd_err rfl hE6 _ _)
          clear hE6
          go_wp2_with fail
          clear qc qf
          refine (rread_t l5 _ S5.out).mono ?_
          intro y w10 hrt
          rw [X6.out] at hrt
          obtain ⟨ao, cap, rfl, hsl, hcap, hup, hb⟩ := hrt
          have K10 := zh (za ((step0 K8.out.1 hb).alloc (step0 K8.out.1 hb).size (.cells #[.string ⟨t.name.toArray⟩, .int .i64 t.keys, .slice ao t.cs.length cap] 30)) ((K8.out.2.1.below hb).alloc (.cells #[.string ⟨t.name.toArray⟩, .int .i64 t.keys, .slice ao t.cs.length cap] 30)))
          clear hsl hcap hup hb
          go_wp2_with ((refine (?_ : wpList _ _ _ (Oper.mk _ (Op.store 32 _ _) _ _ _ _ :: _) _ _)); refine wpList_store_blk rfl 32 _ _ rfl (w.heap.size) (Ch0.a none 0 none 0) (Ch0.a none 0 none 0) rfl rfl (K10.out.2) (by first | rfl | simp [sa_size]) (infoCh) (Ch.a_one _ _ _ _ _) ?_)
          intro w9 q9 r9
          go_wp2
          refine bodyPost_ret (results_3 Tryz.results13 rfl rfl rfl (loadCh q9)) rfl (RC.bad Q.out (r9.below _ _ (Nat.le_refl _) K10.out.1))
        ·have f1 : ((k : Int) == 1) = false := by first | omega | (simp; omega)
         have f2 : ((k : Int) == 2) = false := by first | omega | (simp; omega)
         have HR := zh (show rck l (⟨(k : Int), a0, a1, a2, a3, a4, (ty : Int), ns, C0, T0⟩ : Ch) l5 = R from by rw [← HR.out]; unfold rtb; rw [if_neg (show ¬ ((⟨(k : Int), a0, a1, a2, a3, a4, (ty : Int), ns, C0, T0⟩ : Ch).kind = 1 ∨ (⟨(k : Int), a0, a1, a2, a3, a4, (ty : Int), ns, C0, T0⟩ : Ch).kind = 2) by first | omega | (simp; omega)), bnd_ok rfl])
         have K := zh (za K8.out.1 (za K8.out.2.1 (za K8.out.2.2.1 (za K8.out.2.2.2.1 (za K8.out.2.2.2.2 (za (slc_n w8 none) (za (Nat.le_refl 0) (up_none (b9 + 1)))))))))
         have KO := zh (bare_okv (c := (⟨(k : Int), a0, a1, a2, a3, a4, (ty : Int), ns, C0, T0⟩ : Ch)) rfl rfl)
         have SF := zh SF5.out
         clear hk1 hk2
         go_wp2_with ((refine (?_ : wpList _ _ _ (Oper.mk _ (Op.load 32 _) _ _ _ _ :: _) _ _)); refine wpList_load_blk rfl 32 _ rfl (b9) rfl (((⟨(k : Int), a0, a1, a2, a3, a4, (ty : Int), ns, C0, T0⟩ : Ch)).a no nc none 0) _ (K.out.2.2.1) Tryz.underlying32 rfl (infoCh) ?_; go_frame)
         refine (rputc_is (⟨(k : Int), a0, a1, a2, a3, a4, (ty : Int), ns, C0, T0⟩ : Ch) no nc none 0 _ _ _ ⟨K.out.2.2.2.1, ⟨K.out.2.2.2.2.2.1, K.out.2.2.2.2.2.2.1, KO.out.2⟩, KO.out.1⟩ rfl rfl).mono ?_
         rintro e w5 ⟨rfl, hb⟩
         have K5 := zh (za (step0 K.out.1 hb) (za (K.out.2.1.below hb) (za (K.out.2.2.1.below hb) (za (K.out.2.2.2.1.below hb) (K.out.2.2.2.2.2.1.below hb)))))
         clear hb
         obtain ⟨pe, hpe⟩ : ∃ pe, ((⟨(k : Int), a0, a1, a2, a3, a4, (ty : Int), ns, C0, T0⟩ : Ch)).pe = pe := ⟨_, rfl⟩
         obtain ⟨P, hP⟩ : ∃ P, ((⟨(k : Int), a0, a1, a2, a3, a4, (ty : Int), ns, C0, T0⟩ : Ch)).pb = P := ⟨_, rfl⟩
         obtain ⟨m, hm⟩ : ∃ m, l.length = m + l5.length := ⟨l.length - l5.length, by have := suf_len SF.out; omega⟩
         have em : l.length - l5.length = m := by omega
         have lb : (l.length : Int) ≤ 1000000 := by have := X.out.2; omega
         have hw : (l.length : Int) - (l5.length : Int) = (m : Int) := by omega
         have hmi : (m : Int) ≤ (l.length : Int) := by omega
         have hmn : m ≤ l.length := by omega
         have ct := cut_to l m
         obtain ⟨D, hD⟩ : ∃ D, l.take m = D := ⟨_, rfl⟩
         rw [hD] at ct
         have HR := zh (show (if pe ≠ 0 ∨ P ≠ D then (Ch0, [], (4 : Int)) else ((⟨(k : Int), a0, a1, a2, a3, a4, (ty : Int), ns, C0, T0⟩ : Ch), l5, 0)) = R from by rw [← HR.out]; unfold rck; rw [em, hpe, hP, hD])
         rw [hpe, hP]
         clear hpe hP hm hD em
         by_cases hp : pe = 0
         ·subst hp
          by_cases he : P = D
          ·have n1 : (P == D) = true := by simpa using he
           have n2 : (P != D) = false := bneq_f he
           have HR := zh (show ((⟨(k : Int), a0, a1, a2, a3, a4, (ty : Int), ns, C0, T0⟩ : Ch), l5, (0 : Int)) = R from by rw [← HR.out, if_neg]; simp [he])
           clear he
           go_wp2_with (first | ((refine (?_ : wpList _ _ _ (Oper.mk _ (Op.load 32 _) _ _ _ _ :: _) _ _)); refine wpList_load_blk rfl 32 _ rfl (b9) rfl (((⟨(k : Int), a0, a1, a2, a3, a4, (ty : Int), ns, C0, T0⟩ : Ch)).a no nc none 0) _ (K5.out.2.2.1) Tryz.underlying32 rfl (infoCh) ?_; go_frame) | ((refine (?_ : wpList _ _ _ (Oper.mk _ (Op.store 32 _ _) _ _ _ _ :: _) _ _)); refine wpList_store_blk rfl 32 _ _ rfl (w.heap.size) (Ch0.a none 0 none 0) (((⟨(k : Int), a0, a1, a2, a3, a4, (ty : Int), ns, C0, T0⟩ : Ch)).a no nc none 0) rfl rfl (K5.out.2.1) (by first | rfl | simp [sa_size]) (infoCh) (Ch.a_one _ _ _ _ _) ?_))
           intro w9 q9 r9
           go_wp2
           refine bodyPost_ret (results_3 Tryz.results13 rfl rfl rfl (loadCh q9)) rfl ?_
           rw [← HR.out]
           have hlt := Ne.out
           exact ⟨_, _, _, _, rfl, r9.sls K5.out.2.2.2.1 K.out.2.2.2.2.1 (by omega), K.out.2.2.2.2.1.mono (by omega), r9.slc K5.out.2.2.2.2 K.out.2.2.2.2.2.2.2 (by omega), K.out.2.2.2.2.2.2.1, K.out.2.2.2.2.2.2.2.mono (by omega), r9.below _ _ (Nat.le_refl _) K5.out.1⟩
          ·have n1 : (P == D) = false := by simpa using he
           have n2 : (P != D) = true := bneq_t he
           have Q := zh (show R = (Ch0, [], 4) from by rw [← HR.out, if_pos (.inr he)])
           clear he
           go_wp2_with ((refine (?_ : wpList _ _ _ (Oper.mk _ (Op.store 32 _ _) _ _ _ _ :: _) _ _)); refine wpList_store_blk rfl 32 _ _ rfl (w.heap.size) (Ch0.a none 0 none 0) (Ch0.a none 0 none 0) rfl rfl (K5.out.2.1) (by first | rfl | simp [sa_size]) (infoCh) (Ch.a_one _ _ _ _ _) ?_)
           intro w9 q9 r9
           go_wp2
           refine bodyPost_ret (results_3 Tryz.results13 rfl rfl rfl (loadCh q9)) rfl (RC.bad Q.out (r9.below _ _ (Nat.le_refl _) K5.out.1))
         ·have e1 := bne_t hp
          have Q := zh (show R = (Ch0, [], 4) from by rw [← HR.out, if_pos (.inl hp)])
          clear hp
          go_wp2_with ((refine (?_ : wpList _ _ _ (Oper.mk _ (Op.store 32 _ _) _ _ _ _ :: _) _ _)); refine wpList_store_blk rfl 32 _ _ rfl (w.heap.size) (Ch0.a none 0 none 0) (Ch0.a none 0 none 0) rfl rfl (K5.out.2.1) (by first | rfl | simp [sa_size]) (infoCh) (Ch.a_one _ _ _ _ _) ?_)
          intro w9 q9 r9
          go_wp2
          refine bodyPost_ret (results_3 Tryz.results13 rfl rfl rfl (loadCh q9)) rfl (RC.bad Q.out (r9.below _ _ (Nat.le_refl _) K5.out.1))
      ·have e1 := bne_t hE5
       have Q := zh ((bnd_err rfl hE5 _ _).symm.trans HR.out)
       clear hE5
       go_wp2_with ((refine (?_ : wpList _ _ _ (Oper.mk _ (Op.store 32 _ _) _ _ _ _ :: _) _ _)); refine wpList_store_blk rfl 32 _ _ rfl (w.heap.size) (Ch0.a none 0 none 0) (Ch0.a none 0 none 0) rfl rfl (K7.out.2.1) (by first | rfl | simp [sa_size]) (infoCh) (Ch.a_one _ _ _ _ _) ?_)
       intro w9 q9 r9
       go_wp2
       refine bodyPost_ret (results_3 Tryz.results13 rfl rfl rfl (loadCh q9)) rfl (RC.bad Q.out.symm (r9.below _ _ (Nat.le_refl _) K7.out.1))
     ·have e1 := bne_t hE4
      have Q := zh ((bnd_err rfl hE4 _ _).symm.trans HR.out)
      clear hE4
      go_wp2_with ((refine (?_ : wpList _ _ _ (Oper.mk _ (Op.store 32 _ _) _ _ _ _ :: _) _ _)); refine wpList_store_blk rfl 32 _ _ rfl (w.heap.size) (Ch0.a none 0 none 0) (Ch0.a none 0 none 0) rfl rfl (K6.out.2.1) (by first | rfl | simp [sa_size]) (infoCh) (Ch.a_one _ _ _ _ _) ?_)
      intro w9 q9 r9
      go_wp2
      refine bodyPost_ret (results_3 Tryz.results13 rfl rfl rfl (loadCh q9)) rfl (RC.bad Q.out.symm (r9.below _ _ (Nat.le_refl _) K6.out.1))
    ·have e1 := bne_t hE3
     have Q := zh ((bnd_err rfl hE3 _ _).symm.trans HR.out)
     clear hE3
     go_wp2_with ((refine (?_ : wpList _ _ _ (Oper.mk _ (Op.store 32 _ _) _ _ _ _ :: _) _ _)); refine wpList_store_blk rfl 32 _ _ rfl (w.heap.size) (Ch0.a none 0 none 0) (Ch0.a none 0 none 0) rfl rfl (K5.out.2.1) (by first | rfl | simp [sa_size]) (infoCh) (Ch.a_one _ _ _ _ _) ?_)
     intro w9 q9 r9
     go_wp2
     refine bodyPost_ret (results_3 Tryz.results13 rfl rfl rfl (loadCh q9)) rfl (RC.bad Q.out.symm (r9.below _ _ (Nat.le_refl _) K5.out.1))
   ·have e1 := bne_t hE2
    have Q := zh ((bnd_err rfl hE2 _ _).symm.trans HR.out)
    clear hE2
    go_wp2_with ((refine (?_ : wpList _ _ _ (Oper.mk _ (Op.store 32 _ _) _ _ _ _ :: _) _ _)); refine wpList_store_blk rfl 32 _ _ rfl (w.heap.size) (Ch0.a none 0 none 0) (Ch0.a none 0 none 0) rfl rfl (K2.out.2.1) (by first | rfl | simp [sa_size]) (infoCh) (Ch.a_one _ _ _ _ _) ?_)
    intro w9 q9 r9
    go_wp2
    refine bodyPost_ret (results_3 Tryz.results13 rfl rfl rfl (loadCh q9)) rfl (RC.bad Q.out.symm (r9.below _ _ (Nat.le_refl _) K2.out.1))
 ·have e1 := bne_t hE
  have e2 : (E == 0) = false := by simpa using hE
  have Q := zh (show R = (Ch0, [], E) from by rw [← HR.out, smb_er 6 X.out.1.1 hE]; exact bnd_err rfl hE _ _)
  clear hE
  go_wp2_with ((refine (?_ : wpList _ _ _ (Oper.mk _ (Op.store 32 _ _) _ _ _ _ :: _) _ _)); refine wpList_store_blk rfl 32 _ _ rfl (w.heap.size) (Ch0.a none 0 none 0) (Ch0.a none 0 none 0) rfl rfl (K1.out.2) (by first | rfl | simp [sa_size]) (infoCh) (Ch.a_one _ _ _ _ _) ?_)
  intro w9 q9 r9
  go_wp2
  refine bodyPost_ret (results_3 Tryz.results13 rfl rfl rfl (loadCh q9)) rfl (RC.bad Q.out (r9.below _ _ (Nat.le_refl _) K1.out.1))
end Go.Proofs.YtmgdciihpjifgaaGreatDoor
