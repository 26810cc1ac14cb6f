/-
 What bytes begin with, of a change: readNames, withTexts, readFields. Conditions: texts of 1000000 bytes at most.
 What bytes begin with, of a change: readFields. Conditions: texts of 1000000 bytes at most.
-/
import Derived.Test.YtmgdciihpjifgaaGreatDoorQrOpPlain
import Derived.Test.YtmgdciihpjifgaaGreatDoorQrOpPutC
import Derived.Test.YtmgdciihpjifgaaGreatDoorQrScRead
import Derived.BigRegion
set_option maxHeartbeats 8000000
namespace Go.Proofs.YtmgdciihpjifgaaGreatDoor
open Go.RowKit
def prT (d : List Nm.S) (r : List Nm.S × List UInt8 × Int) : List Nm.S × List UInt8 × Int := if r.2.2 ≠ 0 then ([], [], r.2.2) else (d ++ r.1, r.2.1, 0)
theorem prT_nil (n : Nat) (l : List UInt8) : prT [] (rts n l) = rts n l := by
 unfold prT
 rcases e : rts n l with ⟨a, b, c⟩
 by_cases h : c = 0
 ·subst h; simp
 ·have := rts_bad n l (by rw [e]; exact h)
  rw [e] at this
  obtain ⟨rfl, rfl⟩ : a = [] ∧ b = [] := this
  simp [h]
theorem prT_step {l r : List UInt8} {s : Nm.S} (d : List Nm.S) (n : Nat) (h : Pk.rt l = (s, r, 0)) : prT d (rts (n + 1) l) = prT (d ++ [s]) (rts n r) := by
 rw [rts, bnd_ok h]
 rcases e : rts n r with ⟨a, b, c⟩
 by_cases hc : c = 0
 ·subst hc
  rw [bnd_ok rfl]
  simp [prT]
 ·rw [bnd_err rfl hc]
  simp [prT, hc]
theorem prT_err {l r : List UInt8} {s : Nm.S} {e : Int} (d : List Nm.S) (n : Nat) (h : Pk.rt l = (s, r, e)) (he : e ≠ 0) : prT d (rts (n + 1) l) = ([], [], e) := by
 rw [rts, bnd_err h he]
 simp [prT, he]
theorem prT_end (d : List Nm.S) (l : List UInt8) : prT d (rts 0 l) = (d, l, 0) := by simp [prT, rts]
theorem bnd_bnd {α β γ : Type} (x : α × List UInt8 × Int) (z : β) (f : α → List UInt8 → β × List UInt8 × Int) (z' : γ) (g : β → List UInt8 → γ × List UInt8 × Int) : bnd (bnd x z f) z' g = bnd x z' fun a r => bnd (f a r) z' g := by
 obtain ⟨a, r, e⟩ := x
 by_cases h : e = 0
 ·subst h; rw [bnd_ok rfl, bnd_ok rfl]
 ·rw [bnd_err rfl h, bnd_err rfl h, bnd_err rfl h]
def rns' (l : List UInt8) : List Nm.S × List UInt8 × Int := bnd (small 8 1 l) [] fun n r => rts n r
theorem rfs_is (l : List UInt8) : rfs l = bnd (smb 1 6 1 l) Ch0 fun k l1 => bnd (rts 5 l1) Ch0 fun ts l2 => bnd (small 100 1 l2) Ch0 fun ty l3 => bnd (rns' l3) Ch0 fun ns l5 => (mkc k ts ty ns, l5, 0) := by
 unfold rfs rns'
 simp only [bnd_bnd]
def RN (R : List Nm.S × List UInt8 × Int) (w : World) (e : Ending) (w' : World) : Prop :=
 ∃ v, e = .returned (.tuple #[v, .string ⟨R.2.1.toArray⟩, .int .i64 R.2.2]) ∧ OwS w' w.heap.size v R.1 ∧ Below w.heap.size w w'
theorem RN.sl {R : List Nm.S × List UInt8 × Int} {w w' : World} {e : Ending} (h : RN R w e w') : ∃ no nc, e = .returned (.tuple #[.slice no R.1.length nc, .string ⟨R.2.1.toArray⟩, .int .i64 R.2.2]) ∧ SlS w' no R.1 ∧ Up w.heap.size no ∧ Below w.heap.size w w' := by
 obtain ⟨v, rfl, hO, hb⟩ := h
 obtain ⟨ao, cap, rfl, hs⟩ := hO.sl
 refine ⟨ao, cap, rfl, hs, ?_, hb⟩
 intro a ha
 subst ha
 rcases hO.2 with ⟨hv, _⟩ | ⟨g, _, _, hv, hg, _⟩
 ·cases hv
 ·cases hv; exact hg
theorem readNames_is (l : List UInt8) (w : World) (hl : l.length ≤ 1000000) :
  Calls Tryz.prog 65 #[.string ⟨l.toArray⟩] w (RN (rns' l) w) := by
 obtain ⟨N, L1, E, h1⟩ : ∃ N L1 E, small 8 1 l = (N, L1, E) := ⟨_, _, _, rfl⟩
 have n1 := suf_len (small_sf 8 1 l)
 have n2 := small_top 8 1 l
 rw [h1] at n1 n2
 simp only at n1 n2
 have X := zh (za h1 (za n2 (show L1.length ≤ 1000000 by omega)))
 have eR : rns' l = bnd (N, L1, E) [] fun n r => rts n r := by unfold rns'; rw [h1]
 obtain ⟨R, hR⟩ : ∃ R, rns' l = R := ⟨_, rfl⟩
 rw [hR]
 have HR := zh (eR.symm.trans hR)
 clear n1 n2 h1 hl eR hR
 go_enter Tryz.func65, Tryz.ntmps65
 go_wp2_with fail
 refine (upTo_is 8 8 1 N E l L1 N _ rfl (by decide) X.out.1 rfl).mono ?_
 rintro y w1 ⟨rfl, hb⟩
 have B1 := zh hb
 clear hb
 by_cases hE : E = 0
 ·subst hE
  have HR := zh ((bnd_ok rfl _ _).symm.trans HR.out)
  go_wp2_with (at_make; refine makeT _ rfl _ _ rfl .i64 .i64 (N : Int) (N : Int) N rfl rfl rfl rfl (by have := X.out; omega) ?_; intro g w2 hg hO hb; have S := zh (za (hO.base B1.out.size) (B1.out.trans (hb.mono B1.out.size))); clear hO hb hg; go_frame)
  go_loopw [0, 21] (fun s i wr => ∃ (j : Nat) (d : List Nm.S) (L : List UInt8), s = .string ⟨L.toArray⟩ ∧ i = .int .i64 j ∧ j ≤ N ∧ d.length = j ∧ rts N L1 = prT d (rts (N - j) L) ∧ L.length ≤ 1000000 ∧ OwS wr w.heap.size (.slice (some ⟨g, 0, none⟩) N N) (d ++ List.replicate (N - j) []) ∧ Below w.heap.size w wr) (fun _ i _ => N - (intOf i).toNat)
  case atStart => exact ⟨0, [], L1, rfl, rfl, Nat.zero_le _, rfl, (prT_nil _ _).symm, X.out.2.2, S.out.1, S.out.2⟩
  case round =>
   obtain ⟨j, d, L, rfl, rfl, hj, hd, hQ, hL, hO, hbel⟩ := hrel
   have J := zh (za hO (za hbel (za hd (za hQ hL))))
   clear hO hbel hd hQ hL
   by_cases hlt : j < N
   ·have hw : wrap64 ((j : Int) + 1) = (j : Int) + 1 := by have := X.out; exact wrap_in _ (by omega) (by omega)
    obtain ⟨s, r, e, hs⟩ : ∃ s r e, Pk.rt L = (s, r, e) := ⟨_, _, _, rfl⟩
    have lr := suf_len (rt_sf L)
    rw [hs] at lr
    have Y := zh (za hs (show r.length ≤ 1000000 by have := J.out.2.2.2.2; simp only at lr; omega))
    have eN : N - j = (N - (j + 1)) + 1 := by omega
    clear hs lr
    go_wp2_with fail
    refine (textR L s r e _ J.out.2.2.2.2 Y.out.1).mono ?_
    rintro y w6 ⟨rfl, hb⟩
    have hO3 := J.out.1.keep hb
    have hy : (d ++ List.replicate (N - j) [])[j]? = some [] := by
     rw [List.getElem?_append_right (by have := J.out.2.2.1; omega), List.getElem?_replicate, J.out.2.2.1, if_pos (by omega)]
    obtain ⟨hst, hbg, hgl, hfz, hc⟩ := hO3.store (by have := J.out.2.2.1; simp; omega) j [] hy s
    have K := zh (za hst (za hbg (step0 J.out.2.1 hb)))
    clear hO3 hy hst hbg hgl hb
    by_cases he : e = 0
    ·subst he
     have Q := zh (show rts N L1 = prT (d ++ [s]) (rts (N - (j + 1)) r) from by rw [J.out.2.2.2.1, eN]; exact prT_step d _ Y.out.1)
     clear eN
     go_wp2
     go_roundw
     case rel => exact ⟨j + 1, d ++ [s], r, rfl, by go_num, hlt, by simp [J.out.2.2.1], Q.out, Y.out.2, by rw [← tset_next _ N j _ J.out.2.2.1 hlt]; exact K.out.1, below_set K.out.2.2 K.out.2.1 _ _⟩
     case measure => rw [hw]; simp [intOf]; omega
    ·have e1 := bne_t he
     have Q := zh (show rts N L1 = ([], [], e) from by rw [J.out.2.2.2.1, eN]; exact prT_err d _ Y.out.1 he)
     clear eN he
     go_wp2
     go_ret3
     rw [← HR.out, Q.out]
     exact ⟨_, rfl, ows_nil _ _, below_set K.out.2.2 K.out.2.1 _ _⟩
   ·obtain rfl : j = N := by omega
    have hR := J.out.2.2.2.1
    have hO := J.out.1
    rw [Nat.sub_self, prT_end] at hR
    rw [Nat.sub_self, List.replicate_zero, List.append_nil] at hO
    have ST := zh (za hR hO)
    clear hR hO
    go_wp2
    go_ret3
    rw [← HR.out, ST.out.1]
    exact ⟨_, rfl, ST.out.2, J.out.2.1⟩
 ·have e1 := bne_t hE
  have HR := zh ((bnd_err rfl hE _ _).symm.trans HR.out)
  clear hE
  go_wp2
  go_ret3
  rw [← HR.out]
  exact ⟨_, rfl, ows_nil _ _, B1.out⟩
theorem below3s (w : World) (a b c : Obj) : Below w.heap.size w (((w.alloc a).alloc b).alloc c) := (below2s w a b).alloc (by simp; omega) c
theorem Ch.set_tx (c : Ch) (no : Option Addr) (nc : Nat) (dO : Option Addr) (dc : Nat) (s0 s1 s2 s3 s4 : Nm.S) : (((((c.a no nc dO dc).setIfInBounds 1 (.string ⟨s0.toArray⟩)).setIfInBounds 2 (.string ⟨s1.toArray⟩)).setIfInBounds 3 (.string ⟨s2.toArray⟩)).setIfInBounds 4 (.string ⟨s3.toArray⟩)).setIfInBounds 5 (.string ⟨s4.toArray⟩) = (⟨c.kind, s0, s1, s2, s3, s4, c.type, c.names, c.col, c.df⟩ : Ch).a no nc dO dc := by simp [Ch.a]
theorem withTexts_is (c : Ch) (no : Option Addr) (nc : Nat) (dO : Option Addr) (dc : Nat) (s0 s1 s2 s3 s4 : Nm.S) (w : World) :
  Calls Tryz.prog 64 #[.agg (c.a no nc dO dc), .agg (sa [s0, s1, s2, s3, s4])] w fun e w' => e = .returned (.agg ((⟨c.kind, s0, s1, s2, s3, s4, c.type, c.names, c.col, c.df⟩ : Ch).a no nc dO dc)) ∧ Below w.heap.size w w' := by
 have hmx : Tryz.prog.follows .mixedOrders = true := by kernel_rfl
 have hsa : sa [s0, s1, s2, s3, s4] = #[.string ⟨s0.toArray⟩, .string ⟨s1.toArray⟩, .string ⟨s2.toArray⟩, .string ⟨s3.toArray⟩, .string ⟨s4.toArray⟩] := rfl
 rw [hsa]
 clear hsa
 go_enter Tryz.func64, Tryz.ntmps64
 go_wp2
 go_region
 rw [Ch.set_tx]
 go_wp2_with (first | ((refine (?_ : wpList _ _ _ (Oper.mk _ (Op.load 32 _) _ _ _ _ :: _) _ _)); refine wpList_load_blk rfl 32 _ rfl (w.heap.size) rfl ((⟨c.kind, s0, s1, s2, s3, s4, c.type, c.names, c.col, c.df⟩ : Ch).a no nc dO dc) _ (((Blk.new w _ _).alloc _).alloc _) Tryz.underlying32 rfl (infoCh) ?_; go_frame) | ((refine (?_ : wpList _ _ _ (Oper.mk _ (Op.store 32 _ _) _ _ _ _ :: _) _ _)); refine wpList_store_blk rfl 32 _ _ rfl (w.heap.size + 1 + 1) (Ch0.a none 0 none 0) ((⟨c.kind, s0, s1, s2, s3, s4, c.type, c.names, c.col, c.df⟩ : Ch).a no nc dO dc) rfl rfl (Blk.new' _ _ _ _ (by simp)) (by first | rfl | simp [sa_size]) (infoCh) (Ch.a_one _ _ _ _ _) ?_))
 intro w3 q3 r3
 go_wp2
 exact bodyPost_ret (results_1 Tryz.results64 rfl (loadCh q3)) rfl ⟨rfl, r3.below _ _ (by omega) (below3s w _ _ _).drew⟩
end Go.Proofs.YtmgdciihpjifgaaGreatDoor
namespace Go.Proofs.YtmgdciihpjifgaaGreatDoor
open Go.RowKit
def RC (R : Ch × List UInt8 × Int) (w : World) (e : Ending) (w' : World) : Prop :=
 ∃ no nc dO dc, e = .returned (.tuple #[.agg (R.1.a no nc dO dc), .string ⟨R.2.1.toArray⟩, .int .i64 R.2.2]) ∧ SlS w' no R.1.names ∧ Up w.heap.size no ∧ SlC w' dO R.1.df.cs ∧ R.1.df.cs.length ≤ dc ∧ Up w.heap.size dO ∧ Below w.heap.size w w'
theorem RC.bad {w w' : World} {R : Ch × List UInt8 × Int} {E : Int} (h : R = (Ch0, [], E)) (hb : Below w.heap.size w w') : RC R w (.returned (.tuple #[.agg (Ch0.a none 0 none 0), .string ⟨([] : List UInt8).toArray⟩, .int .i64 E])) w' := by
 subst h
 exact ⟨none, 0, none, 0, rfl, SlS.nil _ _, up_none _, (fun i c h => by simp [Ch0, T0] at h), Nat.zero_le _, up_none _, hb⟩
def RF (R : Ch × List UInt8 × Int) (w : World) (e : Ending) (w' : World) : Prop :=
 ∃ no nc, e = .returned (.tuple #[.agg (R.1.a no nc none 0), .string ⟨R.2.1.toArray⟩, .int .i64 R.2.2]) ∧ SlS w' no R.1.names ∧ Up w.heap.size no ∧ Below w.heap.size w w'
theorem RF.bad {w w' : World} {R : Ch × List UInt8 × Int} {E : Int} (h : R = (Ch0, [], E)) (hb : Below w.heap.size w w') : RF R w (.returned (.tuple #[.agg (Ch0.a none 0 none 0), .string ⟨([] : List UInt8).toArray⟩, .int .i64 E])) w' := by
 subst h
 exact ⟨none, 0, rfl, SlS.nil _ _, up_none _, hb⟩
theorem two_new {w w1 : World} {cs cs' : Array Value} {t t' : TypeId} (hb : Below ((w.alloc (.cells cs t)).alloc (.cells cs' t')).heap.size ((w.alloc (.cells cs t)).alloc (.cells cs' t')) w1) :
  Blk w1 w.heap.size cs t ∧ Blk w1 (w.heap.size + 1) cs' t' ∧ Below w.heap.size w w1 :=
 ⟨((Blk.new w cs t).alloc _).below hb, (Blk.new' _ _ _ _ (by simp)).below hb, (below2s w _ _).trans (hb.mono (by simp; omega))⟩
theorem sa5 (d : List Nm.S) (h : d.length = 5) : ∃ a b c e f, d = [a, b, c, e, f] := by
 match d, h with
 | [a, b, c, e, f], _ => exact ⟨a, b, c, e, f, rfl⟩
section
variable (c : Ch) (no : Option Addr) (nc : Nat) (dO : Option Addr) (dc : Nat)
theorem Ch.set0 (v : Int) : (c.a no nc dO dc).setIfInBounds 0 (.int .i64 v) = (⟨v, c.table, c.other, c.to, c.also, c.name, c.type, c.names, c.col, c.df⟩ : Ch).a no nc dO dc := by simp [Ch.a]
theorem Ch.set6 (v : Int) : (c.a no nc dO dc).setIfInBounds 6 (.int .i64 v) = (⟨c.kind, c.table, c.other, c.to, c.also, c.name, v, c.names, c.col, c.df⟩ : Ch).a no nc dO dc := by simp [Ch.a]
theorem Ch.set7 (ns : List Nm.S) (mo : Option Addr) (mc : Nat) : (c.a no nc dO dc).setIfInBounds 7 (.slice mo ns.length mc) = (⟨c.kind, c.table, c.other, c.to, c.also, c.name, c.type, ns, c.col, c.df⟩ : Ch).a mo mc dO dc := by simp [Ch.a]
end
theorem sa_pad (d : List Nm.S) (n j : Nat) (hd : d.length = j) (hj : j < n) : (sa (d ++ List.replicate (n - j) []))[j]? = some (.string ⟨([] : List UInt8).toArray⟩) := by
 have h : j < (d ++ List.replicate (n - j) ([] : Nm.S)).length := by simp; omega
 rw [sa_at h]
 have : (d ++ List.replicate (n - j) ([] : Nm.S))[j] = [] := by
  rw [List.getElem_append_right (by omega), List.getElem_replicate]
 rw [this]
theorem readFields_is (l : List UInt8) (w : World) (hl : l.length ≤ 1000000) :
  Calls Tryz.prog 38 #[.string ⟨l.toArray⟩] w (RF (rfs l) w) := by
 obtain ⟨k, l1, E, h1⟩ : ∃ k l1 E, smb 1 6 1 l = (k, l1, E) := ⟨_, _, _, rfl⟩
 have n1 := suf_len (smb_sf 1 6 1 l)
 rw [h1] at n1
 simp only at n1
 have X := zh (za h1 (show l1.length ≤ 1000000 by omega))
 obtain ⟨R, hR⟩ : ∃ R, rfs l = R := ⟨_, rfl⟩
 rw [hR]
 have HR := zh (show _ = R from (by rw [← hR, rfs_is, h1]))
 clear n1 h1 hl hR
 go_enter Tryz.func38, Tryz.ntmps38
 go_wp2_with fail
 refine (win_is 1 1 6 6 1 k E l l1 k _ rfl rfl (by decide) X.out.1 rfl).mono ?_
 rintro y w1 ⟨rfl, hb⟩
 have K := zh (two_new (cs := Ch0.a none 0 none 0) (cs' := Ch0.a none 0 none 0) hb)
 clear hb
 have qc := K.out.2.1.cell
 have qf := K.out.2.1.frozen
 by_cases hE : E = 0
 ·subst hE
  have HR := zh ((bnd_ok rfl _ _).symm.trans HR.out)
  have BC : Blk (w1.setCell ⟨w.heap.size + 1, 0, none⟩ (.int .i64 (k : Int))) (w.heap.size + 1) ((⟨(k : Int), [], [], [], [], [], 0, [], C0, T0⟩ : Ch).a none 0 none 0) 32 := by
   have := K.out.2.1.setAt 0 (.int .i64 (k : Int))
   rwa [Ch.set0] at this
  have Ne := zh (za K.out.1.lt K.out.2.1.lt)
  have K3 := zh (za (below_set K.out.2.2 (show w.heap.size ≤ w.heap.size + 1 by omega) 0 (.int .i64 (k : Int))) (za (K.out.1.otherAt (show w.heap.size ≠ w.heap.size + 1 by omega) 0 (.int .i64 (k : Int))) BC))
  clear BC
  go_wp2
  clear qc qf
  go_loopw [0, 20] (fun s i wr => ∃ (j : Nat) (d : List Nm.S) (L : List UInt8), s = .string ⟨L.toArray⟩ ∧ i = .int .i64 j ∧ j ≤ 5 ∧ d.length = j ∧ rts 5 l1 = prT d (rts (5 - j) L) ∧ L.length ≤ 1000000 ∧ Below w.heap.size w wr ∧ Blk wr w.heap.size (Ch0.a none 0 none 0) 32 ∧ Blk wr (w.heap.size + 1) ((⟨(k : Int), [], [], [], [], [], 0, [], C0, T0⟩ : Ch).a none 0 none 0) 32 ∧ Blk wr w1.heap.size (sa (d ++ List.replicate (5 - j) [])) 72) (fun _ i _ => 5 - (intOf i).toNat)
  case atStart => exact ⟨0, [], l1, rfl, rfl, by omega, rfl, (prT_nil _ _).symm, X.out.2, K3.out.1.alloc K3.out.1.size _, K3.out.2.1.alloc _, K3.out.2.2.alloc _, Blk.new' _ _ _ _ (by simp)⟩
  case round =>
   obtain ⟨j, d, L, rfl, rfl, hj, hd, hQ, hL, hbel, hb2, hbc, hba⟩ := hrel
   have J := zh (za hbel (za hb2 (za hbc (za hba (za hd (za hQ hL))))))
   clear hbel hb2 hbc hba hd hQ hL
   by_cases hlt : j < 5
   ·obtain ⟨s, r, e, hs⟩ : ∃ s r e, Pk.rt L = (s, r, e) := ⟨_, _, _, rfl⟩
    have lr := suf_len (rt_sf L)
    rw [hs] at lr
    have Y := zh (za hs (show r.length ≤ 1000000 by have := J.out.2.2.2.2.2.2; simp only at lr; omega))
    have eN : 5 - j = (5 - (j + 1)) + 1 := by omega
    clear hs lr
    go_wp2_with fail
    refine (textR L s r e _ J.out.2.2.2.2.2.2 Y.out.1).mono ?_
    rintro y w6 ⟨rfl, hb⟩
    have hx := sa_pad d 5 j J.out.2.2.2.2.1 hlt
    have qa := (J.out.2.2.2.1.below hb).cell
    have qf := (J.out.2.2.2.1.below hb).frozen
    have BA : Blk (w6.setCell ⟨w1.heap.size, j, none⟩ (.string ⟨s.toArray⟩)) w1.heap.size (sa ((d ++ [s]) ++ List.replicate (5 - (j + 1)) [])) 72 := by
     have := (J.out.2.2.2.1.below hb).setAt j (.string ⟨s.toArray⟩)
     rwa [sa_set, tset_next _ 5 j _ J.out.2.2.2.2.1 hlt] at this
    have K6 := zh (za (below_set (step0 J.out.1 hb) (show w.heap.size ≤ w1.heap.size from K.out.2.2.size) j (.string ⟨s.toArray⟩)) (za ((J.out.2.1.below hb).otherAt (show w.heap.size ≠ w1.heap.size by have := Ne.out; omega) j (.string ⟨s.toArray⟩)) (za ((J.out.2.2.1.below hb).otherAt (show w.heap.size + 1 ≠ w1.heap.size by have := Ne.out; omega) j (.string ⟨s.toArray⟩)) BA)))
    clear hb BA
    by_cases he : e = 0
    ·subst he
     have Q := zh (show rts 5 l1 = prT (d ++ [s]) (rts (5 - (j + 1)) r) from by rw [J.out.2.2.2.2.2.1, eN]; exact prT_step d _ Y.out.1)
     clear eN
     go_wp2
     go_roundw
     case rel => exact ⟨j + 1, d ++ [s], r, rfl, by go_num, hlt, by simp [J.out.2.2.2.2.1], Q.out, Y.out.2, K6.out⟩
     case measure => simp [intOf]; omega
    ·have e1 := bne_t he
     have Q := zh (show R = (Ch0, [], e) from by rw [← HR.out, show rts 5 l1 = ([], [], e) from by rw [J.out.2.2.2.2.2.1, eN]; exact prT_err d _ Y.out.1 he]; exact bnd_err rfl he _ _)
     clear eN he
     go_wp2_with ((refine (?_ : wpList _ _ _ (Oper.mk _ (Op.store 32 _ _) _ _ _ _ :: _) _ _)); refine wpList_store_blk rfl 32 _ _ rfl (w.heap.size) (Ch0.a none 0 none 0) (Ch0.a none 0 none 0) rfl rfl (K6.out.2.1) (by first | rfl | simp [sa_size]) (infoCh) (Ch.a_one _ _ _ _ _) ?_)
     intro w9 q9 r9
     go_wp2
     refine bodyPost_ret (results_3 Tryz.results38 rfl rfl rfl (loadCh q9)) rfl (RF.bad Q.out (r9.below _ _ (Nat.le_refl _) K6.out.1))
   ·obtain rfl : j = 5 := by omega
    have hQ := J.out.2.2.2.2.2.1
    have hA := J.out.2.2.2.1
    rw [Nat.sub_self, prT_end] at hQ
    rw [Nat.sub_self, List.replicate_zero, List.append_nil] at hA
    obtain ⟨a0, a1, a2, a3, a4, rfl⟩ := sa5 d J.out.2.2.2.2.1
    have HA := zh hA
    have HR := zh (show _ = R from by rw [← HR.out, bnd_ok hQ])
    clear hQ hA hlt hj
    go_wp2_with (first | ((refine (?_ : wpList _ _ _ (Oper.mk _ (Op.load 32 _) _ _ _ _ :: _) _ _)); refine wpList_load_blk rfl 32 _ rfl (w.heap.size + 1) rfl ((⟨(k : Int), [], [], [], [], [], 0, [], C0, T0⟩ : Ch).a none 0 none 0) _ (J.out.2.2.1) Tryz.underlying32 rfl (infoCh) ?_; go_frame) | ((refine (?_ : wpList _ _ _ (Oper.mk _ (Op.load 72 _) _ _ _ _ :: _) _ _)); refine wpList_load_blk rfl 72 _ rfl (w1.heap.size) rfl (sa [a0, a1, a2, a3, a4]) _ (HA.out) Tryz.underlying72 rfl (infoT5 rfl) ?_; go_frame))
    refine (withTexts_is (⟨(k : Int), [], [], [], [], [], 0, [], C0, T0⟩ : Ch) none 0 none 0 a0 a1 a2 a3 a4 _).mono ?_
    rintro e w7 ⟨rfl, hb⟩
    have K7 := zh (za (step0 J.out.1 hb) (za (J.out.2.1.below hb) (J.out.2.2.1.below hb)))
    clear hb
    go_wp2_with ((refine (?_ : wpList _ _ _ (Oper.mk _ (Op.store 32 _ _) _ _ _ _ :: _) _ _)); refine wpList_store_blk rfl 32 _ _ rfl (w.heap.size + 1) ((⟨(k : Int), [], [], [], [], [], 0, [], C0, T0⟩ : Ch).a none 0 none 0) ((⟨(k : Int), a0, a1, a2, a3, a4, 0, [], C0, T0⟩ : Ch).a none 0 none 0) rfl rfl (K7.out.2.2) (by first | rfl | simp [sa_size]) (infoCh) (Ch.a_one _ _ _ _ _) ?_)
    intro w8 q8 r8
    have K8 := zh (za (r8.below _ _ (by omega) K7.out.1) (za (K7.out.2.1.wr r8 (by omega)) q8))
    have qc := q8.cell
    have qf := q8.frozen
    clear q8 r8
    obtain ⟨ty, l3, E3, h3⟩ : ∃ k l E, small 100 1 L = (k, l, E) := ⟨_, _, _, rfl⟩
    have n3 := suf_len (small_sf 100 1 L)
    rw [h3] at n3
    simp only at n3
    have X3 := zh (za h3 (show l3.length ≤ 1000000 by have := J.out.2.2.2.2.2.2; omega))
    have HR := zh (show _ = R from by rw [← HR.out, h3])
    clear h3 n3
    go_wp2_with fail
    refine (upTo_is 100 100 1 ty E3 L l3 ty _ rfl (by decide) X3.out.1 rfl).mono ?_
    rintro y w9 ⟨rfl, hb⟩
    have K9 := zh (za (step0 K8.out.1 hb) (za (K8.out.2.1.below hb) (K8.out.2.2.below hb)))
    clear hb qc qf
    have qc := K9.out.2.2.cell
    have qf := K9.out.2.2.frozen
    have BC : Blk (w9.setCell ⟨w.heap.size + 1, 6, none⟩ (.int .i64 (ty : Int))) (w.heap.size + 1) ((⟨(k : Int), a0, a1, a2, a3, a4, (ty : Int), [], C0, T0⟩ : Ch).a none 0 none 0) 32 := by
     have := K9.out.2.2.setAt 6 (.int .i64 (ty : Int))
     rwa [Ch.set6] at this
    have K10 := zh (za (below_set K9.out.1 (show w.heap.size ≤ w.heap.size + 1 by omega) 6 (.int .i64 (ty : Int))) (za (K9.out.2.1.otherAt (show w.heap.size ≠ w.heap.size + 1 by omega) 6 (.int .i64 (ty : Int))) BC))
    clear BC
    by_cases hE3 : E3 = 0
    ·subst hE3
     have HR := zh ((bnd_ok rfl _ _).symm.trans HR.out)
     go_wp2_with fail
     clear qc qf
     refine (readNames_is l3 _ X3.out.2).mono ?_
     intro e w11 hrn
     obtain ⟨no, nc, rfl, hsl, hup, hb⟩ := hrn.sl
     obtain ⟨ns, l5, E5, h5⟩ : ∃ a b c, rns' l3 = (a, b, c) := ⟨_, _, _, rfl⟩
     rw [h5] at hsl ⊢
     simp only at hsl
     have HR := zh (show _ = R from by rw [← HR.out, h5])
     clear h5 hrn
     have lt11 := K10.out.2.2.lt
     have K11 := zh (za (step0 K10.out.1 hb) (za (K10.out.2.1.below hb) (za (K10.out.2.2.below hb) (za hsl (hup.mono (show w.heap.size + 2 ≤ _ from lt11))))))
     clear hsl hup hb lt11
     have qc := K11.out.2.2.1.cell
     have qf := K11.out.2.2.1.frozen
     have BC : Blk (w11.setCell ⟨w.heap.size + 1, 7, none⟩ (.slice no ns.length nc)) (w.heap.size + 1) ((⟨(k : Int), a0, a1, a2, a3, a4, (ty : Int), ns, C0, T0⟩ : Ch).a no nc none 0) 32 := by
      have := K11.out.2.2.1.setAt 7 (.slice no ns.length nc)
      rwa [Ch.set7] at this
     have K12 := zh (za (below_set K11.out.1 (show w.heap.size ≤ w.heap.size + 1 by omega) 7 (.slice no ns.length nc)) (za (K11.out.2.1.otherAt (show w.heap.size ≠ w.heap.size + 1 by omega) 7 (.slice no ns.length nc)) (za BC ((Wr.one w11 (w.heap.size + 1) 7 (.slice no ns.length nc)).sls K11.out.2.2.2.1 K11.out.2.2.2.2 (by omega)))))
     clear BC
     by_cases hE5 : E5 = 0
     ·subst hE5
      have HR := zh (show (mkc k [a0, a1, a2, a3, a4] ty ns, l5, (0 : Int)) = R from (bnd_ok rfl _ _).symm.trans HR.out)
      go_wp2_with (first | ((refine (?_ : wpList _ _ _ (Oper.mk _ (Op.load 32 _) _ _ _ _ :: _) _ _)); refine wpList_load_blk rfl 32 _ rfl (w.heap.size + 1) rfl ((⟨(k : Int), a0, a1, a2, a3, a4, (ty : Int), ns, C0, T0⟩ : Ch).a no nc none 0) _ (K12.out.2.2.1) Tryz.underlying32 rfl (infoCh) ?_; go_frame) | ((refine (?_ : wpList _ _ _ (Oper.mk _ (Op.store 32 _ _) _ _ _ _ :: _) _ _)); refine wpList_store_blk rfl 32 _ _ rfl (w.heap.size) (Ch0.a none 0 none 0) ((⟨(k : Int), a0, a1, a2, a3, a4, (ty : Int), ns, C0, T0⟩ : Ch).a no nc none 0) rfl rfl (K12.out.2.1) (by first | rfl | simp [sa_size]) (infoCh) (Ch.a_one _ _ _ _ _) ?_))
      intro w13 q13 r13
      go_wp2
      refine bodyPost_ret (results_3 Tryz.results38 rfl rfl rfl (loadCh q13)) rfl ?_
      rw [← HR.out]
      refine ⟨no, nc, rfl, r13.sls K12.out.2.2.2 K11.out.2.2.2.2 (by omega), K11.out.2.2.2.2.mono (by omega), r13.below _ _ (Nat.le_refl _) K12.out.1⟩
     ·have e1 := bne_t hE5
      have Q := zh ((bnd_err rfl hE5 _ _).symm.trans HR.out)
      clear hE5
      go_wp2_with ((refine (?_ : wpList _ _ _ (Oper.mk _ (Op.store 32 _ _) _ _ _ _ :: _) _ _)); refine wpList_store_blk rfl 32 _ _ rfl (w.heap.size) (Ch0.a none 0 none 0) (Ch0.a none 0 none 0) rfl rfl (K12.out.2.1) (by first | rfl | simp [sa_size]) (infoCh) (Ch.a_one _ _ _ _ _) ?_)
      intro w9 q9 r9
      go_wp2
      refine bodyPost_ret (results_3 Tryz.results38 rfl rfl rfl (loadCh q9)) rfl (RF.bad Q.out.symm (r9.below _ _ (Nat.le_refl _) K12.out.1))
    ·have e1 := bne_t hE3
     have Q := zh ((bnd_err rfl hE3 _ _).symm.trans HR.out)
     clear hE3
     go_wp2_with ((refine (?_ : wpList _ _ _ (Oper.mk _ (Op.store 32 _ _) _ _ _ _ :: _) _ _)); refine wpList_store_blk rfl 32 _ _ rfl (w.heap.size) (Ch0.a none 0 none 0) (Ch0.a none 0 none 0) rfl rfl (K10.out.2.1) (by first | rfl | simp [sa_size]) (infoCh) (Ch.a_one _ _ _ _ _) ?_)
     intro w9 q9 r9
     go_wp2
     refine bodyPost_ret (results_3 Tryz.results38 rfl rfl rfl (loadCh q9)) rfl (RF.bad Q.out.symm (r9.below _ _ (Nat.le_refl _) K10.out.1))
 ·have e1 := bne_t hE
  have HR := zh ((bnd_err rfl hE _ _).symm.trans HR.out)
  clear hE
  go_wp2_with ((refine (?_ : wpList _ _ _ (Oper.mk _ (Op.store 32 _ _) _ _ _ _ :: _) _ _)); refine wpList_store_blk rfl 32 _ _ rfl (w.heap.size) (Ch0.a none 0 none 0) (Ch0.a none 0 none 0) rfl rfl (K.out.1.otherAt (by omega) 0 _) (by first | rfl | simp [sa_size]) (infoCh) (Ch.a_one _ _ _ _ _) ?_)
  intro w9 q9 r9
  go_wp2
  refine bodyPost_ret (results_3 Tryz.results38 rfl rfl rfl (loadCh q9)) rfl (RF.bad HR.out.symm (r9.below _ _ (Nat.le_refl _) (below_set K.out.2.2 (by omega) 0 _)))
end Go.Proofs.YtmgdciihpjifgaaGreatDoor
