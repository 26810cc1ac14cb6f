/-
 What bytes ask: withRows, readRow, readOp. Conditions: texts of 1000000 bytes at most.
 What bytes ask: readOp, Read. Conditions: texts of 1000000 bytes at most.
-/
import Derived.Test.YtmgdciihpjifgaaGreatDoorQrOpMemO
import Derived.Test.YtmgdciihpjifgaaGreatDoorQrOpReadG
import Derived.BigRegion
set_option maxHeartbeats 8000000
namespace Go.Proofs.YtmgdciihpjifgaaGreatDoor
open Go.RowKit
set_option linter.unusedVariables false
theorem O.setR' (o : O) (p : Ps) (x y z : RV) : (((o.a p).setIfInBounds 2 (.slice x.ao x.xs.length x.cap)).setIfInBounds 3 (.slice y.ao y.xs.length y.cap)).setIfInBounds 4 (.slice z.ao z.xs.length z.cap) = (⟨o.kind, o.table, x.xs, y.xs, z.xs, o.max, o.ch⟩ : O).a ⟨x.ao, x.cap, y.ao, y.cap, z.ao, z.cap, p.n, p.nc, p.d, p.dc⟩ := rfl
theorem withRows_is (o : O) (p : Ps) (x y z : RV) (w : World) :
  Calls Tryz.prog 77 #[.agg (o.a p), .agg (va [x, y, z])] w fun e w' => e = .returned (.agg ((⟨o.kind, o.table, x.xs, y.xs, z.xs, o.max, o.ch⟩ : O).a ⟨x.ao, x.cap, y.ao, y.cap, z.ao, z.cap, p.n, p.nc, p.d, p.dc⟩)) ∧ Below w.heap.size w w' := by
 have hmx : Tryz.prog.follows .mixedOrders = true := by kernel_rfl
 have hva : va [x, y, z] = #[.slice x.ao x.xs.length x.cap, .slice y.ao y.xs.length y.cap, .slice z.ao z.xs.length z.cap] := rfl
 rw [hva]
 clear hva
 go_enter Tryz.func77, Tryz.ntmps77
 go_wp2
 go_region
 rw [O.setR']
 go_wp2_with (first | ((refine (?_ : wpList _ _ _ (Oper.mk _ (Op.load 48 _) _ _ _ _ :: _) _ _)); refine wpList_load_blk rfl 48 _ rfl (w.heap.size) rfl ((⟨o.kind, o.table, x.xs, y.xs, z.xs, o.max, o.ch⟩ : O).a ⟨x.ao, x.cap, y.ao, y.cap, z.ao, z.cap, p.n, p.nc, p.d, p.dc⟩) _ (((Blk.new w _ _).alloc _).alloc _) Tryz.underlying48 rfl (infoO) ?_; go_frame) | ((refine (?_ : wpList _ _ _ (Oper.mk _ (Op.store 48 _ _) _ _ _ _ :: _) _ _)); refine wpList_store_blk rfl 48 _ _ rfl (w.heap.size + 1 + 1) (O0.a P0) ((⟨o.kind, o.table, x.xs, y.xs, z.xs, o.max, o.ch⟩ : O).a ⟨x.ao, x.cap, y.ao, y.cap, z.ao, z.cap, p.n, p.nc, p.d, p.dc⟩) rfl rfl (Blk.new' _ _ _ _ (by simp)) (by first | rfl | simp [sa_size]) (infoO) (O.a_one _ _) ?_))
 intro w3 q3 r3
 go_wp2
 exact bodyPost_ret (results_1 Tryz.results77 rfl (loadO q3)) rfl ⟨rfl, r3.below _ _ (by omega) (below3s w _ _ _).drew⟩
theorem OwV.up {w : World} {b n cap : Nat} {ao : Option Addr} {xs : List V} (h : OwV w b (.slice ao n cap) xs) : Up b ao := by
 intro a ha
 subst ha
 rcases h.2 with ⟨hv, _⟩ | ⟨g, _, _, hv, hg, _⟩
 ·cases hv
 ·cases hv; exact hg
def RW (R : List V × List UInt8 × Int) (w : World) (e : Ending) (w' : World) : Prop :=
 ∃ ao cap, e = .returned (.tuple #[.slice ao R.1.length cap, .string ⟨R.2.1.toArray⟩, .int .i64 R.2.2]) ∧ Sl w' ao R.1 ∧ Up w.heap.size ao ∧ Below w.heap.size w w'
theorem RW.bad {w w' : World} {R : List V × List UInt8 × Int} {E : Int} (h : R = ([], [], E)) (hb : Below w.heap.size w w') : RW R w (.returned (.tuple #[.slice none 0 0, .string ⟨([] : List UInt8).toArray⟩, .int .i64 E])) w' := by
 subst h
 exact ⟨none, 0, rfl, fun i x hi => by simp at hi, up_none _, hb⟩
theorem readRow_is (l : List UInt8) (w : World) (hl : l.length ≤ 1000000) :
  Calls Tryz.prog 76 #[.string ⟨l.toArray⟩] w (RW (rrw l) w) := by
 obtain ⟨R, hR⟩ : ∃ R, rrw l = R := ⟨_, rfl⟩
 rw [hR]
 obtain ⟨t, r, E, h1⟩ : ∃ t r e, Pk.rt l = (t, r, e) := ⟨_, _, _, rfl⟩
 have HR := zh (show bnd (t, r, E) [] (fun t r => if (Rk.ra t).2 ≠ 0 then ([], [], (Rk.ra t).2) else ((Rk.ra t).1, r, 0)) = R from by rw [← hR, ← h1]; rfl)
 have lt : E = 0 → t.length ≤ 1000000 := by
  intro e
  subst e
  rcases Pk.rd_cases l with ⟨N, q, g, _, e⟩ | ⟨e, g, he⟩
  ·by_cases k : q.length < N
   ·rw [Pk.rt_short l q N g k] at h1
    have := congrArg (·.2.2) h1
    simp at this
   ·rw [Pk.rt_end l q N g (by omega)] at h1
    have : q.length ≤ l.length := by rw [← e, List.length_append]; omega
    have : t = q.take N := (congrArg (·.1) h1).symm
    rw [this, List.length_take]; omega
  ·rw [Pk.rt_bad l e g (by omega)] at h1
   have := congrArg (·.2.2) h1
   simp at this
   omega
 have H := zh (za h1 (za hl lt))
 clear hR h1 hl lt
 go_enter Tryz.func76, Tryz.ntmps76
 go_wp2_with fail
 refine (textR l t r E _ H.out.2.1 H.out.1).mono ?_
 rintro y w1 ⟨rfl, hb⟩
 have B1 := zh hb
 clear hb
 by_cases hE : E = 0
 ·subst hE
  have HR := zh (show (if (Rk.ra t).2 ≠ 0 then ([], [], (Rk.ra t).2) else ((Rk.ra t).1, r, 0)) = R from (bnd_ok rfl _ _).symm.trans HR.out)
  obtain ⟨xs, E2, h2⟩ : ∃ xs e, Rk.ra t = (xs, e) := ⟨_, _, rfl⟩
  have HR := zh (show (if E2 ≠ 0 then ([], [], E2) else (xs, r, 0)) = R from by rw [← HR.out, h2])
  have H2 := zh h2
  clear h2
  go_wp2_with fail
  refine (Rk.rread_is t _ (H.out.2.2 (by first | rfl | trivial))).mono ?_
  rintro y w2 ⟨v, rfl, hO, hb⟩
  rw [H2.out] at hO ⊢
  obtain ⟨ao, cap, rfl, hs⟩ := hO.sl
  have B2 := zh (za (step0 B1.out hb) (za hs (hO.up.mono B1.out.size)))
  clear hO hb hs
  by_cases hz : E2 = 0
  ·subst hz
   have HR := zh (show (xs, r, (0 : Int)) = R from by rw [← HR.out]; simp)
   go_wp2
   go_ret3
   rw [← HR.out]
   exact ⟨ao, cap, rfl, B2.out.2.1, B2.out.2.2, B2.out.1⟩
  ·have e1 := bne_t hz
   have Q := zh (show R = ([], [], E2) from by rw [← HR.out, if_pos hz])
   clear hz
   go_wp2
   go_ret3
   exact RW.bad Q.out B2.out.1
 ·have e1 := bne_t hE
  have Q := zh ((bnd_err rfl hE _ _).symm.trans HR.out)
  clear hE
  go_wp2
  go_ret3
  exact RW.bad Q.out.symm B1.out
def rrs : Nat → List UInt8 → List (List V) × List UInt8 × Int
 | 0, l => ([], l, 0)
 | n + 1, l => bnd (rrw l) [] fun a r => bnd (rrs n r) [] fun b q => (a :: b, q, 0)
def prV (d : List (List V)) (r : List (List V) × List UInt8 × Int) : List (List V) × List UInt8 × Int := if r.2.2 ≠ 0 then ([], [], r.2.2) else (d ++ r.1, r.2.1, 0)
theorem rrs_bad : ∀ (n : Nat) (l : List UInt8), (rrs n l).2.2 ≠ 0 → (rrs n l).1 = [] ∧ (rrs n l).2.1 = []
 | 0, l, h => absurd rfl h
 | n + 1, l, h => by
  rw [rrs] at h ⊢
  rcases e : rrw l with ⟨s, q, E⟩
  by_cases hE : E = 0
  ·subst hE
   rw [e] at h
   rw [bnd_ok rfl] at h ⊢
   rcases e2 : rrs n q with ⟨ss, q2, E2⟩
   by_cases hE2 : E2 = 0
   ·subst hE2
    rw [e2, bnd_ok rfl] at h
    exact absurd rfl h
   ·rw [bnd_err rfl hE2]
    exact ⟨rfl, rfl⟩
  ·rw [bnd_err rfl hE]
   exact ⟨rfl, rfl⟩
theorem prV_nil (n : Nat) (l : List UInt8) : prV [] (rrs n l) = rrs n l := by
 unfold prV
 rcases e : rrs n l with ⟨a, b, c⟩
 by_cases h : c = 0
 ·subst h; simp
 ·have := rrs_bad n l (by rw [e]; exact h)
  rw [e] at this
  obtain ⟨rfl, rfl⟩ : a = [] ∧ b = [] := this
  simp [h]
theorem prV_step {l r : List UInt8} {s : List V} (d : List (List V)) (n : Nat) (h : rrw l = (s, r, 0)) : prV d (rrs (n + 1) l) = prV (d ++ [s]) (rrs n r) := by
 rw [rrs, bnd_ok h]
 rcases e : rrs n r with ⟨a, b, c⟩
 by_cases hc : c = 0
 ·subst hc
  rw [bnd_ok rfl]
  simp [prV]
 ·rw [bnd_err rfl hc]
  simp [prV, hc]
theorem prV_err {l r : List UInt8} {s : List V} {e : Int} (d : List (List V)) (n : Nat) (h : rrw l = (s, r, e)) (he : e ≠ 0) : prV d (rrs (n + 1) l) = ([], [], e) := by
 rw [rrs, bnd_err h he]
 simp [prV, he]
theorem prV_end (d : List (List V)) (l : List UInt8) : prV d (rrs 0 l) = (d, l, 0) := by simp [prV, rrs]
theorem bnd_pure {α β : Type} (a : α) (r : List UInt8) (z : β) (f : α → List UInt8 → β × List UInt8 × Int) : bnd (a, r, 0) z f = f a r := bnd_ok rfl z f
def ro3 (k : Nat) (tb : Nm.S) (ys : List (List V)) (mx : Nat) (l : List UInt8) : O × List UInt8 × Int := roc k tb (ys.getD 0 []) (ys.getD 1 []) (ys.getD 2 []) mx l
theorem rop_is (l : List UInt8) : rop l = bnd (smb 1 9 1 l) O0 fun k l1 => bnd (Pk.rt l1) O0 fun tb l2 => bnd (rrs 3 l2) O0 fun ys l5 => bnd (small 64 1 l5) O0 fun mx l6 => ro3 k tb ys mx l6 := by
 unfold rop rrs rrs rrs rrs ro3
 simp only [bnd_bnd, bnd_pure]
 rfl
def InU (W : World) (n : Nat) (o : O) (p : Ps) : Prop :=
 (Sl W p.r o.row ∧ Sl W p.l o.lo ∧ Sl W p.h o.hi ∧ SlS W p.n o.ch.names ∧ SlC W p.d o.ch.df.cs ∧ o.ch.df.cs.length ≤ p.dc) ∧ Up n p.r ∧ Up n p.l ∧ Up n p.h ∧ Up n p.n ∧ Up n p.d
theorem InU.below {W W' : World} {n : Nat} {o : O} {p : Ps} (h : InU W n o p) (hb : Below W.heap.size W W') : InU W' n o p :=
 ⟨⟨h.1.1.below hb, h.1.2.1.below hb, h.1.2.2.1.below hb, h.1.2.2.2.1.below hb, h.1.2.2.2.2.1.below hb, h.1.2.2.2.2.2⟩, h.2⟩
theorem InU.mono {W : World} {n m : Nat} {o : O} {p : Ps} (h : InU W n o p) (hm : m ≤ n) : InU W m o p :=
 ⟨h.1, h.2.1.mono hm, h.2.2.1.mono hm, h.2.2.2.1.mono hm, h.2.2.2.2.1.mono hm, h.2.2.2.2.2.mono hm⟩
theorem InU.wr {W W' : World} {b n : Nat} {o : O} {p : Ps} (h : InU W n o p) (r : Wr W W' b) (hn : b < n) : InU W' n o p :=
 ⟨⟨r.sl h.1.1 h.2.1 hn, r.sl h.1.2.1 h.2.2.1 hn, r.sl h.1.2.2.1 h.2.2.2.1 hn, r.sls h.1.2.2.2.1 h.2.2.2.2.1 hn, r.slc h.1.2.2.2.2.1 h.2.2.2.2.2 hn, h.1.2.2.2.2.2⟩, h.2⟩
theorem InU.in {W : World} {n : Nat} {o : O} {p : Ps} (h : InU W n o p) (ho : o.okv) : InO W o p :=
 ⟨h.1.1, h.1.2.1, h.1.2.2.1, ⟨h.1.2.2.2.1, ⟨h.1.2.2.2.2.1, h.1.2.2.2.2.2, ho.2.2.2.2⟩, ho.2.2.2.1⟩, ho⟩
theorem sl_nil (W : World) (ao : Option Addr) : Sl W ao [] := fun i x h => by simp at h
theorem slc_nil (W : World) (ao : Option Addr) : SlC W ao [] := fun i x h => by simp at h
theorem inU_0 (W : World) (n : Nat) : InU W n O0 P0 := ⟨⟨sl_nil _ _, sl_nil _ _, sl_nil _ _, SlS.nil _ _, slc_nil _ _, Nat.le_refl _⟩, up_none _, up_none _, up_none _, up_none _, up_none _⟩
def RP (R : O × List UInt8 × Int) (w : World) (e : Ending) (w' : World) : Prop :=
 ∃ p, e = .returned (.tuple #[.agg (R.1.a p), .string ⟨R.2.1.toArray⟩, .int .i64 R.2.2]) ∧ InU w' w.heap.size R.1 p ∧ Below w.heap.size w w'
theorem RP.bad {w w' : World} {R : O × List UInt8 × Int} {E : Int} (h : R = (O0, [], E)) (hb : Below w.heap.size w w') : RP R w (.returned (.tuple #[.agg (O0.a P0), .string ⟨([] : List UInt8).toArray⟩, .int .i64 E])) w' := by
 subst h
 exact ⟨P0, rfl, inU_0 _ _, hb⟩
theorem va_pad (d : List RV) (n j : Nat) (hd : d.length = j) (hj : j < n) : (va (d ++ List.replicate (n - j) RV0))[j]? = some (.slice none 0 0) := by
 have h : j < (d ++ List.replicate (n - j) RV0).length := by simp; omega
 rw [va_at h]
 have : (d ++ List.replicate (n - j) RV0)[j] = RV0 := by
  rw [List.getElem_append_right (by omega), List.getElem_replicate]
 rw [this]
 rfl
theorem vset_next (d : List RV) (N j : Nat) (x : RV) (hd : d.length = j) (hj : j < N) : (d ++ List.replicate (N - j) RV0).set j x = (d ++ [x]) ++ List.replicate (N - (j + 1)) RV0 := by
 rw [List.set_append_right _ _ (by omega), hd, Nat.sub_self, show N - j = (N - (j + 1)) + 1 by omega, List.replicate_succ, List.set_cons_zero, List.append_assoc]
 rfl
theorem va3 (d : List RV) (h : d.length = 3) : ∃ a b c, d = [a, b, c] := by
 match d, h with
 | [a, b, c], _ => exact ⟨a, b, c, rfl⟩
end Go.Proofs.YtmgdciihpjifgaaGreatDoor
namespace Go.Proofs.YtmgdciihpjifgaaGreatDoor
open Go.RowKit
set_option linter.unusedVariables false
theorem O.setCh (o : O) (p : Ps) (c : Ch) (no nc dO dc) : (o.pre p ++ (c.a no nc dO dc).toList).toArray = (⟨o.kind, o.table, o.row, o.lo, o.hi, o.max, c⟩ : O).a ⟨p.r, p.rc, p.l, p.lc, p.h, p.hc, no, nc, dO, dc⟩ := by
 unfold O.a
 rw [List.append_nil]
 rfl
theorem Ch.a_all (c : Ch) (no nc dO dc) : ∀ v ∈ (c.a no nc dO dc).toList, v.oneCell' = true := fun v hv => (Array.all_eq_true_iff_forall_mem.1 (c.a_one no nc dO dc)) v (by simpa using hv)
theorem readOp_is (l : List UInt8) (w : World) (hg : Env w) (hl : l.length ≤ 1000000) :
  Calls Tryz.prog 50 #[.string ⟨l.toArray⟩] w (RP (rop l) w) := by
 obtain ⟨k, l1, E, h1⟩ : ∃ k l1 E, smb 1 9 1 l = (k, l1, E) := ⟨_, _, _, rfl⟩
 have n1 := suf_len (smb_sf 1 9 1 l)
 rw [h1] at n1
 simp only at n1
 have X := zh (za h1 (za (show l1.length ≤ 1000000 by omega) hg))
 obtain ⟨R, hR⟩ : ∃ R, rop l = R := ⟨_, rfl⟩
 rw [hR]
 have HR := zh (show _ = R from (by rw [← hR, rop_is, h1]))
 clear n1 h1 hl hR hg
 go_enter Tryz.func50, Tryz.ntmps50
 go_wp2_with fail
 refine (win_is 1 1 9 9 1 k E l l1 k _ rfl rfl (by decide) X.out.1 rfl).mono ?_
 rintro y w1 ⟨rfl, hb⟩
 have K0 := two_new (cs := O0.a P0) (cs' := O0.a P0) hb
 have K := zh (za K0.2.2 (za K0.1 K0.2.1))
 clear hb K0
 have qc := K.out.2.2.cell
 have qf := K.out.2.2.frozen
 have BC : Blk (w1.setCell ⟨w.heap.size + 1, 0, none⟩ (.int .i64 (k : Int))) (w.heap.size + 1) ((⟨(k : Int), [], [], [], [], 0, Ch0⟩ : O).a P0) 48 := by
  have := K.out.2.2.setAt 0 (.int .i64 (k : Int))
  rwa [O.set0] at this
 have K1 := zh (za (below_set K.out.1 (show w.heap.size ≤ w.heap.size + 1 by omega) 0 (.int .i64 (k : Int))) (za (K.out.2.1.otherAt (show w.heap.size ≠ w.heap.size + 1 by omega) 0 (.int .i64 (k : Int))) BC))
 clear BC
 by_cases hE : E = 0
 ·subst hE
  have HR := zh ((bnd_ok rfl _ _).symm.trans HR.out)
  obtain ⟨tb, l2, E2, h2⟩ : ∃ a b c, Pk.rt l1 = (a, b, c) := ⟨_, _, _, rfl⟩
  have n2 := suf_len (rt_sf l1)
  rw [h2] at n2
  simp only at n2
  have X2 := zh (za h2 (show l2.length ≤ 1000000 by have := X.out; omega))
  have HR := zh (show _ = R from by rw [← HR.out, h2])
  clear h2 n2
  go_wp2_with fail
  clear qc qf
  refine (textR l1 tb l2 E2 _ X.out.2.1 X2.out.1).mono ?_
  rintro y w2 ⟨rfl, hb⟩
  have K2 := zh (za (step0 K1.out.1 hb) (za (K1.out.2.1.below hb) (K1.out.2.2.below hb)))
  clear hb
  have qc := K2.out.2.2.cell
  have qf := K2.out.2.2.frozen
  have BC : Blk (w2.setCell ⟨w.heap.size + 1, 1, none⟩ (.string ⟨tb.toArray⟩)) (w.heap.size + 1) ((⟨(k : Int), tb, [], [], [], 0, Ch0⟩ : O).a P0) 48 := by
   have := K2.out.2.2.setAt 1 (.string ⟨tb.toArray⟩)
   rwa [O.set1] at this
  have K3 := zh (za (below_set K2.out.1 (show w.heap.size ≤ w.heap.size + 1 by omega) 1 (.string ⟨tb.toArray⟩)) (za (K2.out.2.1.otherAt (show w.heap.size ≠ w.heap.size + 1 by omega) 1 (.string ⟨tb.toArray⟩)) BC))
  clear BC
  by_cases hE2 : E2 = 0
  ·subst hE2
   have HR := zh ((bnd_ok rfl _ _).symm.trans HR.out)
   have Ne := zh (za K2.out.2.1.lt K2.out.2.2.lt)
   go_wp2
   clear qc qf
   go_loopw [0, 31] (fun s i wr => ∃ (j : Nat) (d : List RV) (L : List UInt8), s = .string ⟨L.toArray⟩ ∧ i = .int .i64 j ∧ j ≤ 3 ∧ d.length = j ∧ rrs 3 l2 = prV (rxs d) (rrs (3 - j) L) ∧ L.length ≤ 1000000 ∧ Below w.heap.size w wr ∧ Blk wr w.heap.size (O0.a P0) 48 ∧ Blk wr (w.heap.size + 1) ((⟨(k : Int), tb, [], [], [], 0, Ch0⟩ : O).a P0) 48 ∧ Blk wr w2.heap.size (va (d ++ List.replicate (3 - j) RV0)) 90 ∧ InR wr d ∧ ∀ y ∈ d, Up (w2.heap.size + 1) y.ao) (fun _ i _ => 3 - (intOf i).toNat)
   case atStart => exact ⟨0, [], l2, rfl, rfl, by omega, rfl, (prV_nil _ _).symm, X2.out.2, K3.out.1.alloc K3.out.1.size _, K3.out.2.1.alloc _, K3.out.2.2.alloc _, Blk.new' _ _ _ _ (by simp), fun y hy => by simp at hy, fun y hy => by simp at hy⟩
   case round =>
    obtain ⟨j, d, L, rfl, rfl, hj, hd, hQ, hL, hbel, hb2, hbc, hba, hin, hup⟩ := hrel
    have J := zh (za hbel (za hb2 (za hbc (za hba (za hd (za hQ (za hL (za hin hup))))))))
    clear hbel hb2 hbc hba hd hQ hL hin hup
    by_cases hlt : j < 3
    ·obtain ⟨xs, r, e, hs⟩ : ∃ s r e, rrw L = (s, r, e) := ⟨_, _, _, rfl⟩
     have lr := suf_len (rrw_sf L)
     rw [hs] at lr
     have Y := zh (za hs (show r.length ≤ 1000000 by have := J.out.2.2.2.2.2.2.1; simp only at lr; omega))
     have eN : 3 - j = (3 - (j + 1)) + 1 := by omega
     clear hs lr
     go_wp2_with fail
     refine (readRow_is L _ J.out.2.2.2.2.2.2.1).mono ?_
     rintro y w6 hrw
     rw [Y.out.1] at hrw
     obtain ⟨ao, cap, rfl, hsl, hup, hb⟩ := hrw
     simp only at hsl
     have hx := va_pad d 3 j J.out.2.2.2.2.1 hlt
     have qa := (J.out.2.2.2.1.below hb).cell
     have qf := (J.out.2.2.2.1.below hb).frozen
     have BA : Blk (w6.setCell ⟨w2.heap.size, j, none⟩ (.slice ao xs.length cap)) w2.heap.size (va ((d ++ [⟨xs, ao, cap⟩]) ++ List.replicate (3 - (j + 1)) RV0)) 90 := by
      have := (J.out.2.2.2.1.below hb).setAt j (RV.val ⟨xs, ao, cap⟩)
      rwa [va_set, vset_next _ 3 j _ J.out.2.2.2.2.1 hlt] at this
     have hlt2 := J.out.2.2.2.1.lt
     have hu2 : Up (w2.heap.size + 1) ao := hup.mono hlt2
     have wr1 := Wr.one w6 w2.heap.size j (.slice ao xs.length cap)
     have hI : InR (w6.setCell ⟨w2.heap.size, j, none⟩ (.slice ao xs.length cap)) (d ++ [⟨xs, ao, cap⟩]) := by
      intro y hy
      rcases List.mem_append.1 hy with g | g
      ·exact wr1.sl ((J.out.2.2.2.2.2.2.2.1 y g).below hb) (J.out.2.2.2.2.2.2.2.2 y g) (by omega)
      ·obtain rfl := List.mem_singleton.1 g
       exact wr1.sl hsl hu2 (by omega)
     have hU : ∀ y ∈ d ++ [(⟨xs, ao, cap⟩ : RV)], Up (w2.heap.size + 1) y.ao := by
      intro y hy
      rcases List.mem_append.1 hy with g | g
      ·exact J.out.2.2.2.2.2.2.2.2 y g
      ·obtain rfl := List.mem_singleton.1 g
       exact hu2
     have K6 := zh (za (below_set (step0 J.out.1 hb) (show w.heap.size ≤ w2.heap.size from K2.out.1.size) j (.slice ao xs.length cap)) (za ((J.out.2.1.below hb).otherAt (show w.heap.size ≠ w2.heap.size by have := Ne.out; omega) j (.slice ao xs.length cap)) (za ((J.out.2.2.1.below hb).otherAt (show w.heap.size + 1 ≠ w2.heap.size by have := Ne.out; omega) j (.slice ao xs.length cap)) (za BA (za hI hU)))))
     clear hb BA hsl hup hlt2 hu2 wr1 hI hU
     by_cases he : e = 0
     ·subst he
      have Q := zh (show rrs 3 l2 = prV (rxs (d ++ [⟨xs, ao, cap⟩])) (rrs (3 - (j + 1)) r) from by rw [J.out.2.2.2.2.2.1, eN, show rxs (d ++ [⟨xs, ao, cap⟩]) = rxs d ++ [xs] from by simp [rxs]]; exact prV_step (rxs d) _ Y.out.1)
      clear eN
      go_wp2
      go_roundw
      case rel => exact ⟨j + 1, d ++ [⟨xs, ao, cap⟩], r, rfl, by go_num, hlt, by simp [J.out.2.2.2.2.1], Q.out, Y.out.2, K6.out⟩
      case measure => simp [intOf]; omega
     ·have e1 := bne_t he
      have Q := zh (show R = (O0, [], e) from by rw [← HR.out, show rrs 3 l2 = ([], [], e) from by rw [J.out.2.2.2.2.2.1, eN]; exact prV_err (rxs d) _ Y.out.1 he]; exact bnd_err rfl he _ _)
      clear eN he
      go_wp2_with ((refine (?_ : wpList _ _ _ (Oper.mk _ (Op.store 48 _ _) _ _ _ _ :: _) _ _)); refine wpList_store_blk rfl 48 _ _ rfl (w.heap.size) (O0.a P0) (O0.a P0) rfl rfl (K6.out.2.1) (by first | rfl | simp [sa_size]) (infoO) (O.a_one _ _) ?_)
      intro w9 q9 r9
      go_wp2
      refine bodyPost_ret (results_3 Tryz.results50 rfl rfl rfl (loadO q9)) rfl (RP.bad Q.out (r9.below _ _ (Nat.le_refl _) K6.out.1))
    ·obtain rfl : j = 3 := by omega
     have hQ := J.out.2.2.2.2.2.1
     have hA := J.out.2.2.2.1
     rw [Nat.sub_self, prV_end] at hQ
     rw [Nat.sub_self, List.replicate_zero, List.append_nil] at hA
     obtain ⟨a, b, c, rfl⟩ := va3 d J.out.2.2.2.2.1
     have HA := zh hA
     have HR := zh (show bnd (small 64 1 L) O0 (fun mx l6 => roc k tb a.xs b.xs c.xs mx l6) = R from by rw [← HR.out, bnd_ok hQ]; rfl)
     have IN := zh (za (za (J.out.2.2.2.2.2.2.2.1 a (by simp)) (za (J.out.2.2.2.2.2.2.2.1 b (by simp)) (J.out.2.2.2.2.2.2.2.1 c (by simp)))) (za (J.out.2.2.2.2.2.2.2.2 a (by simp)) (za (J.out.2.2.2.2.2.2.2.2 b (by simp)) (J.out.2.2.2.2.2.2.2.2 c (by simp)))))
     clear hQ hA hlt hj
     go_wp2_with (first | ((refine (?_ : wpList _ _ _ (Oper.mk _ (Op.load 48 _) _ _ _ _ :: _) _ _)); refine wpList_load_blk rfl 48 _ rfl (w.heap.size + 1) rfl ((⟨(k : Int), tb, [], [], [], 0, Ch0⟩ : O).a P0) _ (J.out.2.2.1) Tryz.underlying48 rfl (infoO) ?_; go_frame) | ((refine (?_ : wpList _ _ _ (Oper.mk _ (Op.load 90 _) _ _ _ _ :: _) _ _)); refine wpList_load_blk rfl 90 _ rfl (w2.heap.size) rfl (va [a, b, c]) _ (HA.out) Tryz.underlying90 rfl (infoV3 rfl) ?_; go_frame))
     refine (withRows_is (⟨(k : Int), tb, [], [], [], 0, Ch0⟩ : O) P0 a b c _).mono ?_
     rintro e w7 ⟨rfl, hb⟩
     have I7 : InU w7 (w2.heap.size + 1) (⟨(k : Int), tb, a.xs, b.xs, c.xs, 0, Ch0⟩ : O) (⟨a.ao, a.cap, b.ao, b.cap, c.ao, c.cap, none, 0, none, 0⟩ : Ps) := ⟨⟨IN.out.1.1.below hb, IN.out.1.2.1.below hb, IN.out.1.2.2.below hb, SlS.nil _ _, slc_nil _ _, Nat.le_refl _⟩, IN.out.2.1, IN.out.2.2.1, IN.out.2.2.2, up_none _, up_none _⟩
     have K7 := zh (za (step0 J.out.1 hb) (za (J.out.2.1.below hb) (za (J.out.2.2.1.below hb) I7)))
     clear hb I7
     go_wp2_with ((refine (?_ : wpList _ _ _ (Oper.mk _ (Op.store 48 _ _) _ _ _ _ :: _) _ _)); refine wpList_store_blk rfl 48 _ _ rfl (w.heap.size + 1) ((⟨(k : Int), tb, [], [], [], 0, Ch0⟩ : O).a P0) ((⟨(k : Int), tb, a.xs, b.xs, c.xs, 0, Ch0⟩ : O).a (⟨a.ao, a.cap, b.ao, b.cap, c.ao, c.cap, none, 0, none, 0⟩ : Ps)) rfl rfl (K7.out.2.2.1) (by first | rfl | simp [sa_size]) (infoO) (O.a_one _ _) ?_)
     intro w8 q8 r8
     have K8 := zh (za (r8.below _ _ (by omega) K7.out.1) (za (K7.out.2.1.wr r8 (by omega)) (za q8 (K7.out.2.2.2.wr r8 (by have := Ne.out; omega)))))
     clear q8 r8
     obtain ⟨mx, l6, E3, h3⟩ : ∃ k l E, small 64 1 L = (k, l, E) := ⟨_, _, _, rfl⟩
     have n3 := suf_len (small_sf 64 1 L)
     rw [h3] at n3
     simp only at n3
     have X3 := zh (za h3 (show l6.length ≤ 1000000 by have := J.out.2.2.2.2.2.2.1; omega))
     have HR := zh (show _ = R from by rw [← HR.out, h3])
     clear h3 n3
     go_wp2_with fail
     refine (upTo_is 64 64 1 mx E3 L l6 mx _ rfl (by decide) X3.out.1 rfl).mono ?_
     rintro y w9 ⟨rfl, hb⟩
     have K9 := zh (za (step0 K8.out.1 hb) (za (K8.out.2.1.below hb) (K8.out.2.2.1.below hb)))
     have qf := K9.out.2.2.frozen
     have BC : Blk (w9.setCell ⟨w.heap.size + 1, 5, none⟩ (.int .i64 (mx : Int))) (w.heap.size + 1) ((⟨(k : Int), tb, a.xs, b.xs, c.xs, (mx : Int), Ch0⟩ : O).a (⟨a.ao, a.cap, b.ao, b.cap, c.ao, c.cap, none, 0, none, 0⟩ : Ps)) 48 := by
      have := K9.out.2.2.setAt 5 (.int .i64 (mx : Int))
      rwa [O.set5] at this
     have K10 := zh (za (below_set K9.out.1 (show w.heap.size ≤ w.heap.size + 1 by omega) 5 (.int .i64 (mx : Int))) (za (K9.out.2.1.otherAt (show w.heap.size ≠ w.heap.size + 1 by omega) 5 (.int .i64 (mx : Int))) BC))
     clear BC
     have I10 := zh (show InU (w9.setCell ⟨w.heap.size + 1, 5, none⟩ (.int .i64 (mx : Int))) (w2.heap.size + 1) (⟨(k : Int), tb, a.xs, b.xs, c.xs, (mx : Int), Ch0⟩ : O) (⟨a.ao, a.cap, b.ao, b.cap, c.ao, c.cap, none, 0, none, 0⟩ : Ps) from ((K8.out.2.2.2.below hb).wr (Wr.one w9 (w.heap.size + 1) 5 _) (by have := Ne.out; omega)))
     clear hb
     obtain ⟨w10, hw10⟩ : ∃ w', w9.setCell ⟨w.heap.size + 1, 5, none⟩ (.int .i64 (mx : Int)) = w' := ⟨_, rfl⟩
     rw [hw10] at K10 I10
     have qc := K9.out.2.2.cell
     have qd := K10.out.2.2.cell
     by_cases hE3 : E3 = 0
     ·subst hE3
      have HR := zh ((bnd_ok rfl _ _).symm.trans HR.out)
      by_cases h6 : k = 6
      ·have e6 : ((k : Int) != 6) = false := by simp; omega
       have HR := zh (show bnd (rdch l6) O0 (fun ch r => (((⟨(k : Int), tb, a.xs, b.xs, c.xs, (mx : Int), ch⟩ : O) : O), r, 0)) = R from by rw [← HR.out]; unfold roc; rw [if_pos h6])
       obtain ⟨ch, l7, E5, h5⟩ : ∃ a b c, rdch l6 = (a, b, c) := ⟨_, _, _, rfl⟩
       have HR := zh (show _ = R from by rw [← HR.out, h5])
       have H5 := zh h5
       clear h5 h6
       go_wp2_with fail
       refine (readChange_is l6 _ (X.out.2.2.keep K10.out.1) X3.out.2).mono ?_
       rintro y w11 hrc
       rw [H5.out] at hrc
       obtain ⟨no, nc, dO, dc, rfl, hsl, hup, hsd, hdc, hud, hb⟩ := hrc
       simp only at hsl hsd hdc
       have lt10 := I10.out
       have I11 : InU w11 (w.heap.size + 2) (⟨(k : Int), tb, a.xs, b.xs, c.xs, (mx : Int), ch⟩ : O) (⟨a.ao, a.cap, b.ao, b.cap, c.ao, c.cap, no, nc, dO, dc⟩ : Ps) := ⟨⟨I10.out.1.1.below hb, I10.out.1.2.1.below hb, I10.out.1.2.2.1.below hb, hsl, hsd, hdc⟩, I10.out.2.1.mono (by have := Ne.out; omega), I10.out.2.2.1.mono (by have := Ne.out; omega), I10.out.2.2.2.1.mono (by have := Ne.out; omega), hup.mono (show w.heap.size + 2 ≤ _ from K10.out.2.2.lt), hud.mono (show w.heap.size + 2 ≤ _ from K10.out.2.2.lt)⟩
       have K11 := zh (za (step0 K10.out.1 hb) (za (K10.out.2.1.below hb) (za (K10.out.2.2.below hb) I11)))
       clear hsl hup hsd hdc hud hb I11 qc qd qf lt10
       go_wp2_with ((refine (?_ : wpList _ _ _ (Oper.mk _ (Op.store 32 _ _) _ _ _ _ :: _) _ _)); refine wpList_store_part rfl 32 48 _ _ rfl (w.heap.size + 1) 6 ((⟨(k : Int), tb, a.xs, b.xs, c.xs, (mx : Int), Ch0⟩ : O).pre (⟨a.ao, a.cap, b.ao, b.cap, c.ao, c.cap, none, 0, none, 0⟩ : Ps)) ((Ch0.a none 0 none 0).toList) ((ch.a no nc dO dc).toList) [] rfl rfl (K11.out.2.2.1) rfl rfl infoCh (Ch.a_all _ _ _ _ _) ?_)
       intro w12 q12 r12
       rw [O.setCh] at q12
       have K12 := zh (za (r12.below _ _ (by omega) K11.out.1) (za (K11.out.2.1.wr r12 (by omega)) (za q12 (K11.out.2.2.2.wr r12 (by omega)))))
       clear q12 r12
       by_cases hE5 : E5 = 0
       ·subst hE5
        have HR := zh (show (((⟨(k : Int), tb, a.xs, b.xs, c.xs, (mx : Int), ch⟩ : O) : O), l7, (0 : Int)) = R from (bnd_ok rfl _ _).symm.trans HR.out)
        go_wp2_with (first | ((refine (?_ : wpList _ _ _ (Oper.mk _ (Op.load 48 _) _ _ _ _ :: _) _ _)); refine wpList_load_blk rfl 48 _ rfl (w.heap.size + 1) rfl ((⟨(k : Int), tb, a.xs, b.xs, c.xs, (mx : Int), ch⟩ : O).a (⟨a.ao, a.cap, b.ao, b.cap, c.ao, c.cap, no, nc, dO, dc⟩ : Ps)) _ (K12.out.2.2.1) Tryz.underlying48 rfl (infoO) ?_; go_frame) | ((refine (?_ : wpList _ _ _ (Oper.mk _ (Op.store 48 _ _) _ _ _ _ :: _) _ _)); refine wpList_store_blk rfl 48 _ _ rfl (w.heap.size) (O0.a P0) ((⟨(k : Int), tb, a.xs, b.xs, c.xs, (mx : Int), ch⟩ : O).a (⟨a.ao, a.cap, b.ao, b.cap, c.ao, c.cap, no, nc, dO, dc⟩ : Ps)) rfl rfl (K12.out.2.1) (by first | rfl | simp [sa_size]) (infoO) (O.a_one _ _) ?_))
        intro w13 q13 r13
        go_wp2
        refine bodyPost_ret (results_3 Tryz.results50 rfl rfl rfl (loadO q13)) rfl ?_
        rw [← HR.out]
        exact ⟨(⟨a.ao, a.cap, b.ao, b.cap, c.ao, c.cap, no, nc, dO, dc⟩ : Ps), rfl, (K12.out.2.2.2.wr r13 (by omega)).mono (by omega), r13.below _ _ (Nat.le_refl _) K12.out.1⟩
       ·have e1 := bne_t hE5
        have Q := zh ((bnd_err rfl hE5 _ _).symm.trans HR.out)
        clear hE5
        go_wp2_with ((refine (?_ : wpList _ _ _ (Oper.mk _ (Op.store 48 _ _) _ _ _ _ :: _) _ _)); refine wpList_store_blk rfl 48 _ _ rfl (w.heap.size) (O0.a P0) (O0.a P0) rfl rfl (K12.out.2.1) (by first | rfl | simp [sa_size]) (infoO) (O.a_one _ _) ?_)
        intro w9 q9 r9
        go_wp2
        refine bodyPost_ret (results_3 Tryz.results50 rfl rfl rfl (loadO q9)) rfl (RP.bad Q.out.symm (r9.below _ _ (Nat.le_refl _) K12.out.1))
      ·have e6 : ((k : Int) != 6) = true := by simp; omega
       have HR := zh (show (((⟨(k : Int), tb, a.xs, b.xs, c.xs, (mx : Int), Ch0⟩ : O) : O), l6, (0 : Int)) = R from by rw [← HR.out]; unfold roc; rw [if_neg h6])
       clear h6
       go_wp2_with (first | ((refine (?_ : wpList _ _ _ (Oper.mk _ (Op.load 48 _) _ _ _ _ :: _) _ _)); refine wpList_load_blk rfl 48 _ rfl (w.heap.size + 1) rfl ((⟨(k : Int), tb, a.xs, b.xs, c.xs, (mx : Int), Ch0⟩ : O).a (⟨a.ao, a.cap, b.ao, b.cap, c.ao, c.cap, none, 0, none, 0⟩ : Ps)) _ (K10.out.2.2) Tryz.underlying48 rfl (infoO) ?_; go_frame) | ((refine (?_ : wpList _ _ _ (Oper.mk _ (Op.store 48 _ _) _ _ _ _ :: _) _ _)); refine wpList_store_blk rfl 48 _ _ rfl (w.heap.size) (O0.a P0) ((⟨(k : Int), tb, a.xs, b.xs, c.xs, (mx : Int), Ch0⟩ : O).a (⟨a.ao, a.cap, b.ao, b.cap, c.ao, c.cap, none, 0, none, 0⟩ : Ps)) rfl rfl (K10.out.2.1) (by first | rfl | simp [sa_size]) (infoO) (O.a_one _ _) ?_))
       intro w13 q13 r13
       go_wp2
       refine bodyPost_ret (results_3 Tryz.results50 rfl rfl rfl (loadO q13)) rfl ?_
       rw [← HR.out]
       exact ⟨(⟨a.ao, a.cap, b.ao, b.cap, c.ao, c.cap, none, 0, none, 0⟩ : Ps), rfl, (I10.out.wr r13 (by have := Ne.out; omega)).mono (by have := Ne.out; omega), r13.below _ _ (Nat.le_refl _) K10.out.1⟩
     ·have e1 := bne_t hE3
      have Q := zh ((bnd_err rfl hE3 _ _).symm.trans HR.out)
      clear hE3
      go_wp2_with ((refine (?_ : wpList _ _ _ (Oper.mk _ (Op.store 48 _ _) _ _ _ _ :: _) _ _)); refine wpList_store_blk rfl 48 _ _ rfl (w.heap.size) (O0.a P0) (O0.a P0) rfl rfl (K10.out.2.1) (by first | rfl | simp [sa_size]) (infoO) (O.a_one _ _) ?_)
      intro w9 q9 r9
      go_wp2
      refine bodyPost_ret (results_3 Tryz.results50 rfl rfl rfl (loadO q9)) rfl (RP.bad Q.out.symm (r9.below _ _ (Nat.le_refl _) K10.out.1))
  ·have e1 := bne_t hE2
   have Q := zh ((bnd_err rfl hE2 _ _).symm.trans HR.out)
   clear hE2
   go_wp2_with ((refine (?_ : wpList _ _ _ (Oper.mk _ (Op.store 48 _ _) _ _ _ _ :: _) _ _)); refine wpList_store_blk rfl 48 _ _ rfl (w.heap.size) (O0.a P0) (O0.a P0) rfl rfl (K3.out.2.1) (by first | rfl | simp [sa_size]) (infoO) (O.a_one _ _) ?_)
   intro w9 q9 r9
   go_wp2
   refine bodyPost_ret (results_3 Tryz.results50 rfl rfl rfl (loadO q9)) rfl (RP.bad Q.out.symm (r9.below _ _ (Nat.le_refl _) K3.out.1))
 ·have e1 := bne_t hE
  have Q := zh ((bnd_err rfl hE _ _).symm.trans HR.out)
  clear hE
  go_wp2_with ((refine (?_ : wpList _ _ _ (Oper.mk _ (Op.store 48 _ _) _ _ _ _ :: _) _ _)); refine wpList_store_blk rfl 48 _ _ rfl (w.heap.size) (O0.a P0) (O0.a P0) rfl rfl (K1.out.2.1) (by first | rfl | simp [sa_size]) (infoO) (O.a_one _ _) ?_)
  intro w9 q9 r9
  go_wp2
  refine bodyPost_ret (results_3 Tryz.results50 rfl rfl rfl (loadO q9)) rfl (RP.bad Q.out.symm (r9.below _ _ (Nat.le_refl _) K1.out.1))
theorem reado_is (l : List UInt8) (w : World) (hg : Env w) (hl : l.length ≤ 1000000) :
  Calls Tryz.prog 18 #[.string ⟨l.toArray⟩] w (RP (rdo l) w) := by
 obtain ⟨R, hR⟩ : ∃ R, rdo l = R := ⟨_, rfl⟩
 rw [hR]
 obtain ⟨o1, l1, E0, h0⟩ : ∃ c r e, rop l = (c, r, e) := ⟨_, _, _, rfl⟩
 have s1 := rop_sf l
 have k1 := rop_okv l
 rw [h0] at s1 k1
 simp only at s1 k1
 have HR := zh (show bnd (o1, l1, E0) O0 (rck2 l) = R from by rw [← hR, ← h0]; rfl)
 have H := zh (za hg (za hl (za h0 (za s1 k1))))
 clear hR hg hl h0 s1 k1
 go_enter Tryz.func18, Tryz.ntmps18
 go_wp2_with fail
 refine (readOp_is l _ (H.out.1.keep (below1 w _)) H.out.2.1).mono ?_
 rintro e w1 hrc
 rw [H.out.2.2.1] at hrc
 obtain ⟨p, rfl, hI, hb⟩ := hrc
 simp only at hI
 have q2 := (Blk.new w (O0.a P0) 48).below hb
 have K1 := zh (za (step1 (Below.refl _ w) hb) (za q2 (za (hI.mono (show w.heap.size + 1 ≤ _ by rw [World.size_alloc]; omega)) q2.lt)))
 clear hI hb q2
 go_wp2_with ((refine (?_ : wpList _ _ _ (Oper.mk _ (Op.store 48 _ _) _ _ _ _ :: _) _ _)); refine wpList_store_blk rfl 48 _ _ rfl (w1.heap.size) (O0.a P0) (o1.a p) rfl rfl (Blk.new' _ _ _ _ rfl) (by first | rfl | simp [sa_size]) (infoO) (O.a_one _ _) ?_)
 intro w2 q5 r5
 have bb := r5.below _ _ (Nat.le_refl _) (below1 w1 _)
 have K2 := zh (za (K1.out.1.trans (bb.mono K1.out.1.size)) (za (K1.out.2.1.below bb) (za q5 (K1.out.2.2.1.below bb))))
 clear bb q5 r5
 by_cases hE : E0 = 0
 ·subst hE
  have HR := zh (show rck2 l o1 l1 = R from by rw [← HR.out, bnd_ok rfl])
  go_wp2_with ((refine (?_ : wpList _ _ _ (Oper.mk _ (Op.load 48 _) _ _ _ _ :: _) _ _)); refine wpList_load_blk rfl 48 _ rfl (w1.heap.size) rfl (o1.a p) _ (K2.out.2.2.1) Tryz.underlying48 rfl (infoO) ?_; go_frame)
  refine (puto_is o1 p _ _ _ (H.out.1.keep K2.out.1) (K2.out.2.2.2.in H.out.2.2.2.2) rfl rfl).mono ?_
  rintro e w5 ⟨rfl, hb⟩
  have K5 := zh (za (step0 K2.out.1 hb) (za (K2.out.2.1.below hb) (za (K2.out.2.2.1.below hb) (K2.out.2.2.2.below hb))))
  clear hb
  by_cases hp : o1.pe = 0
  ·obtain ⟨m, hm⟩ : ∃ m, l.length = m + l1.length := ⟨l.length - l1.length, by have := suf_len H.out.2.2.2.1; omega⟩
   have em : l.length - l1.length = m := by omega
   have lb : (l.length : Int) ≤ 1000000 := by have := H.out.2.1; omega
   have hw : (l.length : Int) - (l1.length : Int) = (m : Int) := by omega
   have hmi : (m : Int) ≤ (l.length : Int) := by omega
   have hmn : m ≤ l.length := by omega
   have ct := cut_to l m
   have hR : (if o1.pe ≠ 0 ∨ o1.pb ≠ l.take m then (O0, [], (4 : Int)) else (o1, l1, 0)) = R := by rw [← HR.out]; unfold rck2; rw [em]
   have HR := zh hR
   obtain ⟨P, hP⟩ : ∃ P, o1.pb = P := ⟨_, rfl⟩
   obtain ⟨D, hD⟩ : ∃ D, l.take m = D := ⟨_, rfl⟩
   rw [hD] at ct
   rw [hp, hP]
   by_cases he : P = D
   ·have n1 : (P == D) = true := by simpa using he
    have n2 : (P != D) = false := bneq_f he
    have HR := zh (show (o1, l1, (0 : Int)) = R from by rw [← HR.out, if_neg]; rw [hP, hD]; simp [hp, he])
    clear hR hm hP hD he em hp
    go_wp2_with (first | ((refine (?_ : wpList _ _ _ (Oper.mk _ (Op.load 48 _) _ _ _ _ :: _) _ _)); refine wpList_load_blk rfl 48 _ rfl (w1.heap.size) rfl (o1.a p) _ (K5.out.2.2.1) Tryz.underlying48 rfl (infoO) ?_; go_frame) | ((refine (?_ : wpList _ _ _ (Oper.mk _ (Op.store 48 _ _) _ _ _ _ :: _) _ _)); refine wpList_store_blk rfl 48 _ _ rfl (w.heap.size) (O0.a P0) (o1.a p) rfl rfl (K5.out.2.1) (by first | rfl | simp [sa_size]) (infoO) (O.a_one _ _) ?_))
    intro w9 q9 r9
    go_wp2
    refine bodyPost_ret (results_3 Tryz.results18 rfl rfl rfl (loadO q9)) rfl ?_
    rw [← HR.out]
    exact ⟨p, rfl, (K5.out.2.2.2.wr r9 (by omega)).mono (by omega), r9.below _ _ (Nat.le_refl _) K5.out.1⟩
   ·have n1 : (P == D) = false := by simpa using he
    have n2 : (P != D) = true := bneq_t he
    have Q := zh (show R = (O0, [], 4) from by rw [← HR.out, if_pos]; rw [hP, hD]; exact .inr he)
    clear hR hm hP hD he em hp
    go_wp2_with ((refine (?_ : wpList _ _ _ (Oper.mk _ (Op.store 48 _ _) _ _ _ _ :: _) _ _)); refine wpList_store_blk rfl 48 _ _ rfl (w.heap.size) (O0.a P0) (O0.a P0) rfl rfl (K5.out.2.1) (by first | rfl | simp [sa_size]) (infoO) (O.a_one _ _) ?_)
    intro w9 q9 r9
    go_wp2
    refine bodyPost_ret (results_3 Tryz.results18 rfl rfl rfl (loadO q9)) rfl (RP.bad Q.out (r9.below _ _ (Nat.le_refl _) K5.out.1))
  ·have e1 := bne_t hp
   have Q := zh (show R = (O0, [], 4) from by rw [← HR.out]; unfold rck2; rw [if_pos (.inl hp)])
   clear hp
   go_wp2_with ((refine (?_ : wpList _ _ _ (Oper.mk _ (Op.store 48 _ _) _ _ _ _ :: _) _ _)); refine wpList_store_blk rfl 48 _ _ rfl (w.heap.size) (O0.a P0) (O0.a P0) rfl rfl (K5.out.2.1) (by first | rfl | simp [sa_size]) (infoO) (O.a_one _ _) ?_)
   intro w9 q9 r9
   go_wp2
   refine bodyPost_ret (results_3 Tryz.results18 rfl rfl rfl (loadO q9)) rfl (RP.bad Q.out (r9.below _ _ (Nat.le_refl _) K5.out.1))
 ·have e1 := bne_t hE
  have Q := zh ((bnd_err rfl hE _ _).symm.trans HR.out)
  clear hE
  go_wp2_with ((refine (?_ : wpList _ _ _ (Oper.mk _ (Op.store 48 _ _) _ _ _ _ :: _) _ _)); refine wpList_store_blk rfl 48 _ _ rfl (w.heap.size) (O0.a P0) (O0.a P0) rfl rfl (K2.out.2.1) (by first | rfl | simp [sa_size]) (infoO) (O.a_one _ _) ?_)
  intro w9 q9 r9
  go_wp2
  refine bodyPost_ret (results_3 Tryz.results18 rfl rfl rfl (loadO q9)) rfl (RP.bad Q.out.symm (r9.below _ _ (Nat.le_refl _) K2.out.1))
end Go.Proofs.YtmgdciihpjifgaaGreatDoor
