/-
 What the document's own Uint answers, for every number of 64 bits: its digits of base 128. No further condition.
 What the document's own ReadUint answers, for every text. No condition.
 What the document's own Int, Text, ReadInt and ReadText answer, for every argument. Conditions: the bounds named in each theorem.
-/
import Derived.Test.YtmgdciihpjifgaaGreatDoorQrPackInts
set_option maxHeartbeats 4000000
namespace Go.Proofs.YtmgdciihpjifgaaGreatDoor
open Go.RowKit
theorem ruint_any (N : Nat) (w : World) (hN : (N : Int) < 18446744073709551616) :
  Calls Tryz.prog 36 #[.int .u64 N] w fun e w' => e = .returned (.string ⟨(Pk.un N).toArray⟩) ∧ Below w.heap.size w w' := by
 obtain ⟨i0, hi, hz0, hz1, hz2⟩ := info_parts Tryz.infoU8p
 have HN := Lib.hid (un_start N hN)
 have HNb := Lib.hid hN
 clear hN
 go_enter Tryz.func36, Tryz.ntmps36
 go_wp2
 go_loopw [0, 3] (fun n v wr => ∃ (m f : Nat) (done : List UInt8), n = .int .u64 m ∧ wr.ownsRow w.heap.size 5 1 v done.length (done.map pk_bv) ∧ Below w.heap.size w wr ∧ done ++ Pk.ub f m = Pk.un N ∧ m < 128 ^ (f + 1) ∧ done.length + f = 9 ∧ (m : Int) < 18446744073709551616) (fun n _ _ => (intOf n).toNat)
 case atStart => exact ⟨N, 9, [], rfl, World.ownsRow_nil _ _ _ _, Below.refl _ _, rfl, HN.out, rfl, HNb.out⟩
 case round =>
  obtain ⟨m, f, done, rfl, hown, hbel, hub, hm, hlen, hmb⟩ := hrel
  have Hub := Lib.hid hub
  have Hm := Lib.hid hm
  have Hown := Lib.hid hown
  have Hbel := Lib.hid hbel
  clear hub hm hown hbel HN HNb
  by_cases hlow : m < 128
  ·have Hu := Lib.hid (show done ++ [UInt8.ofNat m] = Pk.un N from by rw [← Hub.out, Pk.ub_low f m hlow])
   have Hlow := Lib.hid hlow
   obtain ⟨M, hM⟩ : ∃ M : Int, M = (m : Int) := ⟨_, rfl⟩
   have hM0 : 0 ≤ M := by omega
   have hM1 : M < 128 := by omega
   rw [← hM]
   have HM := Lib.hid hM
   have t1 : decide ((128 : Int) ≤ M) = false := by rw [decide_eq_false_iff_not]; omega
   have HL := Lib.hid hlen
   clear hlow hmb hM Hub Hm hlen
   go_wp2_with (at_builtin; refine wpList_append_own _ rfl _ _ 102 rfl w.heap.size 5 i0 (.int .u8 0) 1 1 Tryz.underlying102 hi hz0 hz1 hz2 rfl (by decide) _ _ _ rfl (Hown.out.alloc _) ⟨wr.heap.size, 0, none⟩ 1 1 [.int .u8 M] rfl rfl ?c1 ?c2 ?c3 ?c4 ?c5 ?_)
   case c1 =>
    intro j u hj
    match j, hj with
    | 0, hj => simp at hj; subst hj; simp [Addr.add]
   case c2 => intro u hu; simp at hu; subst hu; rfl
   case c3 => have := HL.out; unfold maxLen; omega
   case c4 => have := HL.out; omega
   case c5 => have := Hbel.out.size; simp; omega
   ·intro v' w1 hown' hgrow _
    have Hb' := Lib.hid ((Hbel.out.alloc Hbel.out.size _).grown hgrow (by have := Hbel.out.size; simp; omega) (fun k hk => (Hown.out.lt k hk).1))
    obtain ⟨g, cap, rfl, hcv⟩ := pk_conv_own (done ++ [UInt8.ofNat m]) (by rw [List.map_append, List.map_singleton, ← bv_low m Hlow.out, ← HM.out]; exact hown') (by simp) (by simp)
    clear hown' hgrow
    go_wp2
    go_ret
    exact ⟨pk_ret_str Hu.out, Hb'.out⟩
  ·have hh : (128 : Int) ≤ m := by omega
   obtain ⟨g, rfl, hp⟩ := pow_step m f Hm.out (by omega)
   have Hp := Lib.hid hp
   clear hp
   have Hu := Lib.hid (show done ++ [UInt8.ofNat (m % 128 + 128)] ++ Pk.ub g (m / 128) = Pk.un N from by rw [← Hub.out, Pk.ub_high g m (by omega)]; simp)
   go_wp2_with (at_builtin; refine wpList_append_own _ rfl _ _ 102 rfl w.heap.size 5 i0 (.int .u8 0) 1 1 Tryz.underlying102 hi hz0 hz1 hz2 rfl (by decide) _ _ _ rfl (Hown.out.alloc _) ⟨wr.heap.size, 0, none⟩ 1 1 [.int .u8 ((m : Int) % 128 + 128)] rfl rfl ?c1 ?c2 ?c3 ?c4 ?c5 ?_)
   case c1 =>
    intro j u hj
    match j, hj with
    | 0, hj => simp at hj; subst hj; simp [Addr.add]
   case c2 => intro u hu; simp at hu; subst hu; rfl
   case c3 => unfold maxLen; omega
   case c4 => omega
   case c5 => have := Hbel.out.size; simp; omega
   ·intro v' w1 hown' hgrow _
    have Hown' := Lib.hid (show w1.ownsRow w.heap.size 5 1 v' (done ++ [UInt8.ofNat (m % 128 + 128)]).length ((done ++ [UInt8.ofNat (m % 128 + 128)]).map pk_bv) from by rw [List.length_append, List.map_append, List.map_singleton, ← bv_high m]; exact hown')
    have Hb' := Lib.hid ((Hbel.out.alloc Hbel.out.size _).grown hgrow (by have := Hbel.out.size; simp; omega) (fun k hk => (Hown.out.lt k hk).1))
    clear hown' hgrow
    go_wp2_with fail
    go_roundw
    case rel => exact ⟨m / 128, g, done ++ [UInt8.ofNat (m % 128 + 128)], by go_num, Hown'.out, Hb'.out, Hu.out, Hp.out, by simp; omega, by omega⟩
    case measure => simp [intOf]; omega
end Go.Proofs.YtmgdciihpjifgaaGreatDoor
namespace Go.Proofs.YtmgdciihpjifgaaGreatDoor
open Go.RowKit
def OrB (N k x M : Nat) : Prop := bits .or .u64 (N : Int) (IntKind.u64.wrap ((x : Int) % 128 * 2 ^ (7 * k))) = (M : Int)
theorem OrB.out {N k x M : Nat} (h : OrB N k x M) : bits .or .u64 (N : Int) (IntKind.u64.wrap ((x : Int) % 128 * 2 ^ (7 * k))) = (M : Int) := h
def BHi (x : Nat) : Prop := decide ((x : Int) < 128) = false ∧ True
theorem BHi.out {x : Nat} (h : BHi x) : decide ((x : Int) < 128) = false := h.1
def BLo (x : Nat) : Prop := decide ((x : Int) < 128) = true ∧ (¬ (x : Int) = 0) ∧ ((x : Int) == 0) = false
theorem BLo.out {x : Nat} (h : BLo x) : decide ((x : Int) < 128) = true ∧ (¬ (x : Int) = 0) ∧ ((x : Int) == 0) = false := h
def LtP (M k : Nat) : Prop := M < 128 ^ k
theorem LtP.out {M k : Nat} (h : LtP M k) : M < 128 ^ k := h
theorem rreadUint_any (l : List UInt8) (w : World) :
  Calls Tryz.prog 67 #[.string ⟨l.toArray⟩] w fun e w' => e = .returned (.tuple #[.int .u64 (Pk.rd l 0 0).1, .string ⟨(Pk.rd l 0 0).2.1.toArray⟩, .int .i64 (Pk.rd l 0 0).2.2]) ∧ ∃ n, w' = w.drewN n := by
 go_enter Tryz.func67, Tryz.ntmps67
 go_wp2
 go_loop [5, 6] (fun n i => ∃ N k : Nat, n = .int .u64 N ∧ i = .int .i64 k ∧ Pk.rd (l.drop k) k N = Pk.rd l 0 0 ∧ N < 128 ^ k ∧ k ≤ 9 ∧ k ≤ l.length) (fun _ i => 10 - (intOf i).toNat)
 case atStart => exact ⟨0, 0, rfl, rfl, rfl, by decide, by omega, by omega⟩
 case round =>
  obtain ⟨N, k, rfl, rfl, hrd, hN, hk9, hkl⟩ := hrel
  have Hrd := Lib.hid hrd
  have HN := Lib.hid hN
  have hk9' : (k : Int) ≤ 9 := by omega
  have hk10 : decide ((k : Int) < 10) = true := by simp; omega
  clear hrd hN
  by_cases hend : k = l.length
  ·have Hres := Lib.hid (Hrd.out.symm.trans (Pk.rd_short l k N (by omega)))
   have hq : (l.length : Int) ≤ (k : Int) := by omega
   clear Hrd HN hend hk9
   go_wp2
   go_ret3
   rw [Hres.out]
   exact ⟨rfl, 0, rfl⟩
  have hlen : k < l.length := by omega
  have hsz : k < (ByteArray.mk l.toArray).size := hlen
  have hln : (k : Int) < (l.length : Int) := by omega
  have hln1 : (k : Int) + 1 ≤ (l.length : Int) := by omega
  have hx : (ByteArray.mk l.toArray)[k].toNat < 256 := (ByteArray.mk l.toArray)[k].toNat_lt
  have Hx8 := Lib.hid hx
  have Hba := Lib.hid (show (ByteArray.mk l.toArray)[k].toNat = l[k].toNat from by rw [pk_byte_at l k hlen])
  clear hend hkl
  by_cases hk : k = 9
  ·subst hk
   by_cases h1 : 1 < (ByteArray.mk l.toArray)[9].toNat
   ·have Hres := Lib.hid (Hrd.out.symm.trans (Pk.rd_tenth l N _ hlen Hba.out h1))
    have hi : (1 : Int) < ((ByteArray.mk l.toArray)[9].toNat : Int) := by omega
    clear h1 Hrd HN Hba hk9
    go_wp2
    go_ret3
    rw [Hres.out]
    exact ⟨rfl, 0, rfl⟩
   by_cases h0 : (ByteArray.mk l.toArray)[9].toNat = 0
   ·have Hres := Lib.hid (Hrd.out.symm.trans (Pk.rd_zero l 9 N _ hlen Hba.out (by omega) h0))
    have hi : ((ByteArray.mk l.toArray)[9].toNat : Int) = 0 := by omega
    clear h1 h0 Hrd HN Hba hk9
    go_wp2
    go_ret3
    rw [Hres.out]
    exact ⟨rfl, 0, rfl⟩
   ·have h1' : (ByteArray.mk l.toArray)[9].toNat = 1 := by omega
    obtain ⟨M, hor, hM⟩ := or_nine N HN.out
    have hres := Hrd.out.symm.trans (Pk.rd_end l 9 N _ hlen Hba.out (by omega) (by omega) (by omega))
    rw [h1', ← hM] at hres
    have Hres := Lib.hid hres
    have hi : ((ByteArray.mk l.toArray)[9].toNat : Int) = 1 := by omega
    have Hx := Lib.hid (pk_cut_from l 10)
    clear h1 h0 h1' Hrd HN Hba hres hM hk9
    go_wp2
    go_quiet (fail)
    go_wp2
    go_ret3
    rw [Hres.out]
    exact ⟨ret_usi rfl Hx.out rfl, _, rfl⟩
  have hk' : ¬ (k : Int) = 9 := by omega
  have hk'' : ((k : Int) == 9) = false := pk_beq_f hk'
  have hk8 : (k : Int) ≤ 8 := by omega
  obtain ⟨M, hor, hM, hM'⟩ := or_byte N k _ HN.out (.inl (by omega))
  by_cases h128 : 128 ≤ (ByteArray.mk l.toArray)[k].toNat
  ·have hres := Hrd.out.symm.trans (Pk.rd_more l k N _ hlen Hba.out (by omega) h128)
   rw [← hM] at hres
   have Hres := Lib.hid hres
   have HM' : LtP M (k + 1) := hM'
   have hi : decide (((ByteArray.mk l.toArray)[k].toNat : Int) < 128) = false := by simp; omega
   have Hi : BHi (ByteArray.mk l.toArray)[k].toNat := ⟨hi, trivial⟩
   have Hor : OrB N k _ M := hor
   clear Hrd HN hM hM' hres Hba hk hk9 h128 hx hi hor
   go_wp2_with ((refine (?_ : wpList _ _ _ (Oper.mk _ (Op.index _ _ _) _ _ _ _ :: _) _ _)); have hx := Hx8.out; have hi := Hi.out; have hor := Hor.out; go_step)
   go_round
   case rel => exact ⟨M, k + 1, rfl, by go_num, Hres.out.symm, HM'.out, by omega, by omega⟩
   case measure => simp [intOf]; omega
  have hi' : ((ByteArray.mk l.toArray)[k].toNat : Int) < 128 := by omega
  have hi : decide (((ByteArray.mk l.toArray)[k].toNat : Int) < 128) = true := by simp; omega
  by_cases h0 : (ByteArray.mk l.toArray)[k].toNat = 0
  ·by_cases hz : k = 0
   ·have hres := Hrd.out.symm.trans (Pk.rd_end l k N _ hlen Hba.out (by omega) (by omega) (by omega))
    rw [← hM] at hres
    subst hz
    have Hres := Lib.hid hres
    have h0' : ((ByteArray.mk l.toArray)[0].toNat : Int) = 0 := by omega
    have hN0 : N = 0 := by have := HN.out; simp at this; exact this
    subst hN0
    have hM0 : (M : Int) = bits .or .u64 0 0 := by
     rw [hM, h0, show bits .or .u64 0 0 = 0 from by decide]; rfl
    have HM0 := Lib.hid hM0
    have Hx := Lib.hid (pk_cut_from l 1)
    have hl0 : (0 : Int) < (l.length : Int) := by omega
    have hl1 : (1 : Int) ≤ (l.length : Int) := by omega
    have hsz0 : 0 < (ByteArray.mk l.toArray).size := hlen
    have hne : (l = []) = False := by simp; intro h; rw [h] at hlen; simp at hlen
    have H0' := Lib.hid h0'
    clear Hrd HN hM hM' hM0 hor hres Hba hk9 h128 h0 h0' hi hi' hk hx
    go_wp2_with ((refine (?_ : wpList _ _ _ (Oper.mk _ (Op.index _ _ _) _ _ _ _ :: _) _ _)); have h0' := H0'.out; go_step)
    go_quiet (fail)
    go_wp2
    go_ret3
    rw [Hres.out]
    exact ⟨ret_usi HM0.out.symm Hx.out rfl, _, rfl⟩
   ·have Hres := Lib.hid (Hrd.out.symm.trans (Pk.rd_zero l k N _ hlen Hba.out (by omega) h0))
    have h0' : ((ByteArray.mk l.toArray)[k].toNat : Int) = 0 := by omega
    have hk1 : (0 : Int) < (k : Int) := by omega
    have H0' := Lib.hid h0'
    clear Hrd HN hM hM' hor Hba hk hk9 h128 h0 h0' hi hi' hz hx
    go_wp2_with ((refine (?_ : wpList _ _ _ (Oper.mk _ (Op.index _ _ _) _ _ _ _ :: _) _ _)); have h0' := H0'.out; go_step)
    go_ret3
    rw [Hres.out]
    exact ⟨rfl, 0, rfl⟩
  ·have hres := Hrd.out.symm.trans (Pk.rd_end l k N _ hlen Hba.out (by omega) (by omega) (by omega))
   rw [← hM] at hres
   have Hres := Lib.hid hres
   have hi0 : ¬ ((ByteArray.mk l.toArray)[k].toNat : Int) = 0 := by omega
   have hi1 := pk_beq_f hi0
   have Hx := Lib.hid (pk_cut_from l (k + 1))
   have Hi : BLo (ByteArray.mk l.toArray)[k].toNat := ⟨hi, hi0, hi1⟩
   have Hor : OrB N k _ M := hor
   clear Hrd HN hM hM' hres Hba hk hk9 h128 h0 hi' hx hi hi0 hi1 hor
   go_wp2_with ((refine (?_ : wpList _ _ _ (Oper.mk _ (Op.index _ _ _) _ _ _ _ :: _) _ _)); have hx := Hx8.out; obtain ⟨hi, hi0, hi1⟩ := Hi.out; have hor := Hor.out; go_step)
   go_quiet (fail)
   go_wp2
   go_ret3
   rw [Hres.out]
   exact ⟨ret_usi rfl Hx.out rfl, _, rfl⟩
theorem rreadUint_is (l r : List UInt8) (N : Nat) (e : Int) (w : World) (h : Pk.rd l 0 0 = (N, r, e)) :
  Calls Tryz.prog 67 #[.string ⟨l.toArray⟩] w fun x w' => x = .returned (.tuple #[.int .u64 N, .string ⟨r.toArray⟩, .int .i64 e]) ∧ ∃ n, w' = w.drewN n := by
 have := rreadUint_any l w
 rw [h] at this
 exact this
end Go.Proofs.YtmgdciihpjifgaaGreatDoor
namespace Go.Proofs.YtmgdciihpjifgaaGreatDoor
open Go.RowKit
theorem ruint_int (x : Int) (w : World) (h0 : 0 ≤ x) (h : x < 18446744073709551616) :
  Calls Tryz.prog 36 #[.int .u64 x] w fun e w' => e = .returned (.string ⟨(Pk.un x.toNat).toArray⟩) ∧ Below w.heap.size w w' := by
 have := ruint_any x.toNat w (by omega)
 rw [Int.toNat_of_nonneg h0] at this
 exact this
theorem ruint_is (x : Int) (l : List UInt8) (w : World) (h0 : 0 ≤ x) (h : x < 18446744073709551616) (hl : Pk.un x.toNat = l) :
  Calls Tryz.prog 36 #[.int .u64 x] w fun e w' => e = .returned (.string ⟨l.toArray⟩) ∧ Below w.heap.size w w' := by
 rw [← hl]; exact ruint_int x w h0 h
theorem rint_any (n : Int) (w : World) (h0 : -9223372036854775808 ≤ n) (h1 : n ≤ 9223372036854775807) :
  Calls Tryz.prog 104 #[.int .i64 n] w fun e w' => e = .returned (.string ⟨(Pk.un (Pk.zz n)).toArray⟩) ∧ Below w.heap.size w w' := by
 by_cases hn : n < 0
 ·have Hz := Lib.hid (show ∀ x : Int, x = -2 * n - 1 → Pk.un x.toNat = Pk.un (Pk.zz n) from by
   rintro x rfl; unfold Pk.zz; rw [if_pos hn])
  go_enter Tryz.func104, Tryz.ntmps104
  go_wp2_with fail
  refine (ruint_is _ _ _ (by omega) (by omega) (Hz.out _ (by omega))).mono ?_
  rintro e w1 ⟨rfl, hb⟩
  have Hb := Lib.hid hb
  clear hb
  go_wp2
  go_ret
  exact ⟨rfl, Hb.out⟩
 ·have Hz := Lib.hid (show ∀ x : Int, x = 2 * n → Pk.un x.toNat = Pk.un (Pk.zz n) from by
   rintro x rfl; unfold Pk.zz; rw [if_neg hn])
  go_enter Tryz.func104, Tryz.ntmps104
  go_wp2_with fail
  refine (ruint_is _ _ _ (by omega) (by omega) (Hz.out _ (by omega))).mono ?_
  rintro e w1 ⟨rfl, hb⟩
  have Hb := Lib.hid hb
  clear hb
  go_wp2
  go_ret
  exact ⟨rfl, Hb.out⟩
theorem rtext_any (s : List UInt8) (w : World) (hs : s.length ≤ 140737488351232) :
  Calls Tryz.prog 37 #[.string ⟨s.toArray⟩] w fun e w' => e = .returned (.string ⟨(Pk.tx s).toArray⟩) ∧ Below w.heap.size w w' := by
 have hl : (Pk.un s.length).length ≤ 10 := (Pk.ub_len 9 s.length).2
 have Ht := Lib.hid (show Pk.un s.length ++ s = Pk.tx s from rfl)
 have hlen : (s.length : Int) ≤ 140737488351232 := by omega
 go_enter Tryz.func37, Tryz.ntmps37
 go_wp2_with fail
 refine (ruint_any s.length _ (by omega)).mono ?_
 rintro e w1 ⟨rfl, hb⟩
 have Hb := Lib.hid hb
 clear hb
 generalize Pk.un s.length = p at *
 have hmk := ByteArray.mk_append_mk p s
 go_wp2
 go_ret
 exact ⟨pk_ret_str Ht.out, Hb.out⟩
theorem rtext_is (s l : List UInt8) (w : World) (hs : s.length ≤ 140737488351232) (hl : Pk.tx s = l) :
  Calls Tryz.prog 37 #[.string ⟨s.toArray⟩] w fun e w' => e = .returned (.string ⟨l.toArray⟩) ∧ Below w.heap.size w w' := by
 rw [← hl]; exact rtext_any s w hs
theorem rreadUint_int (l r : List UInt8) (N : Nat) (x : Int) (w : World) (h : Pk.rd l 0 0 = (N, r, 0)) (hx : x = N) :
  Calls Tryz.prog 67 #[.string ⟨l.toArray⟩] w fun y w' => y = .returned (.tuple #[.int .u64 x, .string ⟨r.toArray⟩, .int .i64 0]) ∧ ∃ n, w' = w.drewN n := by
 rw [hx]; exact rreadUint_is l r N 0 w h
theorem rreadInt_any (l : List UInt8) (w : World) :
  Calls Tryz.prog 124 #[.string ⟨l.toArray⟩] w fun e w' => e = .returned (.tuple #[.int .i64 (Pk.ri l).1, .string ⟨(Pk.ri l).2.1.toArray⟩, .int .i64 (Pk.ri l).2.2]) ∧ ∃ n, w' = w.drewN n := by
 rcases Pk.rd_cases l with ⟨N, r, h, hN, _⟩ | ⟨e, h, he⟩
 ·obtain ⟨x, hx⟩ : ∃ x : Int, x = (N : Int) := ⟨_, rfl⟩
  have hx0 : 0 ≤ x := by omega
  have hx1 : x < 18446744073709551616 := by omega
  by_cases hp : N % 2 = 1
  ·have Hr := Lib.hid (Pk.ri_odd l r N h hp)
   have hq : (x % 2 == 1) = true := beq_iff_eq.2 (by omega)
   have Hv := Lib.hid (show ∀ y : Int, y = -1 - x / 2 → y = -1 - ((N / 2 : Nat) : Int) from by rintro y rfl; omega)
   have H := Lib.hid h
   have Hx := Lib.hid hx
   clear h hx hp hN
   go_enter Tryz.func124, Tryz.ntmps124
   go_wp2_with fail
   refine (rreadUint_int _ _ _ _ _ H.out Hx.out).mono ?_
   rintro e w' ⟨rfl, n, rfl⟩
   go_wp2
   go_ret3
   rw [Hr.out]
   exact ⟨ret_isi (Hv.out _ (by omega)) rfl rfl, _, rfl⟩
  ·have Hr := Lib.hid (Pk.ri_even l r N h hp)
   have hq : (x % 2 == 1) = false := pk_beq_f (by omega)
   have Hv := Lib.hid (show ∀ y : Int, y = x / 2 → y = ((N / 2 : Nat) : Int) from by rintro y rfl; omega)
   have H := Lib.hid h
   have Hx := Lib.hid hx
   clear h hx hp hN
   go_enter Tryz.func124, Tryz.ntmps124
   go_wp2_with fail
   refine (rreadUint_int _ _ _ _ _ H.out Hx.out).mono ?_
   rintro e w' ⟨rfl, n, rfl⟩
   go_wp2
   go_ret3
   rw [Hr.out]
   exact ⟨ret_isi (Hv.out _ (by omega)) rfl rfl, _, rfl⟩
 ·have Hr := Lib.hid (Pk.ri_bad l e h (by omega))
  have hne := pk_bne_t (show ¬ e = 0 from by omega)
  have H := Lib.hid h
  clear h he
  go_enter Tryz.func124, Tryz.ntmps124
  go_wp2_with fail
  refine (rreadUint_is _ _ _ _ _ H.out).mono ?_
  rintro x w' ⟨rfl, n, rfl⟩
  go_wp2
  go_ret3
  rw [Hr.out]
  exact ⟨rfl, _, rfl⟩
theorem rreadInt_is (l r : List UInt8) (m e : Int) (w : World) (h : Pk.ri l = (m, r, e)) :
  Calls Tryz.prog 124 #[.string ⟨l.toArray⟩] w fun x w' => x = .returned (.tuple #[.int .i64 m, .string ⟨r.toArray⟩, .int .i64 e]) ∧ ∃ n, w' = w.drewN n := by
 have := rreadInt_any l w
 rw [h] at this
 exact this
theorem rreadText_any (l : List UInt8) (w : World) (hl : l.length ≤ 140737488351300) :
  Calls Tryz.prog 51 #[.string ⟨l.toArray⟩] w fun e w' => e = .returned (.tuple #[.string ⟨(Pk.rt l).1.toArray⟩, .string ⟨(Pk.rt l).2.1.toArray⟩, .int .i64 (Pk.rt l).2.2]) ∧ ∃ n, w' = w.drewN n := by
 rcases Pk.rd_cases l with ⟨N, r, h, hN, hap⟩ | ⟨e, h, he⟩
 ·have hrl : (r.length : Int) ≤ 140737488351300 := by
   have := congrArg List.length hap
   simp at this; omega
  by_cases hp : r.length < N
  ·have Hr := Lib.hid (Pk.rt_short l r N h hp)
   have hq : (r.length : Int) < (N : Int) := by omega
   have H := Lib.hid h
   clear h hp hN hap hl
   go_enter Tryz.func51, Tryz.ntmps51
   go_wp2_with fail
   refine (rreadUint_is _ _ _ _ _ H.out).mono ?_
   rintro e w' ⟨rfl, n, rfl⟩
   go_wp2
   go_ret3
   rw [Hr.out]
   exact ⟨rfl, _, rfl⟩
  ·have Hr := Lib.hid (Pk.rt_end l r N h (by omega))
   have hq : (N : Int) ≤ (r.length : Int) := by omega
   have Hc := Lib.hid (cut_to r N)
   have Hd := Lib.hid (pk_cut_from r N)
   have H := Lib.hid h
   clear h hp hN hap hl
   go_enter Tryz.func51, Tryz.ntmps51
   go_wp2_with fail
   refine (rreadUint_is _ _ _ _ _ H.out).mono ?_
   rintro e w' ⟨rfl, n, rfl⟩
   go_wp2
   go_quiet (fail)
   go_wp2
   go_ret3
   rw [Hr.out]
   exact ⟨pk_ret_ssi Hc.out Hd.out rfl, _, World.drewN_drewN ..⟩
 ·have Hr := Lib.hid (Pk.rt_bad l e h (by omega))
  have hne := pk_bne_t (show ¬ e = 0 from by omega)
  have H := Lib.hid h
  clear h he hl
  go_enter Tryz.func51, Tryz.ntmps51
  go_wp2_with fail
  refine (rreadUint_is _ _ _ _ _ H.out).mono ?_
  rintro x w' ⟨rfl, n, rfl⟩
  go_wp2
  go_ret3
  rw [Hr.out]
  exact ⟨rfl, _, rfl⟩
theorem rreadText_is (l t r : List UInt8) (e : Int) (w : World) (hl : l.length ≤ 140737488351300) (h : Pk.rt l = (t, r, e)) :
  Calls Tryz.prog 51 #[.string ⟨l.toArray⟩] w fun x w' => x = .returned (.tuple #[.string ⟨t.toArray⟩, .string ⟨r.toArray⟩, .int .i64 e]) ∧ ∃ n, w' = w.drewN n := by
 have := rreadText_any l w hl
 rw [h] at this
 exact this
end Go.Proofs.YtmgdciihpjifgaaGreatDoor
