/-
  What the document's own Uint answers, for every number of 64 bits: its digits of base 128. No further condition.
  What the document's own ReadUint answers, for every text. No condition.
  What the document's own Int, Text, ReadInt and ReadText answer, for every argument. Conditions: the bounds named in each theorem.
-/
import Derived.Test.YtmgdciihpjifgaaGreatDoorQpPackInts
namespace Go.Proofs.YtmgdciihpjifgaaGreatDoor
open Go.RowKit

set_option maxHeartbeats 400000 in
theorem ruint_any (N : Nat) (w : World) (hN : (N : Int) < 18446744073709551616) :
    Calls Tryz.prog 36 #[.int .u64 N] w fun e w' => e = .returned (.string ⟨(Pk.un N).toArray⟩) ∧ Below w.heap.size w w' := by
  obtain ⟨i0, hi, hz0, hz1, hz2⟩ := info_parts Tryz.infoU8p
  have HN := Lib.hid (un_start N hN)
  have HNb := Lib.hid hN
  clear hN
  go_enter Tryz.func36, Tryz.ntmps36
  go_wp2
  go_loopw [0, 3] (fun n v wr => ∃ (m f : Nat) (done : List UInt8), n = .int .u64 m ∧ wr.ownsRow w.heap.size 5 1 v done.length (done.map pk_bv) ∧ Below w.heap.size w wr ∧ done ++ Pk.ub f m = Pk.un N ∧ m < 128 ^ (f + 1) ∧ done.length + f = 9 ∧ (m : Int) < 18446744073709551616) (fun n _ _ => (intOf n).toNat)
  case atStart => exact ⟨N, 9, [], rfl, World.ownsRow_nil _ _ _ _, Below.refl _ _, rfl, HN.out, rfl, HNb.out⟩
  case round =>
    obtain ⟨m, f, done, rfl, hown, hbel, hub, hm, hlen, hmb⟩ := hrel
    have Hub := Lib.hid hub
    have Hm := Lib.hid hm
    have Hown := Lib.hid hown
    have Hbel := Lib.hid hbel
    clear hub hm hown hbel HN HNb
    by_cases hlow : m < 128
    · have Hu := Lib.hid (show done ++ [UInt8.ofNat m] = Pk.un N from by rw [← Hub.out, Pk.ub_low f m hlow])
      have Hlow := Lib.hid hlow
      obtain ⟨M, hM⟩ : ∃ M : Int, M = (m : Int) := ⟨_, rfl⟩
      have hM0 : 0 ≤ M := by omega
      have hM1 : M < 128 := by omega
      rw [← hM]
      have HM := Lib.hid hM
      have t1 : decide ((128 : Int) ≤ M) = false := by rw [decide_eq_false_iff_not]; omega
      have HL := Lib.hid hlen
      clear hlow hmb hM Hub Hm hlen
      go_wp2_with (at_builtin; refine wpList_append_own _ rfl _ _ 102 rfl w.heap.size 5 i0 (.int .u8 0) 1 1 Tryz.underlying102 hi hz0 hz1 hz2 rfl (by decide) _ _ _ rfl (Hown.out.alloc _) ⟨wr.heap.size, 0, none⟩ 1 1 [.int .u8 M] rfl rfl ?c1 ?c2 ?c3 ?c4 ?c5 ?_)
      case c1 =>
        intro j u hj
        match j, hj with
        | 0, hj => simp at hj; subst hj; simp [Addr.add]
      case c2 => intro u hu; simp at hu; subst hu; rfl
      case c3 => have := HL.out; unfold maxLen; omega
      case c4 => have := HL.out; omega
      case c5 => have := Hbel.out.size; simp; omega
      · intro v' w1 hown' hgrow _
        have Hb' := Lib.hid ((Hbel.out.alloc Hbel.out.size _).grown hgrow (by have := Hbel.out.size; simp; omega) (fun k hk => (Hown.out.lt k hk).1))
        obtain ⟨g, cap, rfl, hcv⟩ := pk_conv_own (done ++ [UInt8.ofNat m]) (by rw [List.map_append, List.map_singleton, ← bv_low m Hlow.out, ← HM.out]; exact hown') (by simp) (by simp)
        clear hown' hgrow
        go_wp2
        go_ret
        exact ⟨pk_ret_str Hu.out, Hb'.out⟩
    · have hh : (128 : Int) ≤ m := by omega
      obtain ⟨g, rfl, hp⟩ := pow_step m f Hm.out (by omega)
      have Hp := Lib.hid hp
      clear hp
      have Hu := Lib.hid (show done ++ [UInt8.ofNat (m % 128 + 128)] ++ Pk.ub g (m / 128) = Pk.un N from by rw [← Hub.out, Pk.ub_high g m (by omega)]; simp)
      go_wp2_with (at_builtin; refine wpList_append_own _ rfl _ _ 102 rfl w.heap.size 5 i0 (.int .u8 0) 1 1 Tryz.underlying102 hi hz0 hz1 hz2 rfl (by decide) _ _ _ rfl (Hown.out.alloc _) ⟨wr.heap.size, 0, none⟩ 1 1 [.int .u8 ((m : Int) % 128 + 128)] rfl rfl ?c1 ?c2 ?c3 ?c4 ?c5 ?_)
      case c1 =>
        intro j u hj
        match j, hj with
        | 0, hj => simp at hj; subst hj; simp [Addr.add]
      case c2 => intro u hu; simp at hu; subst hu; rfl
      case c3 => unfold maxLen; omega
      case c4 => omega
      case c5 => have := Hbel.out.size; simp; omega
      · intro v' w1 hown' hgrow _
        have Hown' := Lib.hid (show w1.ownsRow w.heap.size 5 1 v' (done ++ [UInt8.ofNat (m % 128 + 128)]).length ((done ++ [UInt8.ofNat (m % 128 + 128)]).map pk_bv) from by rw [List.length_append, List.map_append, List.map_singleton, ← bv_high m]; exact hown')
        have Hb' := Lib.hid ((Hbel.out.alloc Hbel.out.size _).grown hgrow (by have := Hbel.out.size; simp; omega) (fun k hk => (Hown.out.lt k hk).1))
        clear hown' hgrow
        go_wp2_with fail
        go_roundw
        case rel => exact ⟨m / 128, g, done ++ [UInt8.ofNat (m % 128 + 128)], by go_num, Hown'.out, Hb'.out, Hu.out, Hp.out, by simp; omega, by omega⟩
        case measure => simp [intOf]; omega

end Go.Proofs.YtmgdciihpjifgaaGreatDoor

namespace Go.Proofs.YtmgdciihpjifgaaGreatDoor
open Go.RowKit

end Go.Proofs.YtmgdciihpjifgaaGreatDoor

namespace Go.Proofs.YtmgdciihpjifgaaGreatDoor
open Go.RowKit

theorem ruint_int (x : Int) (w : World) (h0 : 0 ≤ x) (h : x < 18446744073709551616) :
    Calls Tryz.prog 36 #[.int .u64 x] w fun e w' => e = .returned (.string ⟨(Pk.un x.toNat).toArray⟩) ∧ Below w.heap.size w w' := by
  have := ruint_any x.toNat w (by omega)
  rw [Int.toNat_of_nonneg h0] at this
  exact this

theorem ruint_is (x : Int) (l : List UInt8) (w : World) (h0 : 0 ≤ x) (h : x < 18446744073709551616) (hl : Pk.un x.toNat = l) :
    Calls Tryz.prog 36 #[.int .u64 x] w fun e w' => e = .returned (.string ⟨l.toArray⟩) ∧ Below w.heap.size w w' := by
  rw [← hl]; exact ruint_int x w h0 h

set_option maxHeartbeats 400000 in
theorem rint_any (n : Int) (w : World) (h0 : -9223372036854775808 ≤ n) (h1 : n ≤ 9223372036854775807) :
    Calls Tryz.prog 104 #[.int .i64 n] w fun e w' => e = .returned (.string ⟨(Pk.un (Pk.zz n)).toArray⟩) ∧ Below w.heap.size w w' := by
  by_cases hn : n < 0
  · have Hz := Lib.hid (show ∀ x : Int, x = -2 * n - 1 → Pk.un x.toNat = Pk.un (Pk.zz n) from by
      rintro x rfl; unfold Pk.zz; rw [if_pos hn])
    go_enter Tryz.func104, Tryz.ntmps104
    go_wp2_with fail
    refine (ruint_is _ _ _ (by omega) (by omega) (Hz.out _ (by omega))).mono ?_
    rintro e w1 ⟨rfl, hb⟩
    have Hb := Lib.hid hb
    clear hb
    go_wp2
    go_ret
    exact ⟨rfl, Hb.out⟩
  · have Hz := Lib.hid (show ∀ x : Int, x = 2 * n → Pk.un x.toNat = Pk.un (Pk.zz n) from by
      rintro x rfl; unfold Pk.zz; rw [if_neg hn])
    go_enter Tryz.func104, Tryz.ntmps104
    go_wp2_with fail
    refine (ruint_is _ _ _ (by omega) (by omega) (Hz.out _ (by omega))).mono ?_
    rintro e w1 ⟨rfl, hb⟩
    have Hb := Lib.hid hb
    clear hb
    go_wp2
    go_ret
    exact ⟨rfl, Hb.out⟩

set_option maxHeartbeats 400000 in
theorem rtext_any (s : List UInt8) (w : World) (hs : s.length ≤ 140737488351232) :
    Calls Tryz.prog 37 #[.string ⟨s.toArray⟩] w fun e w' => e = .returned (.string ⟨(Pk.tx s).toArray⟩) ∧ Below w.heap.size w w' := by
  have hl : (Pk.un s.length).length ≤ 10 := (Pk.ub_len 9 s.length).2
  have Ht := Lib.hid (show Pk.un s.length ++ s = Pk.tx s from rfl)
  have hlen : (s.length : Int) ≤ 140737488351232 := by omega
  go_enter Tryz.func37, Tryz.ntmps37
  go_wp2_with fail
  refine (ruint_any s.length _ (by omega)).mono ?_
  rintro e w1 ⟨rfl, hb⟩
  have Hb := Lib.hid hb
  clear hb
  generalize Pk.un s.length = p at *
  have hmk := ByteArray.mk_append_mk p s
  go_wp2
  go_ret
  exact ⟨pk_ret_str Ht.out, Hb.out⟩

theorem rtext_is (s l : List UInt8) (w : World) (hs : s.length ≤ 140737488351232) (hl : Pk.tx s = l) :
    Calls Tryz.prog 37 #[.string ⟨s.toArray⟩] w fun e w' => e = .returned (.string ⟨l.toArray⟩) ∧ Below w.heap.size w w' := by
  rw [← hl]; exact rtext_any s w hs

end Go.Proofs.YtmgdciihpjifgaaGreatDoor
