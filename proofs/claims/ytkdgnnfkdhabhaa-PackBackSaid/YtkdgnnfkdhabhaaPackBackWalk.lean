/-
  Law PackBack's walk: the call returns true, and writes nothing that was there. Condition: no text is longer than a process can hold.
-/
import Derived.Test.YtkdgnnfkdhabhaaPackAwake
namespace Go.Proofs.Ytkdgnnfkdhabhaa
open Go.RowKit

set_option maxHeartbeats 4000000 in
theorem packBack_list (n : Int) (s b : List UInt8) (w : World) (h0 : -9223372036854775808 ≤ n) (h1 : n ≤ 9223372036854775807) (hs : s.length ≤ 140737488351232) (hb : b.length ≤ 140737488351232) :
    Calls Try.prog 5 #[.int .i64 n, .string ⟨s.toArray⟩, .string ⟨b.toArray⟩] w fun e w' => e = .returned (.bool true) ∧ Below w.heap.size w w' := by
  obtain ⟨x, hx, hx0, hx1⟩ := as_u64 n
  by_cases hl : (2000 : Int) < (s.length : Int)
  · clear hs hb
    go_enter Try.func5, Try.ntmps5
    go_wp2_with fail
    refine (awake_any _).mono ?_
    rintro e w1 ⟨rfl, hb⟩
    have B1 := Lib.hid hb
    clear hb
    go_wp2
    go_ret
    exact ⟨rfl, B1.out⟩
  replace hl : (s.length : Int) ≤ 2000 := by omega
  by_cases hk : (2000 : Int) < (b.length : Int)
  · clear hs hb
    go_enter Try.func5, Try.ntmps5
    go_wp2_with fail
    refine (awake_any _).mono ?_
    rintro e w1 ⟨rfl, hb⟩
    have B1 := Lib.hid hb
    clear hb
    go_wp2
    go_ret
    exact ⟨rfl, B1.out⟩
  replace hk : (b.length : Int) ≤ 2000 := by omega
  have lp : (Pk.un x.toNat).length ≤ 10 := (Pk.ub_len 9 _).2
  have lq : (Pk.un (Pk.zz n)).length ≤ 10 := (Pk.ub_len 9 _).2
  have lt0 : (Pk.tx s).length ≤ 10 + s.length := by unfold Pk.tx; rw [List.length_append]; have : (Pk.un s.length).length ≤ 10 := (Pk.ub_len 9 _).2; omega
  have lt1 : 1 ≤ (Pk.tx s).length := by unfold Pk.tx; rw [List.length_append]; have : 1 ≤ (Pk.un s.length).length := (Pk.ub_len 9 _).1; omega
  have hP := Pk.rd_un x.toNat b (by omega)
  have hQ := Pk.ri_zz n b h0 h1
  have hT := Pk.rt_tx s b (by omega)
  have hTS := Pk.rt_tx_short s ((Pk.tx s).length / 2) (by omega) (by omega)
  have hxn : x = (x.toNat : Int) := (Int.toNat_of_nonneg hx0).symm
  obtain ⟨p, hp⟩ : ∃ p, Pk.un x.toNat = p := ⟨_, rfl⟩
  obtain ⟨q, hq⟩ : ∃ q, Pk.un (Pk.zz n) = q := ⟨_, rfl⟩
  obtain ⟨t, ht⟩ : ∃ t, Pk.tx s = t := ⟨_, rfl⟩
  rw [hp] at hP lp
  rw [hq] at hQ lq
  rw [ht] at hT hTS lt0 lt1
  have Hp := Lib.hid hp
  have Hq := Lib.hid hq
  have Ht := Lib.hid ht
  have HP := Lib.hid hP
  have HQ := Lib.hid hQ
  have HT := Lib.hid hT
  have HTS := Lib.hid hTS
  have Hs := Lib.hid hs
  have Hxn := Lib.hid hxn
  have Hlb := Lib.hid (show (t ++ b).length ≤ 140737488351300 from by rw [List.length_append]; omega)
  have Hlt := Lib.hid (show (t.take (t.length / 2)).length ≤ 140737488351300 from by rw [List.length_take]; omega)
  have Hcut := Lib.hid (cut_to t (t.length / 2))
  have ip : (p.length : Int) ≤ 10 := by omega
  have iq : (q.length : Int) ≤ 10 := by omega
  have it0 : (t.length : Int) ≤ 2010 := by omega
  have it1 : decide ((t.length : Int) < 1) = false := by simp; omega
  clear hp hq ht hP hQ hT hTS hs hb hxn lp lq lt0 lt1
  go_enter Try.func5, Try.ntmps5
  go_wp2_with fail
  refine (uint_is x p _ hx0 hx1 Hp.out).mono ?_
  rintro e w1 ⟨rfl, hb⟩
  have B1 := Lib.hid hb
  clear hb
  have hm1 := ByteArray.mk_append_mk p b
  go_wp2_with fail
  refine (readUint_int (p ++ b) b _ x _ HP.out Hxn.out).mono ?_
  rintro e w2 ⟨rfl, hb⟩
  have B2 := Lib.hid (drew_below hb)
  clear hb
  clear hm1
  go_wp2_with fail
  refine (int_is n q _ h0 h1 Hq.out).mono ?_
  rintro e w3 ⟨rfl, hb⟩
  have B3 := Lib.hid hb
  clear hb
  have hm2 := ByteArray.mk_append_mk q b
  go_wp2_with fail
  refine (readInt_is (q ++ b) b n 0 _ HQ.out).mono ?_
  rintro e w4 ⟨rfl, hb⟩
  have B4 := Lib.hid (drew_below hb)
  clear hb
  clear hm2
  go_wp2_with fail
  refine (text_is s t _ Hs.out Ht.out).mono ?_
  rintro e w5 ⟨rfl, hb⟩
  have B5 := Lib.hid hb
  clear hb
  have hm3 := ByteArray.mk_append_mk t b
  go_wp2_with fail
  refine (readText_is (t ++ b) s b 0 _ Hlb.out HT.out).mono ?_
  rintro e w6 ⟨rfl, hb⟩
  have B6 := Lib.hid (drew_below hb)
  clear hb
  clear hm3
  go_wp2_with fail
  refine (text_is s t _ Hs.out Ht.out).mono ?_
  rintro e w7 ⟨rfl, hb⟩
  have B7 := Lib.hid hb
  clear hb
  go_wp2_with fail
  rw [Hcut.out]
  refine (readText_is (t.take (t.length / 2)) [] [] 3 _ Hlt.out HTS.out).mono ?_
  rintro e w8 ⟨rfl, hb⟩
  have B8 := Lib.hid (drew_below hb)
  clear hb
  go_wp2_with fail
  refine (awake_any _).mono ?_
  rintro e w9 ⟨rfl, hb⟩
  have B9 := Lib.hid hb
  clear hb
  go_wp2
  go_ret
  exact ⟨rfl, below_then (below_then (below_then (below_then (below_then (below_then (below_then (below_then (B1.out) B2.out) B3.out) B4.out) B5.out) B6.out) B7.out) B8.out) B9.out⟩

theorem packBack_walk (n : Int) (s b : ByteArray) (w : World) (hn : (Lit.int .i64 n).wf = true) (hs : s.size ≤ 140737488351232) (hb : b.size ≤ 140737488351232) :
    Calls Try.prog 5 #[.int .i64 n, .string s, .string b] w fun e w' => e = .returned (.bool true) ∧ Below w.heap.size w w' := by
  obtain ⟨l, rfl, e⟩ := string_list s
  obtain ⟨m, rfl, f⟩ := string_list b
  exact packBack_list n l m w (i_of_wf hn).1 (i_of_wf hn).2 (by omega) (by omega)

end Go.Proofs.Ytkdgnnfkdhabhaa
