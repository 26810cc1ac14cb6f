/-
  What package pack's Int, Text, ReadInt and ReadText answer, for every argument. Conditions: the bounds named in each theorem.
-/
import Derived.Test.YtcpcbnlgmhkdkaaPackRead
namespace Go.Proofs.Ytcpcbnlgmhkdkaa
open Go.RowKit

theorem pk_bne_t {e : Int} (h : ¬ e = 0) : (e != 0) = true := by simp [h]

theorem cut_to (l : List UInt8) (n : Nat) : (ByteArray.mk l.toArray).extract 0 n = ⟨(l.take n).toArray⟩ := by
  apply ByteArray.ext
  rw [ByteArray.data_extract]
  simp

theorem ret_isi {a b : Int} {s t : ByteArray} {x y : Int} (h : a = b) (g : s = t) (i : x = y) : Ending.returned (.tuple #[.int .i64 a, .string s, .int .i64 x]) = .returned (.tuple #[.int .i64 b, .string t, .int .i64 y]) := by rw [h, g, i]
theorem ret_ssi {s t u v : ByteArray} {x y : Int} (h : u = v) (g : s = t) (i : x = y) : Ending.returned (.tuple #[.string u, .string s, .int .i64 x]) = .returned (.tuple #[.string v, .string t, .int .i64 y]) := by rw [h, g, i]

theorem uint_int (x : Int) (w : World) (h0 : 0 ≤ x) (h : x < 18446744073709551616) :
    Calls Try.prog 21 #[.int .u64 x] w fun e w' => e = .returned (.string ⟨(Pk.un x.toNat).toArray⟩) ∧ Below w.heap.size w w' := by
  have := uint_any x.toNat w (by omega)
  rw [Int.toNat_of_nonneg h0] at this
  exact this

theorem uint_is (x : Int) (l : List UInt8) (w : World) (h0 : 0 ≤ x) (h : x < 18446744073709551616) (hl : Pk.un x.toNat = l) :
    Calls Try.prog 21 #[.int .u64 x] w fun e w' => e = .returned (.string ⟨l.toArray⟩) ∧ Below w.heap.size w w' := by
  rw [← hl]; exact uint_int x w h0 h

set_option maxHeartbeats 400000 in
theorem int_any (n : Int) (w : World) (h0 : -9223372036854775808 ≤ n) (h1 : n ≤ 9223372036854775807) :
    Calls Try.prog 43 #[.int .i64 n] w fun e w' => e = .returned (.string ⟨(Pk.un (Pk.zz n)).toArray⟩) ∧ Below w.heap.size w w' := by
  by_cases hn : n < 0
  · have Hz := Lib.hid (show ∀ x : Int, x = -2 * n - 1 → Pk.un x.toNat = Pk.un (Pk.zz n) from by
      rintro x rfl; unfold Pk.zz; rw [if_pos hn])
    go_enter Try.func43, Try.ntmps43
    go_wp2_with fail
    refine (uint_is _ _ _ (by omega) (by omega) (Hz.out _ (by omega))).mono ?_
    rintro e w1 ⟨rfl, hb⟩
    have Hb := Lib.hid hb
    clear hb
    go_wp2
    go_ret
    exact ⟨rfl, Hb.out⟩
  · have Hz := Lib.hid (show ∀ x : Int, x = 2 * n → Pk.un x.toNat = Pk.un (Pk.zz n) from by
      rintro x rfl; unfold Pk.zz; rw [if_neg hn])
    go_enter Try.func43, Try.ntmps43
    go_wp2_with fail
    refine (uint_is _ _ _ (by omega) (by omega) (Hz.out _ (by omega))).mono ?_
    rintro e w1 ⟨rfl, hb⟩
    have Hb := Lib.hid hb
    clear hb
    go_wp2
    go_ret
    exact ⟨rfl, Hb.out⟩

theorem int_is (n : Int) (l : List UInt8) (w : World) (h0 : -9223372036854775808 ≤ n) (h1 : n ≤ 9223372036854775807) (hl : Pk.un (Pk.zz n) = l) :
    Calls Try.prog 43 #[.int .i64 n] w fun e w' => e = .returned (.string ⟨l.toArray⟩) ∧ Below w.heap.size w w' := by
  rw [← hl]; exact int_any n w h0 h1

set_option maxHeartbeats 400000 in
theorem text_any (s : List UInt8) (w : World) (hs : s.length ≤ 140737488351232) :
    Calls Try.prog 44 #[.string ⟨s.toArray⟩] w fun e w' => e = .returned (.string ⟨(Pk.tx s).toArray⟩) ∧ Below w.heap.size w w' := by
  have hl : (Pk.un s.length).length ≤ 10 := (Pk.ub_len 9 s.length).2
  have Ht := Lib.hid (show Pk.un s.length ++ s = Pk.tx s from rfl)
  have hlen : (s.length : Int) ≤ 140737488351232 := by omega
  go_enter Try.func44, Try.ntmps44
  go_wp2_with fail
  refine (uint_any s.length _ (by omega)).mono ?_
  rintro e w1 ⟨rfl, hb⟩
  have Hb := Lib.hid hb
  clear hb
  generalize Pk.un s.length = p at *
  have hmk := ByteArray.mk_append_mk p s
  go_wp2
  go_ret
  exact ⟨pk_ret_str Ht.out, Hb.out⟩

theorem text_is (s l : List UInt8) (w : World) (hs : s.length ≤ 140737488351232) (hl : Pk.tx s = l) :
    Calls Try.prog 44 #[.string ⟨s.toArray⟩] w fun e w' => e = .returned (.string ⟨l.toArray⟩) ∧ Below w.heap.size w w' := by
  rw [← hl]; exact text_any s w hs

theorem readUint_int (l r : List UInt8) (N : Nat) (x : Int) (w : World) (h : Pk.rd l 0 0 = (N, r, 0)) (hx : x = N) :
    Calls Try.prog 27 #[.string ⟨l.toArray⟩] w fun y w' => y = .returned (.tuple #[.int .u64 x, .string ⟨r.toArray⟩, .int .i64 0]) ∧ ∃ n, w' = w.drewN n := by
  rw [hx]; exact readUint_is l r N 0 w h

set_option maxHeartbeats 400000 in
theorem readInt_any (l : List UInt8) (w : World) :
    Calls Try.prog 51 #[.string ⟨l.toArray⟩] w fun e w' => e = .returned (.tuple #[.int .i64 (Pk.ri l).1, .string ⟨(Pk.ri l).2.1.toArray⟩, .int .i64 (Pk.ri l).2.2]) ∧ ∃ n, w' = w.drewN n := by
  rcases Pk.rd_cases l with ⟨N, r, h, hN, _⟩ | ⟨e, h, he⟩
  · obtain ⟨x, hx⟩ : ∃ x : Int, x = (N : Int) := ⟨_, rfl⟩
    have hx0 : 0 ≤ x := by omega
    have hx1 : x < 18446744073709551616 := by omega
    by_cases hp : N % 2 = 1
    · have Hr := Lib.hid (Pk.ri_odd l r N h hp)
      have hq : (x % 2 == 1) = true := beq_iff_eq.2 (by omega)
      have Hv := Lib.hid (show ∀ y : Int, y = -1 - x / 2 → y = -1 - ((N / 2 : Nat) : Int) from by rintro y rfl; omega)
      have H := Lib.hid h
      have Hx := Lib.hid hx
      clear h hx hp hN
      go_enter Try.func51, Try.ntmps51
      go_wp2_with fail
      refine (readUint_int _ _ _ _ _ H.out Hx.out).mono ?_
      rintro e w' ⟨rfl, n, rfl⟩
      go_wp2
      go_ret3
      rw [Hr.out]
      exact ⟨ret_isi (Hv.out _ (by omega)) rfl rfl, _, rfl⟩
    · have Hr := Lib.hid (Pk.ri_even l r N h hp)
      have hq : (x % 2 == 1) = false := pk_beq_f (by omega)
      have Hv := Lib.hid (show ∀ y : Int, y = x / 2 → y = ((N / 2 : Nat) : Int) from by rintro y rfl; omega)
      have H := Lib.hid h
      have Hx := Lib.hid hx
      clear h hx hp hN
      go_enter Try.func51, Try.ntmps51
      go_wp2_with fail
      refine (readUint_int _ _ _ _ _ H.out Hx.out).mono ?_
      rintro e w' ⟨rfl, n, rfl⟩
      go_wp2
      go_ret3
      rw [Hr.out]
      exact ⟨ret_isi (Hv.out _ (by omega)) rfl rfl, _, rfl⟩
  · have Hr := Lib.hid (Pk.ri_bad l e h (by omega))
    have hne := pk_bne_t (show ¬ e = 0 from by omega)
    have H := Lib.hid h
    clear h he
    go_enter Try.func51, Try.ntmps51
    go_wp2_with fail
    refine (readUint_is _ _ _ _ _ H.out).mono ?_
    rintro x w' ⟨rfl, n, rfl⟩
    go_wp2
    go_ret3
    rw [Hr.out]
    exact ⟨rfl, _, rfl⟩

theorem readInt_is (l r : List UInt8) (m e : Int) (w : World) (h : Pk.ri l = (m, r, e)) :
    Calls Try.prog 51 #[.string ⟨l.toArray⟩] w fun x w' => x = .returned (.tuple #[.int .i64 m, .string ⟨r.toArray⟩, .int .i64 e]) ∧ ∃ n, w' = w.drewN n := by
  have := readInt_any l w
  rw [h] at this
  exact this

set_option maxHeartbeats 400000 in
theorem readText_any (l : List UInt8) (w : World) (hl : l.length ≤ 140737488351300) :
    Calls Try.prog 52 #[.string ⟨l.toArray⟩] w fun e w' => e = .returned (.tuple #[.string ⟨(Pk.rt l).1.toArray⟩, .string ⟨(Pk.rt l).2.1.toArray⟩, .int .i64 (Pk.rt l).2.2]) ∧ ∃ n, w' = w.drewN n := by
  rcases Pk.rd_cases l with ⟨N, r, h, hN, hap⟩ | ⟨e, h, he⟩
  · have hrl : (r.length : Int) ≤ 140737488351300 := by
      have := congrArg List.length hap
      simp at this; omega
    by_cases hp : r.length < N
    · have Hr := Lib.hid (Pk.rt_short l r N h hp)
      have hq : (r.length : Int) < (N : Int) := by omega
      have H := Lib.hid h
      clear h hp hN hap hl
      go_enter Try.func52, Try.ntmps52
      go_wp2_with fail
      refine (readUint_is _ _ _ _ _ H.out).mono ?_
      rintro e w' ⟨rfl, n, rfl⟩
      go_wp2
      go_ret3
      rw [Hr.out]
      exact ⟨rfl, _, rfl⟩
    · have Hr := Lib.hid (Pk.rt_end l r N h (by omega))
      have hq : (N : Int) ≤ (r.length : Int) := by omega
      have Hc := Lib.hid (cut_to r N)
      have Hd := Lib.hid (pk_cut_from r N)
      have H := Lib.hid h
      clear h hp hN hap hl
      go_enter Try.func52, Try.ntmps52
      go_wp2_with fail
      refine (readUint_is _ _ _ _ _ H.out).mono ?_
      rintro e w' ⟨rfl, n, rfl⟩
      go_wp2
      go_quiet (fail)
      go_wp2
      go_ret3
      rw [Hr.out]
      exact ⟨ret_ssi Hc.out Hd.out rfl, _, World.drewN_drewN ..⟩
  · have Hr := Lib.hid (Pk.rt_bad l e h (by omega))
    have hne := pk_bne_t (show ¬ e = 0 from by omega)
    have H := Lib.hid h
    clear h he hl
    go_enter Try.func52, Try.ntmps52
    go_wp2_with fail
    refine (readUint_is _ _ _ _ _ H.out).mono ?_
    rintro x w' ⟨rfl, n, rfl⟩
    go_wp2
    go_ret3
    rw [Hr.out]
    exact ⟨rfl, _, rfl⟩

theorem readText_is (l t r : List UInt8) (e : Int) (w : World) (hl : l.length ≤ 140737488351300) (h : Pk.rt l = (t, r, e)) :
    Calls Try.prog 52 #[.string ⟨l.toArray⟩] w fun x w' => x = .returned (.tuple #[.string ⟨t.toArray⟩, .string ⟨r.toArray⟩, .int .i64 e]) ∧ ∃ n, w' = w.drewN n := by
  have := readText_any l w hl
  rw [h] at this
  exact this

end Go.Proofs.Ytcpcbnlgmhkdkaa
