/-
 What bytes begin with, by the document: below, texts. Conditions: texts of 1000000 bytes at most.
-/
import Derived.Test.YtmgdciihpjifgaaGreatDoorQrOpReadC
import Derived.Test.YtmgdciihpjifgaaGreatDoorQrPackRefInts
set_option maxHeartbeats 4000000
namespace Go.Proofs.YtmgdciihpjifgaaGreatDoor
open Go.RowKit
set_option linter.unusedVariables false
theorem rtextO (l t r : List UInt8) (e : Int) (w : World) (hl : l.length ≤ 1000000) (h : Pk.rt l = (t, r, e)) :
  Calls Tryz.prog 51 #[.string ⟨l.toArray⟩] w fun x w' => x = .returned (.tuple #[.string ⟨t.toArray⟩, .string ⟨r.toArray⟩, .int .i64 e]) ∧ Below w.heap.size w w' :=
 (rreadText_is l t r e w (by omega) h).mono fun x w' ⟨hx, n, hw⟩ => ⟨hx, hw ▸ drew_b w n⟩
theorem rbl_bad (n : Int) (l : List UInt8) (w : World) (e : Int) (h : Pk.rd l 0 0 = (0, [], e)) (he : ¬ e = 0) :
  Calls Tryz.prog 40 #[.string ⟨l.toArray⟩, .int .u64 n] w fun y w' => y = .returned (.tuple #[.int .i64 0, .string ⟨([] : List UInt8).toArray⟩, .int .i64 e]) ∧ Below w.heap.size w w' := by
 go_enter Tryz.func40, Tryz.ntmps40
 go_wp2_with fail
 refine (rreadUint_is l [] 0 e _ h).mono ?_
 rintro y w1 ⟨rfl, m, rfl⟩
 go_wp2
 go_ret3
 exact ⟨rfl, drew_b _ _⟩
theorem rbl_past (n : Int) (l : List UInt8) (w : World) (N : Nat) (x : Int) (r : List UInt8) (h : Pk.rd l 0 0 = (N, r, 0)) (hx : x = N) (hp : n ≤ x) :
  Calls Tryz.prog 40 #[.string ⟨l.toArray⟩, .int .u64 n] w fun y w' => y = .returned (.tuple #[.int .i64 0, .string ⟨([] : List UInt8).toArray⟩, .int .i64 1]) ∧ Below w.heap.size w w' := by
 have H := zh (za h hx)
 clear h hx
 go_enter Tryz.func40, Tryz.ntmps40
 go_wp2_with fail
 refine (rreadUint_int l r N x _ H.out.1 H.out.2).mono ?_
 rintro y w1 ⟨rfl, m, rfl⟩
 go_wp2
 go_ret3
 exact ⟨rfl, drew_b _ _⟩
theorem rbl_ok (n : Int) (l : List UInt8) (w : World) (N : Nat) (x : Int) (r : List UInt8) (h : Pk.rd l 0 0 = (N, r, 0)) (hx : x = N) (hp : decide (n ≤ x) = false) (hq : decide (x < n) = true) (hw : wrap64 x = x) :
  Calls Tryz.prog 40 #[.string ⟨l.toArray⟩, .int .u64 n] w fun y w' => y = .returned (.tuple #[.int .i64 x, .string ⟨r.toArray⟩, .int .i64 0]) ∧ Below w.heap.size w w' := by
 have H := zh (za h hx)
 clear h hx
 go_enter Tryz.func40, Tryz.ntmps40
 go_wp2_with fail
 refine (rreadUint_int l r N x _ H.out.1 H.out.2).mono ?_
 rintro y w1 ⟨rfl, m, rfl⟩
 go_wp2
 go_ret3
 exact ⟨by rw [hw]; rfl, drew_b _ _⟩
theorem rbelow_is (n : Int) (top : Nat) (x e : Int) (l r : List UInt8) (N : Nat) (w : World) (hn : n = top + 1) (h9 : top ≤ 1000) (h : small top 1 l = (N, r, e)) (hx : x = N) :
  Calls Tryz.prog 40 #[.string ⟨l.toArray⟩, .int .u64 n] w fun y w' => y = .returned (.tuple #[.int .i64 x, .string ⟨r.toArray⟩, .int .i64 e]) ∧ Below w.heap.size w w' := by
 subst hx
 unfold small at h
 rcases Pk.rd_cases l with ⟨M, q, g, _, _⟩ | ⟨e', g, he⟩
 ·rw [g] at h
  simp only [ne_eq, not_true_eq_false, if_false] at h
  by_cases hp : top < M
  ·rw [if_pos hp] at h
   obtain ⟨rfl, rfl, rfl⟩ : 0 = N ∧ [] = r ∧ 1 = e := by simpa using h
   exact rbl_past n l w M M q g rfl (by omega)
  ·rw [if_neg hp] at h
   obtain ⟨rfl, rfl, rfl⟩ : M = N ∧ q = r ∧ 0 = e := by simpa using h
   exact rbl_ok n l w M M q g rfl (by rw [decide_eq_false_iff_not]; omega) (by rw [decide_eq_true_iff]; omega) (wrap_in _ (by omega) (by omega))
 ·have hn' : ¬ e' = 0 := by omega
  rw [g] at h
  rw [if_pos hn'] at h
  obtain ⟨rfl, rfl, rfl⟩ : 0 = N ∧ [] = r ∧ e' = e := by simpa using h
  exact rbl_bad n l w e' g hn'
theorem rtexts_is (l : List UInt8) (N : Nat) (w : World) (hl : l.length ≤ 1000000) (hN : N ≤ 1000) :
  Calls Tryz.prog 41 #[.string ⟨l.toArray⟩, .int .i64 (N : Int)] w (RN (rts N l) w) := by
 obtain ⟨R, hR⟩ : ∃ R, rts N l = R := ⟨_, rfl⟩
 rw [hR]
 have H := zh (za hR (za hl hN))
 clear hR hl hN
 go_enter Tryz.func41, Tryz.ntmps41
 go_wp2
 go_loopw [0, 7, 8] (fun s v i wr => ∃ (j : Nat) (d : List Nm.S) (L : List UInt8), s = .string ⟨L.toArray⟩ ∧ i = .int .i64 j ∧ j ≤ N ∧ d.length = j ∧ rts N l = prT d (rts (N - j) L) ∧ L.length ≤ 1000000 ∧ OwS wr w.heap.size v d ∧ Below w.heap.size w wr) (fun _ _ i _ => N - (intOf i).toNat)
 case atStart => exact ⟨0, [], l, rfl, rfl, Nat.zero_le _, rfl, (prT_nil _ _).symm, H.out.2.1, ows_nil _ _, Below.refl _ _⟩
 case round =>
  obtain ⟨j, d, L, rfl, rfl, hj, hd, hQ, hL, hO, hbel⟩ := hrel
  have J := zh (za hO (za hbel (za hd (za hQ hL))))
  clear hO hbel hd hQ hL
  by_cases hlt : j < N
  ·have hw : wrap64 ((j : Int) + 1) = (j : Int) + 1 := by have := H.out; exact wrap_in _ (by omega) (by omega)
   obtain ⟨s, r, e, hs⟩ : ∃ s r e, Pk.rt L = (s, r, e) := ⟨_, _, _, rfl⟩
   have lr := suf_len (rt_sf L)
   rw [hs] at lr
   have Y := zh (za hs (show r.length ≤ 1000000 by have := J.out.2.2.2.2; simp only at lr; omega))
   have eN : N - j = (N - (j + 1)) + 1 := by omega
   clear hs lr
   go_wp2_with fail
   refine (rtextO L s r e _ J.out.2.2.2.2 Y.out.1).mono ?_
   rintro y w6 ⟨rfl, hb⟩
   have K := zh (za (J.out.1.keep hb) (step0 J.out.2.1 hb))
   clear hb
   by_cases he : e = 0
   ·subst he
    have Q := zh (show rts N l = prT (d ++ [s]) (rts (N - (j + 1)) r) from by rw [J.out.2.2.2.1, eN]; exact prT_step d _ Y.out.1)
    clear eN
    go_wp2_with (at_builtin; refine appS rfl _ _ rfl w.heap.size u7 d s _ rfl K.out.1 _ rfl rfl (by have := J.out.2.2.1; have := H.out; omega) K.out.2.size ?_; intro v' w7 hown hb; have K7 := zh (za hown (K.out.2.trans hb)); clear hown hb; go_frame)
    go_roundw
    case rel => exact ⟨j + 1, d ++ [s], r, rfl, by go_num, hlt, by simp [J.out.2.2.1], Q.out, Y.out.2, K7.out⟩
    case measure => rw [hw]; simp [intOf]; omega
   ·have e1 := bne_t he
    have Q := zh (show rts N l = ([], [], e) from by rw [J.out.2.2.2.1, eN]; exact prT_err d _ Y.out.1 he)
    clear eN he
    go_wp2
    go_ret3
    rw [← H.out.1, Q.out]
    exact ⟨_, rfl, ows_nil _ _, K.out.2⟩
  ·obtain rfl : j = N := by omega
   have hQ := J.out.2.2.2.1
   rw [Nat.sub_self, prT_end] at hQ
   have ST := zh hQ
   clear hQ
   go_wp2
   go_ret3
   rw [← H.out.1, ST.out]
   exact ⟨_, rfl, J.out.1, J.out.2.1⟩
end Go.Proofs.YtmgdciihpjifgaaGreatDoor
