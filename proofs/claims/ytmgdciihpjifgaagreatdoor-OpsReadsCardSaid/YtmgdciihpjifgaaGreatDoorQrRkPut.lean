/-
 What putValue and Put answer, the program's and the document's: a value's bytes, a row's bytes, or the first error. Conditions: the bounds named in each theorem.
 What the document's own one and Put answer: a value's bytes, a row's bytes, or the first error. Conditions: the bounds named in each theorem.
-/
import Derived.Test.YtmgdciihpjifgaaGreatDoorQrScPlain
import Derived.Test.YtmgdciihpjifgaaGreatDoorQrRkRow
import Derived.Test.YtmgdciihpjifgaaGreatDoorQrKcVals
import Derived.Test.YtmgdciihpjifgaaGreatDoorQrVlRefCheck
import Derived.Test.YtmgdciihpjifgaaGreatDoorQrPackInts
import Derived.Test.YtmgdciihpjifgaaGreatDoorQrPackRefInts
set_option maxHeartbeats 2000000
namespace Go.Proofs.YtmgdciihpjifgaaGreatDoor.Rk
open Go.RowKit
theorem putNumber_x (base : Nat) (v : Value) (l : List UInt8) (x y : Int) (N k : Nat) (w : World) (hx : x = N) (hy : y = k) (hown : Ow w base v l) (hb : base ≤ w.heap.size) (hk : k ≤ 8) (hl : l.length ≤ 1000000) :
  Calls Tryz.prog 100 #[v, .int .u64 x, .int .i64 y] w fun e w' => ∃ v', e = .returned v' ∧ Ow w' base v' (l ++ Kc.bn k N) ∧ Gr w v w' v' := by
 subst hx hy
 exact putNumber_is base v l N k w hown hb hk hl
theorem box_gr {w w' : World} {v v' : Value} {base : Nat} {l : List UInt8} {k n b : Int} {s : List UInt8} (hO : Ow w base v l)
  (h : Gr (w.alloc (Obj.cells #[.int .i64 k, .int .i64 n, .int .u64 b, .string ⟨(s : List UInt8).toArray⟩] 25)) v w' v') :
  w'.cell? ⟨w.heap.size, 0, none⟩ = some (.int .i64 k) ∧ w'.cell? ⟨w.heap.size, 1, none⟩ = some (.int .i64 n) ∧ w'.cell? ⟨w.heap.size, 2, none⟩ = some (.int .u64 b) ∧ w'.cell? ⟨w.heap.size, 3, none⟩ = some (.string ⟨s.toArray⟩) := by
 have hne : ∀ j, v.ownBlock = some j → j ≠ w.heap.size := fun j hj => by have := hO.in j hj; omega
 have f := fresh (v := w) (g := w.heap.size) (k := k) (n := n) (b := b) (s := s) rfl
 exact ⟨h.cell f.1 hne, h.cell f.2.1 hne, h.cell f.2.2.1 hne, h.cell f.2.2.2 hne⟩
theorem put_0 (base : Nat) (v : Value) (l : List UInt8)  (w : World) (hown : Ow w base v l) (hb : base ≤ w.heap.size) (hl : l.length ≤ 900000)  :
  Calls Tryz.prog 73 #[v, .agg #[.int .i64 0, .int .i64 0, .int .u64 0, .string ⟨([] : List UInt8).toArray⟩]] w fun e w' => ∃ v', e = .returned v' ∧ Ow w' base v' (l ++ pt 0 0 0 []) ∧ Below base w w' := by
 have H := zh (za hown (za hb hl))
 clear hown hb hl
 go_enter Tryz.func73, Tryz.ntmps73
 go_wp2_with fail
 refine (putNumber_x base v l 0 1 0 1 _ rfl rfl (H.out.1.alloc _) (by rw [World.size_alloc]; have := H.out.2.1; omega) (by decide) (by have := H.out.2.2; omega)).mono ?_
 rintro e w1 ⟨v1, rfl, hO, hG⟩
 obtain ⟨c0, c1, c2, c3⟩ := box_gr H.out.1 hG
 have J := zh (za hO hG.alloc)
 clear hO hG
 go_wp2
 go_ret
 exact ⟨_, rfl, J.out.1, J.out.2.below H.out.1 H.out.2.1⟩
theorem put_10 (base : Nat) (v : Value) (l : List UInt8)  (w : World) (hown : Ow w base v l) (hb : base ≤ w.heap.size) (hl : l.length ≤ 900000)  :
  Calls Tryz.prog 73 #[v, .agg #[.int .i64 1, .int .i64 0, .int .u64 0, .string ⟨([] : List UInt8).toArray⟩]] w fun e w' => ∃ v', e = .returned v' ∧ Ow w' base v' (l ++ pt 1 0 0 []) ∧ Below base w w' := by
 have H := zh (za hown (za hb hl))
 clear hown hb hl
 go_enter Tryz.func73, Tryz.ntmps73
 go_wp2_with fail
 refine (putNumber_x base v l 1 1 1 1 _ rfl rfl (H.out.1.alloc _) (by rw [World.size_alloc]; have := H.out.2.1; omega) (by decide) (by have := H.out.2.2; omega)).mono ?_
 rintro e w1 ⟨v1, rfl, hO, hG⟩
 obtain ⟨c0, c1, c2, c3⟩ := box_gr H.out.1 hG
 have J := zh (za hO hG.alloc)
 clear hO hG
 go_wp2_with fail
 refine (putNumber_x base v1 _ 0 1 0 1 _ rfl rfl J.out.1 (Nat.le_trans H.out.2.1 J.out.2.1.size) (by decide) (by have := H.out.2.2; simp [Kc.bn]; omega)).mono ?_
 rintro e w2 ⟨v2, rfl, hO, hG⟩
 have K := zh (za hO (J.out.2.trans hG))
 clear hO hG
 go_wp2
 go_ret
 refine ⟨_, rfl, ?_, K.out.2.below H.out.1 H.out.2.1⟩
 have e := K.out.1
 rw [List.append_assoc] at e
 exact e
theorem put_11 (base : Nat) (v : Value) (l : List UInt8)  (w : World) (hown : Ow w base v l) (hb : base ≤ w.heap.size) (hl : l.length ≤ 900000)  :
  Calls Tryz.prog 73 #[v, .agg #[.int .i64 1, .int .i64 1, .int .u64 0, .string ⟨([] : List UInt8).toArray⟩]] w fun e w' => ∃ v', e = .returned v' ∧ Ow w' base v' (l ++ pt 1 1 0 []) ∧ Below base w w' := by
 have H := zh (za hown (za hb hl))
 clear hown hb hl
 go_enter Tryz.func73, Tryz.ntmps73
 go_wp2_with fail
 refine (putNumber_x base v l 1 1 1 1 _ rfl rfl (H.out.1.alloc _) (by rw [World.size_alloc]; have := H.out.2.1; omega) (by decide) (by have := H.out.2.2; omega)).mono ?_
 rintro e w1 ⟨v1, rfl, hO, hG⟩
 obtain ⟨c0, c1, c2, c3⟩ := box_gr H.out.1 hG
 have J := zh (za hO hG.alloc)
 clear hO hG
 go_wp2_with fail
 refine (putNumber_x base v1 _ 1 1 1 1 _ rfl rfl J.out.1 (Nat.le_trans H.out.2.1 J.out.2.1.size) (by decide) (by have := H.out.2.2; simp [Kc.bn]; omega)).mono ?_
 rintro e w2 ⟨v2, rfl, hO, hG⟩
 have K := zh (za hO (J.out.2.trans hG))
 clear hO hG
 go_wp2
 go_ret
 refine ⟨_, rfl, ?_, K.out.2.below H.out.1 H.out.2.1⟩
 have e := K.out.1
 rw [List.append_assoc] at e
 exact e
theorem put_2 (base : Nat) (v : Value) (l : List UInt8) (n : Int) (w : World) (hown : Ow w base v l) (hb : base ≤ w.heap.size) (hl : l.length ≤ 900000) (hn : -9223372036854775808 ≤ n ∧ n ≤ 9223372036854775807) :
  Calls Tryz.prog 73 #[v, .agg #[.int .i64 2, .int .i64 n, .int .u64 0, .string ⟨([] : List UInt8).toArray⟩]] w fun e w' => ∃ v', e = .returned v' ∧ Ow w' base v' (l ++ pt 2 n 0 []) ∧ Below base w w' := by
 have H := zh (za hown (za hb hl))
 clear hown hb hl
 have HN := zh hn
 clear hn
 go_enter Tryz.func73, Tryz.ntmps73
 go_wp2_with fail
 refine (putNumber_x base v l 2 1 2 1 _ rfl rfl (H.out.1.alloc _) (by rw [World.size_alloc]; have := H.out.2.1; omega) (by decide) (by have := H.out.2.2; omega)).mono ?_
 rintro e w1 ⟨v1, rfl, hO, hG⟩
 obtain ⟨c0, c1, c2, c3⟩ := box_gr H.out.1 hG
 have J := zh (za hO hG.alloc)
 clear hO hG
 go_wp2_with fail
 refine (int_any n _ HN.out.1 HN.out.2).mono ?_
 rintro e w2 ⟨rfl, hb⟩
 have K := zh (za (J.out.1.keep hb) (J.out.2.trans (Gr.of hb)))
 clear hb
 go_wp2_with (at_builtin; refine appS _ rfl _ _ rfl base v1 _ (Pk.un (Pk.zz n)) rfl K.out.1 rfl (by have := H.out.2.2; simp [Kc.bn]; omega) (by have := un_len (Pk.zz n); omega) (Nat.le_trans H.out.2.1 K.out.2.1.size) ?_; intro v3 w3 hO _ hG; have L := zh (za hO (K.out.2.trans hG)); clear hO hG; go_frame)
 go_ret
 refine ⟨_, rfl, ?_, L.out.2.below H.out.1 H.out.2.1⟩
 have e := L.out.1
 rw [List.append_assoc] at e
 exact e
theorem put_3 (base : Nat) (v : Value) (l : List UInt8) (b : Int) (w : World) (hown : Ow w base v l) (hb : base ≤ w.heap.size) (hl : l.length ≤ 900000) (hU : Rl.U b) :
  Calls Tryz.prog 73 #[v, .agg #[.int .i64 3, .int .i64 0, .int .u64 b, .string ⟨([] : List UInt8).toArray⟩]] w fun e w' => ∃ v', e = .returned v' ∧ Ow w' base v' (l ++ pt 3 0 b []) ∧ Below base w w' := by
 have H := zh (za hown (za hb hl))
 clear hown hb hl
 have HN := zh hU
 clear hU
 go_enter Tryz.func73, Tryz.ntmps73
 go_wp2_with fail
 refine (putNumber_x base v l 3 1 3 1 _ rfl rfl (H.out.1.alloc _) (by rw [World.size_alloc]; have := H.out.2.1; omega) (by decide) (by have := H.out.2.2; omega)).mono ?_
 rintro e w1 ⟨v1, rfl, hO, hG⟩
 obtain ⟨c0, c1, c2, c3⟩ := box_gr H.out.1 hG
 have J := zh (za hO hG.alloc)
 clear hO hG
 go_wp2_with fail
 refine (putNumber_x base v1 _ b 8 b.toNat 8 _ (by have := HN.out; unfold Rl.U at this; omega) rfl J.out.1 (Nat.le_trans H.out.2.1 J.out.2.1.size) (by decide) (by have := H.out.2.2; simp [Kc.bn]; omega)).mono ?_
 rintro e w2 ⟨v2, rfl, hO, hG⟩
 have K := zh (za hO (J.out.2.trans hG))
 clear hO hG
 go_wp2
 go_ret
 refine ⟨_, rfl, ?_, K.out.2.below H.out.1 H.out.2.1⟩
 have e := K.out.1
 rw [List.append_assoc] at e
 exact e
theorem put_4 (base : Nat) (v : Value) (l : List UInt8) (s : List UInt8) (w : World) (hown : Ow w base v l) (hb : base ≤ w.heap.size) (hl : l.length ≤ 900000) (hs : s.length ≤ 64) :
  Calls Tryz.prog 73 #[v, .agg #[.int .i64 4, .int .i64 0, .int .u64 0, .string ⟨(s : List UInt8).toArray⟩]] w fun e w' => ∃ v', e = .returned v' ∧ Ow w' base v' (l ++ pt 4 0 0 s) ∧ Below base w w' := by
 have H := zh (za hown (za hb hl))
 clear hown hb hl
 have HN := zh hs
 clear hs
 go_enter Tryz.func73, Tryz.ntmps73
 go_wp2_with fail
 refine (putNumber_x base v l 4 1 4 1 _ rfl rfl (H.out.1.alloc _) (by rw [World.size_alloc]; have := H.out.2.1; omega) (by decide) (by have := H.out.2.2; omega)).mono ?_
 rintro e w1 ⟨v1, rfl, hO, hG⟩
 obtain ⟨c0, c1, c2, c3⟩ := box_gr H.out.1 hG
 have J := zh (za hO hG.alloc)
 clear hO hG
 go_wp2_with fail
 refine (text_any s _ (by have := HN.out; omega)).mono ?_
 rintro e w2 ⟨rfl, hb⟩
 have K := zh (za (J.out.1.keep hb) (J.out.2.trans (Gr.of hb)))
 clear hb
 go_wp2_with (at_builtin; refine appS _ rfl _ _ rfl base v1 _ (Pk.tx s) rfl K.out.1 rfl (by have := H.out.2.2; simp [Kc.bn]; omega) (by have := un_len s.length; have := HN.out; unfold Pk.tx; rw [List.length_append]; omega) (Nat.le_trans H.out.2.1 K.out.2.1.size) ?_; intro v3 w3 hO _ hG; have L := zh (za hO (K.out.2.trans hG)); clear hO hG; go_frame)
 go_ret
 refine ⟨_, rfl, ?_, L.out.2.below H.out.1 H.out.2.1⟩
 have e := L.out.1
 rw [List.append_assoc] at e
 exact e
theorem put_5 (base : Nat) (v : Value) (l : List UInt8) (s : List UInt8) (w : World) (hown : Ow w base v l) (hb : base ≤ w.heap.size) (hl : l.length ≤ 900000) (hs : s.length ≤ 64) :
  Calls Tryz.prog 73 #[v, .agg #[.int .i64 5, .int .i64 0, .int .u64 0, .string ⟨(s : List UInt8).toArray⟩]] w fun e w' => ∃ v', e = .returned v' ∧ Ow w' base v' (l ++ pt 5 0 0 s) ∧ Below base w w' := by
 have H := zh (za hown (za hb hl))
 clear hown hb hl
 have HN := zh hs
 clear hs
 go_enter Tryz.func73, Tryz.ntmps73
 go_wp2_with fail
 refine (putNumber_x base v l 5 1 5 1 _ rfl rfl (H.out.1.alloc _) (by rw [World.size_alloc]; have := H.out.2.1; omega) (by decide) (by have := H.out.2.2; omega)).mono ?_
 rintro e w1 ⟨v1, rfl, hO, hG⟩
 obtain ⟨c0, c1, c2, c3⟩ := box_gr H.out.1 hG
 have J := zh (za hO hG.alloc)
 clear hO hG
 go_wp2_with fail
 refine (text_any s _ (by have := HN.out; omega)).mono ?_
 rintro e w2 ⟨rfl, hb⟩
 have K := zh (za (J.out.1.keep hb) (J.out.2.trans (Gr.of hb)))
 clear hb
 go_wp2_with (at_builtin; refine appS _ rfl _ _ rfl base v1 _ (Pk.tx s) rfl K.out.1 rfl (by have := H.out.2.2; simp [Kc.bn]; omega) (by have := un_len s.length; have := HN.out; unfold Pk.tx; rw [List.length_append]; omega) (Nat.le_trans H.out.2.1 K.out.2.1.size) ?_; intro v3 w3 hO _ hG; have L := zh (za hO (K.out.2.trans hG)); clear hO hG; go_frame)
 go_ret
 refine ⟨_, rfl, ?_, L.out.2.below H.out.1 H.out.2.1⟩
 have e := L.out.1
 rw [List.append_assoc] at e
 exact e
theorem ck_ways {k n b : Int} {s : List UInt8} (h : Vl.ck k n b s = 0) :
  (k = 0 ∧ n = 0 ∧ b = 0 ∧ s = []) ∨ (k = 1 ∧ n = 0 ∧ b = 0 ∧ s = []) ∨ (k = 1 ∧ n = 1 ∧ b = 0 ∧ s = []) ∨ (k = 2 ∧ b = 0 ∧ s = []) ∨ (k = 3 ∧ n = 0 ∧ s = []) ∨ (k = 4 ∧ n = 0 ∧ b = 0 ∧ s.length ≤ 64) ∨ (k = 5 ∧ n = 0 ∧ b = 0 ∧ s.length ≤ 64) := by
 obtain ⟨k0, k5, hkn, hkb, hks, hk1, hcn, hl⟩ := Vl.ck_ok h
 have s0 : k < 4 → s = [] := by
  intro g
  by_cases e : s = []
  ·exact e
  ·have := hks e; omega
 have c : k = 0 ∨ k = 1 ∨ k = 2 ∨ k = 3 ∨ k = 4 ∨ k = 5 := by omega
 rcases c with e | e | e | e | e | e
 ·exact .inl ⟨e, by omega, by omega, s0 (by omega)⟩
 ·rcases hk1 e with g | g
  ·exact .inr (.inl ⟨e, g, by omega, s0 (by omega)⟩)
  ·exact .inr (.inr (.inl ⟨e, g, by omega, s0 (by omega)⟩))
 ·exact .inr (.inr (.inr (.inl ⟨e, by omega, s0 (by omega)⟩)))
 ·exact .inr (.inr (.inr (.inr (.inl ⟨e, by omega, s0 (by omega)⟩))))
 ·exact .inr (.inr (.inr (.inr (.inr (.inl ⟨e, by omega, by omega, hl⟩)))))
 ·exact .inr (.inr (.inr (.inr (.inr (.inr ⟨e, by omega, by omega, hl⟩)))))
theorem put_is (base : Nat) (v : Value) (l : List UInt8) (k n b : Int) (s : List UInt8) (w : World) (hown : Ow w base v l) (hb : base ≤ w.heap.size) (hl : l.length ≤ 900000) (h : Vl.ck k n b s = 0) (hU : Rl.U b) (hn : -9223372036854775808 ≤ n ∧ n < 9223372036854775808) :
  Calls Tryz.prog 73 #[v, .agg #[.int .i64 k, .int .i64 n, .int .u64 b, .string ⟨(s : List UInt8).toArray⟩]] w fun e w' => ∃ v', e = .returned v' ∧ Ow w' base v' (l ++ pt k n b s) ∧ Below base w w' := by
 rcases ck_ways h with ⟨rfl, rfl, rfl, rfl⟩ | ⟨rfl, rfl, rfl, rfl⟩ | ⟨rfl, rfl, rfl, rfl⟩ | ⟨rfl, rfl, rfl⟩ | ⟨rfl, rfl, rfl⟩ | ⟨rfl, rfl, rfl, hs⟩ | ⟨rfl, rfl, rfl, hs⟩
 ·exact put_0 base v l w hown hb hl
 ·exact put_10 base v l w hown hb hl
 ·exact put_11 base v l w hown hb hl
 ·exact put_2 base v l n w hown hb hl (by omega)
 ·exact put_3 base v l b w hown hb hl hU
 ·exact put_4 base v l s w hown hb hl hs
 ·exact put_5 base v l s w hown hb hl hs
theorem rput_long (xs : List V) (ao : Option Addr) (cap : Nat) (w : World) (hl : 8 < xs.length) :
  Calls Tryz.prog 48 #[.slice ao xs.length cap] w fun e w' => e = .returned (.tuple #[.string ⟨(pw xs).toArray⟩, .int .i64 (pe xs)]) ∧ Below w.heap.size w w' := by
 have h1 : (8 : Int) < (xs.length : Int) := by omega
 have HR := zh (za (pe_long hl) (pw_bad (by rw [pe_long hl]; decide)))
 clear hl
 go_enter Tryz.func48, Tryz.ntmps48
 go_wp2
 go_ret2
 exact ⟨ret_si (a := []) HR.out.2.symm HR.out.1.symm, Below.refl _ _⟩
theorem rput_short (xs : List V) (ao : Option Addr) (cap : Nat) (w : World) (h : Sl w ao xs) (hl : xs.length ≤ 8) (ho : ∀ x ∈ xs, x.ok) :
  Calls Tryz.prog 48 #[.slice ao xs.length cap] w fun e w' => e = .returned (.tuple #[.string ⟨(pw xs).toArray⟩, .int .i64 (pe xs)]) ∧ Below w.heap.size w w' := by
 have h1 : decide ((8 : Int) < (xs.length : Int)) = false := by rw [decide_eq_false_iff_not]; omega
 have hu : IntKind.u64.wrap (xs.length : Int) = (xs.length : Int) := wrap_u64 _ (by omega) (by omega)
 have H := zh (za h (za hl (za ho (pe_short (xs := xs) (by omega)))))
 clear h hl ho
 go_enter Tryz.func48, Tryz.ntmps48
 go_wp2_with fail
 refine (uint_is (xs.length : Int) (Pk.un xs.length) _ (by omega) (by have := H.out.2.1; omega) (by rw [Int.toNat_natCast])).mono ?_
 rintro e w1 ⟨rfl, hb⟩
 obtain ⟨v2, w2, cv, hO, hb2⟩ := conv_to (Pk.un xs.length) w1 (by have := un_len xs.length; omega)
 have S := zh (za (step0 hb hb2) (hO.base hb.size))
 clear hb hO hb2
 go_wp2
 go_loopw [4, 18] (fun o i wr => ∃ j : Nat, i = .int .i64 j ∧ j ≤ xs.length ∧ Below w.heap.size w wr ∧ Ow wr w.heap.size o (Pk.un xs.length ++ rb (xs.take j)) ∧ re (xs.take j) = 0) (fun _ i _ => xs.length - (intOf i).toNat)
 case atStart => exact ⟨0, rfl, Nat.zero_le _, S.out.1, by rw [show rb (xs.take 0) = [] from rfl, List.append_nil]; exact S.out.2, rfl⟩
 case round =>
  obtain ⟨j, rfl, hj, hb, hO, hre⟩ := hrel
  have J := zh (za hb (za hO hre))
  clear hb hO hre cv
  by_cases hlt : j < xs.length
  ·obtain ⟨a, rfl, h0, h1, h2, h3⟩ := H.out.1.below J.out.1 j xs[j] (List.getElem?_eq_getElem hlt)
   have hw : wrap64 ((j : Int) + 1) = (j : Int) + 1 := by have := H.out.2.1; exact wrap_in _ (by omega) (by omega)
   have hok := zh (H.out.2.2.1 _ (List.getElem_mem hlt))
   by_cases hc : xs[j].ck = 0
   ·have HC := zh hc
    clear hc
    go_wp2_with fail
    refine (check_is _ _ _ 0 _ _ hok.out.1 HC.out).mono ?_
    rintro e w3 ⟨rfl, hb⟩
    obtain ⟨_, c0, c1, c2, c3⟩ := boxes_1 hb
    have B1 := zh (old_1 hb)
    clear hb
    go_wp2_with fail
    refine (put_is w.heap.size _ (Pk.un xs.length ++ rb (xs.take j)) _ _ _ _ _ (J.out.2.1.keep B1.out) (Nat.le_trans J.out.1.size B1.out.size) ?len HC.out hok.out.1 hok.out.2).mono ?_
    case len =>
     have h5 := rb_len (re_fine J.out.2.2)
     rw [List.length_take] at h5
     have := un_len xs.length
     have := H.out.2.1
     rw [List.length_append]
     omega
    rintro e w4 ⟨v4, rfl, hO2, hb2⟩
    have K := zh (za hO2 ((step0 J.out.1 B1.out).trans hb2))
    clear hO2 hb2
    go_wp2
    go_roundw
    case rel => exact ⟨j + 1, by go_num, hlt, K.out.2, by rw [take_next xs j hlt, rb_snoc, ← List.append_assoc]; exact K.out.1, re_next xs j hlt J.out.2.2 HC.out⟩
    case measure => rw [hw]; simp [intOf]; omega
   ·have HC := zh hc
    have r1 := bne_t hc
    have r2 := beq_f hc
    have HR := zh (re_stop xs j hlt J.out.2.2 hc)
    go_wp2_with fail
    refine (check_is _ _ _ xs[j].ck _ _ hok.out.1 rfl).mono ?_
    rintro e w3 ⟨rfl, hb⟩
    have B1 := zh (step1 J.out.1 hb)
    clear hb
    go_wp2
    go_ret2
    exact ⟨ret_si (a := []) (pw_bad (by rw [H.out.2.2.2, HR.out]; exact HC.out)).symm (by rw [H.out.2.2.2, HR.out]), B1.out⟩
  ·obtain rfl : j = xs.length := by omega
   have hO := J.out.2.1
   have hr := J.out.2.2
   rw [List.take_length] at hO hr
   have cv := conv_own _ hO
   have K := zh (za (pw_ok (H.out.2.2.2.trans hr)) (H.out.2.2.2.trans hr))
   clear hO hr
   go_wp2
   go_ret2
   exact ⟨ret_si K.out.1.symm K.out.2.symm, J.out.1⟩
theorem rput_is (xs : List V) (ao : Option Addr) (cap : Nat) (w : World) (h : Sl w ao xs) (ho : ∀ x ∈ xs, x.ok) :
  Calls Tryz.prog 48 #[.slice ao xs.length cap] w fun e w' => e = .returned (.tuple #[.string ⟨(pw xs).toArray⟩, .int .i64 (pe xs)]) ∧ Below w.heap.size w w' := by
 by_cases hl : 8 < xs.length
 ·exact rput_long xs ao cap w hl
 ·exact rput_short xs ao cap w h (by omega) ho
end Go.Proofs.YtmgdciihpjifgaaGreatDoor.Rk
namespace Go.Proofs.YtmgdciihpjifgaaGreatDoor.Rk
open Go.RowKit
theorem ow_new (W : World) (c : UInt8) : Ow (W.alloc (.cells #[.int .u8 (c.toNat : Int)] 5)) W.heap.size (.slice (some ⟨W.heap.size, 0, none⟩) 1 1) [c] :=
 .inr ⟨W.heap.size, 1, #[.int .u8 (c.toNat : Int)], (0, 0), rfl, Nat.le_refl _, Go.heap_alloc_new W _, clear0 _, Nat.le_refl _, by decide, rfl, rfl⟩
theorem conv1 (W : World) (c : UInt8) (x : Int) (h : x = (c.toNat : Int)) : (convert 102 9 (.slice (some ⟨W.heap.size, 0, none⟩) 1 1)).run Tryz.prog (W.alloc (.cells #[.int .u8 x] 5)) = .ok (.string ⟨[c].toArray⟩) (W.alloc (.cells #[.int .u8 x] 5)) := by
 subst h; exact conv_own _ (ow_new W c)
theorem two_allocs {w w' : World} {o o' : Obj} (h : Below ((w.alloc o).alloc o').heap.size ((w.alloc o).alloc o') w') : Below w.heap.size w w' := old_2 h
theorem one_0  (w : World)  :
  Calls Tryz.prog 75 #[.agg #[.int .i64 0, .int .i64 0, .int .u64 0, .string ⟨([] : List UInt8).toArray⟩]] w fun e w' => e = .returned (.string ⟨(pt 0 0 0 []).toArray⟩) ∧ Below w.heap.size w w' := by
 have cb := conv1 (w.alloc (Obj.cells #[.int .i64 0, .int .i64 0, .int .u64 0, .string ⟨([] : List UInt8).toArray⟩] 25)) (UInt8.ofNat (0 : Int).toNat) 0 rfl
 rw [World.size_alloc] at cb
 go_enter Tryz.func75, Tryz.ntmps75
 go_wp2
 go_ret
 exact ⟨rfl, below2s _ _ _⟩
theorem one_10  (w : World)  :
  Calls Tryz.prog 75 #[.agg #[.int .i64 1, .int .i64 0, .int .u64 0, .string ⟨([] : List UInt8).toArray⟩]] w fun e w' => e = .returned (.string ⟨(pt 1 0 0 []).toArray⟩) ∧ Below w.heap.size w w' := by
 have cb := conv1 (w.alloc (Obj.cells #[.int .i64 1, .int .i64 0, .int .u64 0, .string ⟨([] : List UInt8).toArray⟩] 25)) (UInt8.ofNat (1 : Int).toNat) 1 rfl
 rw [World.size_alloc] at cb
 go_enter Tryz.func75, Tryz.ntmps75
 have cc := conv1 ((w.alloc (Obj.cells #[.int .i64 1, .int .i64 0, .int .u64 0, .string ⟨([] : List UInt8).toArray⟩] 25)).alloc (.cells #[.int .u8 1] 5)) (UInt8.ofNat (0 : Int).toNat) 0 rfl
 rw [World.size_alloc, World.size_alloc] at cc
 go_wp2
 go_ret
 exact ⟨rfl, ((below2s _ _ _).alloc (below2s _ _ _).size _)⟩
theorem one_11  (w : World)  :
  Calls Tryz.prog 75 #[.agg #[.int .i64 1, .int .i64 1, .int .u64 0, .string ⟨([] : List UInt8).toArray⟩]] w fun e w' => e = .returned (.string ⟨(pt 1 1 0 []).toArray⟩) ∧ Below w.heap.size w w' := by
 have cb := conv1 (w.alloc (Obj.cells #[.int .i64 1, .int .i64 1, .int .u64 0, .string ⟨([] : List UInt8).toArray⟩] 25)) (UInt8.ofNat (1 : Int).toNat) 1 rfl
 rw [World.size_alloc] at cb
 go_enter Tryz.func75, Tryz.ntmps75
 have cc := conv1 ((w.alloc (Obj.cells #[.int .i64 1, .int .i64 1, .int .u64 0, .string ⟨([] : List UInt8).toArray⟩] 25)).alloc (.cells #[.int .u8 1] 5)) (UInt8.ofNat (1 : Int).toNat) 1 rfl
 rw [World.size_alloc, World.size_alloc] at cc
 go_wp2
 go_ret
 exact ⟨rfl, ((below2s _ _ _).alloc (below2s _ _ _).size _)⟩
theorem one_2 (n : Int) (w : World) (hn : -9223372036854775808 ≤ n ∧ n ≤ 9223372036854775807) :
  Calls Tryz.prog 75 #[.agg #[.int .i64 2, .int .i64 n, .int .u64 0, .string ⟨([] : List UInt8).toArray⟩]] w fun e w' => e = .returned (.string ⟨(pt 2 n 0 []).toArray⟩) ∧ Below w.heap.size w w' := by
 have HN := zh hn
 clear hn
 have cb := conv1 (w.alloc (Obj.cells #[.int .i64 2, .int .i64 n, .int .u64 0, .string ⟨([] : List UInt8).toArray⟩] 25)) (UInt8.ofNat (2 : Int).toNat) 2 rfl
 rw [World.size_alloc] at cb
 go_enter Tryz.func75, Tryz.ntmps75
 go_wp2_with fail
 refine (rint_any n _ HN.out.1 HN.out.2).mono ?_
 rintro e w2 ⟨rfl, hb⟩
 have B9 := zh (two_allocs hb)
 clear hb
 have hR : (Pk.un (Pk.zz n)).length ≤ 200 := by have := un_len (Pk.zz n); omega
 have cat := cat_list [UInt8.ofNat (2 : Int).toNat] (Pk.un (Pk.zz n))
 obtain ⟨R, hRe⟩ : ∃ R, Pk.un (Pk.zz n) = R := ⟨_, rfl⟩
 rw [hRe] at hR cat ⊢
 have hd : (9223372036854775807 < 1 + R.length) = False := by rw [eq_iff_iff, iff_false]; omega
 have HR := zh hRe
 clear hR hRe
 go_wp2
 go_ret
 exact ⟨by show Ending.returned (.string (ByteArray.mk [UInt8.ofNat (2 : Int).toNat].toArray ++ ⟨R.toArray⟩)) = _; rw [cat, ← HR.out]; rfl, B9.out⟩
theorem one_3 (b : Int) (w : World) (hU : Rl.U b) :
  Calls Tryz.prog 75 #[.agg #[.int .i64 3, .int .i64 0, .int .u64 b, .string ⟨([] : List UInt8).toArray⟩]] w fun e w' => e = .returned (.string ⟨(pt 3 0 b []).toArray⟩) ∧ Below w.heap.size w w' := by
 have HN := zh hU
 clear hU
 have cb := conv1 (w.alloc (Obj.cells #[.int .i64 3, .int .i64 0, .int .u64 b, .string ⟨([] : List UInt8).toArray⟩] 25)) (UInt8.ofNat (3 : Int).toNat) 3 rfl
 rw [World.size_alloc] at cb
 go_enter Tryz.func75, Tryz.ntmps75
 go_wp2_with fail
 refine (eight_x b b.toNat _ (by have := HN.out; unfold Rl.U at this; omega)).mono ?_
 rintro e w2 ⟨rfl, hb⟩
 have B9 := zh (two_allocs hb)
 clear hb
 have hR : (Kc.bn 8 b.toNat).length ≤ 200 := by rw [Kc.bn_len]; decide
 have cat := cat_list [UInt8.ofNat (3 : Int).toNat] (Kc.bn 8 b.toNat)
 obtain ⟨R, hRe⟩ : ∃ R, Kc.bn 8 b.toNat = R := ⟨_, rfl⟩
 rw [hRe] at hR cat ⊢
 have hd : (9223372036854775807 < 1 + R.length) = False := by rw [eq_iff_iff, iff_false]; omega
 have HR := zh hRe
 clear hR hRe
 go_wp2
 go_ret
 exact ⟨by show Ending.returned (.string (ByteArray.mk [UInt8.ofNat (3 : Int).toNat].toArray ++ ⟨R.toArray⟩)) = _; rw [cat, ← HR.out]; rfl, B9.out⟩
theorem one_4 (s : List UInt8) (w : World) (hs : s.length ≤ 64) :
  Calls Tryz.prog 75 #[.agg #[.int .i64 4, .int .i64 0, .int .u64 0, .string ⟨(s : List UInt8).toArray⟩]] w fun e w' => e = .returned (.string ⟨(pt 4 0 0 s).toArray⟩) ∧ Below w.heap.size w w' := by
 have HN := zh hs
 clear hs
 have cb := conv1 (w.alloc (Obj.cells #[.int .i64 4, .int .i64 0, .int .u64 0, .string ⟨(s : List UInt8).toArray⟩] 25)) (UInt8.ofNat (4 : Int).toNat) 4 rfl
 rw [World.size_alloc] at cb
 go_enter Tryz.func75, Tryz.ntmps75
 go_wp2_with fail
 refine (rtext_any s _ (by have := HN.out; omega)).mono ?_
 rintro e w2 ⟨rfl, hb⟩
 have B9 := zh (two_allocs hb)
 clear hb
 have hR : (Pk.tx s).length ≤ 200 := by have := un_len s.length; have := HN.out; unfold Pk.tx; rw [List.length_append]; omega
 have cat := cat_list [UInt8.ofNat (4 : Int).toNat] (Pk.tx s)
 obtain ⟨R, hRe⟩ : ∃ R, Pk.tx s = R := ⟨_, rfl⟩
 rw [hRe] at hR cat ⊢
 have hd : (9223372036854775807 < 1 + R.length) = False := by rw [eq_iff_iff, iff_false]; omega
 have HR := zh hRe
 clear hR hRe
 go_wp2
 go_ret
 exact ⟨by show Ending.returned (.string (ByteArray.mk [UInt8.ofNat (4 : Int).toNat].toArray ++ ⟨R.toArray⟩)) = _; rw [cat, ← HR.out]; rfl, B9.out⟩
theorem one_5 (s : List UInt8) (w : World) (hs : s.length ≤ 64) :
  Calls Tryz.prog 75 #[.agg #[.int .i64 5, .int .i64 0, .int .u64 0, .string ⟨(s : List UInt8).toArray⟩]] w fun e w' => e = .returned (.string ⟨(pt 5 0 0 s).toArray⟩) ∧ Below w.heap.size w w' := by
 have HN := zh hs
 clear hs
 have cb := conv1 (w.alloc (Obj.cells #[.int .i64 5, .int .i64 0, .int .u64 0, .string ⟨(s : List UInt8).toArray⟩] 25)) (UInt8.ofNat (5 : Int).toNat) 5 rfl
 rw [World.size_alloc] at cb
 go_enter Tryz.func75, Tryz.ntmps75
 go_wp2_with fail
 refine (rtext_any s _ (by have := HN.out; omega)).mono ?_
 rintro e w2 ⟨rfl, hb⟩
 have B9 := zh (two_allocs hb)
 clear hb
 have hR : (Pk.tx s).length ≤ 200 := by have := un_len s.length; have := HN.out; unfold Pk.tx; rw [List.length_append]; omega
 have cat := cat_list [UInt8.ofNat (5 : Int).toNat] (Pk.tx s)
 obtain ⟨R, hRe⟩ : ∃ R, Pk.tx s = R := ⟨_, rfl⟩
 rw [hRe] at hR cat ⊢
 have hd : (9223372036854775807 < 1 + R.length) = False := by rw [eq_iff_iff, iff_false]; omega
 have HR := zh hRe
 clear hR hRe
 go_wp2
 go_ret
 exact ⟨by show Ending.returned (.string (ByteArray.mk [UInt8.ofNat (5 : Int).toNat].toArray ++ ⟨R.toArray⟩)) = _; rw [cat, ← HR.out]; rfl, B9.out⟩
theorem one_is (k n b : Int) (s : List UInt8) (w : World) (h : Vl.ck k n b s = 0) (hU : Rl.U b) (hn : -9223372036854775808 ≤ n ∧ n < 9223372036854775808) :
  Calls Tryz.prog 75 #[.agg #[.int .i64 k, .int .i64 n, .int .u64 b, .string ⟨(s : List UInt8).toArray⟩]] w fun e w' => e = .returned (.string ⟨(pt k n b s).toArray⟩) ∧ Below w.heap.size w w' := by
 rcases ck_ways h with ⟨rfl, rfl, rfl, rfl⟩ | ⟨rfl, rfl, rfl, rfl⟩ | ⟨rfl, rfl, rfl, rfl⟩ | ⟨rfl, rfl, rfl⟩ | ⟨rfl, rfl, rfl⟩ | ⟨rfl, rfl, rfl, hs⟩ | ⟨rfl, rfl, rfl, hs⟩
 ·exact one_0 w
 ·exact one_10 w
 ·exact one_11 w
 ·exact one_2 n w (by omega)
 ·exact one_3 b w hU
 ·exact one_4 s w hs
 ·exact one_5 s w hs
theorem dput_long (xs : List V) (ao : Option Addr) (cap : Nat) (w : World) (hl : 8 < xs.length) :
  Calls Tryz.prog 49 #[.slice ao xs.length cap] w fun e w' => e = .returned (.tuple #[.string ⟨(pw xs).toArray⟩, .int .i64 (pe xs)]) ∧ Below w.heap.size w w' := by
 have h1 : (8 : Int) < (xs.length : Int) := by omega
 have HR := zh (za (pe_long hl) (pw_bad (by rw [pe_long hl]; decide)))
 clear hl
 go_enter Tryz.func49, Tryz.ntmps49
 go_wp2
 go_ret2
 exact ⟨ret_si (a := []) HR.out.2.symm HR.out.1.symm, Below.refl _ _⟩
theorem dput_short (xs : List V) (ao : Option Addr) (cap : Nat) (w : World) (h : Sl w ao xs) (hl : xs.length ≤ 8) (ho : ∀ x ∈ xs, x.ok) :
  Calls Tryz.prog 49 #[.slice ao xs.length cap] w fun e w' => e = .returned (.tuple #[.string ⟨(pw xs).toArray⟩, .int .i64 (pe xs)]) ∧ Below w.heap.size w w' := by
 have h1 : decide ((8 : Int) < (xs.length : Int)) = false := by rw [decide_eq_false_iff_not]; omega
 have hu : IntKind.u64.wrap (xs.length : Int) = (xs.length : Int) := wrap_u64 _ (by omega) (by omega)
 have H := zh (za h (za hl (za ho (pe_short (xs := xs) (by omega)))))
 clear h hl ho
 go_enter Tryz.func49, Tryz.ntmps49
 go_wp2_with fail
 refine (ruint_is (xs.length : Int) (Pk.un xs.length) _ (by omega) (by have := H.out.2.1; omega) (by rw [Int.toNat_natCast])).mono ?_
 rintro e w1 ⟨rfl, hb⟩
 have S := zh hb
 clear hb
 go_wp2
 go_loopw [4, 5] (fun o i wr => ∃ (j : Nat) (R : List UInt8), i = .int .i64 j ∧ o = .string ⟨R.toArray⟩ ∧ j ≤ xs.length ∧ Below w.heap.size w wr ∧ R = Pk.un xs.length ++ rb (xs.take j) ∧ re (xs.take j) = 0) (fun _ i _ => xs.length - (intOf i).toNat)
 case atStart => exact ⟨0, Pk.un xs.length, rfl, rfl, Nat.zero_le _, S.out, by rw [show rb (xs.take 0) = [] from rfl, List.append_nil], rfl⟩
 case round =>
  obtain ⟨j, R, rfl, rfl, hj, hb, hR, hre⟩ := hrel
  have J := zh (za hb (za hR hre))
  clear hb hR hre
  by_cases hlt : j < xs.length
  ·obtain ⟨a, rfl, h0, h1, h2, h3⟩ := H.out.1.below J.out.1 j xs[j] (List.getElem?_eq_getElem hlt)
   have hw : wrap64 ((j : Int) + 1) = (j : Int) + 1 := by have := H.out.2.1; exact wrap_in _ (by omega) (by omega)
   have hok := zh (H.out.2.2.1 _ (List.getElem_mem hlt))
   by_cases hc : xs[j].ck = 0
   ·have HC := zh hc
    have h5 := rb_len (re_fine J.out.2.2)
    have h6 := pt_len (k := xs[j].k) (n := xs[j].n) (b := xs[j].b) (Vl.ck_ok hc).2.2.2.2.2.2.2
    rw [List.length_take] at h5
    have h7 := H.out.2.1
    have h8 := un_len xs.length
    have h9 : R.length = (Pk.un xs.length).length + (rb (xs.take j)).length := by rw [J.out.2.1, List.length_append]
    obtain ⟨T, hT⟩ : ∃ T, pt xs[j].k xs[j].n xs[j].b xs[j].s = T := ⟨_, rfl⟩
    have h6' : T.length ≤ 75 := by rw [← hT]; exact h6
    have hd : (9223372036854775807 < R.length + T.length) = False := by rw [eq_iff_iff, iff_false]; omega
    have cat := cat_list R T
    have HT := zh hT
    clear hc h5 h6 h7 hT h6' h8 h9
    go_wp2_with fail
    refine (rcheck_is _ _ _ 0 _ _ hok.out.1 HC.out).mono ?_
    rintro e w3 ⟨rfl, hb⟩
    have B0 := zh hb
    have c0 := keep0 h0 hb
    have c1 := keep0 h1 hb
    have c2 := keep0 h2 hb
    have c3 := keep0 h3 hb
    clear hb h0 h1 h2 h3
    go_wp2_with fail
    refine (one_is _ _ _ _ _ HC.out hok.out.1 hok.out.2).mono ?_
    rintro e w4 ⟨rfl, hb⟩
    have B1 := zh (step0 (step0 J.out.1 B0.out) hb)
    clear hb
    rw [HT.out]
    go_wp2
    go_roundw
    case rel => exact ⟨j + 1, R ++ T, by go_num, rfl, hlt, B1.out, by rw [take_next xs j hlt, rb_snoc, J.out.2.1, ← HT.out, List.append_assoc]; rfl, re_next xs j hlt J.out.2.2 HC.out⟩
    case measure => rw [hw]; simp [intOf]; omega
   ·have HC := zh hc
    have r1 := bne_t hc
    have r2 := beq_f hc
    have HR := zh (re_stop xs j hlt J.out.2.2 hc)
    go_wp2_with fail
    refine (rcheck_is _ _ _ xs[j].ck _ _ hok.out.1 rfl).mono ?_
    rintro e w3 ⟨rfl, hb⟩
    have B1 := zh (step0 J.out.1 hb)
    clear hb
    go_wp2
    go_ret2
    exact ⟨ret_si (a := []) (pw_bad (by rw [H.out.2.2.2, HR.out]; exact HC.out)).symm (by rw [H.out.2.2.2, HR.out]), B1.out⟩
  ·obtain rfl : j = xs.length := by omega
   have hO := J.out.2.1
   have hr := J.out.2.2
   rw [List.take_length] at hO hr
   have K := zh (za (hO.trans (pw_ok (H.out.2.2.2.trans hr)).symm) (H.out.2.2.2.trans hr))
   clear hO hr
   go_wp2
   go_ret2
   exact ⟨ret_si K.out.1 K.out.2.symm, J.out.1⟩
theorem dput_is (xs : List V) (ao : Option Addr) (cap : Nat) (w : World) (h : Sl w ao xs) (ho : ∀ x ∈ xs, x.ok) :
  Calls Tryz.prog 49 #[.slice ao xs.length cap] w fun e w' => e = .returned (.tuple #[.string ⟨(pw xs).toArray⟩, .int .i64 (pe xs)]) ∧ Below w.heap.size w w' := by
 by_cases hl : 8 < xs.length
 ·exact dput_long xs ao cap w hl
 ·exact dput_short xs ao cap w h (by omega) ho
end Go.Proofs.YtmgdciihpjifgaaGreatDoor.Rk
