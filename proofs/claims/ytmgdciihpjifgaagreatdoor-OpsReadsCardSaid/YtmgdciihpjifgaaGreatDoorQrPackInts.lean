/-
 The plain mathematics of package pack: a number's digits of base 128, what bytes begin with, and that the one undoes the other. Conditions: the bounds named in each theorem.
 What Uint answers, for every number of 64 bits: its digits of base 128. No further condition.
 What ReadUint answers, for every text. Condition: the text is no longer than any can be.
 What package pack's Int, Text, ReadInt and ReadText answer, for every argument. Conditions: the bounds named in each theorem.
-/
import Derived.Test.YtmgdciihpjifgaaGreatDoorRows
import Derived.WalkKit
import Derived.WalkSpells
import Derived.WalkLawsBesides
import Derived.Lib.Hide
import Derived.LoopN
import Derived.Laws.IdiomStrings
import Derived.WalkMore
import Derived.ScopeJumps
import Derived.Laws.BitsAllLaws
import Derived.BigQuiet
import Derived.Deep.QuietTactic
set_option maxHeartbeats 4000000
namespace Go.Proofs.YtmgdciihpjifgaaGreatDoor.Pk
def ub : Nat → Nat → List UInt8
 | 0, n => [UInt8.ofNat n]
 | f + 1, n => if n < 128 then [UInt8.ofNat n] else UInt8.ofNat (n % 128 + 128) :: ub f (n / 128)
def un (n : Nat) : List UInt8 := ub 9 n
def rd : List UInt8 → Nat → Nat → Nat × List UInt8 × Int
 | [], _, _ => (0, [], 3)
 | b :: t, k, n =>
  if k = 9 ∧ 1 < b.toNat then (0, [], 4)
  else if 128 ≤ b.toNat then rd t (k + 1) (n + b.toNat % 128 * 128 ^ k)
  else if b.toNat = 0 ∧ 0 < k then (0, [], 4)
  else (n + b.toNat * 128 ^ k, t, 0)
theorem ub_low (f n : Nat) (h : n < 128) : ub f n = [UInt8.ofNat n] := by
 cases f with
 | zero => rfl
 | succ f => rw [ub, if_pos h]
theorem ub_high (f n : Nat) (h : 128 ≤ n) : ub (f + 1) n = UInt8.ofNat (n % 128 + 128) :: ub f (n / 128) := by
 rw [ub, if_neg (by omega)]
theorem ub_len : ∀ (f n : Nat), 1 ≤ (ub f n).length ∧ (ub f n).length ≤ f + 1
 | 0, n => by simp [ub]
 | f + 1, n => by
  rw [ub]
  split
  ·simp
  ·have := ub_len f (n / 128)
   simp only [List.length_cons]; omega
theorem of_toNat (n : Nat) (h : n < 256) : (UInt8.ofNat n).toNat = n := by rw [UInt8.toNat_ofNat']; omega
theorem room (k : Nat) (h : k + 1 ≤ 9) : 2 ^ (64 - 7 * k) = 128 * 2 ^ (64 - 7 * (k + 1)) := by
 rw [show 64 - 7 * k = (64 - 7 * (k + 1)) + 7 from by omega, Nat.pow_add]; omega
theorem room9 : 2 ^ (64 - 7 * 9) = 2 := by decide
theorem rd_back : ∀ (l : List UInt8) (k n N : Nat) (r : List UInt8), k ≤ 9 → rd l k n = (N, r, 0) → ∃ m, N = n + m * 128 ^ k ∧ m < 2 ^ (64 - 7 * k) ∧ (0 < k → 0 < m) ∧ ub (9 - k) m ++ r = l
 | [], k, n, N, r, hk, h => by simp [rd] at h
 | b :: t, k, n, N, r, hk, h => by
  have hb := b.toNat_lt
  rw [rd] at h
  split at h
  ·simp at h
  ·rename_i h9
   split at h
   ·rename_i h128
    have hk8 : k + 1 ≤ 9 := by omega
    obtain ⟨m, e1, e2, e3, e4⟩ := rd_back t (k + 1) _ N r hk8 h
    refine ⟨b.toNat % 128 + m * 128, ?_, ?_, fun _ => by have := e3 (by omega); omega, ?_⟩
    ·have h5 : m * 128 ^ (k + 1) = m * 128 * 128 ^ k := by rw [Nat.pow_succ, Nat.mul_comm (128 ^ k) 128, ← Nat.mul_assoc]
     rw [e1, h5, Nat.add_mul, Nat.add_assoc]
    ·rw [room k hk8]
     generalize 2 ^ (64 - 7 * (k + 1)) = B at *
     omega
    ·have := e3 (by omega)
     rw [show 9 - k = (9 - (k + 1)) + 1 from by omega, ub_high _ _ (by omega)]
     rw [show (b.toNat % 128 + m * 128) / 128 = m from by omega, show (b.toNat % 128 + m * 128) % 128 + 128 = b.toNat from by omega]
     rw [UInt8.ofNat_toNat, List.cons_append, e4]
   ·rename_i h128
    split at h
    ·simp at h
    ·rename_i hz
     simp only [Prod.mk.injEq] at h
     obtain ⟨rfl, rfl, _⟩ := h
     refine ⟨b.toNat, rfl, ?_, fun h0 => by omega, ?_⟩
     ·by_cases hk9 : k = 9
      ·subst hk9; rw [room9]; omega
      ·have : 2 ^ 7 ≤ 2 ^ (64 - 7 * k) := Nat.pow_le_pow_right (by decide) (by omega)
       omega
     ·rw [ub_low _ _ (by omega), UInt8.ofNat_toNat]; rfl
theorem rd_ok (l : List UInt8) (N : Nat) (r : List UInt8) (h : rd l 0 0 = (N, r, 0)) : (N : Int) < 18446744073709551616 ∧ un N ++ r = l := by
 obtain ⟨m, e1, e2, _, e4⟩ := rd_back l 0 0 N r (by omega) h
 have e : N = m := by rw [e1]; simp
 have e2' : m < 18446744073709551616 := e2
 subst e
 exact ⟨by omega, e4⟩
theorem rd_err : ∀ (l : List UInt8) (k n : Nat), (rd l k n).2.2 = 0 ∨ rd l k n = (0, [], 3) ∨ rd l k n = (0, [], 4)
 | [], _, _ => by simp [rd]
 | b :: t, k, n => by
  rw [rd]
  split
  ·simp
  ·split
   ·exact rd_err t _ _
   ·split <;> simp
theorem rd_cases (l : List UInt8) : (∃ (N : Nat) (r : List UInt8), rd l 0 0 = (N, r, 0) ∧ (N : Int) < 18446744073709551616 ∧ un N ++ r = l) ∨ (∃ e : Int, rd l 0 0 = (0, [], e) ∧ (e = 3 ∨ e = 4)) := by
 rcases rd_err l 0 0 with h | h | h
 ·have e : rd l 0 0 = ((rd l 0 0).1, (rd l 0 0).2.1, 0) := by rw [← h]
  exact .inl ⟨_, _, e, rd_ok l _ _ e⟩
 ·exact .inr ⟨3, h, .inl rfl⟩
 ·exact .inr ⟨4, h, .inr rfl⟩
theorem drop_at (l : List UInt8) (k : Nat) (h : k < l.length) : l.drop k = l[k] :: l.drop (k + 1) := List.drop_eq_getElem_cons h
theorem rd_short (l : List UInt8) (k n : Nat) (h : l.length ≤ k) : rd (l.drop k) k n = (0, [], 3) := by
 rw [List.drop_eq_nil_of_le h]; rfl
theorem rd_tenth (l : List UInt8) (n x : Nat) (h : 9 < l.length) (hx : x = l[9].toNat) (h1 : 1 < x) : rd (l.drop 9) 9 n = (0, [], 4) := by
 subst hx
 rw [drop_at l 9 h, rd, if_pos ⟨rfl, h1⟩]
theorem rd_more (l : List UInt8) (k n x : Nat) (h : k < l.length) (hx : x = l[k].toNat) (h9 : k < 9) (h1 : 128 ≤ x) : rd (l.drop k) k n = rd (l.drop (k + 1)) (k + 1) (n + x % 128 * 128 ^ k) := by
 subst hx
 rw [drop_at l k h, rd, if_neg (by omega), if_pos h1]
theorem rd_zero (l : List UInt8) (k n x : Nat) (h : k < l.length) (hx : x = l[k].toNat) (h9 : 0 < k) (h1 : x = 0) : rd (l.drop k) k n = (0, [], 4) := by
 subst hx
 rw [drop_at l k h, rd, if_neg (by omega), if_neg (by omega), if_pos ⟨h1, h9⟩]
theorem rd_end (l : List UInt8) (k n x : Nat) (h : k < l.length) (hx : x = l[k].toNat) (h9 : k = 9 → x ≤ 1) (h1 : x < 128) (h2 : x = 0 → k = 0) : rd (l.drop k) k n = (n + x % 128 * 128 ^ k, l.drop (k + 1), 0) := by
 rw [Nat.mod_eq_of_lt h1]
 subst hx
 rw [drop_at l k h, rd, if_neg (by omega), if_neg (by omega), if_neg (by omega)]
def zz (n : Int) : Nat := if n < 0 then (-2 * n - 1).toNat else (2 * n).toNat
def ri (l : List UInt8) : Int × List UInt8 × Int :=
 if (rd l 0 0).2.2 = 0 then (if (rd l 0 0).1 % 2 = 1 then -1 - (((rd l 0 0).1 / 2 : Nat) : Int) else (((rd l 0 0).1 / 2 : Nat) : Int), (rd l 0 0).2.1, 0)
 else (0, [], (rd l 0 0).2.2)
def tx (s : List UInt8) : List UInt8 := un s.length ++ s
def rt (l : List UInt8) : List UInt8 × List UInt8 × Int :=
 if (rd l 0 0).2.2 = 0 then (if (rd l 0 0).2.1.length < (rd l 0 0).1 then ([], [], 3) else ((rd l 0 0).2.1.take (rd l 0 0).1, (rd l 0 0).2.1.drop (rd l 0 0).1, 0))
 else ([], [], (rd l 0 0).2.2)
theorem ri_bad (l : List UInt8) (e : Int) (h : rd l 0 0 = (0, [], e)) (he : ¬ e = 0) : ri l = (0, [], e) := by
 unfold ri; rw [h]; exact if_neg he
theorem ri_odd (l r : List UInt8) (N : Nat) (h : rd l 0 0 = (N, r, 0)) (he : N % 2 = 1) : ri l = (-1 - ((N / 2 : Nat) : Int), r, 0) := by
 unfold ri; rw [h]; simp [he]
theorem ri_even (l r : List UInt8) (N : Nat) (h : rd l 0 0 = (N, r, 0)) (he : ¬ N % 2 = 1) : ri l = (((N / 2 : Nat) : Int), r, 0) := by
 unfold ri; rw [h]; simp [he]
theorem rt_bad (l : List UInt8) (e : Int) (h : rd l 0 0 = (0, [], e)) (he : ¬ e = 0) : rt l = ([], [], e) := by
 unfold rt; rw [h]; exact if_neg he
theorem rt_short (l r : List UInt8) (N : Nat) (h : rd l 0 0 = (N, r, 0)) (he : r.length < N) : rt l = ([], [], 3) := by
 unfold rt; rw [h]; simp [he]
theorem rt_end (l r : List UInt8) (N : Nat) (h : rd l 0 0 = (N, r, 0)) (he : N ≤ r.length) : rt l = (r.take N, r.drop N, 0) := by
 unfold rt; rw [h]; simp [show ¬ r.length < N from by omega]
theorem zz_ri (l r : List UInt8) (N : Nat) (h : rd l 0 0 = (N, r, 0)) : ∃ m, ri l = (m, r, 0) ∧ zz m = N ∧ ((N : Int) < 18446744073709551616 → -9223372036854775808 ≤ m ∧ m ≤ 9223372036854775807) := by
 by_cases he : N % 2 = 1
 ·exact ⟨_, ri_odd _ _ _ h he, by unfold zz; rw [if_pos (by omega)]; omega, by omega⟩
 ·exact ⟨_, ri_even _ _ _ h he, by unfold zz; rw [if_neg (by omega)]; omega, by omega⟩
end Go.Proofs.YtmgdciihpjifgaaGreatDoor.Pk
namespace Go.Proofs.YtmgdciihpjifgaaGreatDoor
open Go.RowKit
theorem pk_ret_str {a b : List UInt8} (h : a = b) : Ending.returned (.string ⟨a.toArray⟩) = .returned (.string ⟨b.toArray⟩) := by rw [h]
theorem Tryz.infoU8p : (Tryz.prog.info? 5).map (fun i => (i.zero, i.size, i.bytes)) = some (some (.int .u8 0), 1, 1) := by kernel_rfl
def pk_bv (b : UInt8) : Value := .int .u8 (b.toNat : Int)
theorem pk_conv_own {w : World} {base n : Nat} {v : Value} (l : List UInt8) (h : w.ownsRow base 5 1 v n (l.map pk_bv)) (hn : n = l.length) (hp : 0 < l.length) :
  ∃ g cap, v = .slice (some ⟨g, 0, none⟩) n cap ∧ (convert 102 9 (.slice (some ⟨g, 0, none⟩) n cap)).run Tryz.prog w = .ok (.string ⟨l.toArray⟩) w := by
 subst hn
 have h' := h
 rcases h.2 with ⟨_, h0⟩ | ⟨g, cap, cur, rfl, _, _, _, _, _, _⟩
 ·omega
 ·refine ⟨g, cap, rfl, run_convert_bytes_back _ _ _ 5 _ _ _ Tryz.underlying102 Tryz.underlying5 Tryz.underlying9 ?_⟩
  intro j hj
  refine h'.cells rfl j _ ?_
  simp [List.getElem?_eq_getElem hj, pk_bv]
theorem pow_step (m f : Nat) (h : m < 128 ^ (f + 1)) (h1 : 128 ≤ m) : ∃ g, f = g + 1 ∧ m / 128 < 128 ^ (g + 1) := by
 cases f with
 | zero => simp at h; omega
 | succ g =>
  refine ⟨g, rfl, ?_⟩
  rw [Nat.pow_succ] at h
  generalize 128 ^ (g + 1) = B at *
  omega
theorem un_start (n : Nat) (h : (n : Int) < 18446744073709551616) : n < 128 ^ (9 + 1) := by
 have : (128 : Nat) ^ (9 + 1) = 1180591620717411303424 := by decide
 omega
theorem bv_low (m : Nat) (h : m < 128) : Value.int .u8 (m : Int) = pk_bv (UInt8.ofNat m) := by
 unfold pk_bv; rw [Pk.of_toNat m (by omega)]
theorem bv_high (m : Nat) : Value.int .u8 ((m : Int) % 128 + 128) = pk_bv (UInt8.ofNat (m % 128 + 128)) := by
 unfold pk_bv; rw [Pk.of_toNat _ (by omega)]; congr 1
theorem uint_any (N : Nat) (w : World) (hN : (N : Int) < 18446744073709551616) :
  Calls Tryz.prog 30 #[.int .u64 N] w fun e w' => e = .returned (.string ⟨(Pk.un N).toArray⟩) ∧ Below w.heap.size w w' := by
 obtain ⟨i0, hi, hz0, hz1, hz2⟩ := info_parts Tryz.infoU8p
 have HN := Lib.hid (un_start N hN)
 have HNb := Lib.hid hN
 clear hN
 go_enter Tryz.func30, Tryz.ntmps30
 go_wp2
 go_loopw [0, 3] (fun n v wr => ∃ (m f : Nat) (done : List UInt8), n = .int .u64 m ∧ wr.ownsRow w.heap.size 5 1 v done.length (done.map pk_bv) ∧ Below w.heap.size w wr ∧ done ++ Pk.ub f m = Pk.un N ∧ m < 128 ^ (f + 1) ∧ done.length + f = 9 ∧ (m : Int) < 18446744073709551616) (fun n _ _ => (intOf n).toNat)
 case atStart => exact ⟨N, 9, [], rfl, World.ownsRow_nil _ _ _ _, Below.refl _ _, rfl, HN.out, rfl, HNb.out⟩
 case round =>
  obtain ⟨m, f, done, rfl, hown, hbel, hub, hm, hlen, hmb⟩ := hrel
  have Hub := Lib.hid hub
  have Hm := Lib.hid hm
  have Hown := Lib.hid hown
  have Hbel := Lib.hid hbel
  clear hub hm hown hbel HN HNb
  by_cases hlow : m < 128
  ·have Hu := Lib.hid (show done ++ [UInt8.ofNat m] = Pk.un N from by rw [← Hub.out, Pk.ub_low f m hlow])
   have Hlow := Lib.hid hlow
   obtain ⟨M, hM⟩ : ∃ M : Int, M = (m : Int) := ⟨_, rfl⟩
   have hM0 : 0 ≤ M := by omega
   have hM1 : M < 128 := by omega
   rw [← hM]
   have HM := Lib.hid hM
   have t1 : decide ((128 : Int) ≤ M) = false := by rw [decide_eq_false_iff_not]; omega
   have HL := Lib.hid hlen
   clear hlow hmb hM Hub Hm hlen
   go_wp2_with (at_builtin; refine wpList_append_own _ rfl _ _ 102 rfl w.heap.size 5 i0 (.int .u8 0) 1 1 Tryz.underlying102 hi hz0 hz1 hz2 rfl (by decide) _ _ _ rfl (Hown.out.alloc _) ⟨wr.heap.size, 0, none⟩ 1 1 [.int .u8 M] rfl rfl ?c1 ?c2 ?c3 ?c4 ?c5 ?_)
   case c1 =>
    intro j u hj
    match j, hj with
    | 0, hj => simp at hj; subst hj; simp [Addr.add]
   case c2 => intro u hu; simp at hu; subst hu; rfl
   case c3 => have := HL.out; unfold maxLen; omega
   case c4 => have := HL.out; omega
   case c5 => have := Hbel.out.size; simp; omega
   ·intro v' w1 hown' hgrow _
    have Hb' := Lib.hid ((Hbel.out.alloc Hbel.out.size _).grown hgrow (by have := Hbel.out.size; simp; omega) (fun k hk => (Hown.out.lt k hk).1))
    obtain ⟨g, cap, rfl, hcv⟩ := pk_conv_own (done ++ [UInt8.ofNat m]) (by rw [List.map_append, List.map_singleton, ← bv_low m Hlow.out, ← HM.out]; exact hown') (by simp) (by simp)
    clear hown' hgrow
    go_wp2
    go_ret
    exact ⟨pk_ret_str Hu.out, Hb'.out⟩
  ·have hh : (128 : Int) ≤ m := by omega
   obtain ⟨g, rfl, hp⟩ := pow_step m f Hm.out (by omega)
   have Hp := Lib.hid hp
   clear hp
   have Hu := Lib.hid (show done ++ [UInt8.ofNat (m % 128 + 128)] ++ Pk.ub g (m / 128) = Pk.un N from by rw [← Hub.out, Pk.ub_high g m (by omega)]; simp)
   go_wp2_with (at_builtin; refine wpList_append_own _ rfl _ _ 102 rfl w.heap.size 5 i0 (.int .u8 0) 1 1 Tryz.underlying102 hi hz0 hz1 hz2 rfl (by decide) _ _ _ rfl (Hown.out.alloc _) ⟨wr.heap.size, 0, none⟩ 1 1 [.int .u8 ((m : Int) % 128 + 128)] rfl rfl ?c1 ?c2 ?c3 ?c4 ?c5 ?_)
   case c1 =>
    intro j u hj
    match j, hj with
    | 0, hj => simp at hj; subst hj; simp [Addr.add]
   case c2 => intro u hu; simp at hu; subst hu; rfl
   case c3 => unfold maxLen; omega
   case c4 => omega
   case c5 => have := Hbel.out.size; simp; omega
   ·intro v' w1 hown' hgrow _
    have Hown' := Lib.hid (show w1.ownsRow w.heap.size 5 1 v' (done ++ [UInt8.ofNat (m % 128 + 128)]).length ((done ++ [UInt8.ofNat (m % 128 + 128)]).map pk_bv) from by rw [List.length_append, List.map_append, List.map_singleton, ← bv_high m]; exact hown')
    have Hb' := Lib.hid ((Hbel.out.alloc Hbel.out.size _).grown hgrow (by have := Hbel.out.size; simp; omega) (fun k hk => (Hown.out.lt k hk).1))
    clear hown' hgrow
    go_wp2_with fail
    go_roundw
    case rel => exact ⟨m / 128, g, done ++ [UInt8.ofNat (m % 128 + 128)], by go_num, Hown'.out, Hb'.out, Hu.out, Hp.out, by simp; omega, by omega⟩
    case measure => simp [intOf]; omega
end Go.Proofs.YtmgdciihpjifgaaGreatDoor
namespace Go.Proofs.YtmgdciihpjifgaaGreatDoor
open Go.RowKit
theorem pk_beq_f {a b : Int} (h : a ≠ b) : (a == b) = false := by simp [h]
theorem pk_byte_at (l : List UInt8) (k : Nat) (h' : k < l.length) (h : k < (ByteArray.mk l.toArray).size := h') : (ByteArray.mk l.toArray)[k] = l[k] := by
 show (l.toArray)[k] = _
 simp
theorem pow7 (k : Nat) : 2 ^ (7 * k) = 128 ^ k := by rw [Nat.pow_mul]
theorem pk_wrap_u64 (n : Int) (h0 : 0 ≤ n) (h : n < 18446744073709551616) : IntKind.u64.wrap n = n := by
 simp [IntKind.wrap, IntKind.bits, IntKind.signed]; omega
theorem pow9 (k : Nat) (h : k ≤ 8) : 128 ^ k ≤ 72057594037927936 := by
 have : 128 ^ k ≤ 128 ^ 8 := Nat.pow_le_pow_right (by decide) h
 have e : (128 : Nat) ^ 8 = 72057594037927936 := by decide
 omega
theorem or_digit (N k d : Nat) (hN : N < 128 ^ k) (hd : d < 128) (hk : k ≤ 8 ∨ (k = 9 ∧ d ≤ 1)) :
  bits .or .u64 (N : Int) (IntKind.u64.wrap ((d : Int) * 2 ^ (7 * k))) = ((N + d * 128 ^ k : Nat) : Int) := by
 have e : ((d : Int) * 2 ^ (7 * k)) = ((d * 128 ^ k : Nat) : Int) := by rw [← pow7]; simp
 have hb : d * 128 ^ k < 18446744073709551616 ∧ N < 18446744073709551616 := by
  rcases hk with hk | ⟨rfl, hk⟩
  ·have := pow9 k hk
   generalize 128 ^ k = B at *
   have : d * B ≤ 127 * B := Nat.mul_le_mul_right _ (by omega)
   omega
  ·have e : (128 : Nat) ^ 9 = 9223372036854775808 := by decide
   rw [e] at hN ⊢
   omega
 rw [e, pk_wrap_u64 _ (by omega) (by omega), u64_or_nat N (d * 128 ^ k) hb.2 hb.1]
 congr 1
 rw [Nat.or_comm, ← pow7, nat_join (7 * k) (d * 2 ^ (7 * k)) N (Nat.mul_mod_left _ _) (by rw [pow7]; exact hN)]
 omega
theorem next_lt (N k d : Nat) (hN : N < 128 ^ k) (hd : d < 128) : N + d * 128 ^ k < 128 ^ (k + 1) := by
 rw [Nat.pow_succ]
 generalize 128 ^ k = B at *
 have : d * B ≤ 127 * B := Nat.mul_le_mul_right _ (by omega)
 omega
theorem or_byte (N k x : Nat) (hN : N < 128 ^ k) (hk : k ≤ 8 ∨ (k = 9 ∧ x ≤ 1)) :
  ∃ M : Nat, bits .or .u64 (N : Int) (IntKind.u64.wrap ((x : Int) % 128 * 2 ^ (7 * k))) = (M : Int) ∧ M = N + x % 128 * 128 ^ k ∧ M < 128 ^ (k + 1) :=
 ⟨_, by have := or_digit N k (x % 128) hN (by omega) (by omega); rw [← this]; rfl, rfl, next_lt N k (x % 128) hN (by omega)⟩
theorem ret_usi {a b : Int} {s t : ByteArray} {x y : Int} (h : a = b) (g : s = t) (i : x = y) : Ending.returned (.tuple #[.int .u64 a, .string s, .int .i64 x]) = .returned (.tuple #[.int .u64 b, .string t, .int .i64 y]) := by rw [h, g, i]
theorem pk_cut_from (l : List UInt8) (n : Nat) : (ByteArray.mk l.toArray).extract n l.length = ⟨(l.drop n).toArray⟩ := by
 apply ByteArray.ext
 rw [ByteArray.data_extract]
 simp
 exact List.take_of_length_le (by simp)
theorem or_zero (x : Nat) : bits .or .u64 0 ((x : Int) % 128) = ((x % 128 : Nat) : Int) := by
 have := u64_or_nat 0 (x % 128) (by omega) (by omega)
 rw [Nat.zero_or] at this
 exact this
theorem or_nine (N : Nat) (h : N < 128 ^ 9) : ∃ M : Nat, bits .or .u64 (N : Int) 9223372036854775808 = (M : Int) ∧ M = N + 1 % 128 * 128 ^ 9 := by
 refine ⟨_, ?_, rfl⟩
 have e : (128 : Nat) ^ 9 = 9223372036854775808 := by decide
 rw [e] at h ⊢
 have := u64_or_nat N 9223372036854775808 (by omega) (by omega)
 rw [show N ||| 9223372036854775808 = N + 9223372036854775808 from by rw [Nat.or_comm, nat_join 63 9223372036854775808 N (by decide) h, Nat.add_comm]] at this
 exact this
theorem readUint_any (l : List UInt8) (w : World) :
  Calls Tryz.prog 93 #[.string ⟨l.toArray⟩] w fun e w' => e = .returned (.tuple #[.int .u64 (Pk.rd l 0 0).1, .string ⟨(Pk.rd l 0 0).2.1.toArray⟩, .int .i64 (Pk.rd l 0 0).2.2]) ∧ ∃ n, w' = w.drewN n := by
 go_enter Tryz.func93, Tryz.ntmps93
 go_wp2
 refine wp_scope_jumps 0 (fun a' w' => w' = w ∧ ∃ (N k : Nat) (u7 u8 u9 u10 u11 u12 u13 u14 u15 u16 u17 u18 u19 u20 u21 u22 u23 u24 u25 u26 u27 u28 u29 u30 u31 u32 : Value), a' = { tmps := #[.string ⟨l.toArray⟩, undef, .int .u64 0, .string ⟨#[]⟩, .int .i64 0, .int .u64 N, .int .i64 k, u7, u8, u9, u10, u11, u12, u13, u14, u15, u16, u17, u18, u19, u20, u21, u22, u23, u24, u25, u26, u27, u28, u29, u30, u31, u32, undef, undef, undef, undef, undef, undef, undef, undef, undef, undef], defers := [] } ∧ Pk.rd (l.drop k) k N = Pk.rd l 0 0 ∧ N < 128 ^ k ∧ 1 ≤ k ∧ k ≤ 9 ∧ k ≤ l.length) (fun a' _ => 10 - (intOf (a'.tmps.getD 6 undef)).toNat) rfl ?_ ?_
 ·by_cases hend : l.length = 0
  ·have Hres := Lib.hid (Pk.rd_short l 0 0 (by omega))
   have hq : ((0 : Int) == (l.length : Int)) = true := beq_iff_eq.2 (by omega)
   clear hend
   go_wp2
   go_step3
   go_wp2
   simp only [Exit.jump]
   go_ret3
   rw [show Pk.rd l 0 0 = (0, [], 3) from Hres.out]
   exact ⟨rfl, 0, rfl⟩
  have hlen : 0 < l.length := by omega
  have hq : ((0 : Int) == (l.length : Int)) = false := pk_beq_f (by omega)
  have hsz : 0 < (ByteArray.mk l.toArray).size := hlen
  have hx : (ByteArray.mk l.toArray)[0].toNat < 256 := (ByteArray.mk l.toArray)[0].toNat_lt
  have Hba := Lib.hid (show (ByteArray.mk l.toArray)[0].toNat = l[0].toNat from by rw [pk_byte_at l 0 hlen])
  have hor := or_zero (ByteArray.mk l.toArray)[0].toNat
  have hln : (0 : Int) < (l.length : Int) := by omega
  have hln1 : (1 : Int) ≤ (l.length : Int) := by omega
  by_cases h128 : 128 ≤ (ByteArray.mk l.toArray)[0].toNat
  ·have Hres := Lib.hid (Pk.rd_more l 0 0 _ hlen Hba.out (by omega) h128)
   have hi : (128 : Int) ≤ ((ByteArray.mk l.toArray)[0].toNat : Int) := by omega
   clear h128 Hba hend
   go_wp2
   go_step3
   go_wp2_with fail
   go_step3
   refine ⟨rfl, rfl, (ByteArray.mk l.toArray)[0].toNat % 128, 1, _, _, _, _, _, _, _, _, _, _, _, _, _, _, _, _, _, _, _, _, _, _, _, _, _, _, rfl, ?_, ?_, by omega, by omega, by omega⟩
   ·have := Hres.out
    rw [show 0 + (ByteArray.mk l.toArray)[0].toNat % 128 * 128 ^ 0 = (ByteArray.mk l.toArray)[0].toNat % 128 from by omega] at this
    exact this.symm
   ·omega
  ·have Hres := Lib.hid (Pk.rd_end l 0 0 _ hlen Hba.out (by omega) (by omega) (by omega))
   have hi : decide ((128 : Int) ≤ ((ByteArray.mk l.toArray)[0].toNat : Int)) = false := by simp; omega
   have Hx := Lib.hid (pk_cut_from l 1)
   clear h128 Hba hend
   by_cases h0 : ((ByteArray.mk l.toArray)[0].toNat : Int) = 0
   ·go_wp2
    go_step3
    go_wp2
    go_quiet (fail)
    go_wp2
    try simp only [Exit.jump]
    go_ret3
    rw [show Pk.rd l 0 0 = _ from Hres.out]
    exact ⟨ret_usi (by simp; rw [h0]; decide) Hx.out rfl, _, rfl⟩
   ·have hb0 := pk_beq_f h0
    go_wp2
    go_step3
    go_wp2
    go_quiet (fail)
    go_wp2
    try simp only [Exit.jump]
    go_ret3
    rw [show Pk.rd l 0 0 = _ from Hres.out]
    exact ⟨ret_usi (by simp) Hx.out rfl, _, rfl⟩
 ·rintro a' w' ⟨rfl, N, k, u7, u8, u9, u10, u11, u12, u13, u14, u15, u16, u17, u18, u19, u20, u21, u22, u23, u24, u25, u26, u27, u28, u29, u30, u31, u32, rfl, hrd, hN, hk1, hk9, hkl⟩
  have Hrd := Lib.hid hrd
  have HN := Lib.hid hN
  clear hrd hN
  by_cases hend : k = l.length
  ·have Hres := Lib.hid (Hrd.out.symm.trans (Pk.rd_short l k N (by omega)))
   have hq : ((k : Int) == (l.length : Int)) = true := beq_iff_eq.2 (by omega)
   clear Hrd HN hend
   go_wp2
   simp only [Exit.jump]
   go_ret3
   rw [Hres.out]
   exact ⟨rfl, 0, rfl⟩
  have hlen : k < l.length := by omega
  have hq : ((k : Int) == (l.length : Int)) = false := pk_beq_f (by omega)
  have hsz : k < (ByteArray.mk l.toArray).size := hlen
  have hln : (k : Int) < (l.length : Int) := by omega
  have hln1 : (k : Int) + 1 ≤ (l.length : Int) := by omega
  have hx : (ByteArray.mk l.toArray)[k].toNat < 256 := (ByteArray.mk l.toArray)[k].toNat_lt
  have Hba := Lib.hid (show (ByteArray.mk l.toArray)[k].toNat = l[k].toNat from by rw [pk_byte_at l k hlen])
  clear hend hkl
  by_cases hk : k = 9
  ·subst hk
   by_cases h1 : 1 < (ByteArray.mk l.toArray)[9].toNat
   ·have Hres := Lib.hid (Hrd.out.symm.trans (Pk.rd_tenth l N _ hlen Hba.out h1))
    have hi : (1 : Int) < ((ByteArray.mk l.toArray)[9].toNat : Int) := by omega
    clear h1 Hrd HN Hba
    go_wp2
    simp only [Exit.jump]
    go_ret3
    rw [Hres.out]
    exact ⟨rfl, 0, rfl⟩
   by_cases h0 : (ByteArray.mk l.toArray)[9].toNat = 0
   ·have Hres := Lib.hid (Hrd.out.symm.trans (Pk.rd_zero l 9 N _ hlen Hba.out (by omega) h0))
    have hi : ((ByteArray.mk l.toArray)[9].toNat : Int) = 0 := by omega
    clear h1 h0 Hrd HN Hba
    go_wp2
    simp only [Exit.jump]
    go_ret3
    rw [Hres.out]
    exact ⟨rfl, 0, rfl⟩
   ·have h1' : (ByteArray.mk l.toArray)[9].toNat = 1 := by omega
    obtain ⟨M, hor, hM⟩ := or_nine N HN.out
    have hres := Hrd.out.symm.trans (Pk.rd_end l 9 N _ hlen Hba.out (by omega) (by omega) (by omega))
    rw [h1', ← hM] at hres
    have Hres := Lib.hid hres
    have hi : ((ByteArray.mk l.toArray)[9].toNat : Int) = 1 := by omega
    have Hx := Lib.hid (pk_cut_from l 10)
    clear h1 h0 h1' Hrd HN Hba hres hM
    go_wp2
    go_quiet (fail)
    go_wp2
    try simp only [Exit.jump]
    go_ret3
    rw [Hres.out]
    exact ⟨ret_usi rfl Hx.out rfl, _, rfl⟩
  have hk' : ¬ (k : Int) = 9 := by omega
  have hk'' : ((k : Int) == 9) = false := pk_beq_f hk'
  have hk8 : (k : Int) ≤ 8 := by omega
  have hk1' : (1 : Int) ≤ (k : Int) := by omega
  obtain ⟨M, hor, hM, hM'⟩ := or_byte N k _ HN.out (.inl (by omega))
  by_cases h128 : 128 ≤ (ByteArray.mk l.toArray)[k].toNat
  ·have hres := Hrd.out.symm.trans (Pk.rd_more l k N _ hlen Hba.out (by omega) h128)
   rw [← hM] at hres
   have Hres := Lib.hid hres
   have HM' := Lib.hid hM'
   have hi : (128 : Int) ≤ ((ByteArray.mk l.toArray)[k].toNat : Int) := by omega
   clear Hrd HN hM hM' hres Hba hk hk9 hk1 h128
   go_wp2_with fail
   go_step3
   refine ⟨rfl, ⟨rfl, M, k + 1, _, _, _, _, _, _, _, _, _, _, _, _, _, _, _, _, _, _, _, _, _, _, _, _, _, _, rfl, Hres.out.symm, HM'.out, by omega, by omega, by omega⟩, ?_⟩
   simp [intOf]
   omega
  by_cases h0 : (ByteArray.mk l.toArray)[k].toNat = 0
  ·have Hres := Lib.hid (Hrd.out.symm.trans (Pk.rd_zero l k N _ hlen Hba.out (by omega) h0))
   have hi : ((ByteArray.mk l.toArray)[k].toNat : Int) = 0 := by omega
   clear Hrd HN hM hM' hor Hba hk hk9 hk1 h128 h0
   go_wp2
   simp only [Exit.jump]
   go_ret3
   rw [Hres.out]
   exact ⟨rfl, 0, rfl⟩
  ·have hres := Hrd.out.symm.trans (Pk.rd_end l k N _ hlen Hba.out (by omega) (by omega) (by omega))
   rw [← hM] at hres
   have Hres := Lib.hid hres
   have hi : decide ((128 : Int) ≤ ((ByteArray.mk l.toArray)[k].toNat : Int)) = false := by simp; omega
   have hi0 : ¬ ((ByteArray.mk l.toArray)[k].toNat : Int) = 0 := by omega
   have hi1 := pk_beq_f hi0
   have Hx := Lib.hid (pk_cut_from l (k + 1))
   clear Hrd HN hM hM' hres Hba hk hk9 hk1 h128 h0
   go_wp2
   go_quiet (fail)
   go_wp2
   try simp only [Exit.jump]
   go_ret3
   rw [Hres.out]
   exact ⟨ret_usi rfl Hx.out rfl, _, rfl⟩
theorem readUint_is (l r : List UInt8) (N : Nat) (e : Int) (w : World) (h : Pk.rd l 0 0 = (N, r, e)) :
  Calls Tryz.prog 93 #[.string ⟨l.toArray⟩] w fun x w' => x = .returned (.tuple #[.int .u64 N, .string ⟨r.toArray⟩, .int .i64 e]) ∧ ∃ n, w' = w.drewN n := by
 have := readUint_any l w
 rw [h] at this
 exact this
end Go.Proofs.YtmgdciihpjifgaaGreatDoor
namespace Go.Proofs.YtmgdciihpjifgaaGreatDoor
open Go.RowKit
theorem pk_bne_t {e : Int} (h : ¬ e = 0) : (e != 0) = true := by simp [h]
theorem cut_to (l : List UInt8) (n : Nat) : (ByteArray.mk l.toArray).extract 0 n = ⟨(l.take n).toArray⟩ := by
 apply ByteArray.ext
 rw [ByteArray.data_extract]
 simp
theorem ret_isi {a b : Int} {s t : ByteArray} {x y : Int} (h : a = b) (g : s = t) (i : x = y) : Ending.returned (.tuple #[.int .i64 a, .string s, .int .i64 x]) = .returned (.tuple #[.int .i64 b, .string t, .int .i64 y]) := by rw [h, g, i]
theorem pk_ret_ssi {s t u v : ByteArray} {x y : Int} (h : u = v) (g : s = t) (i : x = y) : Ending.returned (.tuple #[.string u, .string s, .int .i64 x]) = .returned (.tuple #[.string v, .string t, .int .i64 y]) := by rw [h, g, i]
theorem uint_int (x : Int) (w : World) (h0 : 0 ≤ x) (h : x < 18446744073709551616) :
  Calls Tryz.prog 30 #[.int .u64 x] w fun e w' => e = .returned (.string ⟨(Pk.un x.toNat).toArray⟩) ∧ Below w.heap.size w w' := by
 have := uint_any x.toNat w (by omega)
 rw [Int.toNat_of_nonneg h0] at this
 exact this
theorem uint_is (x : Int) (l : List UInt8) (w : World) (h0 : 0 ≤ x) (h : x < 18446744073709551616) (hl : Pk.un x.toNat = l) :
  Calls Tryz.prog 30 #[.int .u64 x] w fun e w' => e = .returned (.string ⟨l.toArray⟩) ∧ Below w.heap.size w w' := by
 rw [← hl]; exact uint_int x w h0 h
theorem int_any (n : Int) (w : World) (h0 : -9223372036854775808 ≤ n) (h1 : n ≤ 9223372036854775807) :
  Calls Tryz.prog 101 #[.int .i64 n] w fun e w' => e = .returned (.string ⟨(Pk.un (Pk.zz n)).toArray⟩) ∧ Below w.heap.size w w' := by
 by_cases hn : n < 0
 ·have Hz := Lib.hid (show ∀ x : Int, x = -2 * n - 1 → Pk.un x.toNat = Pk.un (Pk.zz n) from by
   rintro x rfl; unfold Pk.zz; rw [if_pos hn])
  go_enter Tryz.func101, Tryz.ntmps101
  go_wp2_with fail
  refine (uint_is _ _ _ (by omega) (by omega) (Hz.out _ (by omega))).mono ?_
  rintro e w1 ⟨rfl, hb⟩
  have Hb := Lib.hid hb
  clear hb
  go_wp2
  go_ret
  exact ⟨rfl, Hb.out⟩
 ·have Hz := Lib.hid (show ∀ x : Int, x = 2 * n → Pk.un x.toNat = Pk.un (Pk.zz n) from by
   rintro x rfl; unfold Pk.zz; rw [if_neg hn])
  go_enter Tryz.func101, Tryz.ntmps101
  go_wp2_with fail
  refine (uint_is _ _ _ (by omega) (by omega) (Hz.out _ (by omega))).mono ?_
  rintro e w1 ⟨rfl, hb⟩
  have Hb := Lib.hid hb
  clear hb
  go_wp2
  go_ret
  exact ⟨rfl, Hb.out⟩
theorem text_any (s : List UInt8) (w : World) (hs : s.length ≤ 140737488351232) :
  Calls Tryz.prog 32 #[.string ⟨s.toArray⟩] w fun e w' => e = .returned (.string ⟨(Pk.tx s).toArray⟩) ∧ Below w.heap.size w w' := by
 have hl : (Pk.un s.length).length ≤ 10 := (Pk.ub_len 9 s.length).2
 have Ht := Lib.hid (show Pk.un s.length ++ s = Pk.tx s from rfl)
 have hlen : (s.length : Int) ≤ 140737488351232 := by omega
 go_enter Tryz.func32, Tryz.ntmps32
 go_wp2_with fail
 refine (uint_any s.length _ (by omega)).mono ?_
 rintro e w1 ⟨rfl, hb⟩
 have Hb := Lib.hid hb
 clear hb
 generalize Pk.un s.length = p at *
 have hmk := ByteArray.mk_append_mk p s
 go_wp2
 go_ret
 exact ⟨pk_ret_str Ht.out, Hb.out⟩
theorem text_is (s l : List UInt8) (w : World) (hs : s.length ≤ 140737488351232) (hl : Pk.tx s = l) :
  Calls Tryz.prog 32 #[.string ⟨s.toArray⟩] w fun e w' => e = .returned (.string ⟨l.toArray⟩) ∧ Below w.heap.size w w' := by
 rw [← hl]; exact text_any s w hs
theorem readUint_int (l r : List UInt8) (N : Nat) (x : Int) (w : World) (h : Pk.rd l 0 0 = (N, r, 0)) (hx : x = N) :
  Calls Tryz.prog 93 #[.string ⟨l.toArray⟩] w fun y w' => y = .returned (.tuple #[.int .u64 x, .string ⟨r.toArray⟩, .int .i64 0]) ∧ ∃ n, w' = w.drewN n := by
 rw [hx]; exact readUint_is l r N 0 w h
theorem readInt_any (l : List UInt8) (w : World) :
  Calls Tryz.prog 140 #[.string ⟨l.toArray⟩] w fun e w' => e = .returned (.tuple #[.int .i64 (Pk.ri l).1, .string ⟨(Pk.ri l).2.1.toArray⟩, .int .i64 (Pk.ri l).2.2]) ∧ ∃ n, w' = w.drewN n := by
 rcases Pk.rd_cases l with ⟨N, r, h, hN, _⟩ | ⟨e, h, he⟩
 ·obtain ⟨x, hx⟩ : ∃ x : Int, x = (N : Int) := ⟨_, rfl⟩
  have hx0 : 0 ≤ x := by omega
  have hx1 : x < 18446744073709551616 := by omega
  by_cases hp : N % 2 = 1
  ·have Hr := Lib.hid (Pk.ri_odd l r N h hp)
   have hq : (x % 2 == 1) = true := beq_iff_eq.2 (by omega)
   have Hv := Lib.hid (show ∀ y : Int, y = -1 - x / 2 → y = -1 - ((N / 2 : Nat) : Int) from by rintro y rfl; omega)
   have H := Lib.hid h
   have Hx := Lib.hid hx
   clear h hx hp hN
   go_enter Tryz.func140, Tryz.ntmps140
   go_wp2_with fail
   refine (readUint_int _ _ _ _ _ H.out Hx.out).mono ?_
   rintro e w' ⟨rfl, n, rfl⟩
   go_wp2
   go_ret3
   rw [Hr.out]
   exact ⟨ret_isi (Hv.out _ (by omega)) rfl rfl, _, rfl⟩
  ·have Hr := Lib.hid (Pk.ri_even l r N h hp)
   have hq : (x % 2 == 1) = false := pk_beq_f (by omega)
   have Hv := Lib.hid (show ∀ y : Int, y = x / 2 → y = ((N / 2 : Nat) : Int) from by rintro y rfl; omega)
   have H := Lib.hid h
   have Hx := Lib.hid hx
   clear h hx hp hN
   go_enter Tryz.func140, Tryz.ntmps140
   go_wp2_with fail
   refine (readUint_int _ _ _ _ _ H.out Hx.out).mono ?_
   rintro e w' ⟨rfl, n, rfl⟩
   go_wp2
   go_ret3
   rw [Hr.out]
   exact ⟨ret_isi (Hv.out _ (by omega)) rfl rfl, _, rfl⟩
 ·have Hr := Lib.hid (Pk.ri_bad l e h (by omega))
  have hne := pk_bne_t (show ¬ e = 0 from by omega)
  have H := Lib.hid h
  clear h he
  go_enter Tryz.func140, Tryz.ntmps140
  go_wp2_with fail
  refine (readUint_is _ _ _ _ _ H.out).mono ?_
  rintro x w' ⟨rfl, n, rfl⟩
  go_wp2
  go_ret3
  rw [Hr.out]
  exact ⟨rfl, _, rfl⟩
theorem readInt_is (l r : List UInt8) (m e : Int) (w : World) (h : Pk.ri l = (m, r, e)) :
  Calls Tryz.prog 140 #[.string ⟨l.toArray⟩] w fun x w' => x = .returned (.tuple #[.int .i64 m, .string ⟨r.toArray⟩, .int .i64 e]) ∧ ∃ n, w' = w.drewN n := by
 have := readInt_any l w
 rw [h] at this
 exact this
theorem readText_any (l : List UInt8) (w : World) (hl : l.length ≤ 140737488351300) :
  Calls Tryz.prog 63 #[.string ⟨l.toArray⟩] w fun e w' => e = .returned (.tuple #[.string ⟨(Pk.rt l).1.toArray⟩, .string ⟨(Pk.rt l).2.1.toArray⟩, .int .i64 (Pk.rt l).2.2]) ∧ ∃ n, w' = w.drewN n := by
 rcases Pk.rd_cases l with ⟨N, r, h, hN, hap⟩ | ⟨e, h, he⟩
 ·have hrl : (r.length : Int) ≤ 140737488351300 := by
   have := congrArg List.length hap
   simp at this; omega
  by_cases hp : r.length < N
  ·have Hr := Lib.hid (Pk.rt_short l r N h hp)
   have hq : (r.length : Int) < (N : Int) := by omega
   have H := Lib.hid h
   clear h hp hN hap hl
   go_enter Tryz.func63, Tryz.ntmps63
   go_wp2_with fail
   refine (readUint_is _ _ _ _ _ H.out).mono ?_
   rintro e w' ⟨rfl, n, rfl⟩
   go_wp2
   go_ret3
   rw [Hr.out]
   exact ⟨rfl, _, rfl⟩
  ·have Hr := Lib.hid (Pk.rt_end l r N h (by omega))
   have hq : (N : Int) ≤ (r.length : Int) := by omega
   have Hc := Lib.hid (cut_to r N)
   have Hd := Lib.hid (pk_cut_from r N)
   have H := Lib.hid h
   clear h hp hN hap hl
   go_enter Tryz.func63, Tryz.ntmps63
   go_wp2_with fail
   refine (readUint_is _ _ _ _ _ H.out).mono ?_
   rintro e w' ⟨rfl, n, rfl⟩
   go_wp2
   go_quiet (fail)
   go_wp2
   go_ret3
   rw [Hr.out]
   exact ⟨pk_ret_ssi Hc.out Hd.out rfl, _, World.drewN_drewN ..⟩
 ·have Hr := Lib.hid (Pk.rt_bad l e h (by omega))
  have hne := pk_bne_t (show ¬ e = 0 from by omega)
  have H := Lib.hid h
  clear h he hl
  go_enter Tryz.func63, Tryz.ntmps63
  go_wp2_with fail
  refine (readUint_is _ _ _ _ _ H.out).mono ?_
  rintro x w' ⟨rfl, n, rfl⟩
  go_wp2
  go_ret3
  rw [Hr.out]
  exact ⟨rfl, _, rfl⟩
theorem readText_is (l t r : List UInt8) (e : Int) (w : World) (hl : l.length ≤ 140737488351300) (h : Pk.rt l = (t, r, e)) :
  Calls Tryz.prog 63 #[.string ⟨l.toArray⟩] w fun x w' => x = .returned (.tuple #[.string ⟨t.toArray⟩, .string ⟨r.toArray⟩, .int .i64 e]) ∧ ∃ n, w' = w.drewN n := by
 have := readText_any l w hl
 rw [h] at this
 exact this
end Go.Proofs.YtmgdciihpjifgaaGreatDoor
