/-
 The plain mathematics of package utf: how many bytes a character has, which they are, and what a text begins with. No condition.
 Go's and, or on bytes and ints as sums and remainders, at the masks that package utf uses. Conditions: the bounds named in each theorem.
 What the leaves of package utf answer: Width, mark, lead and begins, for every argument that their callers hand them. Conditions: the bounds named in each theorem.
 What begins answers, for every argument that Next hands it. Conditions: the bounds named in the theorem.
 What Next answers, for every text. No condition.
 What Count and Valid answer, for every text. Condition: the text is no longer than any can be.
-/
import Derived.WalkKit
import Derived.Laws.BitsAllLaws
import Derived.Test.YtmgdciihpjifgaaGreatDoorQrBase
import Derived.WalkMore
import Derived.Deep.LoopGhost
set_option maxHeartbeats 1000000
namespace Go.Proofs.YtmgdciihpjifgaaGreatDoor.Utf
def wd (r : Int) : Int :=
 if r < 0 ∨ 1114111 < r ∨ (55296 ≤ r ∧ r ≤ 57343) then 0
 else if r ≤ 127 then 1
 else if r ≤ 2047 then 2
 else if r ≤ 65535 then 3
 else 4
def pe (r : Int) : Int := if wd r = 0 then 1 else 0
def ldr (b : Int) : Int := if b ≤ 127 then b else if b < 192 then 0 else if b < 224 then b - 192 else if b < 240 then b - 224 else b - 240
def ldw (b : Int) : Int := if b ≤ 127 then 1 else if b < 192 then 0 else if b < 224 then 2 else if b < 240 then 3 else 4
def pw (n : Int) : Int := if n ≤ 0 then 1 else if n = 1 then 64 else if n = 2 then 4096 else 262144
def bg (r w k : Int) : Bool := !decide (w = 0) && (decide (wd (r * pw (w - k)) = w) || decide (wd (r * pw (w - k) + pw (w - k) - 1) = w))
def run (s : List UInt8) (w : Int) : Nat → Int → Nat → Int × Int × Int
 | 0, _, _ => (0, 0, 7)
 | f + 1, r, k =>
  if bg r w k = false then (0, 0, 7)
  else if (k : Int) = w then (r, w, 0)
  else match s[k]? with
   | none => (0, 0, 3)
   | some c => if c.toNat / 64 = 2 then run s w f (r * 64 + (c.toNat % 64 : Nat)) (k + 1) else (0, 0, 7)
def nx (s : List UInt8) : Int × Int × Int :=
 match s with
 | [] => (0, 0, 3)
 | c :: _ => run s (ldw c.toNat) 4 (ldr c.toNat) 1
theorem ldw_cases (b : Int) : ldw b = 0 ∨ ldw b = 1 ∨ ldw b = 2 ∨ ldw b = 3 ∨ ldw b = 4 := by
 unfold ldw; (repeat' split) <;> omega
theorem run_ok : ∀ (f : Nat) (s : List UInt8) (w r : Int) (k : Nat) (q n : Int), run s w f r k = (q, n, 0) → n = w ∧ (k : Int) ≤ w ∧ (1 ≤ k → k ≤ s.length → w ≤ s.length) ∧ wd q = w
 | 0, s, w, r, k, q, n, h => by simp [run] at h
 | f + 1, s, w, r, k, q, n, h => by
  rw [run] at h
  split at h
  ·simp at h
  ·rename_i hb
   split at h
   ·rename_i hk
    simp at h
    obtain ⟨rfl, rfl⟩ := h
    refine ⟨rfl, by omega, fun _ _ => by omega, ?_⟩
    have hz : w - (k : Int) = 0 := by omega
    simp [bg, hz, pw] at hb
    exact hb.2
   ·split at h
    ·simp at h
    ·rename_i c hc
     split at h
     ·have hl : k < s.length := (List.getElem?_eq_some_iff.1 hc).1
      obtain ⟨a, b, c', d⟩ := run_ok f s w _ (k + 1) q n h
      exact ⟨a, by omega, fun h1 _ => c' (by omega) (by omega), d⟩
     ·simp at h
theorem nx_ok {s : List UInt8} {q n : Int} (h : nx s = (q, n, 0)) : 1 ≤ n ∧ n ≤ 4 ∧ n ≤ s.length ∧ wd q = n := by
 unfold nx at h
 split at h
 ·simp at h
 ·rename_i c t
  obtain ⟨rfl, b, e, d⟩ := run_ok _ _ _ _ _ _ _ h
  have := ldw_cases c.toNat
  exact ⟨by omega, by omega, e (by omega) (by simp), d⟩
theorem run_bad (s : List UInt8) (w r : Int) (f k : Nat) (hf : 0 < f) (hb : bg r w k = false) : run s w f r k = (0, 0, 7) := by
 obtain ⟨g, rfl⟩ : ∃ g, f = g + 1 := ⟨f - 1, by omega⟩
 rw [run, if_pos hb]
theorem run_end (s : List UInt8) (w r : Int) (f k : Nat) (hf : 0 < f) (hb : bg r w k = true) (hk : (k : Int) = w) : run s w f r k = (r, w, 0) := by
 obtain ⟨g, rfl⟩ : ∃ g, f = g + 1 := ⟨f - 1, by omega⟩
 rw [run, if_neg (by rw [hb]; simp), if_pos hk]
theorem run_short (s : List UInt8) (w r : Int) (f k : Nat) (hf : 0 < f) (hb : bg r w k = true) (hk : ¬ (k : Int) = w) (hl : s.length ≤ k) : run s w f r k = (0, 0, 3) := by
 obtain ⟨g, rfl⟩ : ∃ g, f = g + 1 := ⟨f - 1, by omega⟩
 rw [run, if_neg (by rw [hb]; simp), if_neg hk, List.getElem?_eq_none hl]
theorem run_text (s : List UInt8) (w r : Int) (f k : Nat) (hf : 0 < f) (hb : bg r w k = true) (hk : ¬ (k : Int) = w) (hl : k < s.length) (h2 : ¬ s[k].toNat / 64 = 2) : run s w f r k = (0, 0, 7) := by
 obtain ⟨g, rfl⟩ : ∃ g, f = g + 1 := ⟨f - 1, by omega⟩
 rw [run, if_neg (by rw [hb]; simp), if_neg hk, List.getElem?_eq_getElem hl]
 simp only [h2, if_false]
theorem run_more (s : List UInt8) (w r : Int) (f k : Nat) (hb : bg r w k = true) (hk : ¬ (k : Int) = w) (hl : k < s.length) (h2 : s[k].toNat / 64 = 2) : run s w (f + 1) r k = run s w f (r * 64 + (s[k].toNat % 64 : Nat)) (k + 1) := by
 rw [run, if_neg (by rw [hb]; simp), if_neg hk, List.getElem?_eq_getElem hl]
 simp only [h2, if_true]
theorem run_err : ∀ (f : Nat) (s : List UInt8) (w r : Int) (k : Nat), (run s w f r k).2.2 = 0 ∨ run s w f r k = (0, 0, 3) ∨ run s w f r k = (0, 0, 7)
 | 0, s, w, r, k => by simp [run]
 | f + 1, s, w, r, k => by
  rw [run]
  split
  ·simp
  ·split
   ·simp
   ·split
    ·simp
    ·split
     ·exact run_err f s w _ _
     ·simp
theorem nx_err (s : List UInt8) : (nx s).2.2 = 0 ∨ nx s = (0, 0, 3) ∨ nx s = (0, 0, 7) := by
 unfold nx
 split
 ·simp
 ·exact run_err _ _ _ _ _
theorem nx_nil : nx [] = (0, 0, 3) := rfl
def rsF : Nat → List UInt8 → List Int
 | 0, _ => []
 | f + 1, s => if (nx s).2.2 = 0 then (nx s).1 :: rsF f (s.drop (nx s).2.1.toNat) else []
def rs (s : List UInt8) : List Int := rsF s.length s
def cnF : Nat → List UInt8 → Int
 | _, [] => 0
 | 0, _ => -1
 | f + 1, s => if (nx s).2.2 = 0 then (if cnF f (s.drop (nx s).2.1.toNat) < 0 then -1 else cnF f (s.drop (nx s).2.1.toNat) + 1) else -1
def cn (s : List UInt8) : Int := cnF s.length s
theorem cnF_cons (f : Nat) (c : UInt8) (s : List UInt8) : cnF (f + 1) (c :: s) = if (nx (c :: s)).2.2 = 0 then (if cnF f ((c :: s).drop (nx (c :: s)).2.1.toNat) < 0 then -1 else cnF f ((c :: s).drop (nx (c :: s)).2.1.toNat) + 1) else -1 := by
 rw [cnF]; intro h; cases h
theorem nx_split (s : List UInt8) (h : (nx s).2.2 = 0) : 1 ≤ (nx s).2.1.toNat ∧ (nx s).2.1.toNat ≤ 4 ∧ (nx s).2.1.toNat ≤ s.length ∧ (((nx s).2.1.toNat : Nat) : Int) = (nx s).2.1 ∧ wd (nx s).1 = (nx s).2.1 := by
 have := nx_ok (s := s) (q := (nx s).1) (n := (nx s).2.1) (by rw [← h])
 omega
theorem cnF_fuel : ∀ (f g : Nat) (s : List UInt8), s.length ≤ f → s.length ≤ g → cnF f s = cnF g s
 | f, g, [], h1, h2 => by cases f <;> cases g <;> rfl
 | 0, g, c :: s, h1, h2 => by simp at h1
 | f + 1, 0, c :: s, h1, h2 => by simp at h2
 | f + 1, g + 1, c :: s, h1, h2 => by
  rw [cnF_cons, cnF_cons]
  split
  ·rename_i h
   have := nx_split _ h
   have e := cnF_fuel f g ((c :: s).drop (nx (c :: s)).2.1.toNat) (by rw [List.length_drop]; omega) (by rw [List.length_drop]; omega)
   rw [e]
  ·rfl
theorem cn_nil : cn [] = 0 := rfl
theorem cn_ok (s : List UInt8) (h : (nx s).2.2 = 0) : cn s = if cn (s.drop (nx s).2.1.toNat) < 0 then -1 else cn (s.drop (nx s).2.1.toNat) + 1 := by
 have := nx_split s h
 unfold cn
 cases s with
 | nil => simp [nx_nil] at h
 | cons c t =>
  rw [List.length_cons, cnF_cons, if_pos h, cnF_fuel t.length _ ((c :: t).drop (nx (c :: t)).2.1.toNat) (by rw [List.length_drop]; simp at *; omega) (Nat.le_refl _)]
theorem cn_no (s : List UInt8) (h0 : s ≠ []) (h : ¬ (nx s).2.2 = 0) : cn s = -1 := by
 unfold cn
 cases s with
 | nil => exact absurd rfl h0
 | cons c t => rw [List.length_cons, cnF_cons, if_neg h]
theorem cn_ge : ∀ (n : Nat) (s : List UInt8), s.length ≤ n → -1 ≤ cn s ∧ cn s ≤ s.length
 | 0, s, h => by
  have : s = [] := List.length_eq_zero_iff.1 (by omega)
  subst this; simp [cn_nil]
 | n + 1, s, h => by
  by_cases h0 : s = []
  ·subst h0; simp [cn_nil]
  by_cases he : (nx s).2.2 = 0
  ·have hs := nx_split s he
   have hl : (s.drop (nx s).2.1.toNat).length = s.length - (nx s).2.1.toNat := List.length_drop
   have := cn_ge n (s.drop (nx s).2.1.toNat) (by omega)
   rw [cn_ok s he]
   split <;> omega
  ·rw [cn_no s h0 he]; omega
theorem wd1 (x : Int) : (wd x = 1) = (0 ≤ x ∧ x ≤ 127) := by unfold wd; rw [eq_iff_iff]; (repeat' split) <;> omega
theorem wd2 (x : Int) : (wd x = 2) = (128 ≤ x ∧ x ≤ 2047) := by unfold wd; rw [eq_iff_iff]; (repeat' split) <;> omega
theorem wd3 (x : Int) : (wd x = 3) = (2048 ≤ x ∧ x ≤ 65535 ∧ (x < 55296 ∨ 57343 < x)) := by unfold wd; rw [eq_iff_iff]; (repeat' split) <;> omega
theorem wd4 (x : Int) : (wd x = 4) = (65536 ≤ x ∧ x ≤ 1114111) := by unfold wd; rw [eq_iff_iff]; (repeat' split) <;> omega
end Go.Proofs.YtmgdciihpjifgaaGreatDoor.Utf
namespace Go.Proofs.YtmgdciihpjifgaaGreatDoor.Utf
theorem n192 : ∀ x : Fin 256, x.val &&& 192 = x.val / 64 * 64 := by decide +kernel
theorem u8_and192 (x : Nat) (h : x < 256) : bits .and .u8 (x : Int) 192 = ((x / 64 * 64 : Nat) : Int) := by
 have := u8_and_nat x 192 h (by omega)
 rw [← n192 ⟨x, h⟩]; exact this
theorem wrap_i64 (n : Int) : IntKind.i64.wrap n = (n + 9223372036854775808) % 18446744073709551616 - 9223372036854775808 := by simp [IntKind.wrap, IntKind.bits, IntKind.signed]; split <;> omega
theorem ofInt_i64 (a : Nat) (ha : a < 18446744073709551616) : (BitVec.ofInt 64 (a : Int)).toNat = a := ofInt_u64 a ha
theorem i64_or_nat (a b : Nat) (ha : a < 4611686018427387904) (hb : b < 4611686018427387904) : bits .or .i64 (a : Int) (b : Int) = ((a ||| b : Nat) : Int) := by
 have hx : a ||| b < 2 ^ 62 := Nat.or_lt_two_pow (by omega) (by omega)
 show IntKind.i64.wrap ((BitVec.ofInt 64 (a : Int) ||| BitVec.ofInt 64 (b : Int)).toNat : Int) = _
 rw [BitVec.toNat_or, ofInt_i64 a (by omega), ofInt_i64 b (by omega), wrap_i64]
 omega
theorem i64_or6 (a : Int) (y : Nat) (h0 : 0 ≤ a) (h : a < 4611686018427387) (hy : y < 64) : bits .or .i64 (a * 64) (y : Int) = a * 64 + (y : Int) := by
 obtain ⟨m, rfl⟩ := Int.eq_ofNat_of_zero_le h0
 have := i64_or_nat (m * 64) y (by omega) (by omega)
 rw [nat_join 6 (m * 64) y (by omega) (by omega)] at this
 rw [show ((m : Int) * 64) = ((m * 64 : Nat) : Int) from by omega, this]; omega
theorem join6 (R : Int) (x : Nat) (h0 : 0 ≤ R) (h : R < 33554432) : bits .or .i64 (R * 64) ((x : Int) % 64) = R * 64 + ((x % 64 : Nat) : Int) :=
 i64_or6 R (x % 64) h0 (by omega) (by omega)
theorem top2_yes (x : Nat) (hx : x < 256) (h : x / 64 = 2) : (bits .and .u8 (x : Int) 192 != 128) = false := by
 rw [u8_and192 x hx, h]; rfl
theorem top2_no (x : Nat) (hx : x < 256) (h : ¬ x / 64 = 2) : (bits .and .u8 (x : Int) 192 != 128) = true := by
 rw [u8_and192 x hx, bne_iff_ne]; omega
end Go.Proofs.YtmgdciihpjifgaaGreatDoor.Utf
namespace Go.Proofs.YtmgdciihpjifgaaGreatDoor
open Go.RowKit
theorem width_any (r : Int) (w : World) :
  Calls Tryz.prog 162 #[.int .i64 r] w fun e w' => e = .returned (.int .i64 (Utf.wd r)) ∧ w = w' := by
 have hz : r < 0 ∨ 1114111 < r ∨ (55296 ≤ r ∧ r ≤ 57343) → 0 = Utf.wd r := fun h => by unfold Utf.wd; rw [if_pos h]
 have h1 : 0 ≤ r → r ≤ 127 → 1 = Utf.wd r := fun a b => by unfold Utf.wd; (repeat' split) <;> omega
 have h2 : 127 < r → r ≤ 2047 → 2 = Utf.wd r := fun a b => by unfold Utf.wd; (repeat' split) <;> omega
 have h3 : 2047 < r → r ≤ 65535 → (r < 55296 ∨ 57343 < r) → 3 = Utf.wd r := fun a b c => by unfold Utf.wd; (repeat' split) <;> omega
 have h4 : 65535 < r → r ≤ 1114111 → 4 = Utf.wd r := fun a b => by unfold Utf.wd; (repeat' split) <;> omega
 have Hz := zh hz
 have H1 := zh h1
 have H2 := zh h2
 have H3 := zh h3
 have H4 := zh h4
 clear hz h1 h2 h3 h4
 go_enter Tryz.func162, Tryz.ntmps162
 go_wp2
 all_goals go_ret
 all_goals refine ⟨ret_int ?_, rfl⟩
 all_goals first | exact Hz.out (by omega) | exact H1.out (by omega) (by omega) | exact H2.out (by omega) (by omega) | exact H3.out (by omega) (by omega) (by omega) | exact H4.out (by omega) (by omega)
theorem lead_any (b : Int) (w : World) (h0 : 0 ≤ b) (h1 : b ≤ 255) :
  Calls Tryz.prog 152 #[.int .u8 b] w fun e w' => e = .returned (.tuple #[.int .i64 (Utf.ldr b), .int .i64 (Utf.ldw b)]) ∧ w = w' := by
 have g1 : b ≤ 127 → Utf.ldr b = b ∧ Utf.ldw b = 1 := fun a => by unfold Utf.ldr Utf.ldw; simp [a]
 have g2 : 127 < b → b < 192 → Utf.ldr b = 0 ∧ Utf.ldw b = 0 := fun a c => by unfold Utf.ldr Utf.ldw; constructor <;> (repeat' split) <;> omega
 have g3 : 192 ≤ b → b < 224 → Utf.ldr b = b - 192 ∧ Utf.ldw b = 2 := fun a c => by unfold Utf.ldr Utf.ldw; constructor <;> (repeat' split) <;> omega
 have g4 : 224 ≤ b → b < 240 → Utf.ldr b = b - 224 ∧ Utf.ldw b = 3 := fun a c => by unfold Utf.ldr Utf.ldw; constructor <;> (repeat' split) <;> omega
 have g5 : 240 ≤ b → Utf.ldr b = b - 240 ∧ Utf.ldw b = 4 := fun a => by unfold Utf.ldr Utf.ldw; constructor <;> (repeat' split) <;> omega
 have G1 := zh g1
 have G2 := zh g2
 have G3 := zh g3
 have G4 := zh g4
 have G5 := zh g5
 clear g1 g2 g3 g4 g5
 go_enter Tryz.func152, Tryz.ntmps152
 go_wp2
 all_goals go_ret2
 all_goals refine ⟨?_, rfl⟩
 ·exact ret_i2 (G1.out (by omega)).1.symm (G1.out (by omega)).2.symm
 ·exact ret_i2 (G2.out (by omega) (by omega)).1.symm (G2.out (by omega) (by omega)).2.symm
 ·exact ret_i2 (G3.out (by omega) (by omega)).1.symm (G3.out (by omega) (by omega)).2.symm
 ·exact ret_i2 (G4.out (by omega) (by omega)).1.symm (G4.out (by omega) (by omega)).2.symm
 ·exact ret_i2 (G5.out (by omega)).1.symm (G5.out (by omega)).2.symm
end Go.Proofs.YtmgdciihpjifgaaGreatDoor
namespace Go.Proofs.YtmgdciihpjifgaaGreatDoor
open Go.RowKit
theorem begins_11 (r : Int) (w : World) (h0 : 0 ≤ r) (h1 : r < 33554432) :
  Calls Tryz.prog 153 #[.int .i64 r, .int .i64 1, .int .i64 1] w fun e w' => e = .returned (.bool (Utf.bg r 1 1)) ∧ w = w' := by
 have hb : Utf.bg r 1 1 = (Utf.wd r == 1) := by simp [Utf.bg, Utf.pw, BEq.beq]
 have HB := zh hb
 clear hb
 cases hx : (Utf.wd r == 1)
 ·have HF := zh (show Utf.bg r 1 1 = false from by rw [HB.out, hx])
  go_enter Tryz.func153, Tryz.ntmps153
  go_wp2_with fail
  refine (width_any _ _).mono ?_
  rintro e w' ⟨rfl, rfl⟩
  go_wp2_with fail
  refine (width_any _ _).mono ?_
  rintro e w' ⟨rfl, rfl⟩
  go_wp2
  go_ret
  exact ⟨ret_bool HF.out.symm, rfl⟩
 ·have HF := zh (show Utf.bg r 1 1 = true from by rw [HB.out, hx])
  go_enter Tryz.func153, Tryz.ntmps153
  go_wp2_with fail
  refine (width_any _ _).mono ?_
  rintro e w' ⟨rfl, rfl⟩
  go_wp2
  go_ret
  exact ⟨ret_bool HF.out.symm, rfl⟩
theorem begins_21 (r : Int) (w : World) (h0 : 0 ≤ r) (h1 : r < 33554432) :
  Calls Tryz.prog 153 #[.int .i64 r, .int .i64 2, .int .i64 1] w fun e w' => e = .returned (.bool (Utf.bg r 2 1)) ∧ w = w' := by
 have hb : Utf.bg r 2 1 = ((Utf.wd (r * 64) == 2) || (Utf.wd (r * 64 + 64 - 1) == 2)) := by simp [Utf.bg, Utf.pw, BEq.beq]
 have HB := zh hb
 clear hb
 cases hx : (Utf.wd (r * 64) == 2)
 ·cases hy : (Utf.wd (r * 64 + 64 - 1) == 2)
  ·have HF := zh (show Utf.bg r 2 1 = false from by rw [HB.out, hx, hy]; rfl)
   go_enter Tryz.func153, Tryz.ntmps153
   go_wp2_with fail
   refine (width_any _ _).mono ?_
   rintro e w' ⟨rfl, rfl⟩
   go_wp2_with fail
   refine (width_any _ _).mono ?_
   rintro e w' ⟨rfl, rfl⟩
   go_wp2
   go_ret
   exact ⟨ret_bool HF.out.symm, rfl⟩
  ·have HF := zh (show Utf.bg r 2 1 = true from by rw [HB.out, hx, hy]; rfl)
   go_enter Tryz.func153, Tryz.ntmps153
   go_wp2_with fail
   refine (width_any _ _).mono ?_
   rintro e w' ⟨rfl, rfl⟩
   go_wp2_with fail
   refine (width_any _ _).mono ?_
   rintro e w' ⟨rfl, rfl⟩
   go_wp2
   go_ret
   exact ⟨ret_bool HF.out.symm, rfl⟩
 ·have HF := zh (show Utf.bg r 2 1 = true from by rw [HB.out, hx]; rfl)
  go_enter Tryz.func153, Tryz.ntmps153
  go_wp2_with fail
  refine (width_any _ _).mono ?_
  rintro e w' ⟨rfl, rfl⟩
  go_wp2
  go_ret
  exact ⟨ret_bool HF.out.symm, rfl⟩
theorem begins_22 (r : Int) (w : World) (h0 : 0 ≤ r) (h1 : r < 33554432) :
  Calls Tryz.prog 153 #[.int .i64 r, .int .i64 2, .int .i64 2] w fun e w' => e = .returned (.bool (Utf.bg r 2 2)) ∧ w = w' := by
 have hb : Utf.bg r 2 2 = (Utf.wd r == 2) := by simp [Utf.bg, Utf.pw, BEq.beq]
 have HB := zh hb
 clear hb
 cases hx : (Utf.wd r == 2)
 ·have HF := zh (show Utf.bg r 2 2 = false from by rw [HB.out, hx])
  go_enter Tryz.func153, Tryz.ntmps153
  go_wp2_with fail
  refine (width_any _ _).mono ?_
  rintro e w' ⟨rfl, rfl⟩
  go_wp2_with fail
  refine (width_any _ _).mono ?_
  rintro e w' ⟨rfl, rfl⟩
  go_wp2
  go_ret
  exact ⟨ret_bool HF.out.symm, rfl⟩
 ·have HF := zh (show Utf.bg r 2 2 = true from by rw [HB.out, hx])
  go_enter Tryz.func153, Tryz.ntmps153
  go_wp2_with fail
  refine (width_any _ _).mono ?_
  rintro e w' ⟨rfl, rfl⟩
  go_wp2
  go_ret
  exact ⟨ret_bool HF.out.symm, rfl⟩
theorem begins_31 (r : Int) (w : World) (h0 : 0 ≤ r) (h1 : r < 33554432) :
  Calls Tryz.prog 153 #[.int .i64 r, .int .i64 3, .int .i64 1] w fun e w' => e = .returned (.bool (Utf.bg r 3 1)) ∧ w = w' := by
 have hb : Utf.bg r 3 1 = ((Utf.wd (r * 4096) == 3) || (Utf.wd (r * 4096 + 4096 - 1) == 3)) := by simp [Utf.bg, Utf.pw, BEq.beq]
 have HB := zh hb
 clear hb
 cases hx : (Utf.wd (r * 4096) == 3)
 ·cases hy : (Utf.wd (r * 4096 + 4096 - 1) == 3)
  ·have HF := zh (show Utf.bg r 3 1 = false from by rw [HB.out, hx, hy]; rfl)
   go_enter Tryz.func153, Tryz.ntmps153
   go_wp2_with fail
   refine (width_any _ _).mono ?_
   rintro e w' ⟨rfl, rfl⟩
   go_wp2_with fail
   refine (width_any _ _).mono ?_
   rintro e w' ⟨rfl, rfl⟩
   go_wp2
   go_ret
   exact ⟨ret_bool HF.out.symm, rfl⟩
  ·have HF := zh (show Utf.bg r 3 1 = true from by rw [HB.out, hx, hy]; rfl)
   go_enter Tryz.func153, Tryz.ntmps153
   go_wp2_with fail
   refine (width_any _ _).mono ?_
   rintro e w' ⟨rfl, rfl⟩
   go_wp2_with fail
   refine (width_any _ _).mono ?_
   rintro e w' ⟨rfl, rfl⟩
   go_wp2
   go_ret
   exact ⟨ret_bool HF.out.symm, rfl⟩
 ·have HF := zh (show Utf.bg r 3 1 = true from by rw [HB.out, hx]; rfl)
  go_enter Tryz.func153, Tryz.ntmps153
  go_wp2_with fail
  refine (width_any _ _).mono ?_
  rintro e w' ⟨rfl, rfl⟩
  go_wp2
  go_ret
  exact ⟨ret_bool HF.out.symm, rfl⟩
theorem begins_32 (r : Int) (w : World) (h0 : 0 ≤ r) (h1 : r < 33554432) :
  Calls Tryz.prog 153 #[.int .i64 r, .int .i64 3, .int .i64 2] w fun e w' => e = .returned (.bool (Utf.bg r 3 2)) ∧ w = w' := by
 have hb : Utf.bg r 3 2 = ((Utf.wd (r * 64) == 3) || (Utf.wd (r * 64 + 64 - 1) == 3)) := by simp [Utf.bg, Utf.pw, BEq.beq]
 have HB := zh hb
 clear hb
 cases hx : (Utf.wd (r * 64) == 3)
 ·cases hy : (Utf.wd (r * 64 + 64 - 1) == 3)
  ·have HF := zh (show Utf.bg r 3 2 = false from by rw [HB.out, hx, hy]; rfl)
   go_enter Tryz.func153, Tryz.ntmps153
   go_wp2_with fail
   refine (width_any _ _).mono ?_
   rintro e w' ⟨rfl, rfl⟩
   go_wp2_with fail
   refine (width_any _ _).mono ?_
   rintro e w' ⟨rfl, rfl⟩
   go_wp2
   go_ret
   exact ⟨ret_bool HF.out.symm, rfl⟩
  ·have HF := zh (show Utf.bg r 3 2 = true from by rw [HB.out, hx, hy]; rfl)
   go_enter Tryz.func153, Tryz.ntmps153
   go_wp2_with fail
   refine (width_any _ _).mono ?_
   rintro e w' ⟨rfl, rfl⟩
   go_wp2_with fail
   refine (width_any _ _).mono ?_
   rintro e w' ⟨rfl, rfl⟩
   go_wp2
   go_ret
   exact ⟨ret_bool HF.out.symm, rfl⟩
 ·have HF := zh (show Utf.bg r 3 2 = true from by rw [HB.out, hx]; rfl)
  go_enter Tryz.func153, Tryz.ntmps153
  go_wp2_with fail
  refine (width_any _ _).mono ?_
  rintro e w' ⟨rfl, rfl⟩
  go_wp2
  go_ret
  exact ⟨ret_bool HF.out.symm, rfl⟩
theorem begins_33 (r : Int) (w : World) (h0 : 0 ≤ r) (h1 : r < 33554432) :
  Calls Tryz.prog 153 #[.int .i64 r, .int .i64 3, .int .i64 3] w fun e w' => e = .returned (.bool (Utf.bg r 3 3)) ∧ w = w' := by
 have hb : Utf.bg r 3 3 = (Utf.wd r == 3) := by simp [Utf.bg, Utf.pw, BEq.beq]
 have HB := zh hb
 clear hb
 cases hx : (Utf.wd r == 3)
 ·have HF := zh (show Utf.bg r 3 3 = false from by rw [HB.out, hx])
  go_enter Tryz.func153, Tryz.ntmps153
  go_wp2_with fail
  refine (width_any _ _).mono ?_
  rintro e w' ⟨rfl, rfl⟩
  go_wp2_with fail
  refine (width_any _ _).mono ?_
  rintro e w' ⟨rfl, rfl⟩
  go_wp2
  go_ret
  exact ⟨ret_bool HF.out.symm, rfl⟩
 ·have HF := zh (show Utf.bg r 3 3 = true from by rw [HB.out, hx])
  go_enter Tryz.func153, Tryz.ntmps153
  go_wp2_with fail
  refine (width_any _ _).mono ?_
  rintro e w' ⟨rfl, rfl⟩
  go_wp2
  go_ret
  exact ⟨ret_bool HF.out.symm, rfl⟩
theorem begins_41 (r : Int) (w : World) (h0 : 0 ≤ r) (h1 : r < 33554432) :
  Calls Tryz.prog 153 #[.int .i64 r, .int .i64 4, .int .i64 1] w fun e w' => e = .returned (.bool (Utf.bg r 4 1)) ∧ w = w' := by
 have hb : Utf.bg r 4 1 = ((Utf.wd (r * 262144) == 4) || (Utf.wd (r * 262144 + 262144 - 1) == 4)) := by simp [Utf.bg, Utf.pw, BEq.beq]
 have HB := zh hb
 clear hb
 cases hx : (Utf.wd (r * 262144) == 4)
 ·cases hy : (Utf.wd (r * 262144 + 262144 - 1) == 4)
  ·have HF := zh (show Utf.bg r 4 1 = false from by rw [HB.out, hx, hy]; rfl)
   go_enter Tryz.func153, Tryz.ntmps153
   go_wp2_with fail
   refine (width_any _ _).mono ?_
   rintro e w' ⟨rfl, rfl⟩
   go_wp2_with fail
   refine (width_any _ _).mono ?_
   rintro e w' ⟨rfl, rfl⟩
   go_wp2
   go_ret
   exact ⟨ret_bool HF.out.symm, rfl⟩
  ·have HF := zh (show Utf.bg r 4 1 = true from by rw [HB.out, hx, hy]; rfl)
   go_enter Tryz.func153, Tryz.ntmps153
   go_wp2_with fail
   refine (width_any _ _).mono ?_
   rintro e w' ⟨rfl, rfl⟩
   go_wp2_with fail
   refine (width_any _ _).mono ?_
   rintro e w' ⟨rfl, rfl⟩
   go_wp2
   go_ret
   exact ⟨ret_bool HF.out.symm, rfl⟩
 ·have HF := zh (show Utf.bg r 4 1 = true from by rw [HB.out, hx]; rfl)
  go_enter Tryz.func153, Tryz.ntmps153
  go_wp2_with fail
  refine (width_any _ _).mono ?_
  rintro e w' ⟨rfl, rfl⟩
  go_wp2
  go_ret
  exact ⟨ret_bool HF.out.symm, rfl⟩
theorem begins_42 (r : Int) (w : World) (h0 : 0 ≤ r) (h1 : r < 33554432) :
  Calls Tryz.prog 153 #[.int .i64 r, .int .i64 4, .int .i64 2] w fun e w' => e = .returned (.bool (Utf.bg r 4 2)) ∧ w = w' := by
 have hb : Utf.bg r 4 2 = ((Utf.wd (r * 4096) == 4) || (Utf.wd (r * 4096 + 4096 - 1) == 4)) := by simp [Utf.bg, Utf.pw, BEq.beq]
 have HB := zh hb
 clear hb
 cases hx : (Utf.wd (r * 4096) == 4)
 ·cases hy : (Utf.wd (r * 4096 + 4096 - 1) == 4)
  ·have HF := zh (show Utf.bg r 4 2 = false from by rw [HB.out, hx, hy]; rfl)
   go_enter Tryz.func153, Tryz.ntmps153
   go_wp2_with fail
   refine (width_any _ _).mono ?_
   rintro e w' ⟨rfl, rfl⟩
   go_wp2_with fail
   refine (width_any _ _).mono ?_
   rintro e w' ⟨rfl, rfl⟩
   go_wp2
   go_ret
   exact ⟨ret_bool HF.out.symm, rfl⟩
  ·have HF := zh (show Utf.bg r 4 2 = true from by rw [HB.out, hx, hy]; rfl)
   go_enter Tryz.func153, Tryz.ntmps153
   go_wp2_with fail
   refine (width_any _ _).mono ?_
   rintro e w' ⟨rfl, rfl⟩
   go_wp2_with fail
   refine (width_any _ _).mono ?_
   rintro e w' ⟨rfl, rfl⟩
   go_wp2
   go_ret
   exact ⟨ret_bool HF.out.symm, rfl⟩
 ·have HF := zh (show Utf.bg r 4 2 = true from by rw [HB.out, hx]; rfl)
  go_enter Tryz.func153, Tryz.ntmps153
  go_wp2_with fail
  refine (width_any _ _).mono ?_
  rintro e w' ⟨rfl, rfl⟩
  go_wp2
  go_ret
  exact ⟨ret_bool HF.out.symm, rfl⟩
theorem begins_43 (r : Int) (w : World) (h0 : 0 ≤ r) (h1 : r < 33554432) :
  Calls Tryz.prog 153 #[.int .i64 r, .int .i64 4, .int .i64 3] w fun e w' => e = .returned (.bool (Utf.bg r 4 3)) ∧ w = w' := by
 have hb : Utf.bg r 4 3 = ((Utf.wd (r * 64) == 4) || (Utf.wd (r * 64 + 64 - 1) == 4)) := by simp [Utf.bg, Utf.pw, BEq.beq]
 have HB := zh hb
 clear hb
 cases hx : (Utf.wd (r * 64) == 4)
 ·cases hy : (Utf.wd (r * 64 + 64 - 1) == 4)
  ·have HF := zh (show Utf.bg r 4 3 = false from by rw [HB.out, hx, hy]; rfl)
   go_enter Tryz.func153, Tryz.ntmps153
   go_wp2_with fail
   refine (width_any _ _).mono ?_
   rintro e w' ⟨rfl, rfl⟩
   go_wp2_with fail
   refine (width_any _ _).mono ?_
   rintro e w' ⟨rfl, rfl⟩
   go_wp2
   go_ret
   exact ⟨ret_bool HF.out.symm, rfl⟩
  ·have HF := zh (show Utf.bg r 4 3 = true from by rw [HB.out, hx, hy]; rfl)
   go_enter Tryz.func153, Tryz.ntmps153
   go_wp2_with fail
   refine (width_any _ _).mono ?_
   rintro e w' ⟨rfl, rfl⟩
   go_wp2_with fail
   refine (width_any _ _).mono ?_
   rintro e w' ⟨rfl, rfl⟩
   go_wp2
   go_ret
   exact ⟨ret_bool HF.out.symm, rfl⟩
 ·have HF := zh (show Utf.bg r 4 3 = true from by rw [HB.out, hx]; rfl)
  go_enter Tryz.func153, Tryz.ntmps153
  go_wp2_with fail
  refine (width_any _ _).mono ?_
  rintro e w' ⟨rfl, rfl⟩
  go_wp2
  go_ret
  exact ⟨ret_bool HF.out.symm, rfl⟩
theorem begins_44 (r : Int) (w : World) (h0 : 0 ≤ r) (h1 : r < 33554432) :
  Calls Tryz.prog 153 #[.int .i64 r, .int .i64 4, .int .i64 4] w fun e w' => e = .returned (.bool (Utf.bg r 4 4)) ∧ w = w' := by
 have hb : Utf.bg r 4 4 = (Utf.wd r == 4) := by simp [Utf.bg, Utf.pw, BEq.beq]
 have HB := zh hb
 clear hb
 cases hx : (Utf.wd r == 4)
 ·have HF := zh (show Utf.bg r 4 4 = false from by rw [HB.out, hx])
  go_enter Tryz.func153, Tryz.ntmps153
  go_wp2_with fail
  refine (width_any _ _).mono ?_
  rintro e w' ⟨rfl, rfl⟩
  go_wp2_with fail
  refine (width_any _ _).mono ?_
  rintro e w' ⟨rfl, rfl⟩
  go_wp2
  go_ret
  exact ⟨ret_bool HF.out.symm, rfl⟩
 ·have HF := zh (show Utf.bg r 4 4 = true from by rw [HB.out, hx])
  go_enter Tryz.func153, Tryz.ntmps153
  go_wp2_with fail
  refine (width_any _ _).mono ?_
  rintro e w' ⟨rfl, rfl⟩
  go_wp2
  go_ret
  exact ⟨ret_bool HF.out.symm, rfl⟩
theorem begins_0 (r k : Int) (w : World) :
  Calls Tryz.prog 153 #[.int .i64 r, .int .i64 0, .int .i64 k] w fun e w' => e = .returned (.bool (Utf.bg r 0 k)) ∧ w = w' := by
 have HF := zh (show Utf.bg r 0 k = false from rfl)
 go_enter Tryz.func153, Tryz.ntmps153
 go_wp2
 go_ret
 exact ⟨ret_bool HF.out.symm, rfl⟩
theorem begins_any (r n k : Int) (w : World) (h0 : 0 ≤ r) (h1 : r < 33554432) (h2 : 1 ≤ k) (h3 : n = 0 ∨ k ≤ n) (h4 : n ≤ 4) :
  Calls Tryz.prog 153 #[.int .i64 r, .int .i64 n, .int .i64 k] w fun e w' => e = .returned (.bool (Utf.bg r n k)) ∧ w = w' := by
 have h : n = 0 ∨ (n = 1 ∧ k = 1) ∨ (n = 2 ∧ k = 1) ∨ (n = 2 ∧ k = 2) ∨ (n = 3 ∧ k = 1) ∨ (n = 3 ∧ k = 2) ∨ (n = 3 ∧ k = 3) ∨ (n = 4 ∧ k = 1) ∨ (n = 4 ∧ k = 2) ∨ (n = 4 ∧ k = 3) ∨ (n = 4 ∧ k = 4) := by omega
 rcases h with rfl | ⟨rfl, rfl⟩ | ⟨rfl, rfl⟩ | ⟨rfl, rfl⟩ | ⟨rfl, rfl⟩ | ⟨rfl, rfl⟩ | ⟨rfl, rfl⟩ | ⟨rfl, rfl⟩ | ⟨rfl, rfl⟩ | ⟨rfl, rfl⟩ | ⟨rfl, rfl⟩
 ·exact begins_0 r k w
 ·exact begins_11 r w h0 h1
 ·exact begins_21 r w h0 h1
 ·exact begins_22 r w h0 h1
 ·exact begins_31 r w h0 h1
 ·exact begins_32 r w h0 h1
 ·exact begins_33 r w h0 h1
 ·exact begins_41 r w h0 h1
 ·exact begins_42 r w h0 h1
 ·exact begins_43 r w h0 h1
 ·exact begins_44 r w h0 h1
end Go.Proofs.YtmgdciihpjifgaaGreatDoor
namespace Go.Proofs.YtmgdciihpjifgaaGreatDoor
open Go.RowKit
def Bd (k : Nat) (R : Int) : Prop := 0 ≤ R ∧ ((k = 1 ∧ R < 128) ∨ (k = 2 ∧ R < 8192) ∨ (k = 3 ∧ R < 524288) ∨ (k = 4 ∧ R < 33554432))
theorem ldr_bd (b : Int) (h0 : 0 ≤ b) (h1 : b ≤ 255) : Bd 1 (Utf.ldr b) := by
 unfold Bd Utf.ldr
 (repeat' split) <;> omega
theorem byte_at (l : List UInt8) (k : Nat) (h' : k < l.length) (h : k < (ByteArray.mk l.toArray).size := h') : (ByteArray.mk l.toArray)[k] = l[k] := by
 show (l.toArray)[k] = _
 simp
theorem next_some (c : UInt8) (t : List UInt8) (w : World) :
  Calls Tryz.prog 135 #[.string ⟨(c :: t).toArray⟩] w fun e w' => e = .returned (.tuple #[.int .i64 (Utf.nx (c :: t)).1, .int .i64 (Utf.nx (c :: t)).2.1, .int .i64 (Utf.nx (c :: t)).2.2]) ∧ w = w' := by
 have hc0 : 0 ≤ (c.toNat : Int) := by omega
 have hc1 : (c.toNat : Int) ≤ 255 := by have := c.toNat_lt; omega
 have hnx := zh (show Utf.nx (c :: t) = Utf.run (c :: t) (Utf.ldw c.toNat) 4 (Utf.ldr c.toNat) 1 from rfl)
 have hw := Utf.ldw_cases c.toNat
 have hn0 : 0 ≤ Utf.ldw c.toNat := by omega
 have hn4 : Utf.ldw c.toNat ≤ 4 := by omega
 have hr := zh (ldr_bd c.toNat hc0 hc1)
 clear hw
 go_enter Tryz.func135, Tryz.ntmps135
 go_wp2
 go_step3
 go_wp2_with fail
 refine (lead_any (c.toNat : Int) _ hc0 hc1).mono ?_
 rintro e w' ⟨rfl, rfl⟩
 generalize Utf.ldw (c.toNat : Int) = n at *
 generalize Utf.ldr (c.toNat : Int) = r0 at *
 go_wp2_with fail
 go_step3
 go_wp2_with fail
 go_loop [5, 7, 8] (fun r er a => ∃ (R : Int) (k f : Nat), r = .int .i64 R ∧ er = .int .i64 0 ∧ a = .int .i64 k ∧ Bd k R ∧ (n = 0 ∨ (k : Int) ≤ n) ∧ k ≤ t.length + 1 ∧ f + k = 5 ∧ Utf.run (c :: t) n f R k = Utf.nx (c :: t)) (fun _ _ a => 5 - (intOf a).toNat)
 case atStart => exact ⟨r0, 1, 4, rfl, rfl, rfl, hr.out, by omega, by omega, by omega, hnx.out.symm⟩
 case round =>
  obtain ⟨R, k, f, rfl, rfl, rfl, hb, hkn, hkl, hf, hrun⟩ := hrel
  have Hrun := zh hrun
  clear hrun hnx hr
  obtain ⟨hR0, hRk⟩ := hb
  have hR1 : R < 33554432 := by omega
  have hk1 : 1 ≤ k := by omega
  have hk4 : k ≤ 4 := by omega
  go_wp2_with fail
  refine (begins_any R n k _ hR0 hR1 (by omega) hkn hn4).mono ?_
  rintro e w' ⟨rfl, rfl⟩
  cases hbg : Utf.bg R n k
  ·have Hres := zh (Hrun.out.symm.trans (Utf.run_bad _ _ _ _ _ (by omega) hbg))
   clear Hrun
   go_wp2
   rw [Exit.noGoto_ret]
   go_ret3
   rw [Hres.out]
   exact ⟨rfl, rfl⟩
  have hnz : n ≠ 0 := by rintro rfl; cases hbg
  by_cases hkn' : (k : Int) = n
  ·have Hres := zh (Hrun.out.symm.trans (Utf.run_end _ _ _ _ _ (by omega) hbg hkn'))
   have hq : ((k : Int) == n) = true := beq_iff_eq.2 hkn'
   clear Hrun hkn'
   go_wp2
   rw [Exit.noGoto_ret]
   go_ret3
   rw [Hres.out]
   exact ⟨rfl, rfl⟩
  have hq : ((k : Int) == n) = false := beq_eq_false_iff_ne.2 hkn'
  by_cases hkt : k = t.length + 1
  ·have Hres := zh (Hrun.out.symm.trans (Utf.run_short _ _ _ _ _ (by omega) hbg hkn' (by simp; omega)))
   have hq2 : ((k : Int) == (t.length : Int) + 1) = true := beq_iff_eq.2 (by omega)
   clear Hrun hkn' hkt
   go_wp2
   rw [Exit.noGoto_ret]
   go_ret3
   rw [Hres.out]
   exact ⟨rfl, rfl⟩
  have hq2 : ((k : Int) == (t.length : Int) + 1) = false := beq_eq_false_iff_ne.2 (by omega)
  have hlt : (k : Int) < (t.length : Int) + 1 := by omega
  have hlen : k < (c :: t).length := by simp; omega
  have hsz : k < (ByteArray.mk (c :: t).toArray).size := hlen
  have hba : (ByteArray.mk (c :: t).toArray)[k] = (c :: t)[k] := byte_at (c :: t) k hlen
  have hx : (ByteArray.mk (c :: t).toArray)[k].toNat < 256 := (ByteArray.mk (c :: t).toArray)[k].toNat_lt
  by_cases h2 : (c :: t)[k].toNat / 64 = 2
  ·have hres : Utf.nx (c :: t) = Utf.run (c :: t) n (f - 1) (R * 64 + ((ByteArray.mk (c :: t).toArray)[k].toNat % 64 : Nat)) (k + 1) := by
    rw [← Hrun.out, hba, show f = (f - 1) + 1 from by omega]
    exact Utf.run_more _ _ _ _ _ hbg hkn' hlen h2
   have hj := Utf.join6 R (ByteArray.mk (c :: t).toArray)[k].toNat hR0 hR1
   have hm := Utf.top2_yes _ hx (by rw [hba]; exact h2)
   have Hres := zh hres
   have Hj := zh hj
   clear Hrun hba hres hj h2
   go_wp2_with fail
   go_round
   case rel => exact ⟨_, k + 1, f - 1, congrArg (Value.int .i64) Hj.out, rfl, by go_num, ⟨by omega, by omega⟩, by omega, by omega, by omega, Hres.out.symm⟩
   case measure => simp [intOf]; omega
  ·have hres : Utf.nx (c :: t) = (0, 0, 7) := by
    rw [← Hrun.out]
    exact Utf.run_text _ _ _ _ _ (by omega) hbg hkn' hlen h2
   have hm := Utf.top2_no _ hx (by rw [hba]; exact h2)
   have Hres := zh hres
   clear Hrun hba hres h2
   go_wp2
   rw [Exit.noGoto_ret]
   go_ret3
   rw [Hres.out]
   exact ⟨rfl, rfl⟩
theorem next_none (w : World) :
  Calls Tryz.prog 135 #[.string ⟨([] : List UInt8).toArray⟩] w fun e w' => e = .returned (.tuple #[.int .i64 0, .int .i64 0, .int .i64 3]) ∧ w = w' := by
 go_enter Tryz.func135, Tryz.ntmps135
 go_wp2
 go_step3
 go_wp2
 rw [Exit.noGoto_ret]
 go_ret3
 exact ⟨rfl, rfl⟩
theorem next_any (l : List UInt8) (w : World) :
  Calls Tryz.prog 135 #[.string ⟨l.toArray⟩] w fun e w' => e = .returned (.tuple #[.int .i64 (Utf.nx l).1, .int .i64 (Utf.nx l).2.1, .int .i64 (Utf.nx l).2.2]) ∧ w = w' := by
 cases l with
 | nil => exact next_none w
 | cons c t => exact next_some c t w
theorem next_is (l : List UInt8) (q n e : Int) (w : World) (h : Utf.nx l = (q, n, e)) :
  Calls Tryz.prog 135 #[.string ⟨l.toArray⟩] w fun x w' => x = .returned (.tuple #[.int .i64 q, .int .i64 n, .int .i64 e]) ∧ w = w' := by
 have := next_any l w
 rw [h] at this
 exact this
end Go.Proofs.YtmgdciihpjifgaaGreatDoor
namespace Go.Proofs.YtmgdciihpjifgaaGreatDoor
open Go.RowKit
def slen : Value → Nat
 | .string b => b.size
 | _ => 0
theorem nx_nat (m : List UInt8) : (∃ (q : Int) (n : Nat), Utf.nx m = (q, (n : Int), 0) ∧ 1 ≤ n ∧ n ≤ 4 ∧ n ≤ m.length) ∨ (∃ e : Int, Utf.nx m = (0, 0, e) ∧ (e = 3 ∨ e = 7)) := by
 rcases Utf.nx_err m with h | h | h
 ·have := Utf.nx_split m h
  exact .inl ⟨(Utf.nx m).1, (Utf.nx m).2.1.toNat, by rw [this.2.2.2.1, ← h], this.1, this.2.1, this.2.2.1⟩
 ·exact .inr ⟨3, h, .inl rfl⟩
 ·exact .inr ⟨7, h, .inr rfl⟩
theorem cut_from (l : List UInt8) (n : Nat) : (ByteArray.mk l.toArray).extract n l.length = ⟨(l.drop n).toArray⟩ := by
 apply ByteArray.ext
 rw [ByteArray.data_extract]
 simp
 exact List.take_of_length_le (by simp)
theorem cn_start (l : List UInt8) : Utf.cn l = if Utf.cn l < 0 then -1 else Utf.cn l + ((0 : Nat) : Int) := by
 have := Utf.cn_ge l.length l (Nat.le_refl _)
 split <;> omega
theorem cn_step (l m : List UInt8) (j n : Nat) (q : Int) (h : Utf.nx m = (q, (n : Int), 0)) (hc : Utf.cn l = if Utf.cn m < 0 then -1 else Utf.cn m + (j : Int)) :
  Utf.cn l = if Utf.cn (m.drop n) < 0 then -1 else Utf.cn (m.drop n) + ((j + 1 : Nat) : Int) := by
 rw [Utf.cn_ok m (by rw [h]), h] at hc
 simp only [Int.toNat_natCast] at hc
 rw [hc]
 by_cases hd : Utf.cn (m.drop n) < 0
 ·simp [hd]
 ·have h0 : ¬ Utf.cn (m.drop n) + 1 < 0 := by omega
  simp only [hd, if_false, h0]
  omega
theorem count_any (l : List UInt8) (w : World) (hs : l.length ≤ maxLen) :
  Calls Tryz.prog 120 #[.string ⟨l.toArray⟩] w fun e w' => e = .returned (.int .i64 (Utf.cn l)) ∧ w = w' := by
 unfold maxLen at hs
 go_enter Tryz.func120, Tryz.ntmps120
 go_wp2
 go_loop [0, 3] (fun s c => ∃ (m : List UInt8) (j : Nat), s = .string ⟨m.toArray⟩ ∧ c = .int .i64 j ∧ j + m.length ≤ l.length ∧ Utf.cn l = if Utf.cn m < 0 then -1 else Utf.cn m + (j : Int)) (fun s _ => slen s)
 case atStart => exact ⟨l, 0, rfl, rfl, by omega, cn_start l⟩
 case round =>
  obtain ⟨m, j, rfl, rfl, hj, hc⟩ := hrel
  have Hc := zh hc
  clear hc
  cases m with
  | nil =>
   have He := zh (show Utf.cn l = (j : Int) from by rw [Hc.out, Utf.cn_nil]; simp)
   go_wp2
   go_ret
   exact ⟨ret_int He.out.symm, rfl⟩
  | cons c t =>
   rcases nx_nat (c :: t) with ⟨q, n, h, h1, h4, hl⟩ | ⟨e, h, he⟩
   ·have H := zh h
    have Hs := zh (cn_step l (c :: t) j n q h Hc.out)
    have Hx := zh (cut_from (c :: t) n)
    have hd : ((c :: t).drop n).length = (c :: t).length - n := List.length_drop
    have Hd := zh hd
    have hl' : (n : Int) ≤ (t.length : Int) + 1 := by simp at hl; omega
    have hj' : (j : Int) + 1 ≤ (l.length : Int) := by simp at hj; omega
    clear h hd
    go_wp2_with fail
    refine (next_is _ _ _ _ _ H.out).mono ?_
    rintro e w' ⟨rfl, rfl⟩
    go_wp2_with fail
    go_round
    case rel => exact ⟨(c :: t).drop n, j + 1, congrArg Value.string Hx.out, by go_num, by have := Hd.out; omega, Hs.out⟩
    case measure =>
     show ((ByteArray.mk (c :: t).toArray).extract n (t.length + 1)).size < (ByteArray.mk (c :: t).toArray).size
     rw [show t.length + 1 = (c :: t).length from rfl, Hx.out]
     show ((c :: t).drop n).toArray.size < (c :: t).toArray.size
     rw [List.size_toArray, List.size_toArray, Hd.out]
     simp only [List.length_cons]
     omega
   ·have H := zh h
    have Hn := zh (show Utf.cn l = -1 from by rw [Hc.out, Utf.cn_no (c :: t) (by simp) (by rw [h]; show ¬ e = 0; omega)]; rfl)
    have hne : (e != 0) = true := by rw [bne_iff_ne]; omega
    clear h he
    go_wp2_with fail
    refine (next_is _ _ _ _ _ H.out).mono ?_
    rintro e w' ⟨rfl, rfl⟩
    go_wp2
    go_ret
    exact ⟨ret_int Hn.out.symm, rfl⟩
def vd (l : List UInt8) : Bool := decide (0 ≤ Utf.cn l)
theorem valid_any (l : List UInt8) (w : World) (hs : l.length ≤ maxLen) :
  Calls Tryz.prog 99 #[.string ⟨l.toArray⟩] w fun e w' => e = .returned (.bool (vd l)) ∧ w = w' := by
 go_enter Tryz.func99, Tryz.ntmps99
 go_wp2_with fail
 refine (count_any _ _ hs).mono ?_
 rintro e w' ⟨rfl, rfl⟩
 go_wp2
 go_ret
 exact ⟨rfl, rfl⟩
end Go.Proofs.YtmgdciihpjifgaaGreatDoor
