/-
  Numbers as digits, and values as values of another kind, as plain mathematics: which number a text is, what a value becomes; that digits are read back as the number, whatever their number was. Conditions: the bounds named in each theorem.
-/
import Derived.Test.YtdonmbmahcjfbaaGreatDoorVlSame
import Derived.Test.YtdonmbmahcjfbaaGreatDoorRealsNum
import Derived.Test.YtdonmbmahcjfbaaGreatDoorKcPutNum
import Derived.Lib.AtoiAll
import Derived.Lib.AtoiTie
import Derived.Lib.ItoaNum
namespace Go.Proofs.YtdonmbmahcjfbaaGreatDoor.Km.Cv
open Go Go.RowKit

/-- An int. -/
def I (n : Int) : Prop := -9223372036854775808 ≤ n ∧ n < 9223372036854775808

/-- The number whose digits s is. -/
def num (s : List UInt8) : Option Int := match Lib.atoiAll s with | .ok v => if Lib.itoa v = s then some v else none | _ => none
def ne (s : List UInt8) : Int := if (num s).isSome then 0 else 7

theorem dec_small {u : Nat} (h : u < 10) : Lib.decDigits u = [UInt8.ofNat (48 + u)] := by rw [Lib.decDigits, dif_pos h]
theorem dec_big {u : Nat} (h : ¬ u < 10) : Lib.decDigits u = Lib.decDigits (u / 10) ++ [UInt8.ofNat (48 + u % 10)] := by rw [Lib.decDigits, dif_neg h]
theorem dig_nat (d : Nat) (h : d < 10) : (UInt8.ofNat (48 + d)).toNat = 48 + d := by rw [UInt8.toNat_ofNat']; omega

/-- Digits are read as the number. -/
theorem parse_dec (u : Nat) : u < 18446744073709551616 → ∀ r, Lib.parseUint10 0 (Lib.decDigits u ++ r) = Lib.parseUint10 u r := by
  induction u using Nat.strongRecOn with
  | ind u ih =>
    intro h r
    by_cases g : u < 10
    · rw [dec_small g, List.singleton_append, Lib.parseUint10, dig_nat u g, if_pos (by omega), if_neg (by omega), if_neg (by omega)]
      congr 1; omega
    · rw [dec_big g, List.append_assoc, ih (u / 10) (by omega) (by omega), List.singleton_append, Lib.parseUint10, dig_nat _ (by omega), if_pos (by omega), if_neg (by omega), if_neg (by omega)]
      congr 1; omega

theorem dec_ne (u : Nat) : Lib.decDigits u ≠ [] := by
  by_cases g : u < 10
  · rw [dec_small g]; simp
  · rw [dec_big g]; simp
theorem dec_all (u : Nat) : ∀ c ∈ Lib.decDigits u, 48 ≤ c.toNat ∧ c.toNat ≤ 57 := by
  induction u using Nat.strongRecOn with
  | ind u ih =>
    intro c hc
    by_cases g : u < 10
    · rw [dec_small g, List.mem_singleton] at hc
      rw [hc, dig_nat u g]; omega
    · rw [dec_big g, List.mem_append, List.mem_singleton] at hc
      rcases hc with hc | hc
      · exact ih (u / 10) (by omega) c hc
      · rw [hc, dig_nat _ (by omega)]; omega
theorem dec_len : ∀ (k u : Nat), u < 10 ^ (k + 1) → (Lib.decDigits u).length ≤ k + 1
  | 0, u, h => by rw [dec_small (by simpa using h)]; simp
  | k + 1, u, h => by
    by_cases g : u < 10
    · rw [dec_small g]; simp
    · rw [dec_big g, List.length_append]
      have := dec_len k (u / 10) (by rw [Nat.pow_succ] at h; omega)
      simp only [List.length_singleton]; omega

theorem mag_dec (u : Nat) (h : u < 18446744073709551616) : Lib.parseMag (Lib.decDigits u) = .ok u := by
  unfold Lib.parseMag
  rw [if_neg (dec_ne u)]
  have := parse_dec u h []
  rwa [List.append_nil] at this

theorem atoi_itoa (n : Int) (h : I n) : Lib.atoiAll (Lib.itoa n) = .ok n := by
  unfold I at h
  by_cases g : n < 0
  · have e : Lib.itoa n = 45 :: Lib.decDigits n.natAbs := by unfold Lib.itoa; rw [if_pos g]
    rw [e]
    unfold Lib.atoiAll
    simp only [show (45 : UInt8).toNat = 45 from rfl, or_true, if_true, mag_dec n.natAbs (by omega)]
    rw [if_neg (by simp), if_neg (by simp; omega)]
    congr 1; omega
  · have e : Lib.itoa n = Lib.decDigits n.toNat := by unfold Lib.itoa; rw [if_neg g]
    rw [e]
    have hd := dec_all n.toNat
    have hm := mag_dec n.toNat (by omega)
    revert hd hm
    cases hl : Lib.decDigits n.toNat with
    | nil => exact absurd hl (dec_ne _)
    | cons c r =>
      intro hd hm
      have hc := hd c List.mem_cons_self
      unfold Lib.atoiAll
      dsimp only
      rw [if_neg (show ¬ (c.toNat = 43 ∨ c.toNat = 45) by omega), hm]
      dsimp only
      rw [if_neg (by omega), if_neg (by omega), if_neg (by omega)]
      congr 1; omega

theorem num_itoa (n : Int) (h : I n) : num (Lib.itoa n) = some n := by
  unfold num; rw [atoi_itoa n h]; simp

theorem atoi_I {s : List UInt8} {v : Int} (h : Lib.atoiAll s = .ok v) : I v := by
  unfold Lib.atoiAll at h
  split at h
  · cases h
  · rename_i c r
    dsimp only at h
    split at h
    · cases h
    · cases h
    · rename_i u hu
      unfold I
      by_cases q : c.toNat = 45
      · simp only [q, not_true_eq_false, false_and, if_false, true_and, if_true] at h
        split at h
        · cases h
        · injection h with h; omega
      · simp only [q, not_false_eq_true, true_and, false_and, if_false] at h
        split at h
        · cases h
        · injection h with h; omega

theorem num_some {s : List UInt8} {v : Int} (h : num s = some v) : Lib.itoa v = s ∧ I v := by
  unfold num at h
  split at h
  · rename_i u hu
    split at h
    · rename_i e
      obtain rfl : u = v := Option.some.inj h
      exact ⟨e, atoi_I hu⟩
    · cases h
  · cases h

theorem num_is {s : List UInt8} {n : Int} (h : I n) (e : Lib.itoa n = s) : num s = some n := by rw [← e]; exact num_itoa n h
theorem itoa_len (n : Int) (h : I n) : (Lib.itoa n).length ≤ 20 := by
  unfold I at h
  unfold Lib.itoa
  split
  · have := dec_len 18 n.natAbs (by have : (10 : Nat) ^ (18 + 1) = 10000000000000000000 := by decide
                                    omega)
    simp only [List.length_cons]; omega
  · have := dec_len 18 n.toNat (by have : (10 : Nat) ^ (18 + 1) = 10000000000000000000 := by decide
                                   omega)
    omega

/-- What the digits' own loop reckons, going round at 64 bits. -/
def wv (a : Int) : List UInt8 → Int
  | [] => a
  | c :: r => wv (wrap64 (wrap64 (wrap64 (a * 10) + (c.toNat : Int)) - 48)) r
/-- Does s begin with -? -/
def mi (s : List UInt8) : Bool := match s with | c :: _ => c.toNat == 45 | [] => false

/-- The digits behind the sign. -/
def tl (s : List UInt8) : List UInt8 := if mi s then s.drop 1 else s
def fin (s : List UInt8) : Int := if mi s then wrap64 (-(wv 0 (tl s))) else wv 0 (tl s)

/-! ### What a value becomes -/

/-- A value and an error's number. -/
structure R where
  k : Int
  n : Int
  b : Int
  s : List UInt8
  e : Int

def er (e : Int) : R := ⟨0, 0, 0, [], e⟩
/-- What a number becomes. -/
def ofn (n kind : Int) : R :=
  if kind = 1 then (if n = 0 ∨ n = 1 then ⟨1, n, 0, [], 0⟩ else er 6)
  else if kind = 3 then (if Rl.fo n = true then ⟨3, 0, Rl.fi n, [], 0⟩ else er 6)
  else if kind = 4 then ⟨4, 0, 0, Kc.bn 8 (n % 18446744073709551616).toNat, 0⟩
  else if kind = 5 then ⟨5, 0, 0, Lib.itoa n, 0⟩
  else ⟨kind, n, 0, [], 0⟩
def tr (n : Int) : List UInt8 := if n = 1 then [116, 114, 117, 101] else [102, 97, 108, 115, 101]
def fB (n kind : Int) : R := if kind = 2 ∨ kind = 3 then ofn n kind else if kind = 5 then ⟨5, 0, 0, tr n, 0⟩ else er 5
def fR (b kind : Int) : R := if kind = 1 ∨ kind = 2 then (if Rl.to b = true then ofn (Rl.ti b) kind else er 6) else if kind = 4 then ⟨4, 0, 0, Kc.bn 8 b.toNat, 0⟩ else er 5
def i64 (u : Nat) : Int := wrap64 u
def fY (s : List UInt8) (kind : Int) : R :=
  if kind = 2 then (if s.length = 8 then ⟨2, i64 (Kc.nm s), 0, [], 0⟩ else er 6)
  else if kind = 3 then (if s.length = 8 then ⟨3, 0, Rl.cn (Kc.nm s), [], 0⟩ else er 6)
  else if kind = 5 then (if Vl.vd s = true then ⟨5, 0, 0, s, 0⟩ else er 7)
  else er 5
def fT (s : List UInt8) (kind : Int) : R :=
  if kind = 1 then (if s = [102, 97, 108, 115, 101] then ⟨1, 0, 0, [], 0⟩ else if s = [116, 114, 117, 101] then ⟨1, 1, 0, [], 0⟩ else er 7)
  else if kind = 2 then (match num s with | some v => ⟨2, v, 0, [], 0⟩ | none => er 7)
  else if kind = 4 then ⟨4, 0, 0, s, 0⟩
  else er 5
/-- What a value becomes. -/
def to (k n b : Int) (s : List UInt8) (kind : Int) : R :=
  if Vl.ck k n b s ≠ 0 then er (Vl.ck k n b s)
  else if kind < 1 ∨ 5 < kind then er 5
  else if k = 0 ∨ k = kind then ⟨k, n, b, s, 0⟩
  else if k = 1 then fB n kind
  else if k = 2 then ofn n kind
  else if k = 3 then fR b kind
  else if k = 4 then fY s kind
  else fT s kind
/-- May one kind become another? -/
def can (a b : Int) : Bool := decide (1 ≤ a ∧ a ≤ 5 ∧ 1 ≤ b ∧ b ≤ 5 ∧ ¬ (a = 1 ∧ b = 4) ∧ ¬ (a = 3 ∧ b = 5) ∧ ¬ (a = 4 ∧ b = 1) ∧ ¬ (a = 5 ∧ b = 3))

end Go.Proofs.YtdonmbmahcjfbaaGreatDoor.Km.Cv
