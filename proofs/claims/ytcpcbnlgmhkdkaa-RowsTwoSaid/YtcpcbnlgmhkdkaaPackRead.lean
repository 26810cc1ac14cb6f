/-
  What ReadUint answers, for every text. Condition: the text is no longer than any can be.
-/
import Derived.Test.YtcpcbnlgmhkdkaaPackUint
import Derived.WalkMore
import Derived.ScopeJumps
import Derived.Laws.BitsAllLaws
import Derived.BigQuiet
import Derived.Deep.QuietTactic
namespace Go.Proofs.Ytcpcbnlgmhkdkaa
open Go.RowKit

theorem pk_beq_f {a b : Int} (h : a ≠ b) : (a == b) = false := by simp [h]

theorem pk_byte_at (l : List UInt8) (k : Nat) (h' : k < l.length) (h : k < (ByteArray.mk l.toArray).size := h') : (ByteArray.mk l.toArray)[k] = l[k] := by
  show (l.toArray)[k] = _
  simp

theorem pow7 (k : Nat) : 2 ^ (7 * k) = 128 ^ k := by rw [Nat.pow_mul]

theorem pk_wrap_u64 (n : Int) (h0 : 0 ≤ n) (h : n < 18446744073709551616) : IntKind.u64.wrap n = n := by
  simp [IntKind.wrap, IntKind.bits, IntKind.signed]; omega

theorem pow9 (k : Nat) (h : k ≤ 8) : 128 ^ k ≤ 72057594037927936 := by
  have : 128 ^ k ≤ 128 ^ 8 := Nat.pow_le_pow_right (by decide) h
  have e : (128 : Nat) ^ 8 = 72057594037927936 := by decide
  omega

/-- A digit laid beside those below it. -/
theorem or_digit (N k d : Nat) (hN : N < 128 ^ k) (hd : d < 128) (hk : k ≤ 8 ∨ (k = 9 ∧ d ≤ 1)) :
    bits .or .u64 (N : Int) (IntKind.u64.wrap ((d : Int) * 2 ^ (7 * k))) = ((N + d * 128 ^ k : Nat) : Int) := by
  have e : ((d : Int) * 2 ^ (7 * k)) = ((d * 128 ^ k : Nat) : Int) := by rw [← pow7]; simp
  have hb : d * 128 ^ k < 18446744073709551616 ∧ N < 18446744073709551616 := by
    rcases hk with hk | ⟨rfl, hk⟩
    · have := pow9 k hk
      generalize 128 ^ k = B at *
      have : d * B ≤ 127 * B := Nat.mul_le_mul_right _ (by omega)
      omega
    · have e : (128 : Nat) ^ 9 = 9223372036854775808 := by decide
      rw [e] at hN ⊢
      omega
  rw [e, pk_wrap_u64 _ (by omega) (by omega), u64_or_nat N (d * 128 ^ k) hb.2 hb.1]
  congr 1
  rw [Nat.or_comm, ← pow7, nat_join (7 * k) (d * 2 ^ (7 * k)) N (Nat.mul_mod_left _ _) (by rw [pow7]; exact hN)]
  omega

theorem next_lt (N k d : Nat) (hN : N < 128 ^ k) (hd : d < 128) : N + d * 128 ^ k < 128 ^ (k + 1) := by
  rw [Nat.pow_succ]
  generalize 128 ^ k = B at *
  have : d * B ≤ 127 * B := Nat.mul_le_mul_right _ (by omega)
  omega

/-- The same, as the walk meets it: with the sum under a name. -/
theorem or_byte (N k x : Nat) (hN : N < 128 ^ k) (hk : k ≤ 8 ∨ (k = 9 ∧ x ≤ 1)) :
    ∃ M : Nat, bits .or .u64 (N : Int) (IntKind.u64.wrap ((x : Int) % 128 * 2 ^ (7 * k))) = (M : Int) ∧ M = N + x % 128 * 128 ^ k ∧ M < 128 ^ (k + 1) :=
  ⟨_, by have := or_digit N k (x % 128) hN (by omega) (by omega); rw [← this]; rfl, rfl, next_lt N k (x % 128) hN (by omega)⟩

theorem ret_usi {a b : Int} {s t : ByteArray} {x y : Int} (h : a = b) (g : s = t) (i : x = y) : Ending.returned (.tuple #[.int .u64 a, .string s, .int .i64 x]) = .returned (.tuple #[.int .u64 b, .string t, .int .i64 y]) := by rw [h, g, i]

theorem pk_cut_from (l : List UInt8) (n : Nat) : (ByteArray.mk l.toArray).extract n l.length = ⟨(l.drop n).toArray⟩ := by
  apply ByteArray.ext
  rw [ByteArray.data_extract]
  simp
  exact List.take_of_length_le (by simp)

theorem or_zero (x : Nat) : bits .or .u64 0 ((x : Int) % 128) = ((x % 128 : Nat) : Int) := by
  have := u64_or_nat 0 (x % 128) (by omega) (by omega)
  rw [Nat.zero_or] at this
  exact this

theorem or_nine (N : Nat) (h : N < 128 ^ 9) : ∃ M : Nat, bits .or .u64 (N : Int) 9223372036854775808 = (M : Int) ∧ M = N + 1 % 128 * 128 ^ 9 := by
  refine ⟨_, ?_, rfl⟩
  have e : (128 : Nat) ^ 9 = 9223372036854775808 := by decide
  rw [e] at h ⊢
  have := u64_or_nat N 9223372036854775808 (by omega) (by omega)
  rw [show N ||| 9223372036854775808 = N + 9223372036854775808 from by rw [Nat.or_comm, nat_join 63 9223372036854775808 N (by decide) h, Nat.add_comm]] at this
  exact this

set_option maxHeartbeats 4000000 in
theorem readUint_any (l : List UInt8) (w : World) :
    Calls Try.prog 27 #[.string ⟨l.toArray⟩] w fun e w' => e = .returned (.tuple #[.int .u64 (Pk.rd l 0 0).1, .string ⟨(Pk.rd l 0 0).2.1.toArray⟩, .int .i64 (Pk.rd l 0 0).2.2]) ∧ ∃ n, w' = w.drewN n := by
  go_enter Try.func27, Try.ntmps27
  go_wp2
  refine wp_scope_jumps 0 (fun a' w' => w' = w ∧ ∃ (N k : Nat) (u7 u8 u9 u10 u11 u12 u13 u14 u15 u16 u17 u18 u19 u20 u21 u22 u23 u24 u25 u26 u27 u28 u29 u30 u31 u32 : Value), a' = { tmps := #[.string ⟨l.toArray⟩, undef, .int .u64 0, .string ⟨#[]⟩, .int .i64 0, .int .u64 N, .int .i64 k, u7, u8, u9, u10, u11, u12, u13, u14, u15, u16, u17, u18, u19, u20, u21, u22, u23, u24, u25, u26, u27, u28, u29, u30, u31, u32, undef, undef, undef, undef, undef, undef, undef, undef, undef, undef], defers := [] } ∧ Pk.rd (l.drop k) k N = Pk.rd l 0 0 ∧ N < 128 ^ k ∧ 1 ≤ k ∧ k ≤ 9 ∧ k ≤ l.length) (fun a' _ => 10 - (intOf (a'.tmps.getD 6 undef)).toNat) rfl ?_ ?_
  · by_cases hend : l.length = 0
    · have Hres := Lib.hid (Pk.rd_short l 0 0 (by omega))
      have hq : ((0 : Int) == (l.length : Int)) = true := beq_iff_eq.2 (by omega)
      clear hend
      go_wp2
      go_step3
      go_wp2
      simp only [Exit.jump]
      go_ret3
      rw [show Pk.rd l 0 0 = (0, [], 3) from Hres.out]
      exact ⟨rfl, 0, rfl⟩
    have hlen : 0 < l.length := by omega
    have hq : ((0 : Int) == (l.length : Int)) = false := pk_beq_f (by omega)
    have hsz : 0 < (ByteArray.mk l.toArray).size := hlen
    have hx : (ByteArray.mk l.toArray)[0].toNat < 256 := (ByteArray.mk l.toArray)[0].toNat_lt
    have Hba := Lib.hid (show (ByteArray.mk l.toArray)[0].toNat = l[0].toNat from by rw [pk_byte_at l 0 hlen])
    have hor := or_zero (ByteArray.mk l.toArray)[0].toNat
    have hln : (0 : Int) < (l.length : Int) := by omega
    have hln1 : (1 : Int) ≤ (l.length : Int) := by omega
    by_cases h128 : 128 ≤ (ByteArray.mk l.toArray)[0].toNat
    · have Hres := Lib.hid (Pk.rd_more l 0 0 _ hlen Hba.out (by omega) h128)
      have hi : (128 : Int) ≤ ((ByteArray.mk l.toArray)[0].toNat : Int) := by omega
      clear h128 Hba hend
      go_wp2
      go_step3
      go_wp2_with fail
      go_step3
      refine ⟨rfl, rfl, (ByteArray.mk l.toArray)[0].toNat % 128, 1, _, _, _, _, _, _, _, _, _, _, _, _, _, _, _, _, _, _, _, _, _, _, _, _, _, _, rfl, ?_, ?_, by omega, by omega, by omega⟩
      · have := Hres.out
        rw [show 0 + (ByteArray.mk l.toArray)[0].toNat % 128 * 128 ^ 0 = (ByteArray.mk l.toArray)[0].toNat % 128 from by omega] at this
        exact this.symm
      · omega
    · have Hres := Lib.hid (Pk.rd_end l 0 0 _ hlen Hba.out (by omega) (by omega) (by omega))
      have hi : decide ((128 : Int) ≤ ((ByteArray.mk l.toArray)[0].toNat : Int)) = false := by simp; omega
      have Hx := Lib.hid (pk_cut_from l 1)
      clear h128 Hba hend
      by_cases h0 : ((ByteArray.mk l.toArray)[0].toNat : Int) = 0
      · go_wp2
        go_step3
        go_wp2
        go_quiet (fail)
        go_wp2
        try simp only [Exit.jump]
        go_ret3
        rw [show Pk.rd l 0 0 = _ from Hres.out]
        exact ⟨ret_usi (by simp; rw [h0]; decide) Hx.out rfl, _, rfl⟩
      · have hb0 := pk_beq_f h0
        go_wp2
        go_step3
        go_wp2
        go_quiet (fail)
        go_wp2
        try simp only [Exit.jump]
        go_ret3
        rw [show Pk.rd l 0 0 = _ from Hres.out]
        exact ⟨ret_usi (by simp) Hx.out rfl, _, rfl⟩
  · rintro a' w' ⟨rfl, N, k, u7, u8, u9, u10, u11, u12, u13, u14, u15, u16, u17, u18, u19, u20, u21, u22, u23, u24, u25, u26, u27, u28, u29, u30, u31, u32, rfl, hrd, hN, hk1, hk9, hkl⟩
    have Hrd := Lib.hid hrd
    have HN := Lib.hid hN
    clear hrd hN
    by_cases hend : k = l.length
    · have Hres := Lib.hid (Hrd.out.symm.trans (Pk.rd_short l k N (by omega)))
      have hq : ((k : Int) == (l.length : Int)) = true := beq_iff_eq.2 (by omega)
      clear Hrd HN hend
      go_wp2
      simp only [Exit.jump]
      go_ret3
      rw [Hres.out]
      exact ⟨rfl, 0, rfl⟩
    have hlen : k < l.length := by omega
    have hq : ((k : Int) == (l.length : Int)) = false := pk_beq_f (by omega)
    have hsz : k < (ByteArray.mk l.toArray).size := hlen
    have hln : (k : Int) < (l.length : Int) := by omega
    have hln1 : (k : Int) + 1 ≤ (l.length : Int) := by omega
    have hx : (ByteArray.mk l.toArray)[k].toNat < 256 := (ByteArray.mk l.toArray)[k].toNat_lt
    have Hba := Lib.hid (show (ByteArray.mk l.toArray)[k].toNat = l[k].toNat from by rw [pk_byte_at l k hlen])
    clear hend hkl
    by_cases hk : k = 9
    · subst hk
      by_cases h1 : 1 < (ByteArray.mk l.toArray)[9].toNat
      · have Hres := Lib.hid (Hrd.out.symm.trans (Pk.rd_tenth l N _ hlen Hba.out h1))
        have hi : (1 : Int) < ((ByteArray.mk l.toArray)[9].toNat : Int) := by omega
        clear h1 Hrd HN Hba
        go_wp2
        simp only [Exit.jump]
        go_ret3
        rw [Hres.out]
        exact ⟨rfl, 0, rfl⟩
      by_cases h0 : (ByteArray.mk l.toArray)[9].toNat = 0
      · have Hres := Lib.hid (Hrd.out.symm.trans (Pk.rd_zero l 9 N _ hlen Hba.out (by omega) h0))
        have hi : ((ByteArray.mk l.toArray)[9].toNat : Int) = 0 := by omega
        clear h1 h0 Hrd HN Hba
        go_wp2
        simp only [Exit.jump]
        go_ret3
        rw [Hres.out]
        exact ⟨rfl, 0, rfl⟩
      · have h1' : (ByteArray.mk l.toArray)[9].toNat = 1 := by omega
        obtain ⟨M, hor, hM⟩ := or_nine N HN.out
        have hres := Hrd.out.symm.trans (Pk.rd_end l 9 N _ hlen Hba.out (by omega) (by omega) (by omega))
        rw [h1', ← hM] at hres
        have Hres := Lib.hid hres
        have hi : ((ByteArray.mk l.toArray)[9].toNat : Int) = 1 := by omega
        have Hx := Lib.hid (pk_cut_from l 10)
        clear h1 h0 h1' Hrd HN Hba hres hM
        go_wp2
        go_quiet (fail)
        go_wp2
        try simp only [Exit.jump]
        go_ret3
        rw [Hres.out]
        exact ⟨ret_usi rfl Hx.out rfl, _, rfl⟩
    have hk' : ¬ (k : Int) = 9 := by omega
    have hk'' : ((k : Int) == 9) = false := pk_beq_f hk'
    have hk8 : (k : Int) ≤ 8 := by omega
    have hk1' : (1 : Int) ≤ (k : Int) := by omega
    obtain ⟨M, hor, hM, hM'⟩ := or_byte N k _ HN.out (.inl (by omega))
    by_cases h128 : 128 ≤ (ByteArray.mk l.toArray)[k].toNat
    · have hres := Hrd.out.symm.trans (Pk.rd_more l k N _ hlen Hba.out (by omega) h128)
      rw [← hM] at hres
      have Hres := Lib.hid hres
      have HM' := Lib.hid hM'
      have hi : (128 : Int) ≤ ((ByteArray.mk l.toArray)[k].toNat : Int) := by omega
      clear Hrd HN hM hM' hres Hba hk hk9 hk1 h128
      go_wp2_with fail
      go_step3
      refine ⟨rfl, ⟨rfl, M, k + 1, _, _, _, _, _, _, _, _, _, _, _, _, _, _, _, _, _, _, _, _, _, _, _, _, _, _, rfl, Hres.out.symm, HM'.out, by omega, by omega, by omega⟩, ?_⟩
      simp [intOf]
      omega
    by_cases h0 : (ByteArray.mk l.toArray)[k].toNat = 0
    · have Hres := Lib.hid (Hrd.out.symm.trans (Pk.rd_zero l k N _ hlen Hba.out (by omega) h0))
      have hi : ((ByteArray.mk l.toArray)[k].toNat : Int) = 0 := by omega
      clear Hrd HN hM hM' hor Hba hk hk9 hk1 h128 h0
      go_wp2
      simp only [Exit.jump]
      go_ret3
      rw [Hres.out]
      exact ⟨rfl, 0, rfl⟩
    · have hres := Hrd.out.symm.trans (Pk.rd_end l k N _ hlen Hba.out (by omega) (by omega) (by omega))
      rw [← hM] at hres
      have Hres := Lib.hid hres
      have hi : decide ((128 : Int) ≤ ((ByteArray.mk l.toArray)[k].toNat : Int)) = false := by simp; omega
      have hi0 : ¬ ((ByteArray.mk l.toArray)[k].toNat : Int) = 0 := by omega
      have hi1 := pk_beq_f hi0
      have Hx := Lib.hid (pk_cut_from l (k + 1))
      clear Hrd HN hM hM' hres Hba hk hk9 hk1 h128 h0
      go_wp2
      go_quiet (fail)
      go_wp2
      try simp only [Exit.jump]
      go_ret3
      rw [Hres.out]
      exact ⟨ret_usi rfl Hx.out rfl, _, rfl⟩

theorem readUint_is (l r : List UInt8) (N : Nat) (e : Int) (w : World) (h : Pk.rd l 0 0 = (N, r, e)) :
    Calls Try.prog 27 #[.string ⟨l.toArray⟩] w fun x w' => x = .returned (.tuple #[.int .u64 N, .string ⟨r.toArray⟩, .int .i64 e]) ∧ ∃ n, w' = w.drewN n := by
  have := readUint_any l w
  rw [h] at this
  exact this

end Go.Proofs.Ytcpcbnlgmhkdkaa
