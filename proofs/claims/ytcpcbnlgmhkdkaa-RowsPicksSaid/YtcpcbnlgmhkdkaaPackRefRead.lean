/-
  What the document's own ReadUint answers, for every text. No condition.
-/
import Derived.Test.YtcpcbnlgmhkdkaaPackRead
import Derived.Test.YtcpcbnlgmhkdkaaPackRefUint
namespace Go.Proofs.Ytcpcbnlgmhkdkaa
open Go.RowKit

/-- or_byte's equation, under a name that the walk does not look into. -/
def OrB (N k x M : Nat) : Prop := bits .or .u64 (N : Int) (IntKind.u64.wrap ((x : Int) % 128 * 2 ^ (7 * k))) = (M : Int)
theorem OrB.out {N k x M : Nat} (h : OrB N k x M) : bits .or .u64 (N : Int) (IntKind.u64.wrap ((x : Int) % 128 * 2 ^ (7 * k))) = (M : Int) := h
def BHi (x : Nat) : Prop := decide ((x : Int) < 128) = false ∧ True
theorem BHi.out {x : Nat} (h : BHi x) : decide ((x : Int) < 128) = false := h.1
def BLo (x : Nat) : Prop := decide ((x : Int) < 128) = true ∧ (¬ (x : Int) = 0) ∧ ((x : Int) == 0) = false
theorem BLo.out {x : Nat} (h : BLo x) : decide ((x : Int) < 128) = true ∧ (¬ (x : Int) = 0) ∧ ((x : Int) == 0) = false := h
def LtP (M k : Nat) : Prop := M < 128 ^ k
theorem LtP.out {M k : Nat} (h : LtP M k) : M < 128 ^ k := h

set_option maxHeartbeats 4000000 in
theorem rreadUint_any (l : List UInt8) (w : World) :
    Calls Try.prog 29 #[.string ⟨l.toArray⟩] w fun e w' => e = .returned (.tuple #[.int .u64 (Pk.rd l 0 0).1, .string ⟨(Pk.rd l 0 0).2.1.toArray⟩, .int .i64 (Pk.rd l 0 0).2.2]) ∧ ∃ n, w' = w.drewN n := by
  go_enter Try.func29, Try.ntmps29
  go_wp2
  go_loop [5, 6] (fun n i => ∃ N k : Nat, n = .int .u64 N ∧ i = .int .i64 k ∧ Pk.rd (l.drop k) k N = Pk.rd l 0 0 ∧ N < 128 ^ k ∧ k ≤ 9 ∧ k ≤ l.length) (fun _ i => 10 - (intOf i).toNat)
  case atStart => exact ⟨0, 0, rfl, rfl, rfl, by decide, by omega, by omega⟩
  case round =>
    obtain ⟨N, k, rfl, rfl, hrd, hN, hk9, hkl⟩ := hrel
    have Hrd := Lib.hid hrd
    have HN := Lib.hid hN
    have hk9' : (k : Int) ≤ 9 := by omega
    have hk10 : decide ((k : Int) < 10) = true := by simp; omega
    clear hrd hN
    by_cases hend : k = l.length
    · have Hres := Lib.hid (Hrd.out.symm.trans (Pk.rd_short l k N (by omega)))
      have hq : (l.length : Int) ≤ (k : Int) := by omega
      clear Hrd HN hend hk9
      go_wp2
      go_ret3
      rw [Hres.out]
      exact ⟨rfl, 0, rfl⟩
    have hlen : k < l.length := by omega
    have hsz : k < (ByteArray.mk l.toArray).size := hlen
    have hln : (k : Int) < (l.length : Int) := by omega
    have hln1 : (k : Int) + 1 ≤ (l.length : Int) := by omega
    have hx : (ByteArray.mk l.toArray)[k].toNat < 256 := (ByteArray.mk l.toArray)[k].toNat_lt
    have Hx8 := Lib.hid hx
    have Hba := Lib.hid (show (ByteArray.mk l.toArray)[k].toNat = l[k].toNat from by rw [pk_byte_at l k hlen])
    clear hend hkl
    by_cases hk : k = 9
    · subst hk
      by_cases h1 : 1 < (ByteArray.mk l.toArray)[9].toNat
      · have Hres := Lib.hid (Hrd.out.symm.trans (Pk.rd_tenth l N _ hlen Hba.out h1))
        have hi : (1 : Int) < ((ByteArray.mk l.toArray)[9].toNat : Int) := by omega
        clear h1 Hrd HN Hba hk9
        go_wp2
        go_ret3
        rw [Hres.out]
        exact ⟨rfl, 0, rfl⟩
      by_cases h0 : (ByteArray.mk l.toArray)[9].toNat = 0
      · have Hres := Lib.hid (Hrd.out.symm.trans (Pk.rd_zero l 9 N _ hlen Hba.out (by omega) h0))
        have hi : ((ByteArray.mk l.toArray)[9].toNat : Int) = 0 := by omega
        clear h1 h0 Hrd HN Hba hk9
        go_wp2
        go_ret3
        rw [Hres.out]
        exact ⟨rfl, 0, rfl⟩
      · have h1' : (ByteArray.mk l.toArray)[9].toNat = 1 := by omega
        obtain ⟨M, hor, hM⟩ := or_nine N HN.out
        have hres := Hrd.out.symm.trans (Pk.rd_end l 9 N _ hlen Hba.out (by omega) (by omega) (by omega))
        rw [h1', ← hM] at hres
        have Hres := Lib.hid hres
        have hi : ((ByteArray.mk l.toArray)[9].toNat : Int) = 1 := by omega
        have Hx := Lib.hid (pk_cut_from l 10)
        clear h1 h0 h1' Hrd HN Hba hres hM hk9
        go_wp2
        go_quiet (fail)
        go_wp2
        go_ret3
        rw [Hres.out]
        exact ⟨ret_usi rfl Hx.out rfl, _, rfl⟩
    have hk' : ¬ (k : Int) = 9 := by omega
    have hk'' : ((k : Int) == 9) = false := pk_beq_f hk'
    have hk8 : (k : Int) ≤ 8 := by omega
    obtain ⟨M, hor, hM, hM'⟩ := or_byte N k _ HN.out (.inl (by omega))
    by_cases h128 : 128 ≤ (ByteArray.mk l.toArray)[k].toNat
    · have hres := Hrd.out.symm.trans (Pk.rd_more l k N _ hlen Hba.out (by omega) h128)
      rw [← hM] at hres
      have Hres := Lib.hid hres
      have HM' : LtP M (k + 1) := hM'
      have hi : decide (((ByteArray.mk l.toArray)[k].toNat : Int) < 128) = false := by simp; omega
      have Hi : BHi (ByteArray.mk l.toArray)[k].toNat := ⟨hi, trivial⟩
      have Hor : OrB N k _ M := hor
      clear Hrd HN hM hM' hres Hba hk hk9 h128 hx hi hor
      go_wp2_with ((refine (?_ : wpList _ _ _ (Oper.mk _ (Op.index _ _ _) _ _ _ _ :: _) _ _)); have hx := Hx8.out; have hi := Hi.out; have hor := Hor.out; go_step)
      go_round
      case rel => exact ⟨M, k + 1, rfl, by go_num, Hres.out.symm, HM'.out, by omega, by omega⟩
      case measure => simp [intOf]; omega
    have hi' : ((ByteArray.mk l.toArray)[k].toNat : Int) < 128 := by omega
    have hi : decide (((ByteArray.mk l.toArray)[k].toNat : Int) < 128) = true := by simp; omega
    by_cases h0 : (ByteArray.mk l.toArray)[k].toNat = 0
    · by_cases hz : k = 0
      · have hres := Hrd.out.symm.trans (Pk.rd_end l k N _ hlen Hba.out (by omega) (by omega) (by omega))
        rw [← hM] at hres
        subst hz
        have Hres := Lib.hid hres
        have h0' : ((ByteArray.mk l.toArray)[0].toNat : Int) = 0 := by omega
        have hN0 : N = 0 := by have := HN.out; simp at this; exact this
        subst hN0
        have hM0 : (M : Int) = bits .or .u64 0 0 := by
          rw [hM, h0, show bits .or .u64 0 0 = 0 from by decide]; rfl
        have HM0 := Lib.hid hM0
        have Hx := Lib.hid (pk_cut_from l 1)
        have hl0 : (0 : Int) < (l.length : Int) := by omega
        have hl1 : (1 : Int) ≤ (l.length : Int) := by omega
        have hsz0 : 0 < (ByteArray.mk l.toArray).size := hlen
        have hne : (l = []) = False := by simp; intro h; rw [h] at hlen; simp at hlen
        have H0' := Lib.hid h0'
        clear Hrd HN hM hM' hM0 hor hres Hba hk9 h128 h0 h0' hi hi' hk hx
        go_wp2_with ((refine (?_ : wpList _ _ _ (Oper.mk _ (Op.index _ _ _) _ _ _ _ :: _) _ _)); have h0' := H0'.out; go_step)
        go_quiet (fail)
        go_wp2
        go_ret3
        rw [Hres.out]
        exact ⟨ret_usi HM0.out.symm Hx.out rfl, _, rfl⟩
      · have Hres := Lib.hid (Hrd.out.symm.trans (Pk.rd_zero l k N _ hlen Hba.out (by omega) h0))
        have h0' : ((ByteArray.mk l.toArray)[k].toNat : Int) = 0 := by omega
        have hk1 : (0 : Int) < (k : Int) := by omega
        have H0' := Lib.hid h0'
        clear Hrd HN hM hM' hor Hba hk hk9 h128 h0 h0' hi hi' hz hx
        go_wp2_with ((refine (?_ : wpList _ _ _ (Oper.mk _ (Op.index _ _ _) _ _ _ _ :: _) _ _)); have h0' := H0'.out; go_step)
        go_ret3
        rw [Hres.out]
        exact ⟨rfl, 0, rfl⟩
    · have hres := Hrd.out.symm.trans (Pk.rd_end l k N _ hlen Hba.out (by omega) (by omega) (by omega))
      rw [← hM] at hres
      have Hres := Lib.hid hres
      have hi0 : ¬ ((ByteArray.mk l.toArray)[k].toNat : Int) = 0 := by omega
      have hi1 := pk_beq_f hi0
      have Hx := Lib.hid (pk_cut_from l (k + 1))
      have Hi : BLo (ByteArray.mk l.toArray)[k].toNat := ⟨hi, hi0, hi1⟩
      have Hor : OrB N k _ M := hor
      clear Hrd HN hM hM' hres Hba hk hk9 h128 h0 hi' hx hi hi0 hi1 hor
      go_wp2_with ((refine (?_ : wpList _ _ _ (Oper.mk _ (Op.index _ _ _) _ _ _ _ :: _) _ _)); have hx := Hx8.out; obtain ⟨hi, hi0, hi1⟩ := Hi.out; have hor := Hor.out; go_step)
      go_quiet (fail)
      go_wp2
      go_ret3
      rw [Hres.out]
      exact ⟨ret_usi rfl Hx.out rfl, _, rfl⟩

theorem rreadUint_is (l r : List UInt8) (N : Nat) (e : Int) (w : World) (h : Pk.rd l 0 0 = (N, r, e)) :
    Calls Try.prog 29 #[.string ⟨l.toArray⟩] w fun x w' => x = .returned (.tuple #[.int .u64 N, .string ⟨r.toArray⟩, .int .i64 e]) ∧ ∃ n, w' = w.drewN n := by
  have := rreadUint_any l w
  rw [h] at this
  exact this

end Go.Proofs.Ytcpcbnlgmhkdkaa
