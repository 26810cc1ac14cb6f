/-
  What Next answers, for every text. No condition.
-/
import Derived.Test.YtibopeefhogfcaaGreatDoorUtfBegins
import Derived.Test.YtibopeefhogfcaaGreatDoorUtfBits
import Derived.WalkMore
import Derived.Deep.LoopGhost
namespace Go.Proofs.YtibopeefhogfcaaGreatDoor
open Go.RowKit

/-- The bounds of the bits that were read, by how many bytes they are of. -/
def Bd (k : Nat) (R : Int) : Prop := 0 ≤ R ∧ ((k = 1 ∧ R < 128) ∨ (k = 2 ∧ R < 8192) ∨ (k = 3 ∧ R < 524288) ∨ (k = 4 ∧ R < 33554432))

theorem ldr_bd (b : Int) (h0 : 0 ≤ b) (h1 : b ≤ 255) : Bd 1 (Utf.ldr b) := by
  unfold Bd Utf.ldr
  (repeat' split) <;> omega

theorem byte_at (l : List UInt8) (k : Nat) (h' : k < l.length) (h : k < (ByteArray.mk l.toArray).size := h') : (ByteArray.mk l.toArray)[k] = l[k] := by
  show (l.toArray)[k] = _
  simp

set_option maxHeartbeats 1000000 in
theorem next_some (c : UInt8) (t : List UInt8) (w : World) :
    Calls Tryz.prog 74 #[.string ⟨(c :: t).toArray⟩] w fun e w' => e = .returned (.tuple #[.int .i64 (Utf.nx (c :: t)).1, .int .i64 (Utf.nx (c :: t)).2.1, .int .i64 (Utf.nx (c :: t)).2.2]) ∧ w = w' := by
  have hc0 : 0 ≤ (c.toNat : Int) := by omega
  have hc1 : (c.toNat : Int) ≤ 255 := by have := c.toNat_lt; omega
  have hnx := Lib.hid (show Utf.nx (c :: t) = Utf.run (c :: t) (Utf.ldw c.toNat) 4 (Utf.ldr c.toNat) 1 from rfl)
  have hw := Utf.ldw_cases c.toNat
  have hn0 : 0 ≤ Utf.ldw c.toNat := by omega
  have hn4 : Utf.ldw c.toNat ≤ 4 := by omega
  have hr := Lib.hid (ldr_bd c.toNat hc0 hc1)
  clear hw
  go_enter Tryz.func74, Tryz.ntmps74
  go_wp2
  go_step3
  go_wp2_with fail
  refine (lead_any (c.toNat : Int) _ hc0 hc1).mono ?_
  rintro e w' ⟨rfl, rfl⟩
  generalize Utf.ldw (c.toNat : Int) = n at *
  generalize Utf.ldr (c.toNat : Int) = r0 at *
  go_wp2_with fail
  go_step3
  go_wp2_with fail
  go_loop [5, 7, 8] (fun r er a => ∃ (R : Int) (k f : Nat), r = .int .i64 R ∧ er = .int .i64 0 ∧ a = .int .i64 k ∧ Bd k R ∧ (n = 0 ∨ (k : Int) ≤ n) ∧ k ≤ t.length + 1 ∧ f + k = 5 ∧ Utf.run (c :: t) n f R k = Utf.nx (c :: t)) (fun _ _ a => 5 - (intOf a).toNat)
  case atStart => exact ⟨r0, 1, 4, rfl, rfl, rfl, hr.out, by omega, by omega, by omega, hnx.out.symm⟩
  case round =>
    obtain ⟨R, k, f, rfl, rfl, rfl, hb, hkn, hkl, hf, hrun⟩ := hrel
    have Hrun := Lib.hid hrun
    clear hrun hnx hr
    obtain ⟨hR0, hRk⟩ := hb
    have hR1 : R < 33554432 := by omega
    have hk1 : 1 ≤ k := by omega
    have hk4 : k ≤ 4 := by omega
    go_wp2_with fail
    refine (begins_any R n k _ hR0 hR1 (by omega) hkn hn4).mono ?_
    rintro e w' ⟨rfl, rfl⟩
    cases hbg : Utf.bg R n k
    · have Hres := Lib.hid (Hrun.out.symm.trans (Utf.run_bad _ _ _ _ _ (by omega) hbg))
      clear Hrun
      go_wp2
      rw [Exit.noGoto_ret]
      go_ret3
      rw [Hres.out]
      exact ⟨rfl, rfl⟩
    have hnz : n ≠ 0 := by rintro rfl; cases hbg
    by_cases hkn' : (k : Int) = n
    · have Hres := Lib.hid (Hrun.out.symm.trans (Utf.run_end _ _ _ _ _ (by omega) hbg hkn'))
      have hq : ((k : Int) == n) = true := beq_iff_eq.2 hkn'
      clear Hrun hkn'
      go_wp2
      rw [Exit.noGoto_ret]
      go_ret3
      rw [Hres.out]
      exact ⟨rfl, rfl⟩
    have hq : ((k : Int) == n) = false := beq_eq_false_iff_ne.2 hkn'
    by_cases hkt : k = t.length + 1
    · have Hres := Lib.hid (Hrun.out.symm.trans (Utf.run_short _ _ _ _ _ (by omega) hbg hkn' (by simp; omega)))
      have hq2 : ((k : Int) == (t.length : Int) + 1) = true := beq_iff_eq.2 (by omega)
      clear Hrun hkn' hkt
      go_wp2
      rw [Exit.noGoto_ret]
      go_ret3
      rw [Hres.out]
      exact ⟨rfl, rfl⟩
    have hq2 : ((k : Int) == (t.length : Int) + 1) = false := beq_eq_false_iff_ne.2 (by omega)
    have hlt : (k : Int) < (t.length : Int) + 1 := by omega
    have hlen : k < (c :: t).length := by simp; omega
    have hsz : k < (ByteArray.mk (c :: t).toArray).size := hlen
    have hba : (ByteArray.mk (c :: t).toArray)[k] = (c :: t)[k] := byte_at (c :: t) k hlen
    have hx : (ByteArray.mk (c :: t).toArray)[k].toNat < 256 := (ByteArray.mk (c :: t).toArray)[k].toNat_lt
    by_cases h2 : (c :: t)[k].toNat / 64 = 2
    · have hres : Utf.nx (c :: t) = Utf.run (c :: t) n (f - 1) (R * 64 + ((ByteArray.mk (c :: t).toArray)[k].toNat % 64 : Nat)) (k + 1) := by
        rw [← Hrun.out, hba, show f = (f - 1) + 1 from by omega]
        exact Utf.run_more _ _ _ _ _ hbg hkn' hlen h2
      have hj := Utf.join6 R (ByteArray.mk (c :: t).toArray)[k].toNat hR0 hR1
      have hm := Utf.top2_yes _ hx (by rw [hba]; exact h2)
      have Hres := Lib.hid hres
      have Hj := Lib.hid hj
      clear Hrun hba hres hj h2
      go_wp2_with fail
      go_round
      case rel => exact ⟨_, k + 1, f - 1, congrArg (Value.int .i64) Hj.out, rfl, by go_num, ⟨by omega, by omega⟩, by omega, by omega, by omega, Hres.out.symm⟩
      case measure => simp [intOf]; omega
    · have hres : Utf.nx (c :: t) = (0, 0, 7) := by
        rw [← Hrun.out]
        exact Utf.run_text _ _ _ _ _ (by omega) hbg hkn' hlen h2
      have hm := Utf.top2_no _ hx (by rw [hba]; exact h2)
      have Hres := Lib.hid hres
      clear Hrun hba hres h2
      go_wp2
      rw [Exit.noGoto_ret]
      go_ret3
      rw [Hres.out]
      exact ⟨rfl, rfl⟩

set_option maxHeartbeats 400000 in
theorem next_none (w : World) :
    Calls Tryz.prog 74 #[.string ⟨([] : List UInt8).toArray⟩] w fun e w' => e = .returned (.tuple #[.int .i64 0, .int .i64 0, .int .i64 3]) ∧ w = w' := by
  go_enter Tryz.func74, Tryz.ntmps74
  go_wp2
  go_step3
  go_wp2
  rw [Exit.noGoto_ret]
  go_ret3
  exact ⟨rfl, rfl⟩

theorem next_any (l : List UInt8) (w : World) :
    Calls Tryz.prog 74 #[.string ⟨l.toArray⟩] w fun e w' => e = .returned (.tuple #[.int .i64 (Utf.nx l).1, .int .i64 (Utf.nx l).2.1, .int .i64 (Utf.nx l).2.2]) ∧ w = w' := by
  cases l with
  | nil => exact next_none w
  | cons c t => exact next_some c t w

theorem next_is (l : List UInt8) (q n e : Int) (w : World) (h : Utf.nx l = (q, n, e)) :
    Calls Tryz.prog 74 #[.string ⟨l.toArray⟩] w fun x w' => x = .returned (.tuple #[.int .i64 q, .int .i64 n, .int .i64 e]) ∧ w = w' := by
  have := next_any l w
  rw [h] at this
  exact this

end Go.Proofs.YtibopeefhogfcaaGreatDoor
