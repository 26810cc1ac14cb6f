/-
  What the document's own Next answers, for every text. No condition.
-/
import Derived.Test.YtibopeefhogfcaaGreatDoorUtfRefLeaf
import Derived.Test.YtibopeefhogfcaaGreatDoorUtfNext
import Derived.LoopN
namespace Go.Proofs.YtibopeefhogfcaaGreatDoor
open Go.RowKit

theorem nx_ne (l : List UInt8) (h : 0 < l.length) : Utf.nx l = Utf.run l (Utf.ldw l[0].toNat) 4 (Utf.ldr l[0].toNat) 1 := by
  cases l with
  | nil => simp at h
  | cons c t => rfl

theorem more_at (l : List UInt8) (n R : Int) (f k x : Nat) (hb : Utf.bg R n k = true) (hk : ¬ (k : Int) = n) (hl : k < l.length) (hx : x = l[k].toNat) (h1 : 128 ≤ x) (h2 : x ≤ 191) :
    Utf.run l n (f + 1) R k = Utf.run l n f (R * 64 + (x : Int) - 128) (k + 1) := by
  subst hx
  rw [Utf.run_more l n R f k hb hk hl (by omega), show R * 64 + (l[k].toNat : Int) - 128 = R * 64 + ((l[k].toNat % 64 : Nat) : Int) from by omega]

set_option maxHeartbeats 2000000 in
theorem rnext_1 (l : List UInt8) (w : World) (h0 : 0 < l.length) (hw : Utf.ldw l[0].toNat = 1) (hb : l[0].toNat < 248) :
    Calls Tryz.prog 80 #[.string ⟨l.toArray⟩] w fun e w' => e = .returned (.tuple #[.int .i64 (Utf.nx l).1, .int .i64 (Utf.nx l).2.1, .int .i64 (Utf.nx l).2.2]) ∧ w = w' := by
  have hsz : 0 < (ByteArray.mk l.toArray).size := h0
  have hba : (ByteArray.mk l.toArray)[0] = l[0] := byte_at l 0 h0
  have hx : (ByteArray.mk l.toArray)[0].toNat < 256 := (ByteArray.mk l.toArray)[0].toNat_lt
  have hnx := nx_ne l h0
  rw [hw] at hnx
  have hbd := ldr_bd l[0].toNat (by omega) (by omega)
  have hr0 : 0 ≤ Utf.ldr l[0].toNat := hbd.1
  have hr2 : Utf.ldr l[0].toNat < 128 := by have := hbd.2; omega
  have hz : ((l.length : Int) == 0) = false := beq_eq_false_iff_ne.2 (by omega)
  have Hba := Lib.hid hba
  have Hnx := Lib.hid hnx
  have Hw := Lib.hid hw
  clear hba hnx hw hbd
  go_enter Tryz.func80, Tryz.ntmps80
  go_wp2_with fail
  rw [Hba.out]
  refine (rlead_lo (l[0].toNat : Int) _ (by omega) (by omega)).mono ?_
  rintro e w' ⟨rfl, rfl⟩
  rw [Hw.out]
  generalize Utf.ldr (l[0].toNat : Int) = r0 at *
  clear Hba Hw hx
  go_wp2_with fail
  refine wp_loop_rounds 1 ?_
  rw [rounds_succ]
  go_wp2_with fail
  refine (among_1 _ _ _ (by omega)).mono ?_
  rintro e w' ⟨rfl, rfl⟩
  rw [am_11 r0 hr0]
  cases hbg : Utf.bg r0 1 1
  · have Hres := Lib.hid (Hnx.out.trans (Utf.run_bad _ _ _ _ _ (by omega) hbg))
    clear Hnx
    go_wp2
    go_ret3
    rw [Hres.out]
    exact ⟨rfl, rfl⟩
  have Hbg := Lib.hid hbg
  clear hbg
  go_wp2_with fail
  have Hres := Lib.hid (Hnx.out.trans (Utf.run_end _ _ _ _ _ (by omega) Hbg.out rfl))
  refine wp_loop_rounds 1 ?_
  rw [rounds_succ]
  go_wp2
  go_ret3
  rw [Hres.out]
  exact ⟨rfl, rfl⟩

set_option maxHeartbeats 2000000 in
theorem rnext_2 (l : List UInt8) (w : World) (h0 : 0 < l.length) (hw : Utf.ldw l[0].toNat = 2) (hb : l[0].toNat < 248) :
    Calls Tryz.prog 80 #[.string ⟨l.toArray⟩] w fun e w' => e = .returned (.tuple #[.int .i64 (Utf.nx l).1, .int .i64 (Utf.nx l).2.1, .int .i64 (Utf.nx l).2.2]) ∧ w = w' := by
  have hsz : 0 < (ByteArray.mk l.toArray).size := h0
  have hba : (ByteArray.mk l.toArray)[0] = l[0] := byte_at l 0 h0
  have hx : (ByteArray.mk l.toArray)[0].toNat < 256 := (ByteArray.mk l.toArray)[0].toNat_lt
  have hnx := nx_ne l h0
  rw [hw] at hnx
  have hbd := ldr_bd l[0].toNat (by omega) (by omega)
  have hr0 : 0 ≤ Utf.ldr l[0].toNat := hbd.1
  have hr2 : Utf.ldr l[0].toNat < 128 := by have := hbd.2; omega
  have hz : ((l.length : Int) == 0) = false := beq_eq_false_iff_ne.2 (by omega)
  have Hba := Lib.hid hba
  have Hnx := Lib.hid hnx
  have Hw := Lib.hid hw
  clear hba hnx hw hbd
  go_enter Tryz.func80, Tryz.ntmps80
  go_wp2_with fail
  rw [Hba.out]
  refine (rlead_lo (l[0].toNat : Int) _ (by omega) (by omega)).mono ?_
  rintro e w' ⟨rfl, rfl⟩
  rw [Hw.out]
  generalize Utf.ldr (l[0].toNat : Int) = r0 at *
  clear Hba Hw hx
  go_wp2_with fail
  refine wp_loop_rounds 2 ?_
  rw [rounds_succ]
  go_wp2
  rw [rounds_succ]
  go_wp2_with fail
  refine (among_2 _ _ _ (by omega)).mono ?_
  rintro e w' ⟨rfl, rfl⟩
  rw [am_21 r0 hr0]
  cases hbg : Utf.bg r0 2 1
  · have Hres := Lib.hid (Hnx.out.trans (Utf.run_bad _ _ _ _ _ (by omega) hbg))
    clear Hnx
    go_wp2
    go_ret3
    rw [Hres.out]
    exact ⟨rfl, rfl⟩
  have Hbg := Lib.hid hbg
  clear hbg
  go_wp2_with fail
  go_loop [6, 7, 9] (fun r s a => ∃ (R : Int) (k f : Nat), r = .int .i64 R ∧ a = .int .i64 k ∧ 0 ≤ R ∧ ((k = 1 ∧ s = .int .i64 64 ∧ R < 128) ∨ (k = 2 ∧ s = .int .i64 1 ∧ R < 8192)) ∧ f + k = 5 ∧ Utf.bg R 2 k = true ∧ Utf.run l 2 f R k = Utf.nx l) (fun _ _ a => 5 - (intOf a).toNat)
  case atStart => exact ⟨r0, 1, 4, rfl, rfl, hr0, by simp; omega, rfl, Hbg.out, Hnx.out.symm⟩
  case round =>
    obtain ⟨R, k, f, rfl, rfl, hR0, hkk, hf, hbg, hrun⟩ := hrel
    have Hbk := Lib.hid hbg
    have Hrun := Lib.hid hrun
    clear hbg hrun Hbg Hnx
    rcases hkk with ⟨rfl, rfl, hR1⟩ | ⟨rfl, rfl, hR1⟩
    · by_cases hlen : 1 < l.length
      · have hsk : 1 < (ByteArray.mk l.toArray).size := hlen
        have Hbk' := Lib.hid (show (ByteArray.mk l.toArray)[1].toNat = l[1].toNat from by rw [byte_at l 1 hlen])
        have hxk : (ByteArray.mk l.toArray)[1].toNat < 256 := (ByteArray.mk l.toArray)[1].toNat_lt
        have hlt : (1 : Int) < (l.length : Int) := by omega
        by_cases x1 : (ByteArray.mk l.toArray)[1].toNat < 128
        · have Hres := Lib.hid (Hrun.out.symm.trans (Utf.run_text _ _ _ _ _ (by omega) Hbk.out (by omega) hlen (by rw [← Hbk'.out]; omega)))
          clear Hrun
          go_wp2
          go_ret3
          rw [Hres.out]
          exact ⟨rfl, rfl⟩
        by_cases x2 : 191 < (ByteArray.mk l.toArray)[1].toNat
        · have Hres := Lib.hid (Hrun.out.symm.trans (Utf.run_text _ _ _ _ _ (by omega) Hbk.out (by omega) hlen (by rw [← Hbk'.out]; omega)))
          clear Hrun
          go_wp2
          go_ret3
          rw [Hres.out]
          exact ⟨rfl, rfl⟩
        obtain ⟨g, rfl⟩ : ∃ g, f = g + 1 := ⟨f - 1, by omega⟩
        have hmore := more_at l 2 R g 1 _ Hbk.out (by omega) hlen Hbk'.out (by omega) (by omega)
        have Hmore := Lib.hid (Hrun.out.symm.trans hmore)
        clear Hrun hmore
        go_wp2_with fail
        refine (among_2 _ _ _ (by omega)).mono ?_
        rintro e w' ⟨rfl, rfl⟩
        rw [am_22 _ (by omega)]
        cases hbn : Utf.bg (R * 64 + ((ByteArray.mk l.toArray)[1].toNat : Int) - 128) 2 2
        · have Hres := Lib.hid (Hmore.out.trans (Utf.run_bad _ _ _ _ _ (by omega) hbn))
          clear Hmore
          go_wp2
          go_ret3
          rw [Hres.out]
          exact ⟨rfl, rfl⟩
        · have Hbn := Lib.hid hbn
          clear hbn
          go_wp2_with fail
          go_round
          case rel => exact ⟨_, 2, g, rfl, rfl, by omega, by simp; omega, by omega, Hbn.out, Hmore.out.symm⟩
          case measure => simp [intOf]
      · have Hres := Lib.hid (Hrun.out.symm.trans (Utf.run_short _ _ _ _ _ (by omega) Hbk.out (by omega) (by omega)))
        clear Hrun
        go_wp2
        go_ret3
        rw [Hres.out]
        exact ⟨rfl, rfl⟩
    · have Hres := Lib.hid (Hrun.out.symm.trans (Utf.run_end _ _ _ _ _ (by omega) Hbk.out rfl))
      clear Hrun
      go_wp2
      go_ret3
      rw [Hres.out]
      exact ⟨rfl, rfl⟩

set_option maxHeartbeats 2000000 in
theorem rnext_3 (l : List UInt8) (w : World) (h0 : 0 < l.length) (hw : Utf.ldw l[0].toNat = 3) (hb : l[0].toNat < 248) :
    Calls Tryz.prog 80 #[.string ⟨l.toArray⟩] w fun e w' => e = .returned (.tuple #[.int .i64 (Utf.nx l).1, .int .i64 (Utf.nx l).2.1, .int .i64 (Utf.nx l).2.2]) ∧ w = w' := by
  have hsz : 0 < (ByteArray.mk l.toArray).size := h0
  have hba : (ByteArray.mk l.toArray)[0] = l[0] := byte_at l 0 h0
  have hx : (ByteArray.mk l.toArray)[0].toNat < 256 := (ByteArray.mk l.toArray)[0].toNat_lt
  have hnx := nx_ne l h0
  rw [hw] at hnx
  have hbd := ldr_bd l[0].toNat (by omega) (by omega)
  have hr0 : 0 ≤ Utf.ldr l[0].toNat := hbd.1
  have hr2 : Utf.ldr l[0].toNat < 128 := by have := hbd.2; omega
  have hz : ((l.length : Int) == 0) = false := beq_eq_false_iff_ne.2 (by omega)
  have Hba := Lib.hid hba
  have Hnx := Lib.hid hnx
  have Hw := Lib.hid hw
  clear hba hnx hw hbd
  go_enter Tryz.func80, Tryz.ntmps80
  go_wp2_with fail
  rw [Hba.out]
  refine (rlead_lo (l[0].toNat : Int) _ (by omega) (by omega)).mono ?_
  rintro e w' ⟨rfl, rfl⟩
  rw [Hw.out]
  generalize Utf.ldr (l[0].toNat : Int) = r0 at *
  clear Hba Hw hx
  go_wp2_with fail
  refine wp_loop_rounds 3 ?_
  rw [rounds_succ]
  go_wp2
  rw [rounds_succ]
  go_wp2
  rw [rounds_succ]
  go_wp2_with fail
  refine (among_3 _ _ _ (by omega)).mono ?_
  rintro e w' ⟨rfl, rfl⟩
  rw [am_31 r0 hr0]
  cases hbg : Utf.bg r0 3 1
  · have Hres := Lib.hid (Hnx.out.trans (Utf.run_bad _ _ _ _ _ (by omega) hbg))
    clear Hnx
    go_wp2
    go_ret3
    rw [Hres.out]
    exact ⟨rfl, rfl⟩
  have Hbg := Lib.hid hbg
  clear hbg
  go_wp2_with fail
  go_loop [6, 7, 9] (fun r s a => ∃ (R : Int) (k f : Nat), r = .int .i64 R ∧ a = .int .i64 k ∧ 0 ≤ R ∧ ((k = 1 ∧ s = .int .i64 4096 ∧ R < 128) ∨ (k = 2 ∧ s = .int .i64 64 ∧ R < 8192) ∨ (k = 3 ∧ s = .int .i64 1 ∧ R < 524288)) ∧ f + k = 5 ∧ Utf.bg R 3 k = true ∧ Utf.run l 3 f R k = Utf.nx l) (fun _ _ a => 5 - (intOf a).toNat)
  case atStart => exact ⟨r0, 1, 4, rfl, rfl, hr0, by simp; omega, rfl, Hbg.out, Hnx.out.symm⟩
  case round =>
    obtain ⟨R, k, f, rfl, rfl, hR0, hkk, hf, hbg, hrun⟩ := hrel
    have Hbk := Lib.hid hbg
    have Hrun := Lib.hid hrun
    clear hbg hrun Hbg Hnx
    rcases hkk with ⟨rfl, rfl, hR1⟩ | ⟨rfl, rfl, hR1⟩ | ⟨rfl, rfl, hR1⟩
    · by_cases hlen : 1 < l.length
      · have hsk : 1 < (ByteArray.mk l.toArray).size := hlen
        have Hbk' := Lib.hid (show (ByteArray.mk l.toArray)[1].toNat = l[1].toNat from by rw [byte_at l 1 hlen])
        have hxk : (ByteArray.mk l.toArray)[1].toNat < 256 := (ByteArray.mk l.toArray)[1].toNat_lt
        have hlt : (1 : Int) < (l.length : Int) := by omega
        by_cases x1 : (ByteArray.mk l.toArray)[1].toNat < 128
        · have Hres := Lib.hid (Hrun.out.symm.trans (Utf.run_text _ _ _ _ _ (by omega) Hbk.out (by omega) hlen (by rw [← Hbk'.out]; omega)))
          clear Hrun
          go_wp2
          go_ret3
          rw [Hres.out]
          exact ⟨rfl, rfl⟩
        by_cases x2 : 191 < (ByteArray.mk l.toArray)[1].toNat
        · have Hres := Lib.hid (Hrun.out.symm.trans (Utf.run_text _ _ _ _ _ (by omega) Hbk.out (by omega) hlen (by rw [← Hbk'.out]; omega)))
          clear Hrun
          go_wp2
          go_ret3
          rw [Hres.out]
          exact ⟨rfl, rfl⟩
        obtain ⟨g, rfl⟩ : ∃ g, f = g + 1 := ⟨f - 1, by omega⟩
        have hmore := more_at l 3 R g 1 _ Hbk.out (by omega) hlen Hbk'.out (by omega) (by omega)
        have Hmore := Lib.hid (Hrun.out.symm.trans hmore)
        clear Hrun hmore
        go_wp2_with fail
        refine (among_3 _ _ _ (by omega)).mono ?_
        rintro e w' ⟨rfl, rfl⟩
        rw [am_32 _ (by omega)]
        cases hbn : Utf.bg (R * 64 + ((ByteArray.mk l.toArray)[1].toNat : Int) - 128) 3 2
        · have Hres := Lib.hid (Hmore.out.trans (Utf.run_bad _ _ _ _ _ (by omega) hbn))
          clear Hmore
          go_wp2
          go_ret3
          rw [Hres.out]
          exact ⟨rfl, rfl⟩
        · have Hbn := Lib.hid hbn
          clear hbn
          go_wp2_with fail
          go_round
          case rel => exact ⟨_, 2, g, rfl, rfl, by omega, by simp; omega, by omega, Hbn.out, Hmore.out.symm⟩
          case measure => simp [intOf]
      · have Hres := Lib.hid (Hrun.out.symm.trans (Utf.run_short _ _ _ _ _ (by omega) Hbk.out (by omega) (by omega)))
        clear Hrun
        go_wp2
        go_ret3
        rw [Hres.out]
        exact ⟨rfl, rfl⟩
    · by_cases hlen : 2 < l.length
      · have hsk : 2 < (ByteArray.mk l.toArray).size := hlen
        have Hbk' := Lib.hid (show (ByteArray.mk l.toArray)[2].toNat = l[2].toNat from by rw [byte_at l 2 hlen])
        have hxk : (ByteArray.mk l.toArray)[2].toNat < 256 := (ByteArray.mk l.toArray)[2].toNat_lt
        have hlt : (2 : Int) < (l.length : Int) := by omega
        by_cases x1 : (ByteArray.mk l.toArray)[2].toNat < 128
        · have Hres := Lib.hid (Hrun.out.symm.trans (Utf.run_text _ _ _ _ _ (by omega) Hbk.out (by omega) hlen (by rw [← Hbk'.out]; omega)))
          clear Hrun
          go_wp2
          go_ret3
          rw [Hres.out]
          exact ⟨rfl, rfl⟩
        by_cases x2 : 191 < (ByteArray.mk l.toArray)[2].toNat
        · have Hres := Lib.hid (Hrun.out.symm.trans (Utf.run_text _ _ _ _ _ (by omega) Hbk.out (by omega) hlen (by rw [← Hbk'.out]; omega)))
          clear Hrun
          go_wp2
          go_ret3
          rw [Hres.out]
          exact ⟨rfl, rfl⟩
        obtain ⟨g, rfl⟩ : ∃ g, f = g + 1 := ⟨f - 1, by omega⟩
        have hmore := more_at l 3 R g 2 _ Hbk.out (by omega) hlen Hbk'.out (by omega) (by omega)
        have Hmore := Lib.hid (Hrun.out.symm.trans hmore)
        clear Hrun hmore
        go_wp2_with fail
        refine (among_3 _ _ _ (by omega)).mono ?_
        rintro e w' ⟨rfl, rfl⟩
        rw [am_33 _ (by omega)]
        cases hbn : Utf.bg (R * 64 + ((ByteArray.mk l.toArray)[2].toNat : Int) - 128) 3 3
        · have Hres := Lib.hid (Hmore.out.trans (Utf.run_bad _ _ _ _ _ (by omega) hbn))
          clear Hmore
          go_wp2
          go_ret3
          rw [Hres.out]
          exact ⟨rfl, rfl⟩
        · have Hbn := Lib.hid hbn
          clear hbn
          go_wp2_with fail
          go_round
          case rel => exact ⟨_, 3, g, rfl, rfl, by omega, by simp; omega, by omega, Hbn.out, Hmore.out.symm⟩
          case measure => simp [intOf]
      · have Hres := Lib.hid (Hrun.out.symm.trans (Utf.run_short _ _ _ _ _ (by omega) Hbk.out (by omega) (by omega)))
        clear Hrun
        go_wp2
        go_ret3
        rw [Hres.out]
        exact ⟨rfl, rfl⟩
    · have Hres := Lib.hid (Hrun.out.symm.trans (Utf.run_end _ _ _ _ _ (by omega) Hbk.out rfl))
      clear Hrun
      go_wp2
      go_ret3
      rw [Hres.out]
      exact ⟨rfl, rfl⟩

set_option maxHeartbeats 2000000 in
theorem rnext_4 (l : List UInt8) (w : World) (h0 : 0 < l.length) (hw : Utf.ldw l[0].toNat = 4) (hb : l[0].toNat < 248) :
    Calls Tryz.prog 80 #[.string ⟨l.toArray⟩] w fun e w' => e = .returned (.tuple #[.int .i64 (Utf.nx l).1, .int .i64 (Utf.nx l).2.1, .int .i64 (Utf.nx l).2.2]) ∧ w = w' := by
  have hsz : 0 < (ByteArray.mk l.toArray).size := h0
  have hba : (ByteArray.mk l.toArray)[0] = l[0] := byte_at l 0 h0
  have hx : (ByteArray.mk l.toArray)[0].toNat < 256 := (ByteArray.mk l.toArray)[0].toNat_lt
  have hnx := nx_ne l h0
  rw [hw] at hnx
  have hbd := ldr_bd l[0].toNat (by omega) (by omega)
  have hr0 : 0 ≤ Utf.ldr l[0].toNat := hbd.1
  have hr2 : Utf.ldr l[0].toNat < 128 := by have := hbd.2; omega
  have hz : ((l.length : Int) == 0) = false := beq_eq_false_iff_ne.2 (by omega)
  have Hba := Lib.hid hba
  have Hnx := Lib.hid hnx
  have Hw := Lib.hid hw
  clear hba hnx hw hbd
  go_enter Tryz.func80, Tryz.ntmps80
  go_wp2_with fail
  rw [Hba.out]
  refine (rlead_lo (l[0].toNat : Int) _ (by omega) (by omega)).mono ?_
  rintro e w' ⟨rfl, rfl⟩
  rw [Hw.out]
  generalize Utf.ldr (l[0].toNat : Int) = r0 at *
  clear Hba Hw hx
  go_wp2_with fail
  refine wp_loop_rounds 4 ?_
  rw [rounds_succ]
  go_wp2
  rw [rounds_succ]
  go_wp2
  rw [rounds_succ]
  go_wp2
  rw [rounds_succ]
  go_wp2_with fail
  refine (among_4 _ _ _ (by omega)).mono ?_
  rintro e w' ⟨rfl, rfl⟩
  rw [am_41 r0 hr0]
  cases hbg : Utf.bg r0 4 1
  · have Hres := Lib.hid (Hnx.out.trans (Utf.run_bad _ _ _ _ _ (by omega) hbg))
    clear Hnx
    go_wp2
    go_ret3
    rw [Hres.out]
    exact ⟨rfl, rfl⟩
  have Hbg := Lib.hid hbg
  clear hbg
  go_wp2_with fail
  go_loop [6, 7, 9] (fun r s a => ∃ (R : Int) (k f : Nat), r = .int .i64 R ∧ a = .int .i64 k ∧ 0 ≤ R ∧ ((k = 1 ∧ s = .int .i64 262144 ∧ R < 128) ∨ (k = 2 ∧ s = .int .i64 4096 ∧ R < 8192) ∨ (k = 3 ∧ s = .int .i64 64 ∧ R < 524288) ∨ (k = 4 ∧ s = .int .i64 1 ∧ R < 33554432)) ∧ f + k = 5 ∧ Utf.bg R 4 k = true ∧ Utf.run l 4 f R k = Utf.nx l) (fun _ _ a => 5 - (intOf a).toNat)
  case atStart => exact ⟨r0, 1, 4, rfl, rfl, hr0, by simp; omega, rfl, Hbg.out, Hnx.out.symm⟩
  case round =>
    obtain ⟨R, k, f, rfl, rfl, hR0, hkk, hf, hbg, hrun⟩ := hrel
    have Hbk := Lib.hid hbg
    have Hrun := Lib.hid hrun
    clear hbg hrun Hbg Hnx
    rcases hkk with ⟨rfl, rfl, hR1⟩ | ⟨rfl, rfl, hR1⟩ | ⟨rfl, rfl, hR1⟩ | ⟨rfl, rfl, hR1⟩
    · by_cases hlen : 1 < l.length
      · have hsk : 1 < (ByteArray.mk l.toArray).size := hlen
        have Hbk' := Lib.hid (show (ByteArray.mk l.toArray)[1].toNat = l[1].toNat from by rw [byte_at l 1 hlen])
        have hxk : (ByteArray.mk l.toArray)[1].toNat < 256 := (ByteArray.mk l.toArray)[1].toNat_lt
        have hlt : (1 : Int) < (l.length : Int) := by omega
        by_cases x1 : (ByteArray.mk l.toArray)[1].toNat < 128
        · have Hres := Lib.hid (Hrun.out.symm.trans (Utf.run_text _ _ _ _ _ (by omega) Hbk.out (by omega) hlen (by rw [← Hbk'.out]; omega)))
          clear Hrun
          go_wp2
          go_ret3
          rw [Hres.out]
          exact ⟨rfl, rfl⟩
        by_cases x2 : 191 < (ByteArray.mk l.toArray)[1].toNat
        · have Hres := Lib.hid (Hrun.out.symm.trans (Utf.run_text _ _ _ _ _ (by omega) Hbk.out (by omega) hlen (by rw [← Hbk'.out]; omega)))
          clear Hrun
          go_wp2
          go_ret3
          rw [Hres.out]
          exact ⟨rfl, rfl⟩
        obtain ⟨g, rfl⟩ : ∃ g, f = g + 1 := ⟨f - 1, by omega⟩
        have hmore := more_at l 4 R g 1 _ Hbk.out (by omega) hlen Hbk'.out (by omega) (by omega)
        have Hmore := Lib.hid (Hrun.out.symm.trans hmore)
        clear Hrun hmore
        go_wp2_with fail
        refine (among_4 _ _ _ (by omega)).mono ?_
        rintro e w' ⟨rfl, rfl⟩
        rw [am_42 _ (by omega)]
        cases hbn : Utf.bg (R * 64 + ((ByteArray.mk l.toArray)[1].toNat : Int) - 128) 4 2
        · have Hres := Lib.hid (Hmore.out.trans (Utf.run_bad _ _ _ _ _ (by omega) hbn))
          clear Hmore
          go_wp2
          go_ret3
          rw [Hres.out]
          exact ⟨rfl, rfl⟩
        · have Hbn := Lib.hid hbn
          clear hbn
          go_wp2_with fail
          go_round
          case rel => exact ⟨_, 2, g, rfl, rfl, by omega, by simp; omega, by omega, Hbn.out, Hmore.out.symm⟩
          case measure => simp [intOf]
      · have Hres := Lib.hid (Hrun.out.symm.trans (Utf.run_short _ _ _ _ _ (by omega) Hbk.out (by omega) (by omega)))
        clear Hrun
        go_wp2
        go_ret3
        rw [Hres.out]
        exact ⟨rfl, rfl⟩
    · by_cases hlen : 2 < l.length
      · have hsk : 2 < (ByteArray.mk l.toArray).size := hlen
        have Hbk' := Lib.hid (show (ByteArray.mk l.toArray)[2].toNat = l[2].toNat from by rw [byte_at l 2 hlen])
        have hxk : (ByteArray.mk l.toArray)[2].toNat < 256 := (ByteArray.mk l.toArray)[2].toNat_lt
        have hlt : (2 : Int) < (l.length : Int) := by omega
        by_cases x1 : (ByteArray.mk l.toArray)[2].toNat < 128
        · have Hres := Lib.hid (Hrun.out.symm.trans (Utf.run_text _ _ _ _ _ (by omega) Hbk.out (by omega) hlen (by rw [← Hbk'.out]; omega)))
          clear Hrun
          go_wp2
          go_ret3
          rw [Hres.out]
          exact ⟨rfl, rfl⟩
        by_cases x2 : 191 < (ByteArray.mk l.toArray)[2].toNat
        · have Hres := Lib.hid (Hrun.out.symm.trans (Utf.run_text _ _ _ _ _ (by omega) Hbk.out (by omega) hlen (by rw [← Hbk'.out]; omega)))
          clear Hrun
          go_wp2
          go_ret3
          rw [Hres.out]
          exact ⟨rfl, rfl⟩
        obtain ⟨g, rfl⟩ : ∃ g, f = g + 1 := ⟨f - 1, by omega⟩
        have hmore := more_at l 4 R g 2 _ Hbk.out (by omega) hlen Hbk'.out (by omega) (by omega)
        have Hmore := Lib.hid (Hrun.out.symm.trans hmore)
        clear Hrun hmore
        go_wp2_with fail
        refine (among_4 _ _ _ (by omega)).mono ?_
        rintro e w' ⟨rfl, rfl⟩
        rw [am_43 _ (by omega)]
        cases hbn : Utf.bg (R * 64 + ((ByteArray.mk l.toArray)[2].toNat : Int) - 128) 4 3
        · have Hres := Lib.hid (Hmore.out.trans (Utf.run_bad _ _ _ _ _ (by omega) hbn))
          clear Hmore
          go_wp2
          go_ret3
          rw [Hres.out]
          exact ⟨rfl, rfl⟩
        · have Hbn := Lib.hid hbn
          clear hbn
          go_wp2_with fail
          go_round
          case rel => exact ⟨_, 3, g, rfl, rfl, by omega, by simp; omega, by omega, Hbn.out, Hmore.out.symm⟩
          case measure => simp [intOf]
      · have Hres := Lib.hid (Hrun.out.symm.trans (Utf.run_short _ _ _ _ _ (by omega) Hbk.out (by omega) (by omega)))
        clear Hrun
        go_wp2
        go_ret3
        rw [Hres.out]
        exact ⟨rfl, rfl⟩
    · by_cases hlen : 3 < l.length
      · have hsk : 3 < (ByteArray.mk l.toArray).size := hlen
        have Hbk' := Lib.hid (show (ByteArray.mk l.toArray)[3].toNat = l[3].toNat from by rw [byte_at l 3 hlen])
        have hxk : (ByteArray.mk l.toArray)[3].toNat < 256 := (ByteArray.mk l.toArray)[3].toNat_lt
        have hlt : (3 : Int) < (l.length : Int) := by omega
        by_cases x1 : (ByteArray.mk l.toArray)[3].toNat < 128
        · have Hres := Lib.hid (Hrun.out.symm.trans (Utf.run_text _ _ _ _ _ (by omega) Hbk.out (by omega) hlen (by rw [← Hbk'.out]; omega)))
          clear Hrun
          go_wp2
          go_ret3
          rw [Hres.out]
          exact ⟨rfl, rfl⟩
        by_cases x2 : 191 < (ByteArray.mk l.toArray)[3].toNat
        · have Hres := Lib.hid (Hrun.out.symm.trans (Utf.run_text _ _ _ _ _ (by omega) Hbk.out (by omega) hlen (by rw [← Hbk'.out]; omega)))
          clear Hrun
          go_wp2
          go_ret3
          rw [Hres.out]
          exact ⟨rfl, rfl⟩
        obtain ⟨g, rfl⟩ : ∃ g, f = g + 1 := ⟨f - 1, by omega⟩
        have hmore := more_at l 4 R g 3 _ Hbk.out (by omega) hlen Hbk'.out (by omega) (by omega)
        have Hmore := Lib.hid (Hrun.out.symm.trans hmore)
        clear Hrun hmore
        go_wp2_with fail
        refine (among_4 _ _ _ (by omega)).mono ?_
        rintro e w' ⟨rfl, rfl⟩
        rw [am_44 _ (by omega)]
        cases hbn : Utf.bg (R * 64 + ((ByteArray.mk l.toArray)[3].toNat : Int) - 128) 4 4
        · have Hres := Lib.hid (Hmore.out.trans (Utf.run_bad _ _ _ _ _ (by omega) hbn))
          clear Hmore
          go_wp2
          go_ret3
          rw [Hres.out]
          exact ⟨rfl, rfl⟩
        · have Hbn := Lib.hid hbn
          clear hbn
          go_wp2_with fail
          go_round
          case rel => exact ⟨_, 4, g, rfl, rfl, by omega, by simp; omega, by omega, Hbn.out, Hmore.out.symm⟩
          case measure => simp [intOf]
      · have Hres := Lib.hid (Hrun.out.symm.trans (Utf.run_short _ _ _ _ _ (by omega) Hbk.out (by omega) (by omega)))
        clear Hrun
        go_wp2
        go_ret3
        rw [Hres.out]
        exact ⟨rfl, rfl⟩
    · have Hres := Lib.hid (Hrun.out.symm.trans (Utf.run_end _ _ _ _ _ (by omega) Hbk.out rfl))
      clear Hrun
      go_wp2
      go_ret3
      rw [Hres.out]
      exact ⟨rfl, rfl⟩

end Go.Proofs.YtibopeefhogfcaaGreatDoor
