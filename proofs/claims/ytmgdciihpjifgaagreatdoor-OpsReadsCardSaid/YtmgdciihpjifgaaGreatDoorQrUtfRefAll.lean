/-
 What the document's own lead and among answer. Conditions: the bounds named in each theorem.
 What the document's own Next answers, for every text. No condition.
 What the document's own Next, Count, Valid, Runes and Ints answer. Conditions: the bounds named in each theorem.
-/
import Derived.Test.YtmgdciihpjifgaaGreatDoorQrUtfCount
import Derived.LoopN
import Derived.Deep.QuietTactic
import Derived.BigQuiet
set_option maxHeartbeats 2000000
namespace Go.Proofs.YtmgdciihpjifgaaGreatDoor.Utf
theorem ld4 (x : Int) (h : 240 ≤ x) : ldw x = 4 ∧ ldr x = x - 240 := by unfold ldw ldr; constructor <;> (repeat' split) <;> omega
end Go.Proofs.YtmgdciihpjifgaaGreatDoor.Utf
namespace Go.Proofs.YtmgdciihpjifgaaGreatDoor
open Go.RowKit
theorem rlead_lo (b : Int) (w : World) (h0 : 0 ≤ b) (h1 : b < 248) :
  Calls Tryz.prog 154 #[.int .i64 b] w fun e w' => e = .returned (.tuple #[.int .i64 (Utf.ldw b), .int .i64 (Utf.ldr b)]) ∧ w = w' := by
 have g1 : b ≤ 127 → Utf.ldr b = b ∧ Utf.ldw b = 1 := fun a => by unfold Utf.ldr Utf.ldw; simp [a]
 have g2 : 127 < b → b < 192 → Utf.ldr b = 0 ∧ Utf.ldw b = 0 := fun a c => by unfold Utf.ldr Utf.ldw; constructor <;> (repeat' split) <;> omega
 have g3 : 192 ≤ b → b < 224 → Utf.ldr b = b - 192 ∧ Utf.ldw b = 2 := fun a c => by unfold Utf.ldr Utf.ldw; constructor <;> (repeat' split) <;> omega
 have g4 : 224 ≤ b → b < 240 → Utf.ldr b = b - 224 ∧ Utf.ldw b = 3 := fun a c => by unfold Utf.ldr Utf.ldw; constructor <;> (repeat' split) <;> omega
 have g5 : 240 ≤ b → Utf.ldr b = b - 240 ∧ Utf.ldw b = 4 := fun a => by unfold Utf.ldr Utf.ldw; constructor <;> (repeat' split) <;> omega
 have G1 := zh g1
 have G2 := zh g2
 have G3 := zh g3
 have G4 := zh g4
 have G5 := zh g5
 clear g1 g2 g3 g4 g5
 go_enter Tryz.func154, Tryz.ntmps154
 go_wp2
 all_goals go_ret2
 all_goals refine ⟨?_, rfl⟩
 all_goals first | exact ret_i2 (G1.out (by omega)).2.symm (G1.out (by omega)).1.symm | exact ret_i2 (G2.out (by omega) (by omega)).2.symm (G2.out (by omega) (by omega)).1.symm | exact ret_i2 (G3.out (by omega) (by omega)).2.symm (G3.out (by omega) (by omega)).1.symm | exact ret_i2 (G4.out (by omega) (by omega)).2.symm (G4.out (by omega) (by omega)).1.symm | exact ret_i2 (G5.out (by omega)).2.symm (G5.out (by omega)).1.symm
theorem rlead_hi (b : Int) (w : World) (h0 : 248 ≤ b) :
  Calls Tryz.prog 154 #[.int .i64 b] w fun e w' => e = .returned (.tuple #[.int .i64 0, .int .i64 0]) ∧ w = w' := by
 go_enter Tryz.func154, Tryz.ntmps154
 go_wp2
 go_ret2
 exact ⟨rfl, rfl⟩
def am1 (lo hi : Int) : Bool := decide (lo ≤ 127 ∧ 0 ≤ hi)
theorem among_1 (lo hi : Int) (w : World) (h : lo ≤ hi) :
  Calls Tryz.prog 155 #[.int .i64 lo, .int .i64 hi, .int .i64 1] w fun e w' => e = .returned (.bool (am1 lo hi)) ∧ w = w' := by
 have ht : lo ≤ 127 ∧ 0 ≤ hi → true = am1 lo hi := fun h => by unfold am1; rw [decide_eq_true h]
 have hf : ¬ (lo ≤ 127 ∧ 0 ≤ hi) → false = am1 lo hi := fun h => by unfold am1; rw [decide_eq_false h]
 have HT := zh ht
 have HF := zh hf
 clear ht hf
 by_cases a : lo < 0 <;> by_cases b : 127 < hi
 all_goals
  go_enter Tryz.func155, Tryz.ntmps155
  go_wp2
 all_goals go_ret
 all_goals refine ⟨ret_bool ?_, rfl⟩
 all_goals first | exact HT.out (by omega) | exact HF.out (by omega)
def am2 (lo hi : Int) : Bool := decide (lo ≤ 2047 ∧ 128 ≤ hi)
theorem among_2 (lo hi : Int) (w : World) (h : lo ≤ hi) :
  Calls Tryz.prog 155 #[.int .i64 lo, .int .i64 hi, .int .i64 2] w fun e w' => e = .returned (.bool (am2 lo hi)) ∧ w = w' := by
 have ht : lo ≤ 2047 ∧ 128 ≤ hi → true = am2 lo hi := fun h => by unfold am2; rw [decide_eq_true h]
 have hf : ¬ (lo ≤ 2047 ∧ 128 ≤ hi) → false = am2 lo hi := fun h => by unfold am2; rw [decide_eq_false h]
 have HT := zh ht
 have HF := zh hf
 clear ht hf
 by_cases a : lo < 128 <;> by_cases b : 2047 < hi
 all_goals
  go_enter Tryz.func155, Tryz.ntmps155
  go_wp2
 all_goals go_ret
 all_goals refine ⟨ret_bool ?_, rfl⟩
 all_goals first | exact HT.out (by omega) | exact HF.out (by omega)
def am3 (lo hi : Int) : Bool := decide (lo ≤ 65535 ∧ 2048 ≤ hi ∧ (lo < 55296 ∨ 57343 < hi))
theorem among_3 (lo hi : Int) (w : World) (h : lo ≤ hi) :
  Calls Tryz.prog 155 #[.int .i64 lo, .int .i64 hi, .int .i64 3] w fun e w' => e = .returned (.bool (am3 lo hi)) ∧ w = w' := by
 have ht : lo ≤ 65535 ∧ 2048 ≤ hi ∧ (lo < 55296 ∨ 57343 < hi) → true = am3 lo hi := fun h => by unfold am3; rw [decide_eq_true h]
 have hf : ¬ (lo ≤ 65535 ∧ 2048 ≤ hi ∧ (lo < 55296 ∨ 57343 < hi)) → false = am3 lo hi := fun h => by unfold am3; rw [decide_eq_false h]
 have HT := zh ht
 have HF := zh hf
 clear ht hf
 by_cases c : 57343 < hi
 ·have hc : decide (57343 < hi) = true := decide_eq_true c
  by_cases a : lo < 2048 <;> by_cases b : 65535 < hi
  all_goals
   go_enter Tryz.func155, Tryz.ntmps155
   go_wp2
  all_goals go_ret
  all_goals refine ⟨ret_bool ?_, rfl⟩
  all_goals first | exact HT.out (by omega) | exact HF.out (by omega) | (by_cases d : lo < 55296; (exact (decide_eq_true d).trans (HT.out (by omega))); exact (decide_eq_false d).trans (HF.out (by omega)))
 ·have hc : decide (57343 < hi) = false := decide_eq_false c
  by_cases a : lo < 2048 <;> by_cases b : 65535 < hi
  all_goals
   go_enter Tryz.func155, Tryz.ntmps155
   go_wp2
  all_goals go_ret
  all_goals refine ⟨ret_bool ?_, rfl⟩
  all_goals first | exact HT.out (by omega) | exact HF.out (by omega) | (by_cases d : lo < 55296; (exact (decide_eq_true d).trans (HT.out (by omega))); exact (decide_eq_false d).trans (HF.out (by omega)))
def am4 (lo hi : Int) : Bool := decide (lo ≤ 1114111 ∧ 65536 ≤ hi)
theorem among_4 (lo hi : Int) (w : World) (h : lo ≤ hi) :
  Calls Tryz.prog 155 #[.int .i64 lo, .int .i64 hi, .int .i64 4] w fun e w' => e = .returned (.bool (am4 lo hi)) ∧ w = w' := by
 have ht : lo ≤ 1114111 ∧ 65536 ≤ hi → true = am4 lo hi := fun h => by unfold am4; rw [decide_eq_true h]
 have hf : ¬ (lo ≤ 1114111 ∧ 65536 ≤ hi) → false = am4 lo hi := fun h => by unfold am4; rw [decide_eq_false h]
 have HT := zh ht
 have HF := zh hf
 clear ht hf
 by_cases c : 57343 < hi
 ·have hc : decide (57343 < hi) = true := decide_eq_true c
  by_cases a : lo < 65536 <;> by_cases b : 1114111 < hi
  all_goals
   go_enter Tryz.func155, Tryz.ntmps155
   go_wp2
  all_goals go_ret
  all_goals refine ⟨ret_bool ?_, rfl⟩
  all_goals first | exact HT.out (by omega) | exact HF.out (by omega) | (by_cases d : lo < 55296; (exact (decide_eq_true d).trans (HT.out (by omega))); exact (decide_eq_false d).trans (HF.out (by omega)))
 ·have hc : decide (57343 < hi) = false := decide_eq_false c
  by_cases a : lo < 65536 <;> by_cases b : 1114111 < hi
  all_goals
   go_enter Tryz.func155, Tryz.ntmps155
   go_wp2
  all_goals go_ret
  all_goals refine ⟨ret_bool ?_, rfl⟩
  all_goals first | exact HT.out (by omega) | exact HF.out (by omega) | (by_cases d : lo < 55296; (exact (decide_eq_true d).trans (HT.out (by omega))); exact (decide_eq_false d).trans (HF.out (by omega)))
theorem am_11 (r : Int) (h : 0 ≤ r) : am1 r r = Utf.bg r 1 1 := by
 rw [Bool.eq_iff_iff]
 simp [am1, Utf.bg, Utf.pw, Utf.wd1]
 omega
theorem am_21 (r : Int) (h : 0 ≤ r) : am2 (r * 64) (r * 64 + 64 - 1) = Utf.bg r 2 1 := by
 rw [Bool.eq_iff_iff]
 simp [am2, Utf.bg, Utf.pw, Utf.wd2]
 omega
theorem am_22 (r : Int) (h : 0 ≤ r) : am2 r r = Utf.bg r 2 2 := by
 rw [Bool.eq_iff_iff]
 simp [am2, Utf.bg, Utf.pw, Utf.wd2]
 omega
theorem am_31 (r : Int) (h : 0 ≤ r) : am3 (r * 4096) (r * 4096 + 4096 - 1) = Utf.bg r 3 1 := by
 rw [Bool.eq_iff_iff]
 simp [am3, Utf.bg, Utf.pw, Utf.wd3]
 omega
theorem am_32 (r : Int) (h : 0 ≤ r) : am3 (r * 64) (r * 64 + 64 - 1) = Utf.bg r 3 2 := by
 rw [Bool.eq_iff_iff]
 simp [am3, Utf.bg, Utf.pw, Utf.wd3]
 omega
theorem am_33 (r : Int) (h : 0 ≤ r) : am3 r r = Utf.bg r 3 3 := by
 rw [Bool.eq_iff_iff]
 simp [am3, Utf.bg, Utf.pw, Utf.wd3]
 omega
theorem am_41 (r : Int) (h : 0 ≤ r) : am4 (r * 262144) (r * 262144 + 262144 - 1) = Utf.bg r 4 1 := by
 rw [Bool.eq_iff_iff]
 simp [am4, Utf.bg, Utf.pw, Utf.wd4]
 omega
theorem am_42 (r : Int) (h : 0 ≤ r) : am4 (r * 4096) (r * 4096 + 4096 - 1) = Utf.bg r 4 2 := by
 rw [Bool.eq_iff_iff]
 simp [am4, Utf.bg, Utf.pw, Utf.wd4]
 omega
theorem am_43 (r : Int) (h : 0 ≤ r) : am4 (r * 64) (r * 64 + 64 - 1) = Utf.bg r 4 3 := by
 rw [Bool.eq_iff_iff]
 simp [am4, Utf.bg, Utf.pw, Utf.wd4]
 omega
theorem am_44 (r : Int) (h : 0 ≤ r) : am4 r r = Utf.bg r 4 4 := by
 rw [Bool.eq_iff_iff]
 simp [am4, Utf.bg, Utf.pw, Utf.wd4]
 omega
end Go.Proofs.YtmgdciihpjifgaaGreatDoor
namespace Go.Proofs.YtmgdciihpjifgaaGreatDoor
open Go.RowKit
theorem nx_ne (l : List UInt8) (h : 0 < l.length) : Utf.nx l = Utf.run l (Utf.ldw l[0].toNat) 4 (Utf.ldr l[0].toNat) 1 := by
 cases l with
 | nil => simp at h
 | cons c t => rfl
theorem more_at (l : List UInt8) (n R : Int) (f k x : Nat) (hb : Utf.bg R n k = true) (hk : ¬ (k : Int) = n) (hl : k < l.length) (hx : x = l[k].toNat) (h1 : 128 ≤ x) (h2 : x ≤ 191) :
  Utf.run l n (f + 1) R k = Utf.run l n f (R * 64 + (x : Int) - 128) (k + 1) := by
 subst hx
 rw [Utf.run_more l n R f k hb hk hl (by omega), show R * 64 + (l[k].toNat : Int) - 128 = R * 64 + ((l[k].toNat % 64 : Nat) : Int) from by omega]
theorem rnext_1 (l : List UInt8) (w : World) (h0 : 0 < l.length) (hw : Utf.ldw l[0].toNat = 1) (hb : l[0].toNat < 248) :
  Calls Tryz.prog 138 #[.string ⟨l.toArray⟩] w fun e w' => e = .returned (.tuple #[.int .i64 (Utf.nx l).1, .int .i64 (Utf.nx l).2.1, .int .i64 (Utf.nx l).2.2]) ∧ w = w' := by
 have hsz : 0 < (ByteArray.mk l.toArray).size := h0
 have hba : (ByteArray.mk l.toArray)[0] = l[0] := byte_at l 0 h0
 have hx : (ByteArray.mk l.toArray)[0].toNat < 256 := (ByteArray.mk l.toArray)[0].toNat_lt
 have hnx := nx_ne l h0
 rw [hw] at hnx
 have hbd := ldr_bd l[0].toNat (by omega) (by omega)
 have hr0 : 0 ≤ Utf.ldr l[0].toNat := hbd.1
 have hr2 : Utf.ldr l[0].toNat < 128 := by have := hbd.2; omega
 have hz : ((l.length : Int) == 0) = false := beq_eq_false_iff_ne.2 (by omega)
 have Hba := zh hba
 have Hnx := zh hnx
 have Hw := zh hw
 clear hba hnx hw hbd
 go_enter Tryz.func138, Tryz.ntmps138
 go_wp2_with fail
 rw [Hba.out]
 refine (rlead_lo (l[0].toNat : Int) _ (by omega) (by omega)).mono ?_
 rintro e w' ⟨rfl, rfl⟩
 rw [Hw.out]
 generalize Utf.ldr (l[0].toNat : Int) = r0 at *
 clear Hba Hw hx
 go_wp2_with fail
 refine wp_loop_rounds 1 ?_
 rw [rounds_succ]
 go_wp2_with fail
 refine (among_1 _ _ _ (by omega)).mono ?_
 rintro e w' ⟨rfl, rfl⟩
 rw [am_11 r0 hr0]
 cases hbg : Utf.bg r0 1 1
 ·have Hres := zh (Hnx.out.trans (Utf.run_bad _ _ _ _ _ (by omega) hbg))
  clear Hnx
  go_wp2
  go_ret3
  rw [Hres.out]
  exact ⟨rfl, rfl⟩
 have Hbg := zh hbg
 clear hbg
 go_wp2_with fail
 have Hres := zh (Hnx.out.trans (Utf.run_end _ _ _ _ _ (by omega) Hbg.out rfl))
 refine wp_loop_rounds 1 ?_
 rw [rounds_succ]
 go_wp2
 go_ret3
 rw [Hres.out]
 exact ⟨rfl, rfl⟩
theorem rnext_2 (l : List UInt8) (w : World) (h0 : 0 < l.length) (hw : Utf.ldw l[0].toNat = 2) (hb : l[0].toNat < 248) :
  Calls Tryz.prog 138 #[.string ⟨l.toArray⟩] w fun e w' => e = .returned (.tuple #[.int .i64 (Utf.nx l).1, .int .i64 (Utf.nx l).2.1, .int .i64 (Utf.nx l).2.2]) ∧ w = w' := by
 have hsz : 0 < (ByteArray.mk l.toArray).size := h0
 have hba : (ByteArray.mk l.toArray)[0] = l[0] := byte_at l 0 h0
 have hx : (ByteArray.mk l.toArray)[0].toNat < 256 := (ByteArray.mk l.toArray)[0].toNat_lt
 have hnx := nx_ne l h0
 rw [hw] at hnx
 have hbd := ldr_bd l[0].toNat (by omega) (by omega)
 have hr0 : 0 ≤ Utf.ldr l[0].toNat := hbd.1
 have hr2 : Utf.ldr l[0].toNat < 128 := by have := hbd.2; omega
 have hz : ((l.length : Int) == 0) = false := beq_eq_false_iff_ne.2 (by omega)
 have Hba := zh hba
 have Hnx := zh hnx
 have Hw := zh hw
 clear hba hnx hw hbd
 go_enter Tryz.func138, Tryz.ntmps138
 go_wp2_with fail
 rw [Hba.out]
 refine (rlead_lo (l[0].toNat : Int) _ (by omega) (by omega)).mono ?_
 rintro e w' ⟨rfl, rfl⟩
 rw [Hw.out]
 generalize Utf.ldr (l[0].toNat : Int) = r0 at *
 clear Hba Hw hx
 go_wp2_with fail
 refine wp_loop_rounds 2 ?_
 rw [rounds_succ]
 go_wp2
 rw [rounds_succ]
 go_wp2_with fail
 refine (among_2 _ _ _ (by omega)).mono ?_
 rintro e w' ⟨rfl, rfl⟩
 rw [am_21 r0 hr0]
 cases hbg : Utf.bg r0 2 1
 ·have Hres := zh (Hnx.out.trans (Utf.run_bad _ _ _ _ _ (by omega) hbg))
  clear Hnx
  go_wp2
  go_ret3
  rw [Hres.out]
  exact ⟨rfl, rfl⟩
 have Hbg := zh hbg
 clear hbg
 go_wp2_with fail
 go_loop [6, 7, 9] (fun r s a => ∃ (R : Int) (k f : Nat), r = .int .i64 R ∧ a = .int .i64 k ∧ 0 ≤ R ∧ ((k = 1 ∧ s = .int .i64 64 ∧ R < 128) ∨ (k = 2 ∧ s = .int .i64 1 ∧ R < 8192)) ∧ f + k = 5 ∧ Utf.bg R 2 k = true ∧ Utf.run l 2 f R k = Utf.nx l) (fun _ _ a => 5 - (intOf a).toNat)
 case atStart => exact ⟨r0, 1, 4, rfl, rfl, hr0, by simp; omega, rfl, Hbg.out, Hnx.out.symm⟩
 case round =>
  obtain ⟨R, k, f, rfl, rfl, hR0, hkk, hf, hbg, hrun⟩ := hrel
  have Hbk := zh hbg
  have Hrun := zh hrun
  clear hbg hrun Hbg Hnx
  rcases hkk with ⟨rfl, rfl, hR1⟩ | ⟨rfl, rfl, hR1⟩
  ·by_cases hlen : 1 < l.length
   ·have hsk : 1 < (ByteArray.mk l.toArray).size := hlen
    have Hbk' := zh (show (ByteArray.mk l.toArray)[1].toNat = l[1].toNat from by rw [byte_at l 1 hlen])
    have hxk : (ByteArray.mk l.toArray)[1].toNat < 256 := (ByteArray.mk l.toArray)[1].toNat_lt
    have hlt : (1 : Int) < (l.length : Int) := by omega
    by_cases x1 : (ByteArray.mk l.toArray)[1].toNat < 128
    ·have Hres := zh (Hrun.out.symm.trans (Utf.run_text _ _ _ _ _ (by omega) Hbk.out (by omega) hlen (by rw [← Hbk'.out]; omega)))
     clear Hrun
     go_wp2
     go_ret3
     rw [Hres.out]
     exact ⟨rfl, rfl⟩
    by_cases x2 : 191 < (ByteArray.mk l.toArray)[1].toNat
    ·have Hres := zh (Hrun.out.symm.trans (Utf.run_text _ _ _ _ _ (by omega) Hbk.out (by omega) hlen (by rw [← Hbk'.out]; omega)))
     clear Hrun
     go_wp2
     go_ret3
     rw [Hres.out]
     exact ⟨rfl, rfl⟩
    obtain ⟨g, rfl⟩ : ∃ g, f = g + 1 := ⟨f - 1, by omega⟩
    have hmore := more_at l 2 R g 1 _ Hbk.out (by omega) hlen Hbk'.out (by omega) (by omega)
    have Hmore := zh (Hrun.out.symm.trans hmore)
    clear Hrun hmore
    go_wp2_with fail
    refine (among_2 _ _ _ (by omega)).mono ?_
    rintro e w' ⟨rfl, rfl⟩
    rw [am_22 _ (by omega)]
    cases hbn : Utf.bg (R * 64 + ((ByteArray.mk l.toArray)[1].toNat : Int) - 128) 2 2
    ·have Hres := zh (Hmore.out.trans (Utf.run_bad _ _ _ _ _ (by omega) hbn))
     clear Hmore
     go_wp2
     go_ret3
     rw [Hres.out]
     exact ⟨rfl, rfl⟩
    ·have Hbn := zh hbn
     clear hbn
     go_wp2_with fail
     go_round
     case rel => exact ⟨_, 2, g, rfl, rfl, by omega, by simp; omega, by omega, Hbn.out, Hmore.out.symm⟩
     case measure => simp [intOf]
   ·have Hres := zh (Hrun.out.symm.trans (Utf.run_short _ _ _ _ _ (by omega) Hbk.out (by omega) (by omega)))
    clear Hrun
    go_wp2
    go_ret3
    rw [Hres.out]
    exact ⟨rfl, rfl⟩
  ·have Hres := zh (Hrun.out.symm.trans (Utf.run_end _ _ _ _ _ (by omega) Hbk.out rfl))
   clear Hrun
   go_wp2
   go_ret3
   rw [Hres.out]
   exact ⟨rfl, rfl⟩
theorem rnext_3 (l : List UInt8) (w : World) (h0 : 0 < l.length) (hw : Utf.ldw l[0].toNat = 3) (hb : l[0].toNat < 248) :
  Calls Tryz.prog 138 #[.string ⟨l.toArray⟩] w fun e w' => e = .returned (.tuple #[.int .i64 (Utf.nx l).1, .int .i64 (Utf.nx l).2.1, .int .i64 (Utf.nx l).2.2]) ∧ w = w' := by
 have hsz : 0 < (ByteArray.mk l.toArray).size := h0
 have hba : (ByteArray.mk l.toArray)[0] = l[0] := byte_at l 0 h0
 have hx : (ByteArray.mk l.toArray)[0].toNat < 256 := (ByteArray.mk l.toArray)[0].toNat_lt
 have hnx := nx_ne l h0
 rw [hw] at hnx
 have hbd := ldr_bd l[0].toNat (by omega) (by omega)
 have hr0 : 0 ≤ Utf.ldr l[0].toNat := hbd.1
 have hr2 : Utf.ldr l[0].toNat < 128 := by have := hbd.2; omega
 have hz : ((l.length : Int) == 0) = false := beq_eq_false_iff_ne.2 (by omega)
 have Hba := zh hba
 have Hnx := zh hnx
 have Hw := zh hw
 clear hba hnx hw hbd
 go_enter Tryz.func138, Tryz.ntmps138
 go_wp2_with fail
 rw [Hba.out]
 refine (rlead_lo (l[0].toNat : Int) _ (by omega) (by omega)).mono ?_
 rintro e w' ⟨rfl, rfl⟩
 rw [Hw.out]
 generalize Utf.ldr (l[0].toNat : Int) = r0 at *
 clear Hba Hw hx
 go_wp2_with fail
 refine wp_loop_rounds 3 ?_
 rw [rounds_succ]
 go_wp2
 rw [rounds_succ]
 go_wp2
 rw [rounds_succ]
 go_wp2_with fail
 refine (among_3 _ _ _ (by omega)).mono ?_
 rintro e w' ⟨rfl, rfl⟩
 rw [am_31 r0 hr0]
 cases hbg : Utf.bg r0 3 1
 ·have Hres := zh (Hnx.out.trans (Utf.run_bad _ _ _ _ _ (by omega) hbg))
  clear Hnx
  go_wp2
  go_ret3
  rw [Hres.out]
  exact ⟨rfl, rfl⟩
 have Hbg := zh hbg
 clear hbg
 go_wp2_with fail
 go_loop [6, 7, 9] (fun r s a => ∃ (R : Int) (k f : Nat), r = .int .i64 R ∧ a = .int .i64 k ∧ 0 ≤ R ∧ ((k = 1 ∧ s = .int .i64 4096 ∧ R < 128) ∨ (k = 2 ∧ s = .int .i64 64 ∧ R < 8192) ∨ (k = 3 ∧ s = .int .i64 1 ∧ R < 524288)) ∧ f + k = 5 ∧ Utf.bg R 3 k = true ∧ Utf.run l 3 f R k = Utf.nx l) (fun _ _ a => 5 - (intOf a).toNat)
 case atStart => exact ⟨r0, 1, 4, rfl, rfl, hr0, by simp; omega, rfl, Hbg.out, Hnx.out.symm⟩
 case round =>
  obtain ⟨R, k, f, rfl, rfl, hR0, hkk, hf, hbg, hrun⟩ := hrel
  have Hbk := zh hbg
  have Hrun := zh hrun
  clear hbg hrun Hbg Hnx
  rcases hkk with ⟨rfl, rfl, hR1⟩ | ⟨rfl, rfl, hR1⟩ | ⟨rfl, rfl, hR1⟩
  ·by_cases hlen : 1 < l.length
   ·have hsk : 1 < (ByteArray.mk l.toArray).size := hlen
    have Hbk' := zh (show (ByteArray.mk l.toArray)[1].toNat = l[1].toNat from by rw [byte_at l 1 hlen])
    have hxk : (ByteArray.mk l.toArray)[1].toNat < 256 := (ByteArray.mk l.toArray)[1].toNat_lt
    have hlt : (1 : Int) < (l.length : Int) := by omega
    by_cases x1 : (ByteArray.mk l.toArray)[1].toNat < 128
    ·have Hres := zh (Hrun.out.symm.trans (Utf.run_text _ _ _ _ _ (by omega) Hbk.out (by omega) hlen (by rw [← Hbk'.out]; omega)))
     clear Hrun
     go_wp2
     go_ret3
     rw [Hres.out]
     exact ⟨rfl, rfl⟩
    by_cases x2 : 191 < (ByteArray.mk l.toArray)[1].toNat
    ·have Hres := zh (Hrun.out.symm.trans (Utf.run_text _ _ _ _ _ (by omega) Hbk.out (by omega) hlen (by rw [← Hbk'.out]; omega)))
     clear Hrun
     go_wp2
     go_ret3
     rw [Hres.out]
     exact ⟨rfl, rfl⟩
    obtain ⟨g, rfl⟩ : ∃ g, f = g + 1 := ⟨f - 1, by omega⟩
    have hmore := more_at l 3 R g 1 _ Hbk.out (by omega) hlen Hbk'.out (by omega) (by omega)
    have Hmore := zh (Hrun.out.symm.trans hmore)
    clear Hrun hmore
    go_wp2_with fail
    refine (among_3 _ _ _ (by omega)).mono ?_
    rintro e w' ⟨rfl, rfl⟩
    rw [am_32 _ (by omega)]
    cases hbn : Utf.bg (R * 64 + ((ByteArray.mk l.toArray)[1].toNat : Int) - 128) 3 2
    ·have Hres := zh (Hmore.out.trans (Utf.run_bad _ _ _ _ _ (by omega) hbn))
     clear Hmore
     go_wp2
     go_ret3
     rw [Hres.out]
     exact ⟨rfl, rfl⟩
    ·have Hbn := zh hbn
     clear hbn
     go_wp2_with fail
     go_round
     case rel => exact ⟨_, 2, g, rfl, rfl, by omega, by simp; omega, by omega, Hbn.out, Hmore.out.symm⟩
     case measure => simp [intOf]
   ·have Hres := zh (Hrun.out.symm.trans (Utf.run_short _ _ _ _ _ (by omega) Hbk.out (by omega) (by omega)))
    clear Hrun
    go_wp2
    go_ret3
    rw [Hres.out]
    exact ⟨rfl, rfl⟩
  ·by_cases hlen : 2 < l.length
   ·have hsk : 2 < (ByteArray.mk l.toArray).size := hlen
    have Hbk' := zh (show (ByteArray.mk l.toArray)[2].toNat = l[2].toNat from by rw [byte_at l 2 hlen])
    have hxk : (ByteArray.mk l.toArray)[2].toNat < 256 := (ByteArray.mk l.toArray)[2].toNat_lt
    have hlt : (2 : Int) < (l.length : Int) := by omega
    by_cases x1 : (ByteArray.mk l.toArray)[2].toNat < 128
    ·have Hres := zh (Hrun.out.symm.trans (Utf.run_text _ _ _ _ _ (by omega) Hbk.out (by omega) hlen (by rw [← Hbk'.out]; omega)))
     clear Hrun
     go_wp2
     go_ret3
     rw [Hres.out]
     exact ⟨rfl, rfl⟩
    by_cases x2 : 191 < (ByteArray.mk l.toArray)[2].toNat
    ·have Hres := zh (Hrun.out.symm.trans (Utf.run_text _ _ _ _ _ (by omega) Hbk.out (by omega) hlen (by rw [← Hbk'.out]; omega)))
     clear Hrun
     go_wp2
     go_ret3
     rw [Hres.out]
     exact ⟨rfl, rfl⟩
    obtain ⟨g, rfl⟩ : ∃ g, f = g + 1 := ⟨f - 1, by omega⟩
    have hmore := more_at l 3 R g 2 _ Hbk.out (by omega) hlen Hbk'.out (by omega) (by omega)
    have Hmore := zh (Hrun.out.symm.trans hmore)
    clear Hrun hmore
    go_wp2_with fail
    refine (among_3 _ _ _ (by omega)).mono ?_
    rintro e w' ⟨rfl, rfl⟩
    rw [am_33 _ (by omega)]
    cases hbn : Utf.bg (R * 64 + ((ByteArray.mk l.toArray)[2].toNat : Int) - 128) 3 3
    ·have Hres := zh (Hmore.out.trans (Utf.run_bad _ _ _ _ _ (by omega) hbn))
     clear Hmore
     go_wp2
     go_ret3
     rw [Hres.out]
     exact ⟨rfl, rfl⟩
    ·have Hbn := zh hbn
     clear hbn
     go_wp2_with fail
     go_round
     case rel => exact ⟨_, 3, g, rfl, rfl, by omega, by simp; omega, by omega, Hbn.out, Hmore.out.symm⟩
     case measure => simp [intOf]
   ·have Hres := zh (Hrun.out.symm.trans (Utf.run_short _ _ _ _ _ (by omega) Hbk.out (by omega) (by omega)))
    clear Hrun
    go_wp2
    go_ret3
    rw [Hres.out]
    exact ⟨rfl, rfl⟩
  ·have Hres := zh (Hrun.out.symm.trans (Utf.run_end _ _ _ _ _ (by omega) Hbk.out rfl))
   clear Hrun
   go_wp2
   go_ret3
   rw [Hres.out]
   exact ⟨rfl, rfl⟩
theorem rnext_4 (l : List UInt8) (w : World) (h0 : 0 < l.length) (hw : Utf.ldw l[0].toNat = 4) (hb : l[0].toNat < 248) :
  Calls Tryz.prog 138 #[.string ⟨l.toArray⟩] w fun e w' => e = .returned (.tuple #[.int .i64 (Utf.nx l).1, .int .i64 (Utf.nx l).2.1, .int .i64 (Utf.nx l).2.2]) ∧ w = w' := by
 have hsz : 0 < (ByteArray.mk l.toArray).size := h0
 have hba : (ByteArray.mk l.toArray)[0] = l[0] := byte_at l 0 h0
 have hx : (ByteArray.mk l.toArray)[0].toNat < 256 := (ByteArray.mk l.toArray)[0].toNat_lt
 have hnx := nx_ne l h0
 rw [hw] at hnx
 have hbd := ldr_bd l[0].toNat (by omega) (by omega)
 have hr0 : 0 ≤ Utf.ldr l[0].toNat := hbd.1
 have hr2 : Utf.ldr l[0].toNat < 128 := by have := hbd.2; omega
 have hz : ((l.length : Int) == 0) = false := beq_eq_false_iff_ne.2 (by omega)
 have Hba := zh hba
 have Hnx := zh hnx
 have Hw := zh hw
 clear hba hnx hw hbd
 go_enter Tryz.func138, Tryz.ntmps138
 go_wp2_with fail
 rw [Hba.out]
 refine (rlead_lo (l[0].toNat : Int) _ (by omega) (by omega)).mono ?_
 rintro e w' ⟨rfl, rfl⟩
 rw [Hw.out]
 generalize Utf.ldr (l[0].toNat : Int) = r0 at *
 clear Hba Hw hx
 go_wp2_with fail
 refine wp_loop_rounds 4 ?_
 rw [rounds_succ]
 go_wp2
 rw [rounds_succ]
 go_wp2
 rw [rounds_succ]
 go_wp2
 rw [rounds_succ]
 go_wp2_with fail
 refine (among_4 _ _ _ (by omega)).mono ?_
 rintro e w' ⟨rfl, rfl⟩
 rw [am_41 r0 hr0]
 cases hbg : Utf.bg r0 4 1
 ·have Hres := zh (Hnx.out.trans (Utf.run_bad _ _ _ _ _ (by omega) hbg))
  clear Hnx
  go_wp2
  go_ret3
  rw [Hres.out]
  exact ⟨rfl, rfl⟩
 have Hbg := zh hbg
 clear hbg
 go_wp2_with fail
 go_loop [6, 7, 9] (fun r s a => ∃ (R : Int) (k f : Nat), r = .int .i64 R ∧ a = .int .i64 k ∧ 0 ≤ R ∧ ((k = 1 ∧ s = .int .i64 262144 ∧ R < 128) ∨ (k = 2 ∧ s = .int .i64 4096 ∧ R < 8192) ∨ (k = 3 ∧ s = .int .i64 64 ∧ R < 524288) ∨ (k = 4 ∧ s = .int .i64 1 ∧ R < 33554432)) ∧ f + k = 5 ∧ Utf.bg R 4 k = true ∧ Utf.run l 4 f R k = Utf.nx l) (fun _ _ a => 5 - (intOf a).toNat)
 case atStart => exact ⟨r0, 1, 4, rfl, rfl, hr0, by simp; omega, rfl, Hbg.out, Hnx.out.symm⟩
 case round =>
  obtain ⟨R, k, f, rfl, rfl, hR0, hkk, hf, hbg, hrun⟩ := hrel
  have Hbk := zh hbg
  have Hrun := zh hrun
  clear hbg hrun Hbg Hnx
  rcases hkk with ⟨rfl, rfl, hR1⟩ | ⟨rfl, rfl, hR1⟩ | ⟨rfl, rfl, hR1⟩ | ⟨rfl, rfl, hR1⟩
  ·by_cases hlen : 1 < l.length
   ·have hsk : 1 < (ByteArray.mk l.toArray).size := hlen
    have Hbk' := zh (show (ByteArray.mk l.toArray)[1].toNat = l[1].toNat from by rw [byte_at l 1 hlen])
    have hxk : (ByteArray.mk l.toArray)[1].toNat < 256 := (ByteArray.mk l.toArray)[1].toNat_lt
    have hlt : (1 : Int) < (l.length : Int) := by omega
    by_cases x1 : (ByteArray.mk l.toArray)[1].toNat < 128
    ·have Hres := zh (Hrun.out.symm.trans (Utf.run_text _ _ _ _ _ (by omega) Hbk.out (by omega) hlen (by rw [← Hbk'.out]; omega)))
     clear Hrun
     go_wp2
     go_ret3
     rw [Hres.out]
     exact ⟨rfl, rfl⟩
    by_cases x2 : 191 < (ByteArray.mk l.toArray)[1].toNat
    ·have Hres := zh (Hrun.out.symm.trans (Utf.run_text _ _ _ _ _ (by omega) Hbk.out (by omega) hlen (by rw [← Hbk'.out]; omega)))
     clear Hrun
     go_wp2
     go_ret3
     rw [Hres.out]
     exact ⟨rfl, rfl⟩
    obtain ⟨g, rfl⟩ : ∃ g, f = g + 1 := ⟨f - 1, by omega⟩
    have hmore := more_at l 4 R g 1 _ Hbk.out (by omega) hlen Hbk'.out (by omega) (by omega)
    have Hmore := zh (Hrun.out.symm.trans hmore)
    clear Hrun hmore
    go_wp2_with fail
    refine (among_4 _ _ _ (by omega)).mono ?_
    rintro e w' ⟨rfl, rfl⟩
    rw [am_42 _ (by omega)]
    cases hbn : Utf.bg (R * 64 + ((ByteArray.mk l.toArray)[1].toNat : Int) - 128) 4 2
    ·have Hres := zh (Hmore.out.trans (Utf.run_bad _ _ _ _ _ (by omega) hbn))
     clear Hmore
     go_wp2
     go_ret3
     rw [Hres.out]
     exact ⟨rfl, rfl⟩
    ·have Hbn := zh hbn
     clear hbn
     go_wp2_with fail
     go_round
     case rel => exact ⟨_, 2, g, rfl, rfl, by omega, by simp; omega, by omega, Hbn.out, Hmore.out.symm⟩
     case measure => simp [intOf]
   ·have Hres := zh (Hrun.out.symm.trans (Utf.run_short _ _ _ _ _ (by omega) Hbk.out (by omega) (by omega)))
    clear Hrun
    go_wp2
    go_ret3
    rw [Hres.out]
    exact ⟨rfl, rfl⟩
  ·by_cases hlen : 2 < l.length
   ·have hsk : 2 < (ByteArray.mk l.toArray).size := hlen
    have Hbk' := zh (show (ByteArray.mk l.toArray)[2].toNat = l[2].toNat from by rw [byte_at l 2 hlen])
    have hxk : (ByteArray.mk l.toArray)[2].toNat < 256 := (ByteArray.mk l.toArray)[2].toNat_lt
    have hlt : (2 : Int) < (l.length : Int) := by omega
    by_cases x1 : (ByteArray.mk l.toArray)[2].toNat < 128
    ·have Hres := zh (Hrun.out.symm.trans (Utf.run_text _ _ _ _ _ (by omega) Hbk.out (by omega) hlen (by rw [← Hbk'.out]; omega)))
     clear Hrun
     go_wp2
     go_ret3
     rw [Hres.out]
     exact ⟨rfl, rfl⟩
    by_cases x2 : 191 < (ByteArray.mk l.toArray)[2].toNat
    ·have Hres := zh (Hrun.out.symm.trans (Utf.run_text _ _ _ _ _ (by omega) Hbk.out (by omega) hlen (by rw [← Hbk'.out]; omega)))
     clear Hrun
     go_wp2
     go_ret3
     rw [Hres.out]
     exact ⟨rfl, rfl⟩
    obtain ⟨g, rfl⟩ : ∃ g, f = g + 1 := ⟨f - 1, by omega⟩
    have hmore := more_at l 4 R g 2 _ Hbk.out (by omega) hlen Hbk'.out (by omega) (by omega)
    have Hmore := zh (Hrun.out.symm.trans hmore)
    clear Hrun hmore
    go_wp2_with fail
    refine (among_4 _ _ _ (by omega)).mono ?_
    rintro e w' ⟨rfl, rfl⟩
    rw [am_43 _ (by omega)]
    cases hbn : Utf.bg (R * 64 + ((ByteArray.mk l.toArray)[2].toNat : Int) - 128) 4 3
    ·have Hres := zh (Hmore.out.trans (Utf.run_bad _ _ _ _ _ (by omega) hbn))
     clear Hmore
     go_wp2
     go_ret3
     rw [Hres.out]
     exact ⟨rfl, rfl⟩
    ·have Hbn := zh hbn
     clear hbn
     go_wp2_with fail
     go_round
     case rel => exact ⟨_, 3, g, rfl, rfl, by omega, by simp; omega, by omega, Hbn.out, Hmore.out.symm⟩
     case measure => simp [intOf]
   ·have Hres := zh (Hrun.out.symm.trans (Utf.run_short _ _ _ _ _ (by omega) Hbk.out (by omega) (by omega)))
    clear Hrun
    go_wp2
    go_ret3
    rw [Hres.out]
    exact ⟨rfl, rfl⟩
  ·by_cases hlen : 3 < l.length
   ·have hsk : 3 < (ByteArray.mk l.toArray).size := hlen
    have Hbk' := zh (show (ByteArray.mk l.toArray)[3].toNat = l[3].toNat from by rw [byte_at l 3 hlen])
    have hxk : (ByteArray.mk l.toArray)[3].toNat < 256 := (ByteArray.mk l.toArray)[3].toNat_lt
    have hlt : (3 : Int) < (l.length : Int) := by omega
    by_cases x1 : (ByteArray.mk l.toArray)[3].toNat < 128
    ·have Hres := zh (Hrun.out.symm.trans (Utf.run_text _ _ _ _ _ (by omega) Hbk.out (by omega) hlen (by rw [← Hbk'.out]; omega)))
     clear Hrun
     go_wp2
     go_ret3
     rw [Hres.out]
     exact ⟨rfl, rfl⟩
    by_cases x2 : 191 < (ByteArray.mk l.toArray)[3].toNat
    ·have Hres := zh (Hrun.out.symm.trans (Utf.run_text _ _ _ _ _ (by omega) Hbk.out (by omega) hlen (by rw [← Hbk'.out]; omega)))
     clear Hrun
     go_wp2
     go_ret3
     rw [Hres.out]
     exact ⟨rfl, rfl⟩
    obtain ⟨g, rfl⟩ : ∃ g, f = g + 1 := ⟨f - 1, by omega⟩
    have hmore := more_at l 4 R g 3 _ Hbk.out (by omega) hlen Hbk'.out (by omega) (by omega)
    have Hmore := zh (Hrun.out.symm.trans hmore)
    clear Hrun hmore
    go_wp2_with fail
    refine (among_4 _ _ _ (by omega)).mono ?_
    rintro e w' ⟨rfl, rfl⟩
    rw [am_44 _ (by omega)]
    cases hbn : Utf.bg (R * 64 + ((ByteArray.mk l.toArray)[3].toNat : Int) - 128) 4 4
    ·have Hres := zh (Hmore.out.trans (Utf.run_bad _ _ _ _ _ (by omega) hbn))
     clear Hmore
     go_wp2
     go_ret3
     rw [Hres.out]
     exact ⟨rfl, rfl⟩
    ·have Hbn := zh hbn
     clear hbn
     go_wp2_with fail
     go_round
     case rel => exact ⟨_, 4, g, rfl, rfl, by omega, by simp; omega, by omega, Hbn.out, Hmore.out.symm⟩
     case measure => simp [intOf]
   ·have Hres := zh (Hrun.out.symm.trans (Utf.run_short _ _ _ _ _ (by omega) Hbk.out (by omega) (by omega)))
    clear Hrun
    go_wp2
    go_ret3
    rw [Hres.out]
    exact ⟨rfl, rfl⟩
  ·have Hres := zh (Hrun.out.symm.trans (Utf.run_end _ _ _ _ _ (by omega) Hbk.out rfl))
   clear Hrun
   go_wp2
   go_ret3
   rw [Hres.out]
   exact ⟨rfl, rfl⟩
end Go.Proofs.YtmgdciihpjifgaaGreatDoor
namespace Go.Proofs.YtmgdciihpjifgaaGreatDoor
open Go.RowKit
theorem rnext_none (w : World) :
  Calls Tryz.prog 138 #[.string ⟨([] : List UInt8).toArray⟩] w fun e w' => e = .returned (.tuple #[.int .i64 0, .int .i64 0, .int .i64 3]) ∧ w = w' := by
 go_enter Tryz.func138, Tryz.ntmps138
 go_wp2
 go_ret3
 exact ⟨rfl, rfl⟩
theorem rnext_0 (l : List UInt8) (w : World) (h0 : 0 < l.length) (hw : Utf.ldw l[0].toNat = 0) (hb : l[0].toNat < 248) :
  Calls Tryz.prog 138 #[.string ⟨l.toArray⟩] w fun e w' => e = .returned (.tuple #[.int .i64 0, .int .i64 0, .int .i64 7]) ∧ w = w' := by
 have hsz : 0 < (ByteArray.mk l.toArray).size := h0
 have hba : (ByteArray.mk l.toArray)[0] = l[0] := byte_at l 0 h0
 have hx : (ByteArray.mk l.toArray)[0].toNat < 256 := (ByteArray.mk l.toArray)[0].toNat_lt
 have hz : ((l.length : Int) == 0) = false := beq_eq_false_iff_ne.2 (by omega)
 have Hba := zh hba
 have Hw := zh hw
 clear hba hw
 go_enter Tryz.func138, Tryz.ntmps138
 go_wp2_with fail
 rw [Hba.out]
 refine (rlead_lo (l[0].toNat : Int) _ (by omega) (by omega)).mono ?_
 rintro e w' ⟨rfl, rfl⟩
 rw [Hw.out]
 go_wp2
 go_ret3
 exact ⟨rfl, rfl⟩
theorem rnext_hi (l : List UInt8) (w : World) (h0 : 0 < l.length) (hb : 248 ≤ l[0].toNat) :
  Calls Tryz.prog 138 #[.string ⟨l.toArray⟩] w fun e w' => e = .returned (.tuple #[.int .i64 0, .int .i64 0, .int .i64 7]) ∧ w = w' := by
 have hsz : 0 < (ByteArray.mk l.toArray).size := h0
 have hba : (ByteArray.mk l.toArray)[0] = l[0] := byte_at l 0 h0
 have hx : (ByteArray.mk l.toArray)[0].toNat < 256 := (ByteArray.mk l.toArray)[0].toNat_lt
 have hz : ((l.length : Int) == 0) = false := beq_eq_false_iff_ne.2 (by omega)
 have Hba := zh hba
 clear hba
 go_enter Tryz.func138, Tryz.ntmps138
 go_wp2_with fail
 rw [Hba.out]
 refine (rlead_hi (l[0].toNat : Int) _ (by omega)).mono ?_
 rintro e w' ⟨rfl, rfl⟩
 go_wp2
 go_ret3
 exact ⟨rfl, rfl⟩
theorem rnext_any (l : List UInt8) (w : World) :
  Calls Tryz.prog 138 #[.string ⟨l.toArray⟩] w fun e w' => e = .returned (.tuple #[.int .i64 (Utf.nx l).1, .int .i64 (Utf.nx l).2.1, .int .i64 (Utf.nx l).2.2]) ∧ w = w' := by
 by_cases h0 : 0 < l.length
 ·by_cases hb : l[0].toNat < 248
  ·rcases Utf.ldw_cases l[0].toNat with hw | hw | hw | hw | hw
   ·have e : Utf.nx l = (0, 0, 7) := by rw [nx_ne l h0, hw]; exact Utf.run_bad _ _ _ _ _ (by omega) rfl
    rw [e]; exact rnext_0 l w h0 hw hb
   ·exact rnext_1 l w h0 hw hb
   ·exact rnext_2 l w h0 hw hb
   ·exact rnext_3 l w h0 hw hb
   ·exact rnext_4 l w h0 hw hb
  ·have hx := l[0].toNat_lt
   have e : Utf.nx l = (0, 0, 7) := by
    rw [nx_ne l h0, (Utf.ld4 _ (by omega)).1, (Utf.ld4 _ (by omega)).2]
    refine Utf.run_bad _ _ _ _ _ (by omega) ?_
    rw [Bool.eq_false_iff]
    intro h
    simp [Utf.bg, Utf.pw, Utf.wd4] at h
    omega
   rw [e]; exact rnext_hi l w h0 (by omega)
 ·have : l = [] := List.length_eq_zero_iff.1 (by omega)
  subst this
  exact rnext_none w
theorem rnext_is (l : List UInt8) (q n e : Int) (w : World) (h : Utf.nx l = (q, n, e)) :
  Calls Tryz.prog 138 #[.string ⟨l.toArray⟩] w fun x w' => x = .returned (.tuple #[.int .i64 q, .int .i64 n, .int .i64 e]) ∧ w = w' := by
 have := rnext_any l w
 rw [h] at this
 exact this
theorem rcount_any (l : List UInt8) (w : World) (hs : l.length ≤ 8796093022208) :
  Calls Tryz.prog 122 #[.string ⟨l.toArray⟩] w fun e w' => e = .returned (.int .i64 (Utf.cn l)) ∧ w = w' := by
 go_enter Tryz.func122, Tryz.ntmps122
 go_wp2
 go_loop [3, 4] (fun c a => ∃ (i j : Nat), a = .int .i64 i ∧ c = .int .i64 j ∧ i ≤ l.length ∧ j ≤ i ∧ Utf.cn l = if Utf.cn (l.drop i) < 0 then -1 else Utf.cn (l.drop i) + (j : Int)) (fun _ a => l.length - (intOf a).toNat)
 case atStart => exact ⟨0, 0, rfl, rfl, by omega, by omega, cn_start l⟩
 case round =>
  obtain ⟨i, j, rfl, rfl, hi, hj, hc⟩ := hrel
  have Hc := zh hc
  clear hc
  by_cases hlt : i < l.length
  ·have hlt' : (i : Int) < (l.length : Int) := by omega
   have hdl : (l.drop i).length = l.length - i := List.length_drop
   have Hx := zh (cut_from l i)
   rcases nx_nat (l.drop i) with ⟨q, n, h, h1, h4, hl⟩ | ⟨e, h, he⟩
   ·have H := zh h
    have hs2 := cn_step l (l.drop i) j n q h Hc.out
    rw [List.drop_drop] at hs2
    have Hs := zh hs2
    have hl' : i + n ≤ l.length := by omega
    clear h hs2 hl hdl
    go_wp2_with fail
    rw [Hx.out]
    refine (rnext_is _ _ _ _ _ H.out).mono ?_
    rintro e w' ⟨rfl, rfl⟩
    go_wp2_with fail
    go_round
    case rel => exact ⟨i + n, j + 1, by go_num, by go_num, by omega, by omega, Hs.out⟩
    case measure => simp [intOf]; omega
   ·have H := zh h
    have hne0 : l.drop i ≠ [] := by intro h; rw [h] at hdl; simp at hdl; omega
    have Hn := zh (show Utf.cn l = -1 from by rw [Hc.out, Utf.cn_no (l.drop i) hne0 (by rw [h]; show ¬ e = 0; omega)]; rfl)
    have hne : (e != 0) = true := by rw [bne_iff_ne]; omega
    clear h he hdl hne0
    go_wp2_with fail
    rw [Hx.out]
    refine (rnext_is _ _ _ _ _ H.out).mono ?_
    rintro e w' ⟨rfl, rfl⟩
    go_wp2
    go_ret
    exact ⟨ret_int Hn.out.symm, rfl⟩
  ·have hnil : l.drop i = [] := List.drop_eq_nil_of_le (by omega)
   have Hn := zh (show Utf.cn l = (j : Int) from by rw [Hc.out, hnil, Utf.cn_nil]; simp)
   clear hnil
   go_wp2
   go_ret
   exact ⟨ret_int Hn.out.symm, rfl⟩
theorem rvalid_any (l : List UInt8) (w : World) (hs : l.length ≤ 8796093022208) :
  Calls Tryz.prog 103 #[.string ⟨l.toArray⟩] w fun e w' => e = .returned (.bool (vd l)) ∧ w = w' := by
 go_enter Tryz.func103, Tryz.ntmps103
 go_wp2_with fail
 refine (rcount_any _ _ hs).mono ?_
 rintro e w' ⟨rfl, rfl⟩
 go_wp2
 go_ret
 exact ⟨rfl, rfl⟩
end Go.Proofs.YtmgdciihpjifgaaGreatDoor
