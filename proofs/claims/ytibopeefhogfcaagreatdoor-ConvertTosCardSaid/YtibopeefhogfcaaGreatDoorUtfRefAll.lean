/-
  What the document's own Next, Count, Valid, Runes and Ints answer. Conditions: the bounds named in each theorem.
-/
import Derived.Test.YtibopeefhogfcaaGreatDoorUtfRefNext
import Derived.Test.YtibopeefhogfcaaGreatDoorUtfCount
import Derived.Deep.QuietTactic
import Derived.BigQuiet
namespace Go.Proofs.YtibopeefhogfcaaGreatDoor
open Go.RowKit

set_option maxHeartbeats 400000 in
theorem rnext_none (w : World) :
    Calls Tryz.prog 80 #[.string ⟨([] : List UInt8).toArray⟩] w fun e w' => e = .returned (.tuple #[.int .i64 0, .int .i64 0, .int .i64 3]) ∧ w = w' := by
  go_enter Tryz.func80, Tryz.ntmps80
  go_wp2
  go_ret3
  exact ⟨rfl, rfl⟩

set_option maxHeartbeats 400000 in
theorem rnext_0 (l : List UInt8) (w : World) (h0 : 0 < l.length) (hw : Utf.ldw l[0].toNat = 0) (hb : l[0].toNat < 248) :
    Calls Tryz.prog 80 #[.string ⟨l.toArray⟩] w fun e w' => e = .returned (.tuple #[.int .i64 0, .int .i64 0, .int .i64 7]) ∧ w = w' := by
  have hsz : 0 < (ByteArray.mk l.toArray).size := h0
  have hba : (ByteArray.mk l.toArray)[0] = l[0] := byte_at l 0 h0
  have hx : (ByteArray.mk l.toArray)[0].toNat < 256 := (ByteArray.mk l.toArray)[0].toNat_lt
  have hz : ((l.length : Int) == 0) = false := beq_eq_false_iff_ne.2 (by omega)
  have Hba := Lib.hid hba
  have Hw := Lib.hid hw
  clear hba hw
  go_enter Tryz.func80, Tryz.ntmps80
  go_wp2_with fail
  rw [Hba.out]
  refine (rlead_lo (l[0].toNat : Int) _ (by omega) (by omega)).mono ?_
  rintro e w' ⟨rfl, rfl⟩
  rw [Hw.out]
  go_wp2
  go_ret3
  exact ⟨rfl, rfl⟩

set_option maxHeartbeats 400000 in
theorem rnext_hi (l : List UInt8) (w : World) (h0 : 0 < l.length) (hb : 248 ≤ l[0].toNat) :
    Calls Tryz.prog 80 #[.string ⟨l.toArray⟩] w fun e w' => e = .returned (.tuple #[.int .i64 0, .int .i64 0, .int .i64 7]) ∧ w = w' := by
  have hsz : 0 < (ByteArray.mk l.toArray).size := h0
  have hba : (ByteArray.mk l.toArray)[0] = l[0] := byte_at l 0 h0
  have hx : (ByteArray.mk l.toArray)[0].toNat < 256 := (ByteArray.mk l.toArray)[0].toNat_lt
  have hz : ((l.length : Int) == 0) = false := beq_eq_false_iff_ne.2 (by omega)
  have Hba := Lib.hid hba
  clear hba
  go_enter Tryz.func80, Tryz.ntmps80
  go_wp2_with fail
  rw [Hba.out]
  refine (rlead_hi (l[0].toNat : Int) _ (by omega)).mono ?_
  rintro e w' ⟨rfl, rfl⟩
  go_wp2
  go_ret3
  exact ⟨rfl, rfl⟩

theorem rnext_any (l : List UInt8) (w : World) :
    Calls Tryz.prog 80 #[.string ⟨l.toArray⟩] w fun e w' => e = .returned (.tuple #[.int .i64 (Utf.nx l).1, .int .i64 (Utf.nx l).2.1, .int .i64 (Utf.nx l).2.2]) ∧ w = w' := by
  by_cases h0 : 0 < l.length
  · by_cases hb : l[0].toNat < 248
    · rcases Utf.ldw_cases l[0].toNat with hw | hw | hw | hw | hw
      · have e : Utf.nx l = (0, 0, 7) := by rw [nx_ne l h0, hw]; exact Utf.run_bad _ _ _ _ _ (by omega) rfl
        rw [e]; exact rnext_0 l w h0 hw hb
      · exact rnext_1 l w h0 hw hb
      · exact rnext_2 l w h0 hw hb
      · exact rnext_3 l w h0 hw hb
      · exact rnext_4 l w h0 hw hb
    · have hx := l[0].toNat_lt
      have e : Utf.nx l = (0, 0, 7) := by
        rw [nx_ne l h0, (Utf.ld4 _ (by omega)).1, (Utf.ld4 _ (by omega)).2]
        refine Utf.run_bad _ _ _ _ _ (by omega) ?_
        rw [Bool.eq_false_iff]
        intro h
        simp [Utf.bg, Utf.pw, Utf.wd4] at h
        omega
      rw [e]; exact rnext_hi l w h0 (by omega)
  · have : l = [] := List.length_eq_zero_iff.1 (by omega)
    subst this
    exact rnext_none w

theorem rnext_is (l : List UInt8) (q n e : Int) (w : World) (h : Utf.nx l = (q, n, e)) :
    Calls Tryz.prog 80 #[.string ⟨l.toArray⟩] w fun x w' => x = .returned (.tuple #[.int .i64 q, .int .i64 n, .int .i64 e]) ∧ w = w' := by
  have := rnext_any l w
  rw [h] at this
  exact this

set_option maxHeartbeats 400000 in
theorem rcount_any (l : List UInt8) (w : World) (hs : l.length ≤ 8796093022208) :
    Calls Tryz.prog 64 #[.string ⟨l.toArray⟩] w fun e w' => e = .returned (.int .i64 (Utf.cn l)) ∧ w = w' := by
  go_enter Tryz.func64, Tryz.ntmps64
  go_wp2
  go_loop [3, 4] (fun c a => ∃ (i j : Nat), a = .int .i64 i ∧ c = .int .i64 j ∧ i ≤ l.length ∧ j ≤ i ∧ Utf.cn l = if Utf.cn (l.drop i) < 0 then -1 else Utf.cn (l.drop i) + (j : Int)) (fun _ a => l.length - (intOf a).toNat)
  case atStart => exact ⟨0, 0, rfl, rfl, by omega, by omega, cn_start l⟩
  case round =>
    obtain ⟨i, j, rfl, rfl, hi, hj, hc⟩ := hrel
    have Hc := Lib.hid hc
    clear hc
    by_cases hlt : i < l.length
    · have hlt' : (i : Int) < (l.length : Int) := by omega
      have hdl : (l.drop i).length = l.length - i := List.length_drop
      have Hx := Lib.hid (cut_from l i)
      rcases nx_nat (l.drop i) with ⟨q, n, h, h1, h4, hl⟩ | ⟨e, h, he⟩
      · have H := Lib.hid h
        have hs2 := cn_step l (l.drop i) j n q h Hc.out
        rw [List.drop_drop] at hs2
        have Hs := Lib.hid hs2
        have hl' : i + n ≤ l.length := by omega
        clear h hs2 hl hdl
        go_wp2_with fail
        rw [Hx.out]
        refine (rnext_is _ _ _ _ _ H.out).mono ?_
        rintro e w' ⟨rfl, rfl⟩
        go_wp2_with fail
        go_round
        case rel => exact ⟨i + n, j + 1, by go_num, by go_num, by omega, by omega, Hs.out⟩
        case measure => simp [intOf]; omega
      · have H := Lib.hid h
        have hne0 : l.drop i ≠ [] := by intro h; rw [h] at hdl; simp at hdl; omega
        have Hn := Lib.hid (show Utf.cn l = -1 from by rw [Hc.out, Utf.cn_no (l.drop i) hne0 (by rw [h]; show ¬ e = 0; omega)]; rfl)
        have hne : (e != 0) = true := by rw [bne_iff_ne]; omega
        clear h he hdl hne0
        go_wp2_with fail
        rw [Hx.out]
        refine (rnext_is _ _ _ _ _ H.out).mono ?_
        rintro e w' ⟨rfl, rfl⟩
        go_wp2
        go_ret
        exact ⟨ret_int Hn.out.symm, rfl⟩
    · have hnil : l.drop i = [] := List.drop_eq_nil_of_le (by omega)
      have Hn := Lib.hid (show Utf.cn l = (j : Int) from by rw [Hc.out, hnil, Utf.cn_nil]; simp)
      clear hnil
      go_wp2
      go_ret
      exact ⟨ret_int Hn.out.symm, rfl⟩

set_option maxHeartbeats 400000 in
theorem rvalid_any (l : List UInt8) (w : World) (hs : l.length ≤ 8796093022208) :
    Calls Tryz.prog 36 #[.string ⟨l.toArray⟩] w fun e w' => e = .returned (.bool (vd l)) ∧ w = w' := by
  go_enter Tryz.func36, Tryz.ntmps36
  go_wp2_with fail
  refine (rcount_any _ _ hs).mono ?_
  rintro e w' ⟨rfl, rfl⟩
  go_wp2
  go_ret
  exact ⟨rfl, rfl⟩

end Go.Proofs.YtibopeefhogfcaaGreatDoor
