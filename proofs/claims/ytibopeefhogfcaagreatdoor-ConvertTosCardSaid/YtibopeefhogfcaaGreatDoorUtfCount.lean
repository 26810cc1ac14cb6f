/-
  What Count and Valid answer, for every text. Condition: the text is no longer than any can be.
-/
import Derived.Test.YtibopeefhogfcaaGreatDoorUtfNext
namespace Go.Proofs.YtibopeefhogfcaaGreatDoor
open Go.RowKit

/-- The length of a value that is a text. -/
def slen : Value → Nat
  | .string b => b.size
  | _ => 0

/-- nx, with its length as a natural number. -/
theorem nx_nat (m : List UInt8) : (∃ (q : Int) (n : Nat), Utf.nx m = (q, (n : Int), 0) ∧ 1 ≤ n ∧ n ≤ 4 ∧ n ≤ m.length) ∨ (∃ e : Int, Utf.nx m = (0, 0, e) ∧ (e = 3 ∨ e = 7)) := by
  rcases Utf.nx_err m with h | h | h
  · have := Utf.nx_split m h
    exact .inl ⟨(Utf.nx m).1, (Utf.nx m).2.1.toNat, by rw [this.2.2.2.1, ← h], this.1, this.2.1, this.2.2.1⟩
  · exact .inr ⟨3, h, .inl rfl⟩
  · exact .inr ⟨7, h, .inr rfl⟩

theorem cut_from (l : List UInt8) (n : Nat) : (ByteArray.mk l.toArray).extract n l.length = ⟨(l.drop n).toArray⟩ := by
  apply ByteArray.ext
  rw [ByteArray.data_extract]
  simp
  exact List.take_of_length_le (by simp)

theorem cn_start (l : List UInt8) : Utf.cn l = if Utf.cn l < 0 then -1 else Utf.cn l + ((0 : Nat) : Int) := by
  have := Utf.cn_ge l.length l (Nat.le_refl _)
  split <;> omega

theorem cn_step (l m : List UInt8) (j n : Nat) (q : Int) (h : Utf.nx m = (q, (n : Int), 0)) (hc : Utf.cn l = if Utf.cn m < 0 then -1 else Utf.cn m + (j : Int)) :
    Utf.cn l = if Utf.cn (m.drop n) < 0 then -1 else Utf.cn (m.drop n) + ((j + 1 : Nat) : Int) := by
  rw [Utf.cn_ok m (by rw [h]), h] at hc
  simp only [Int.toNat_natCast] at hc
  rw [hc]
  by_cases hd : Utf.cn (m.drop n) < 0
  · simp [hd]
  · have h0 : ¬ Utf.cn (m.drop n) + 1 < 0 := by omega
    simp only [hd, if_false, h0]
    omega

set_option maxHeartbeats 400000 in
theorem count_any (l : List UInt8) (w : World) (hs : l.length ≤ maxLen) :
    Calls Tryz.prog 48 #[.string ⟨l.toArray⟩] w fun e w' => e = .returned (.int .i64 (Utf.cn l)) ∧ w = w' := by
  unfold maxLen at hs
  go_enter Tryz.func48, Tryz.ntmps48
  go_wp2
  go_loop [0, 3] (fun s c => ∃ (m : List UInt8) (j : Nat), s = .string ⟨m.toArray⟩ ∧ c = .int .i64 j ∧ j + m.length ≤ l.length ∧ Utf.cn l = if Utf.cn m < 0 then -1 else Utf.cn m + (j : Int)) (fun s _ => slen s)
  case atStart => exact ⟨l, 0, rfl, rfl, by omega, cn_start l⟩
  case round =>
    obtain ⟨m, j, rfl, rfl, hj, hc⟩ := hrel
    have Hc := Lib.hid hc
    clear hc
    cases m with
    | nil =>
      have He := Lib.hid (show Utf.cn l = (j : Int) from by rw [Hc.out, Utf.cn_nil]; simp)
      go_wp2
      go_ret
      exact ⟨ret_int He.out.symm, rfl⟩
    | cons c t =>
      rcases nx_nat (c :: t) with ⟨q, n, h, h1, h4, hl⟩ | ⟨e, h, he⟩
      · have H := Lib.hid h
        have Hs := Lib.hid (cn_step l (c :: t) j n q h Hc.out)
        have Hx := Lib.hid (cut_from (c :: t) n)
        have hd : ((c :: t).drop n).length = (c :: t).length - n := List.length_drop
        have Hd := Lib.hid hd
        have hl' : (n : Int) ≤ (t.length : Int) + 1 := by simp at hl; omega
        have hj' : (j : Int) + 1 ≤ (l.length : Int) := by simp at hj; omega
        clear h hd
        go_wp2_with fail
        refine (next_is _ _ _ _ _ H.out).mono ?_
        rintro e w' ⟨rfl, rfl⟩
        go_wp2_with fail
        go_round
        case rel => exact ⟨(c :: t).drop n, j + 1, congrArg Value.string Hx.out, by go_num, by have := Hd.out; omega, Hs.out⟩
        case measure =>
          show ((ByteArray.mk (c :: t).toArray).extract n (t.length + 1)).size < (ByteArray.mk (c :: t).toArray).size
          rw [show t.length + 1 = (c :: t).length from rfl, Hx.out]
          show ((c :: t).drop n).toArray.size < (c :: t).toArray.size
          rw [List.size_toArray, List.size_toArray, Hd.out]
          simp only [List.length_cons]
          omega
      · have H := Lib.hid h
        have Hn := Lib.hid (show Utf.cn l = -1 from by rw [Hc.out, Utf.cn_no (c :: t) (by simp) (by rw [h]; show ¬ e = 0; omega)]; rfl)
        have hne : (e != 0) = true := by rw [bne_iff_ne]; omega
        clear h he
        go_wp2_with fail
        refine (next_is _ _ _ _ _ H.out).mono ?_
        rintro e w' ⟨rfl, rfl⟩
        go_wp2
        go_ret
        exact ⟨ret_int Hn.out.symm, rfl⟩

/-- Is all of l characters? -/
def vd (l : List UInt8) : Bool := decide (0 ≤ Utf.cn l)

set_option maxHeartbeats 400000 in
theorem valid_any (l : List UInt8) (w : World) (hs : l.length ≤ maxLen) :
    Calls Tryz.prog 28 #[.string ⟨l.toArray⟩] w fun e w' => e = .returned (.bool (vd l)) ∧ w = w' := by
  go_enter Tryz.func28, Tryz.ntmps28
  go_wp2_with fail
  refine (count_any _ _ hs).mono ?_
  rintro e w' ⟨rfl, rfl⟩
  go_wp2
  go_ret
  exact ⟨rfl, rfl⟩

end Go.Proofs.YtibopeefhogfcaaGreatDoor
