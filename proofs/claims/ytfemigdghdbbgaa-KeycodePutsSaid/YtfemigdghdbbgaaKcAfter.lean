/-
  What After answers, the program's and the document's. Condition: the bound named in each theorem.
-/
import Derived.Test.YtfemigdghdbbgaaKcRefPlain
namespace Go.Proofs.Ytfemigdghdbbgaa
open Go.RowKit

/-- What stands behind the last byte that is not 255 counts for nothing. -/
theorem af_cut (s : List UInt8) (j : Nat) (h : j < s.length) (hj : s[j] = 255) : Kc.af (s.take (j + 1)) = Kc.af (s.take j) := by
  rw [List.take_succ_eq_append_getElem h, hj, Kc.af_snoc_ff]
theorem af_stop (s : List UInt8) (j : Nat) (h : j < s.length) (hj : s[j] ≠ 255) : Kc.af (s.take (j + 1)) = s.take j ++ [s[j] + 1] := by
  rw [List.take_succ_eq_append_getElem h, Kc.af_snoc _ hj]
theorem cut_to (s : List UInt8) (j : Nat) : (ByteArray.mk s.toArray).extract 0 j = ⟨(s.take j).toArray⟩ := by
  apply ByteArray.ext
  rw [ByteArray.data_extract]
  simp
theorem one_more (x : UInt8) : ((x.toNat : Int) + 1) % 256 = ((x + 1).toNat : Int) := by
  rw [UInt8.toNat_add]
  show _ = (((x.toNat + 1) % 256 : Nat) : Int)
  omega

set_option maxHeartbeats 2000000 in
theorem after_is (s : List UInt8) (w : World) (hs : s.length ≤ 1000000) :
    Calls Try.prog 20 #[.string ⟨s.toArray⟩] w fun e w' => e = .returned (.string ⟨(Kc.af s).toArray⟩) ∧ Below w.heap.size w w' := by
  have HS := Lib.hid hs
  have hmx : Try.prog.follows .mixedOrders = true := by kernel_rfl
  clear hs
  go_enter Try.func20, Try.ntmps20
  go_wp2
  go_loop [3] (fun i => ∃ (j : Nat), i = .int .i64 j ∧ j ≤ s.length ∧ Kc.af s = Kc.af (s.take j)) (fun i => (intOf i).toNat)
  case atStart => exact ⟨s.length, rfl, Nat.le_refl _, by rw [List.take_length]⟩
  case round =>
    obtain ⟨j, rfl, hj, ha⟩ := hrel
    have J := Lib.hid (And.intro ha hj)
    clear ha hj
    cases j with
    | zero =>
      go_wp2
      go_ret
      exact ⟨ret_str (by rw [J.out.1]; rfl), Below.refl _ _⟩
    | succ j =>
      have hlt : j < s.length := J.out.2
      have hsz : j < (ByteArray.mk s.toArray).size := hlt
      have hba : (ByteArray.mk s.toArray)[j] = s[j] := byte_at s j hlt
      obtain ⟨q, hq⟩ : ∃ q : Int, ((j + 1 : Nat) : Int) = q := ⟨_, rfl⟩
      rw [hq]
      have q1 : 0 < q := by omega
      have hw : wrap64 (q - 1) = (j : Int) := by have := HS.out; rw [← hq]; rw [show ((j + 1 : Nat) : Int) - 1 = (j : Int) from by omega]; exact wrap_in _ (by omega) (by omega)
      have q2 : (q == 0) = false := beq_f (by omega)
      have HQ := Lib.hid hq
      clear hq
      by_cases hf : s[j] = 255
      · have h1 : ((s[j].toNat : Int) == 255) = true := zt (n := 255) hf
        have h2 : (s[j].toNat : Int) = 255 := by rw [hf]; rfl
        have HF := Lib.hid hf
        clear hf
        go_wp2
        go_round
        case rel => exact ⟨j, by rw [hw], by omega, by rw [J.out.1, af_cut s j hlt HF.out]⟩
        case measure => rw [hw, ← HQ.out]; simp [intOf]
      · have h1 : ((s[j].toNat : Int) == 255) = false := zf 255 hf
        have h2 : ¬ (s[j].toNat : Int) = 255 := fun e => hf (UInt8.toNat_inj.1 (by show s[j].toNat = 255; omega))
        have om := one_more s[j]
        have HF := Lib.hid hf
        have ct := cut_to s j
        obtain ⟨P, hP⟩ : ∃ P, s.take j = P := ⟨_, rfl⟩
        rw [hP] at ct
        have hd : (9223372036854775807 < P.length + 1) = False := by have := HS.out; rw [← hP, List.length_take, eq_iff_iff, iff_false]; omega
        have cat := cat_list P [s[j] + 1]
        have HP := Lib.hid hP
        clear hP
        have cv : (convert 53 9 (.slice (some ⟨w.heap.size, 0, none⟩) 1 1)).run Try.prog (w.alloc (.cells #[.int .u8 (((s[j].toNat : Int) + 1) % 256)] 5)).drew = .ok (.string ⟨[s[j] + 1].toArray⟩) (w.alloc (.cells #[.int .u8 (((s[j].toNat : Int) + 1) % 256)] 5)).drew := conv1 w.drew (s[j] + 1) _ om
        clear hf om
        go_wp2
        go_region
        go_wp2
        go_ret
        exact ⟨ret_str (by rw [J.out.1, af_stop s j hlt HF.out, HP.out]), below_drew1 (below1 w _)⟩

set_option maxHeartbeats 2000000 in
theorem rafter_is (s : List UInt8) (w : World) (hs : s.length ≤ 1000000) :
    Calls Try.prog 21 #[.string ⟨s.toArray⟩] w fun e w' => e = .returned (.string ⟨(Kc.af s).toArray⟩) ∧ Below w.heap.size w w' := by
  have HS := Lib.hid hs
  have hmx : Try.prog.follows .mixedOrders = true := by kernel_rfl
  have h0 : wrap64 ((s.length : Int) - 1) = (s.length : Int) - 1 := wrap_in _ (by omega) (by omega)
  clear hs
  go_enter Try.func21, Try.ntmps21
  go_wp2
  go_loop [3] (fun i => ∃ (j : Nat), i = .int .i64 ((j : Int) - 1) ∧ j ≤ s.length ∧ Kc.af s = Kc.af (s.take j)) (fun i => (intOf i + 1).toNat)
  case atStart => exact ⟨s.length, by rw [h0], Nat.le_refl _, by rw [List.take_length]⟩
  case round =>
    obtain ⟨j, rfl, hj, ha⟩ := hrel
    have J := Lib.hid (And.intro ha hj)
    clear ha hj h0
    cases j with
    | zero =>
      go_wp2
      go_ret
      exact ⟨ret_str (by rw [J.out.1]; rfl), Below.refl _ _⟩
    | succ j =>
      rw [show ((j + 1 : Nat) : Int) - 1 = (j : Int) from by omega]
      have hlt : j < s.length := J.out.2
      have hsz : j < (ByteArray.mk s.toArray).size := hlt
      have hba : (ByteArray.mk s.toArray)[j] = s[j] := byte_at s j hlt
      have hw : wrap64 ((j : Int) - 1) = (j : Int) - 1 := by have := HS.out; exact wrap_in _ (by omega) (by omega)
      by_cases hf : s[j] = 255
      · have h1 : decide ((s[j].toNat : Int) < 255) = false := by rw [hf]; decide
        have HF := Lib.hid hf
        clear hf
        go_wp2
        go_round
        case rel => exact ⟨j, by rw [hw], by omega, by rw [J.out.1, af_cut s j hlt HF.out]⟩
        case measure => rw [hw]; simp [intOf]
      · have h1 : decide ((s[j].toNat : Int) < 255) = true := by
          have g1 := s[j].toNat_lt
          have g2 : s[j].toNat ≠ 255 := fun e => hf (UInt8.toNat_inj.1 e)
          rw [decide_eq_true_iff]; omega
        have om := one_more s[j]
        have HF := Lib.hid hf
        have ct := cut_to s j
        obtain ⟨P, hP⟩ : ∃ P, s.take j = P := ⟨_, rfl⟩
        rw [hP] at ct
        have hd : (9223372036854775807 < P.length + 1) = False := by have := HS.out; rw [← hP, List.length_take, eq_iff_iff, iff_false]; omega
        have cat := cat_list P [s[j] + 1]
        have HP := Lib.hid hP
        have cv : (convert 53 9 (.slice (some ⟨w.heap.size, 0, none⟩) 1 1)).run Try.prog (w.alloc (.cells #[.int .u8 (((s[j].toNat : Int) + 1) % 256)] 5)).drew = .ok (.string ⟨[s[j] + 1].toArray⟩) (w.alloc (.cells #[.int .u8 (((s[j].toNat : Int) + 1) % 256)] 5)).drew := conv1 w.drew (s[j] + 1) _ om
        clear hP hf om
        go_wp2
        go_region
        go_wp2
        go_ret
        exact ⟨ret_str (by rw [J.out.1, af_stop s j hlt HF.out, HP.out]), below_drew1 (below1 w _)⟩

end Go.Proofs.Ytfemigdghdbbgaa
