/-
  What the document's plain answers of any text. Condition: the bound named in the theorem.
-/
import Derived.Test.YtakpieiafoappaaGreatDoorKcRefPut
import Derived.WalkSpells
import Derived.WalkLawsBesides
namespace Go.Proofs.YtakpieiafoappaaGreatDoor
open Go.RowKit

theorem ret_ssi {a b s t : List UInt8} {c d : Int} (h : a = b) (g : s = t) (i : c = d) : Ending.returned (.tuple #[.string ⟨a.toArray⟩, .string ⟨s.toArray⟩, .int .i64 c]) = .returned (.tuple #[.string ⟨b.toArray⟩, .string ⟨t.toArray⟩, .int .i64 d]) := by rw [h, g, i]

theorem zf {x : UInt8} (n : UInt8) (h : x ≠ n) : ((x.toNat : Int) == (n.toNat : Int)) = false := beq_f (fun e => h (UInt8.toNat_inj.1 (by omega)))
theorem zt {x n : UInt8} (h : x = n) : ((x.toNat : Int) == (n.toNat : Int)) = true := by rw [h]; simp

set_option maxHeartbeats 2000000 in
theorem rplain_is (s : List UInt8) (w : World) (hs : s.length ≤ 1000000) :
    Calls Tryz.prog 105 #[.string ⟨s.toArray⟩] w fun e w' => e = .returned (.tuple #[.string ⟨(Kc.un s).1.toArray⟩, .string ⟨(Kc.un s).2.1.toArray⟩, .int .i64 (Kc.un s).2.2]) ∧ Below w.heap.size w w' := by
  have HS := Lib.hid hs
  have hmx : Tryz.prog.follows .mixedOrders = true := by kernel_rfl
  clear hs
  go_enter Tryz.func105, Tryz.ntmps105
  go_wp2
  go_loopw [5, 6] (fun o i wr => ∃ (j : Nat) (done : List UInt8), i = .int .i64 j ∧ j ≤ s.length ∧ Below w.heap.size w wr ∧ Ow wr w.heap.size o done ∧ Kc.un s = Kc.pre done (Kc.un (s.drop j)) ∧ done.length ≤ j) (fun _ i _ => s.length - (intOf i).toNat)
  case atStart => exact ⟨0, [], rfl, Nat.zero_le _, Below.refl _ _, ow_nil _ _, (Kc.pre_nil s).symm, Nat.le_refl _⟩
  case round =>
    obtain ⟨j, done, rfl, hj, hb, hO, hu, hd⟩ := hrel
    have J := Lib.hid (And.intro hb (And.intro hO (And.intro hu hd)))
    clear hb hO hu hd
    by_cases hlt : j < s.length
    · have hsz : j < (ByteArray.mk s.toArray).size := hlt
      have hba : (ByteArray.mk s.toArray)[j] = s[j] := byte_at s j hlt
      have hw : wrap64 ((j : Int) + 1) = (j : Int) + 1 := by have := HS.out; exact wrap_in _ (by omega) (by omega)
      have HD := Lib.hid (List.drop_eq_getElem_cons hlt)
      by_cases hz : s[j] = 0
      · have hz1 : ((s[j].toNat : Int) == 0) = true := zt (n := 0) hz
        have hz2 : (s[j].toNat : Int) = 0 := by rw [hz]; rfl
        have HZ := Lib.hid hz
        clear hz
        by_cases hl : j + 1 < s.length
        · have hsz2 : j + 1 < (ByteArray.mk s.toArray).size := hl
          have hba2 : (ByteArray.mk s.toArray)[j + 1] = s[j + 1] := byte_at s (j + 1) hl
          have hl1 : ((j : Int) + 1 == (s.length : Int)) = false := beq_f (by omega)
          have hl2 : (j : Int) + 1 < (s.length : Int) := by omega
          have ht : ((j : Int) + 1).toNat = j + 1 := by omega
          have HD2 := Lib.hid (show s.drop j = 0 :: s[j + 1] :: s.drop (j + 2) from by rw [HD.out, HZ.out, List.drop_eq_getElem_cons hl])
          by_cases h0 : s[j + 1] = 0
          · have h1 : ((s[j + 1].toNat : Int) == 0) = true := zt (n := 0) h0
            have h2 : (s[j + 1].toNat : Int) = 0 := by rw [h0]; rfl
            have H0 := Lib.hid h0
            have hw2 : wrap64 ((j : Int) + 2) = (j : Int) + 2 := by have := HS.out; exact wrap_in _ (by omega) (by omega)
            have ht2 : ((j : Int) + 2).toNat = j + 2 := by omega
            have hl3 : (j : Int) + 2 ≤ (s.length : Int) := by omega
            have ct := cut_from s (j + 2)
            have cv := conv_own _ (J.out.2.1.keep (below_drew1 (Below.refl _ _)))
            clear h0
            go_wp2
            go_region
            go_wp2
            go_ret3
            have K : Kc.un s = (done, s.drop (j + 2), 0) := by rw [J.out.2.2.1, HD2.out, H0.out, Kc.un_00]; simp [Kc.pre]
            exact ⟨ret_ssi (by rw [K]) (by rw [K]) (by rw [K]), below_drew1 J.out.1⟩
          · by_cases hf : s[j + 1] = 255
            · have h1 : ((s[j + 1].toNat : Int) == 0) = false := zf 0 h0
              have h2 : ¬ (s[j + 1].toNat : Int) = 0 := by rw [hf]; decide
              have h3 : ((s[j + 1].toNat : Int) == 255) = true := zt (n := 255) hf
              have h4 : (s[j + 1].toNat : Int) = 255 := by rw [hf]; rfl
              have HF := Lib.hid hf
              have hw2 : wrap64 ((j : Int) + 1 + 1) = (j : Int) + 2 := by have := HS.out; rw [show (j : Int) + 1 + 1 = (j : Int) + 2 from by omega]; exact wrap_in _ (by omega) (by omega)
              clear h0 hf
              go_wp2_with (at_builtin; (refine app1 rfl _ _ rfl w.heap.size u5 done 0 _ wr rfl rfl J.out.2.1 rfl (by have := J.out.2.2.2; have := HS.out; omega) J.out.1.size ?_; intro v' w1 hown' hb'; have J1 := Lib.hid (And.intro hown' (J.out.1.trans hb')); clear hown' hb'; go_frame))
              go_roundw
              case rel => exact ⟨j + 2, done ++ [0], by go_num, hl, J1.out.2, J1.out.1, by rw [J.out.2.2.1, HD2.out, HF.out, Kc.un_0f, Kc.pre_cons], by have := J.out.2.2.2; simp; omega⟩
              case measure => simp only [hw2]; simp [intOf]; omega
            · have h1 : ((s[j + 1].toNat : Int) == 0) = false := zf 0 h0
              have h2 : ¬ (s[j + 1].toNat : Int) = 0 := fun e => h0 (UInt8.toNat_inj.1 (by show s[j + 1].toNat = 0; omega))
              have h3 : ((s[j + 1].toNat : Int) == 255) = false := zf 255 hf
              have h4 : ¬ (s[j + 1].toNat : Int) = 255 := fun e => hf (UInt8.toNat_inj.1 (by show s[j + 1].toNat = 255; omega))
              have K := Lib.hid (show Kc.un s = ([], [], 4) from by rw [J.out.2.2.1, HD2.out, Kc.un_0x _ h0 hf]; rfl)
              clear h0 hf
              go_wp2
              go_ret3
              exact ⟨ret_ssi (a := []) (s := []) (by rw [K.out]) (by rw [K.out]) (by rw [K.out]), J.out.1⟩
        · have hl1 : ((j : Int) + 1 == (s.length : Int)) = true := beq_t (by omega)
          have K := Lib.hid (show Kc.un s = ([], [], 3) from by rw [J.out.2.2.1, HD.out, List.drop_of_length_le (by omega)]; rfl)
          go_wp2
          go_ret3
          exact ⟨ret_ssi (a := []) (s := []) (by rw [K.out]) (by rw [K.out]) (by rw [K.out]), J.out.1⟩
      · have hz1 : ((s[j].toNat : Int) == 0) = false := zf 0 hz
        have hz2 : ¬ (s[j].toNat : Int) = 0 := fun e => hz (UInt8.toNat_inj.1 (by show s[j].toNat = 0; omega))
        have HZ := Lib.hid hz
        clear hz
        go_wp2_with (at_builtin; (refine app1 rfl _ _ rfl w.heap.size u5 done s[j] _ wr (bv_byte _) rfl J.out.2.1 rfl (by have := J.out.2.2.2; have := HS.out; omega) J.out.1.size ?_; intro v' w1 hown' hb'; have J1 := Lib.hid (And.intro hown' (J.out.1.trans hb')); clear hown' hb'; go_frame))
        go_roundw
        case rel => exact ⟨j + 1, done ++ [s[j]], by go_num, hlt, J1.out.2, J1.out.1, by rw [J.out.2.2.1, HD.out, Kc.un_n _ HZ.out, Kc.pre_cons], by have := J.out.2.2.2; simp; omega⟩
        case measure => rw [hw]; simp [intOf]; omega
    · obtain rfl : j = s.length := by omega
      have K := Lib.hid (show Kc.un s = ([], [], 3) from by rw [J.out.2.2.1, List.drop_length]; rfl)
      go_wp2
      go_ret3
      exact ⟨ret_ssi (a := []) (s := []) (by rw [K.out]) (by rw [K.out]) (by rw [K.out]), J.out.1⟩

end Go.Proofs.YtakpieiafoappaaGreatDoor
