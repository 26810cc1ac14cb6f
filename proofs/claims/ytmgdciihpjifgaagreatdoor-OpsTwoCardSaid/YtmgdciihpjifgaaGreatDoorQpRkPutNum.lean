/-
  What putNumber and the document's Eight answer: a number in bytes, the highest first. Conditions: the bounds named in each theorem.
-/
import Derived.Test.YtmgdciihpjifgaaGreatDoorQpRkRow
import Derived.WalkSpells
import Derived.WalkLawsBesides
namespace Go.Proofs.YtmgdciihpjifgaaGreatDoor.Rk
open Go.RowKit

set_option maxHeartbeats 400000 in
theorem putNumber_is (base : Nat) (v : Value) (l : List UInt8) (N k : Nat) (w : World) (hown : Ow w base v l) (hb : base ≤ w.heap.size) (hk : k ≤ 8) (hl : l.length ≤ 1000000) :
    Calls Tryz.prog 100 #[v, .int .u64 N, .int .i64 k] w fun e w' => ∃ v', e = .returned v' ∧ Ow w' base v' (l ++ Kc.bn k N) ∧ Gr w v w' v' := by
  have H := Lib.hid (And.intro hown (And.intro hb (And.intro hk hl)))
  have hk2 : (k : Int) ≤ 8 := by omega
  have hk3 : (0 : Int) ≤ k := by omega
  clear hown hb hk hl
  go_enter Tryz.func100, Tryz.ntmps100
  go_wp2
  go_loopw [0, 7] (fun o p wr => ∃ (j : Nat) (q : Int) (done : List UInt8), p = .int .i64 q ∧ Ow wr base o done ∧ Gr w v wr o ∧ done ++ Kc.bn j N = l ++ Kc.bn k N ∧ q = (j : Int) - 1 ∧ j ≤ 8) (fun _ p _ => (intOf p + 1).toNat)
  case atStart => exact ⟨k, (k : Int) - 1, l, by go_num, H.out.1, Gr.refl _ _, rfl, rfl, H.out.2.2.1⟩
  case round =>
    obtain ⟨j, q, done, rfl, hown, hbel, hub, hq, hj⟩ := hrel
    have hr : done.length ≤ 1000008 := by
      have h1 := congrArg List.length hub
      rw [List.length_append, List.length_append, Kc.bn_len, Kc.bn_len] at h1
      have := H.out
      omega
    have hs : base ≤ wr.heap.size := Nat.le_trans H.out.2.1 hbel.1.size
    have J := Lib.hid (And.intro hown (And.intro hbel (And.intro hub (And.intro hr hs))))
    clear hown hbel hub hr hs
    have hc : j = 0 ∨ j = 1 ∨ j = 2 ∨ j = 3 ∨ j = 4 ∨ j = 5 ∨ j = 6 ∨ j = 7 ∨ j = 8 := by omega
    clear hj hk2 hk3
    rcases hc with rfl | rfl | rfl | rfl | rfl | rfl | rfl | rfl | rfl
    · obtain rfl : q = -1 := hq
      go_wp2
      go_ret
      exact ⟨_, rfl, by have := J.out.2.2.1; rw [show Kc.bn 0 N = [] from rfl, List.append_nil] at this; rw [← this]; exact J.out.1, J.out.2.1⟩
    · obtain rfl : q = 0 := hq
      go_wp2_with (at_builtin; refine app1 rfl _ _ rfl base u0 done _ _ _ (dig0 N) rfl J.out.1 rfl (by have := J.out.2.2.2.1; omega) J.out.2.2.2.2 ?_; intro v' w1 hown' _ hb'; have J' := Lib.hid (And.intro hown' (J.out.2.1.trans hb')); clear hown' hb'; go_frame)
      go_roundw
      case rel => exact ⟨0, -1, done ++ [UInt8.ofNat (N / 256 ^ 0)], by go_num, J'.out.1, J'.out.2, by rw [← J.out.2.2.1]; simp [Kc.bn], by decide, by decide⟩
      case measure => simp [intOf]
    · obtain rfl : q = 1 := hq
      go_wp2_with (at_builtin; refine app1 rfl _ _ rfl base u0 done _ _ _ (dig N 256 (256 ^ 1) rfl) rfl J.out.1 rfl (by have := J.out.2.2.2.1; omega) J.out.2.2.2.2 ?_; intro v' w1 hown' _ hb'; have J' := Lib.hid (And.intro hown' (J.out.2.1.trans hb')); clear hown' hb'; go_frame)
      go_roundw
      case rel => exact ⟨1, 0, done ++ [UInt8.ofNat (N / 256 ^ 1)], by go_num, J'.out.1, J'.out.2, by rw [← J.out.2.2.1]; simp [Kc.bn], by decide, by decide⟩
      case measure => simp [intOf]
    · obtain rfl : q = 2 := hq
      go_wp2_with (at_builtin; refine app1 rfl _ _ rfl base u0 done _ _ _ (dig N 65536 (256 ^ 2) rfl) rfl J.out.1 rfl (by have := J.out.2.2.2.1; omega) J.out.2.2.2.2 ?_; intro v' w1 hown' _ hb'; have J' := Lib.hid (And.intro hown' (J.out.2.1.trans hb')); clear hown' hb'; go_frame)
      go_roundw
      case rel => exact ⟨2, 1, done ++ [UInt8.ofNat (N / 256 ^ 2)], by go_num, J'.out.1, J'.out.2, by rw [← J.out.2.2.1]; simp [Kc.bn], by decide, by decide⟩
      case measure => simp [intOf]
    · obtain rfl : q = 3 := hq
      go_wp2_with (at_builtin; refine app1 rfl _ _ rfl base u0 done _ _ _ (dig N 16777216 (256 ^ 3) rfl) rfl J.out.1 rfl (by have := J.out.2.2.2.1; omega) J.out.2.2.2.2 ?_; intro v' w1 hown' _ hb'; have J' := Lib.hid (And.intro hown' (J.out.2.1.trans hb')); clear hown' hb'; go_frame)
      go_roundw
      case rel => exact ⟨3, 2, done ++ [UInt8.ofNat (N / 256 ^ 3)], by go_num, J'.out.1, J'.out.2, by rw [← J.out.2.2.1]; simp [Kc.bn], by decide, by decide⟩
      case measure => simp [intOf]
    · obtain rfl : q = 4 := hq
      go_wp2_with (at_builtin; refine app1 rfl _ _ rfl base u0 done _ _ _ (dig N 4294967296 (256 ^ 4) rfl) rfl J.out.1 rfl (by have := J.out.2.2.2.1; omega) J.out.2.2.2.2 ?_; intro v' w1 hown' _ hb'; have J' := Lib.hid (And.intro hown' (J.out.2.1.trans hb')); clear hown' hb'; go_frame)
      go_roundw
      case rel => exact ⟨4, 3, done ++ [UInt8.ofNat (N / 256 ^ 4)], by go_num, J'.out.1, J'.out.2, by rw [← J.out.2.2.1]; simp [Kc.bn], by decide, by decide⟩
      case measure => simp [intOf]
    · obtain rfl : q = 5 := hq
      go_wp2_with (at_builtin; refine app1 rfl _ _ rfl base u0 done _ _ _ (dig N 1099511627776 (256 ^ 5) rfl) rfl J.out.1 rfl (by have := J.out.2.2.2.1; omega) J.out.2.2.2.2 ?_; intro v' w1 hown' _ hb'; have J' := Lib.hid (And.intro hown' (J.out.2.1.trans hb')); clear hown' hb'; go_frame)
      go_roundw
      case rel => exact ⟨5, 4, done ++ [UInt8.ofNat (N / 256 ^ 5)], by go_num, J'.out.1, J'.out.2, by rw [← J.out.2.2.1]; simp [Kc.bn], by decide, by decide⟩
      case measure => simp [intOf]
    · obtain rfl : q = 6 := hq
      go_wp2_with (at_builtin; refine app1 rfl _ _ rfl base u0 done _ _ _ (dig N 281474976710656 (256 ^ 6) rfl) rfl J.out.1 rfl (by have := J.out.2.2.2.1; omega) J.out.2.2.2.2 ?_; intro v' w1 hown' _ hb'; have J' := Lib.hid (And.intro hown' (J.out.2.1.trans hb')); clear hown' hb'; go_frame)
      go_roundw
      case rel => exact ⟨6, 5, done ++ [UInt8.ofNat (N / 256 ^ 6)], by go_num, J'.out.1, J'.out.2, by rw [← J.out.2.2.1]; simp [Kc.bn], by decide, by decide⟩
      case measure => simp [intOf]
    · obtain rfl : q = 7 := hq
      go_wp2_with (at_builtin; refine app1 rfl _ _ rfl base u0 done _ _ _ (dig N 72057594037927936 (256 ^ 7) rfl) rfl J.out.1 rfl (by have := J.out.2.2.2.1; omega) J.out.2.2.2.2 ?_; intro v' w1 hown' _ hb'; have J' := Lib.hid (And.intro hown' (J.out.2.1.trans hb')); clear hown' hb'; go_frame)
      go_roundw
      case rel => exact ⟨7, 6, done ++ [UInt8.ofNat (N / 256 ^ 7)], by go_num, J'.out.1, J'.out.2, by rw [← J.out.2.2.1]; simp [Kc.bn], by decide, by decide⟩
      case measure => simp [intOf]

end Go.Proofs.YtmgdciihpjifgaaGreatDoor.Rk
