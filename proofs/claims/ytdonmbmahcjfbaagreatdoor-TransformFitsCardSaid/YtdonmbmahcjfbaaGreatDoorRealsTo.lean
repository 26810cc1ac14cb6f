/-
  What whole and ToInt answer, the program's, for every 64 bits, where the library's table holds what its initialiser lays.
-/
import Derived.Test.YtdonmbmahcjfbaaGreatDoorRealsFrom
namespace Go.Proofs.YtdonmbmahcjfbaaGreatDoor
open Go.RowKit

theorem parts_is (x a b : Int) (w : World) (hx : Rl.U x) (ha : Rl.ex x = a) (hb : Rl.fr x = b) :
    Calls Tryz.prog 137 #[.int .u64 x] w fun e w' => e = .returned (.tuple #[.int .i64 a, .int .u64 b]) ∧ w = w' := by
  rw [← ha, ← hb]; exact parts_any x w hx

theorem or_hidden (x : Int) : bits .or .u64 4503599627370496 (Rl.fr x) = (Rl.hs x : Int) := by
  have r := Rl.fr_range x
  rw [u64_or 4503599627370496 _ (by omega) (by omega) (by omega) (by omega), nat_join 52 _ _ (by decide) (by omega)]
  unfold Rl.hs; omega

/-- What whole answers. -/
def wz (x : Int) : Int := if Rl.wo x = true then (Rl.wv x : Int) else 0

set_option maxHeartbeats 1000000 in
theorem whole_out (x : Int) (w : World) (hx : Rl.U x) (h : Rl.ex x < 1023 ∨ 1086 < Rl.ex x) :
    Calls Tryz.prog 141 #[.int .u64 x] w fun e w' => e = .returned (.tuple #[.int .u64 (wz x), .bool (Rl.wo x)]) ∧ w = w' := by
  have e : Rl.wo x = false := by
    cases q : Rl.wo x
    · rfl
    · have := (Rl.wo_iff x).1 q; omega
  have e2 : wz x = 0 := by unfold wz; rw [e]; rfl
  rw [e, e2]
  obtain ⟨a, ha⟩ : ∃ a, Rl.ex x = a := ⟨_, rfl⟩
  have r := Rl.ex_range x
  rw [ha] at r h
  have Ha := Lib.hid ha
  clear e e2 ha
  rcases h with h | h
  · have k : a - 1023 < 0 := by omega
    go_enter Tryz.func141, Tryz.ntmps141
    go_wp2_with fail
    refine (parts_is x a _ _ hx Ha.out rfl).mono ?_
    rintro e w' ⟨rfl, rfl⟩
    go_wp2
    go_ret2
    exact ⟨rfl, rfl⟩
  · have k : decide (a - 1023 < 0) = false := decide_eq_false (by omega)
    have k1 : 63 < a - 1023 := by omega
    go_enter Tryz.func141, Tryz.ntmps141
    go_wp2_with fail
    refine (parts_is x a _ _ hx Ha.out rfl).mono ?_
    rintro e w' ⟨rfl, rfl⟩
    go_wp2
    go_ret2
    exact ⟨rfl, rfl⟩

set_option maxHeartbeats 1000000 in
theorem whole_high (x : Int) (d : Nat) (w : World) (hx : Rl.U x) (h : Rl.ex x = 1023 + (52 + (d : Int))) (hd : d ≤ 11) :
    Calls Tryz.prog 141 #[.int .u64 x] w fun e w' => e = .returned (.tuple #[.int .u64 (wz x), .bool (Rl.wo x)]) ∧ w = w' := by
  have t : Rl.he x = 52 + d := by unfold Rl.he; omega
  have e : Rl.wo x = true := by
    rw [Rl.wo_iff, t]
    refine ⟨by omega, by omega, ?_⟩
    rw [show 52 - (52 + d) = 0 from by omega, Nat.pow_zero]; exact Nat.mod_one _
  have e2 : wz x = (Rl.wv x : Int) := by unfold wz; rw [if_pos e]
  have l := Rl.wv_lt x e
  have v : IntKind.u64.wrap ((Rl.hs x : Int) * 2 ^ d) = (Rl.wv x : Int) := by
    have q := Rl.wv_high x (by omega)
    rw [t, show 52 + d - 52 = d from by omega] at q
    rw [IntKind.wrap_u64, show ((Rl.hs x : Int) * 2 ^ d) = ((Rl.hs x * 2 ^ d : Nat) : Int) from by rw [Int.natCast_mul, Int.natCast_pow]; rfl, ← q]
    omega
  have o := or_hidden x
  rw [e, e2]
  have H := Lib.hid h
  have V := Lib.hid v
  clear e e2 h t l v
  go_enter Tryz.func141, Tryz.ntmps141
  go_wp2_with fail
  refine (parts_is x _ _ _ hx H.out rfl).mono ?_
  rintro e w' ⟨rfl, rfl⟩
  go_wp2
  go_ret2
  refine ⟨ret_ib ?_ rfl, rfl⟩
  rw [show 1023 + (52 + d) - 1023 - 52 = d from by omega]
  exact V.out

set_option maxHeartbeats 1000000 in
theorem whole_low (x : Int) (d : Nat) (w : World) (hx : Rl.U x) (hT : Tab w) (h : Rl.ex x = 1023 + (52 - (d : Int))) (h0 : 0 < d) (hd : d ≤ 52) :
    Calls Tryz.prog 141 #[.int .u64 x] w fun e w' => e = .returned (.tuple #[.int .u64 (wz x), .bool (Rl.wo x)]) ∧ w = w' := by
  have t : Rl.he x = 52 - d := by unfold Rl.he; omega
  have r := Rl.hs_range x
  have o := or_hidden x
  obtain ⟨c, hc⟩ : ∃ c, Lib.ctz 64 (Rl.hs x) = c := ⟨_, rfl⟩
  have i : Rl.wo x = true ↔ d ≤ c := by rw [Rl.wo_ctz x (by omega) (by omega), t, hc]; omega
  have C1 := Lib.hid (show Lib.ctz 64 ((Rl.hs x : Int)).toNat = c by rw [Int.toNat_natCast]; exact hc)
  have H := Lib.hid h
  by_cases k : d ≤ c
  · have e := i.2 k
    have e2 : wz x = (Rl.wv x : Int) := by unfold wz; rw [if_pos e]
    have v : (Rl.hs x : Int) / 2 ^ d = (Rl.wv x : Int) := by
      have q := Rl.wv_low x (by omega)
      rw [t, show 52 - (52 - d) = d from by omega] at q
      rw [q, Int.natCast_ediv, Int.natCast_pow]; rfl
    rw [e, e2]
    have V := Lib.hid v
    have k1 : decide ((c : Int) < (d : Int)) = false := decide_eq_false (by omega)
    clear e e2 h t v i hc
    go_enter Tryz.func141, Tryz.ntmps141
    go_wp2_with fail
    refine (parts_is x _ _ _ hx H.out rfl).mono ?_
    rintro e w' ⟨rfl, rfl⟩
    go_wp2_with fail
    refine (tz_is (Rl.hs x : Int) c _ (by omega) (by omega) hT C1.out).mono ?_
    rintro e w' ⟨rfl, rfl⟩
    go_wp2
    go_ret2
    refine ⟨ret_ib ?_ rfl, rfl⟩
    rw [show 52 - (1023 + (52 - d) - 1023) = d from by omega]
    exact V.out
  · have e : Rl.wo x = false := by
      cases q : Rl.wo x
      · rfl
      · exact absurd (i.1 q) k
    have e2 : wz x = 0 := by unfold wz; rw [e]; rfl
    rw [e, e2]
    have k1 : (c : Int) < (d : Int) := by omega
    clear e e2 h t i hc k
    go_enter Tryz.func141, Tryz.ntmps141
    go_wp2_with fail
    refine (parts_is x _ _ _ hx H.out rfl).mono ?_
    rintro e w' ⟨rfl, rfl⟩
    go_wp2_with fail
    refine (tz_is (Rl.hs x : Int) c _ (by omega) (by omega) hT C1.out).mono ?_
    rintro e w' ⟨rfl, rfl⟩
    go_wp2
    go_ret2
    exact ⟨rfl, rfl⟩

theorem whole_any (x : Int) (w : World) (hx : Rl.U x) (hT : Tab w) :
    Calls Tryz.prog 141 #[.int .u64 x] w fun e w' => e = .returned (.tuple #[.int .u64 (wz x), .bool (Rl.wo x)]) ∧ w = w' := by
  by_cases h : Rl.ex x < 1023 ∨ 1086 < Rl.ex x
  · exact whole_out x w hx h
  by_cases g : 1075 ≤ Rl.ex x
  · exact whole_high x (Rl.ex x - 1075).toNat w hx (by omega) (by omega)
  · exact whole_low x (1075 - Rl.ex x).toNat w hx hT (by omega) (by omega) (by omega)

theorem whole_is (x r : Int) (b : Bool) (w : World) (hx : Rl.U x) (hT : Tab w) (hr : wz x = r) (hb : Rl.wo x = b) :
    Calls Tryz.prog 141 #[.int .u64 x] w fun e w' => e = .returned (.tuple #[.int .u64 r, .bool b]) ∧ w = w' := by
  rw [← hr, ← hb]; exact whole_any x w hx hT

theorem ti_zero (x : Int) (h : Rl.cl x = 3) : Rl.ti x = 0 ∧ Rl.to x = true := by
  unfold Rl.ti Rl.to; rw [if_pos h, h]; exact ⟨rfl, rfl⟩
theorem ti_none (x : Int) (h : Rl.cl x ≠ 3) (g : Rl.io x = false) : Rl.ti x = 0 ∧ Rl.to x = false := by
  unfold Rl.ti Rl.to; rw [if_neg h, g, beq_f h]; exact ⟨rfl, rfl⟩
theorem ti_pos (x : Int) (h : Rl.cl x ≠ 3) (g : Rl.wo x = true) (k : x < 9223372036854775808) (l : Rl.wv x < 9223372036854775808) : Rl.ti x = (Rl.wv x : Int) ∧ Rl.to x = true := by
  have e : Rl.io x = true := by unfold Rl.io; rw [g, if_pos k]; simp [l]
  unfold Rl.ti Rl.to; rw [if_neg h, if_pos e, if_pos k, e]; simp
theorem ti_neg (x : Int) (h : Rl.cl x ≠ 3) (g : Rl.wo x = true) (k : ¬ x < 9223372036854775808) (l : Rl.wv x ≤ 9223372036854775808) : Rl.ti x = -(Rl.wv x : Int) ∧ Rl.to x = true := by
  have e : Rl.io x = true := by unfold Rl.io; rw [g, if_neg k]; simp [l]
  unfold Rl.ti Rl.to; rw [if_neg h, if_pos e, if_neg k, e]; simp
theorem io_wo (x : Int) (h : Rl.wo x = false) : Rl.io x = false := by unfold Rl.io; rw [h]; rfl
theorem io_big (x : Int) (h : 9223372036854775808 < Rl.wv x) : Rl.io x = false := by
  unfold Rl.io
  cases Rl.wo x
  · rfl
  · split <;> simp <;> omega
theorem io_pos (x : Int) (k : x < 9223372036854775808) (h : 9223372036854775808 ≤ Rl.wv x) : Rl.io x = false := by
  unfold Rl.io
  cases Rl.wo x
  · rfl
  · rw [if_pos k]; simp; omega

set_option maxHeartbeats 2000000 in
theorem toInt_any (x : Int) (w : World) (hx : Rl.U x) (hT : Tab w) :
    Calls Tryz.prog 122 #[.int .u64 x] w fun e w' => e = .returned (.tuple #[.int .i64 (Rl.ti x), .bool (Rl.to x)]) ∧ w = w' := by
  by_cases h : Rl.cl x = 3
  · obtain ⟨e1, e2⟩ := ti_zero x h
    rw [e1, e2]
    have H := Lib.hid h
    clear e1 e2 h
    go_enter Tryz.func122, Tryz.ntmps122
    go_wp2_with fail
    refine (class_is x 3 _ hx H.out).mono ?_
    rintro e w' ⟨rfl, rfl⟩
    go_wp2
    go_ret2
    exact ⟨rfl, rfl⟩
  have h1 := beq_f h
  by_cases g : Rl.wo x = true
  rotate_left
  · have g : Rl.wo x = false := by cases q : Rl.wo x; rfl; exact absurd q g
    obtain ⟨e1, e2⟩ := ti_none x h (io_wo x g)
    rw [e1, e2]
    have V := Lib.hid (show wz x = 0 by unfold wz; rw [g]; rfl)
    have W := Lib.hid g
    clear e1 e2 h g
    go_enter Tryz.func122, Tryz.ntmps122
    go_wp2_with fail
    refine (class_any x _ hx).mono ?_
    rintro e w' ⟨rfl, rfl⟩
    go_wp2_with fail
    refine (whole_is x _ _ _ hx hT V.out W.out).mono ?_
    rintro e w' ⟨rfl, rfl⟩
    go_wp2
    go_ret2
    exact ⟨rfl, rfl⟩
  have l := Rl.wv_lt x g
  have V := Lib.hid (show wz x = (Rl.wv x : Int) by unfold wz; rw [if_pos g])
  have W := Lib.hid g
  have sgn := Rl.asign x hx
  obtain ⟨v, hv⟩ : ∃ v : Int, (Rl.wv x : Int) = v := ⟨_, rfl⟩
  rw [hv] at V
  have v0 : 0 ≤ v := by omega
  have v1 : v < 18446744073709551616 := by omega
  clear l
  by_cases k : x < 9223372036854775808
  · rw [if_pos k] at sgn
    by_cases m : v < 9223372036854775808
    · obtain ⟨e1, e2⟩ := ti_pos x h g k (by omega)
      rw [e1, e2, hv]
      have q := beq_f (show v ≠ 9223372036854775808 by omega)
      clear e1 e2 h g hv
      go_enter Tryz.func122, Tryz.ntmps122
      go_wp2_with fail
      refine (class_any x _ hx).mono ?_
      rintro e w' ⟨rfl, rfl⟩
      go_wp2_with fail
      refine (whole_is x _ _ _ hx hT V.out W.out).mono ?_
      rintro e w' ⟨rfl, rfl⟩
      go_wp2
      go_ret2
      exact ⟨rfl, rfl⟩
    · obtain ⟨e1, e2⟩ := ti_none x h (io_pos x k (by omega))
      rw [e1, e2]
      clear e1 e2 h g hv
      by_cases q : v = 9223372036854775808
      · have Q := Lib.hid q
        rw [q] at V
        clear q
        go_enter Tryz.func122, Tryz.ntmps122
        go_wp2_with fail
        refine (class_any x _ hx).mono ?_
        rintro e w' ⟨rfl, rfl⟩
        go_wp2_with fail
        refine (whole_is x _ _ _ hx hT V.out W.out).mono ?_
        rintro e w' ⟨rfl, rfl⟩
        go_wp2
        go_ret2
        exact ⟨rfl, rfl⟩
      · have q1 := beq_f q
        go_enter Tryz.func122, Tryz.ntmps122
        go_wp2_with fail
        refine (class_any x _ hx).mono ?_
        rintro e w' ⟨rfl, rfl⟩
        go_wp2_with fail
        refine (whole_is x _ _ _ hx hT V.out W.out).mono ?_
        rintro e w' ⟨rfl, rfl⟩
        go_wp2
        go_ret2
        exact ⟨rfl, rfl⟩
  · rw [if_neg k] at sgn
    by_cases q : v = 9223372036854775808
    · obtain ⟨e1, e2⟩ := ti_neg x h g k (by omega)
      rw [e1, e2, hv, q]
      rw [q] at V
      clear e1 e2 h g hv q
      go_enter Tryz.func122, Tryz.ntmps122
      go_wp2_with fail
      refine (class_any x _ hx).mono ?_
      rintro e w' ⟨rfl, rfl⟩
      go_wp2_with fail
      refine (whole_is x _ _ _ hx hT V.out W.out).mono ?_
      rintro e w' ⟨rfl, rfl⟩
      go_wp2
      go_ret2
      exact ⟨rfl, rfl⟩
    have q1 := beq_f q
    by_cases m : v < 9223372036854775808
    · obtain ⟨e1, e2⟩ := ti_neg x h g k (by omega)
      rw [e1, e2, hv]
      clear e1 e2 h g hv q
      go_enter Tryz.func122, Tryz.ntmps122
      go_wp2_with fail
      refine (class_any x _ hx).mono ?_
      rintro e w' ⟨rfl, rfl⟩
      go_wp2_with fail
      refine (whole_is x _ _ _ hx hT V.out W.out).mono ?_
      rintro e w' ⟨rfl, rfl⟩
      go_wp2
      go_ret2
      exact ⟨rfl, rfl⟩
    · obtain ⟨e1, e2⟩ := ti_none x h (io_big x (by omega))
      rw [e1, e2]
      clear e1 e2 h g hv q
      go_enter Tryz.func122, Tryz.ntmps122
      go_wp2_with fail
      refine (class_any x _ hx).mono ?_
      rintro e w' ⟨rfl, rfl⟩
      go_wp2_with fail
      refine (whole_is x _ _ _ hx hT V.out W.out).mono ?_
      rintro e w' ⟨rfl, rfl⟩
      go_wp2
      go_ret2
      exact ⟨rfl, rfl⟩

theorem toInt_is (x r : Int) (b : Bool) (w : World) (hx : Rl.U x) (hT : Tab w) (hr : Rl.ti x = r) (hb : Rl.to x = b) :
    Calls Tryz.prog 122 #[.int .u64 x] w fun e w' => e = .returned (.tuple #[.int .i64 r, .bool b]) ∧ w = w' := by
  rw [← hr, ← hb]; exact toInt_any x w hx hT

end Go.Proofs.YtdonmbmahcjfbaaGreatDoor
