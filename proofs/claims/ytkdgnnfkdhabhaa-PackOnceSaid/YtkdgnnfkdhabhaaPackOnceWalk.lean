/-
  Law PackOnce's walk: the call returns true, and writes nothing that was there. Condition: the text is no longer than a process can hold.
-/
import Derived.Test.YtkdgnnfkdhabhaaPackAwake
namespace Go.Proofs.Ytkdgnnfkdhabhaa
open Go.RowKit

set_option maxHeartbeats 1000000 in
theorem packOnce_list (s : List UInt8) (w : World) (hs : s.length ≤ 140737488351232) :
    Calls Try.prog 6 #[.string ⟨s.toArray⟩] w fun e w' => e = .returned (.bool true) ∧ Below w.heap.size w w' := by
  rcases Pk.rd_cases s with ⟨N, r, h, hN, hap⟩ | ⟨e, h, he⟩
  rotate_left
  · have hne := bne_t (show ¬ e = 0 from by omega)
    have hne' : ¬ e = 0 := by omega
    have H := Lib.hid h
    clear h he hs
    go_enter Try.func6, Try.ntmps6
    go_wp2_with fail
    refine (readUint_is s _ _ _ _ H.out).mono ?_
    rintro e w1 ⟨rfl, hb⟩
    have B1 := Lib.hid (drew_below hb)
    clear hb
    go_wp2_with fail
    refine (awake_any _).mono ?_
    rintro e w2 ⟨rfl, hb⟩
    have B2 := Lib.hid hb
    clear hb
    go_wp2
    go_ret
    exact ⟨rfl, below_then (B1.out) B2.out⟩
  obtain ⟨m, hm, hz, hmb⟩ := Pk.zz_ri s r N h
  obtain ⟨hm0, hm1'⟩ := hmb hN
  obtain ⟨x, hx⟩ : ∃ x : Int, x = (N : Int) := ⟨_, rfl⟩
  have hx0 : 0 ≤ x := by omega
  have hx1 : x < 18446744073709551616 := by omega
  have hxn : x.toNat = N := by omega
  obtain ⟨p, hp⟩ : ∃ p, Pk.un N = p := ⟨_, rfl⟩
  rw [hp] at hap
  have hq : Pk.un (Pk.zz m) = p := by rw [hz]; exact hp
  have hp' : Pk.un x.toNat = p := by rw [hxn]; exact hp
  have hlen : p.length + r.length = s.length := by rw [← hap, List.length_append]
  have il : (p.length : Int) + (r.length : Int) ≤ 140737488351232 := by omega
  have ir : (r.length : Int) ≤ (s.length : Int) := by omega
  have H := Lib.hid h
  have Hm := Lib.hid hm
  have Hp := Lib.hid hp'
  have Hq := Lib.hid hq
  have Hx := Lib.hid hx
  clear h hm hp hp' hq hx hs hN hmb hz hxn hlen ir
  subst hap
  have id : decide ((p.length : Int) + (r.length : Int) < (r.length : Int)) = false := by simp; omega
  have ir : (r.length : Int) ≤ (p.length : Int) + (r.length : Int) := by omega
  go_enter Try.func6, Try.ntmps6
  go_wp2_with fail
  refine (readUint_int (p ++ r) r N x _ H.out Hx.out).mono ?_
  rintro e w1 ⟨rfl, hb⟩
  have B1 := Lib.hid (drew_below hb)
  clear hb
  go_wp2_with fail
  refine (readInt_is (p ++ r) r m 0 _ Hm.out).mono ?_
  rintro e w2 ⟨rfl, hb⟩
  have B2 := Lib.hid (drew_below hb)
  clear hb
  go_wp2_with fail
  refine (uint_is x p _ hx0 hx1 Hp.out).mono ?_
  rintro e w3 ⟨rfl, hb⟩
  have B3 := Lib.hid hb
  clear hb
  have hm1 := ByteArray.mk_append_mk p r
  go_wp2_with fail
  refine (int_is m p _ hm0 hm1' Hq.out).mono ?_
  rintro e w4 ⟨rfl, hb⟩
  have B4 := Lib.hid hb
  clear hb
  go_wp2_with fail
  refine (awake_any _).mono ?_
  rintro e w5 ⟨rfl, hb⟩
  have B5 := Lib.hid hb
  clear hb
  go_wp2
  go_ret
  exact ⟨rfl, below_then (below_then (below_then (below_then (B1.out) B2.out) B3.out) B4.out) B5.out⟩

theorem packOnce_walk (s : ByteArray) (w : World) (hs : s.size ≤ 140737488351232) :
    Calls Try.prog 6 #[.string s] w fun e w' => e = .returned (.bool true) ∧ Below w.heap.size w w' := by
  obtain ⟨l, rfl, e⟩ := string_list s
  exact packOnce_list l w (by omega)

end Go.Proofs.Ytkdgnnfkdhabhaa
