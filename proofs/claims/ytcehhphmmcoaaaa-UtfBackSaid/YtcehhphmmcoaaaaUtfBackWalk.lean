/-
  Law UtfBack's walk: the call returns true, and writes nothing that was there. Condition: the text is no longer than a process can hold.
-/
import Derived.Test.YtcehhphmmcoaaaaUtfJoinsWalk
import Derived.Test.YtcehhphmmcoaaaaUtfBackPlain
namespace Go.Proofs.Ytcehhphmmcoaaaa
open Go.RowKit

theorem pl_len (r : Int) (h : Utf.wd r ≠ 0) : 1 ≤ (Utf.pl r).length ∧ (Utf.pl r).length ≤ 4 := by
  rcases Utf.pl_cases r h with ⟨_, _, e⟩ | ⟨_, _, e⟩ | ⟨_, _, e⟩ | ⟨_, _, e⟩ <;> rw [e] <;> simp

theorem cut_to (l : List UInt8) (n : Nat) : (ByteArray.mk l.toArray).extract 0 n = ⟨(l.take n).toArray⟩ := by
  apply ByteArray.ext
  rw [ByteArray.data_extract]
  simp

set_option maxHeartbeats 1000000 in
theorem utfBack_list (r : Int) (b : List UInt8) (w : World) (hb : b.length ≤ 140737488351232) :
    Calls Try.prog 5 #[.int .i64 r, .string ⟨b.toArray⟩] w fun e w' => e = .returned (.bool true) ∧ Below w.heap.size w w' := by
  by_cases hw : Utf.wd r = 0
  · have hp : Utf.pl r = [] := by simp [Utf.pl, hw]
    have hq : Utf.pe r = 1 := by simp [Utf.pe, hw]
    have Hp := Lib.hid hp
    have Hq := Lib.hid hq
    clear hp hq hw
    go_enter Try.func5, Try.ntmps5
    go_wp2_with fail
    refine (put_is r [] 1 _ Hp.out Hq.out).mono ?_
    rintro e w1 ⟨rfl, hb1⟩
    have Hb1 := Lib.hid hb1
    clear hb1
    go_wp2_with fail
    refine (awake_any _).mono ?_
    rintro e w3 ⟨rfl, hb3⟩
    have Hb3 := Lib.hid hb3
    clear hb3
    go_wp2
    go_ret
    exact ⟨rfl, Hb1.out.trans (Hb3.out.mono Hb1.out.size)⟩
  have hl := pl_len r hw
  have Hn := Lib.hid (Utf.nx_pl r b hw)
  have Hs := Lib.hid (fun i hi => Utf.nx_pl_short r i hw hi)
  have Hq := Lib.hid (show Utf.pe r = 0 from by simp [Utf.pe, hw])
  clear hw
  go_enter Try.func5, Try.ntmps5
  go_wp2_with fail
  refine (put_is r (Utf.pl r) 0 _ rfl Hq.out).mono ?_
  clear Hq
  generalize Utf.pl r = p at *
  rintro e w1 ⟨rfl, hb1⟩
  have Hb1 := Lib.hid hb1
  clear hb1
  have hmk := ByteArray.mk_append_mk p b
  have hd : decide ((p.length : Int) < 1) = false := by simp; omega
  go_wp2_with fail
  refine (next_is (p ++ b) _ _ _ _ Hn.out).mono ?_
  rintro e w' ⟨rfl, rfl⟩
  go_wp2_with fail
  go_loop [10] (fun i => ∃ k : Nat, k ≤ p.length ∧ i = .int .i64 k) (fun i => p.length - (intOf i).toNat)
  case atStart => exact ⟨0, Nat.zero_le _, rfl⟩
  case round =>
    obtain ⟨k, hk, rfl⟩ := hrel
    by_cases hlt : k < p.length
    · have Hx := Lib.hid (cut_to p k)
      have Hsk := Lib.hid (Hs.out k hlt)
      go_wp2_with fail
      rw [Hx.out]
      refine (next_is (p.take k) _ _ _ _ Hsk.out).mono ?_
      rintro e w' ⟨rfl, rfl⟩
      go_wp2_with fail
      go_round
      case rel => exact ⟨k + 1, by omega, by go_num⟩
      case measure => simp [intOf]; omega
    · go_wp2_with fail
      refine (awake_any _).mono ?_
      rintro e w3 ⟨rfl, hb3⟩
      have Hb3 := Lib.hid hb3
      clear hb3
      go_wp2
      go_ret
      exact ⟨rfl, Hb1.out.trans (Hb3.out.mono Hb1.out.size)⟩

theorem utfBack_walk (r : Int) (b : ByteArray) (w : World) (_ : (Lit.int .i64 r).wf = true) (hb : b.size ≤ 140737488351232) :
    Calls Try.prog 5 #[.int .i64 r, .string b] w fun e w' => e = .returned (.bool true) ∧ Below w.heap.size w w' := by
  obtain ⟨lb, rfl, e⟩ := string_list b
  exact utfBack_list r lb w (by omega)

end Go.Proofs.Ytcehhphmmcoaaaa
