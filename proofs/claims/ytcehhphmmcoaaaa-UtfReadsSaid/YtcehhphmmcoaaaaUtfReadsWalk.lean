/-
  Law UtfReads' walk: the call returns true, and writes nothing that was there. Condition: no text is longer than a process can hold.
-/
import Derived.Test.YtcehhphmmcoaaaaUtfInts
import Derived.Test.YtcehhphmmcoaaaaUtfJoinsWalk
namespace Go.Proofs.Ytcehhphmmcoaaaa
open Go.RowKit

theorem HoldsInts.below {w w' : World} {v : Value} {zs : List Int} (h : HoldsInts w v zs) (hb : Below w.heap.size w w') : HoldsInts w' v zs := by
  obtain ⟨a, c, rfl, h⟩ := h
  refine ⟨a, c, rfl, ?_⟩
  rcases h with h | ⟨g, rfl, hc⟩
  · exact .inl h
  · refine .inr ⟨g, rfl, fun i hi => ?_⟩
    have hi' := hc i hi
    rw [hb.cell (World.block_lt_of_cell? w _ hi')]
    exact hi'

set_option maxHeartbeats 1000000 in
theorem utfReads_list (l : List UInt8) (w : World) :
    Calls Try.prog 4 #[.string ⟨l.toArray⟩] w fun e w' => e = .returned (.bool true) ∧ Below w.heap.size w w' := by
  by_cases hl : 5000 < l.length
  · go_enter Try.func4, Try.ntmps4
    go_wp2_with fail
    refine (awake_any _).mono ?_
    rintro e w3 ⟨rfl, hb3⟩
    have Hb3 := Lib.hid hb3
    clear hb3
    go_wp2
    go_ret
    exact ⟨rfl, Hb3.out⟩
  have hl' : l.length ≤ maxLen := by unfold maxLen; omega
  have hl2 : l.length ≤ 8796093022208 := by omega
  have hrl := Utf.rs_le l.length l (Nat.le_refl _)
  go_enter Try.func4, Try.ntmps4
  go_wp2_with fail
  refine (next_any l _).mono ?_
  rintro e w' ⟨rfl, rfl⟩
  go_wp2_with fail
  refine (rnext_any l _).mono ?_
  rintro e w' ⟨rfl, rfl⟩
  go_wp2_with fail
  refine (runes_any l _ hl2).mono ?_
  rintro e w1 ⟨v1, rfl, ho1, hb1⟩
  have Ho1 := Lib.hid (holdsInts_of ho1)
  have Hb1 := Lib.hid hb1
  clear ho1 hb1
  go_wp2_with fail
  refine (rrunes_any l _ hl2).mono ?_
  rintro e w2 ⟨v2, rfl, ho2, hb2⟩
  have Ho2 := Lib.hid (holdsInts_of ho2)
  have Ho1' := Lib.hid (Ho1.out.below hb2)
  have Hb2 := Lib.hid hb2
  clear ho2 hb2
  go_wp2_with fail
  refine (ints_same (Utf.rs l) v1 v2 _ Ho1'.out Ho2.out (by omega)).mono ?_
  rintro e w3 ⟨rfl, hb3⟩
  have Hb3 := Lib.hid hb3
  clear hb3
  go_wp2_with fail
  refine (count_any l _ hl').mono ?_
  rintro e w' ⟨rfl, rfl⟩
  go_wp2_with fail
  refine (rcount_any l _ hl2).mono ?_
  rintro e w' ⟨rfl, rfl⟩
  go_wp2_with fail
  refine (valid_any l _ hl').mono ?_
  rintro e w' ⟨rfl, rfl⟩
  go_wp2_with fail
  refine (rvalid_any l _ hl2).mono ?_
  rintro e w' ⟨rfl, rfl⟩
  go_wp2_with fail
  refine (awake_any _).mono ?_
  rintro e w4 ⟨rfl, hb4⟩
  have Hb4 := Lib.hid hb4
  clear hb4
  go_wp2
  go_ret
  refine ⟨rfl, ?_⟩
  have s1 := Hb1.out.size
  have s2 := Hb2.out.size
  have s3 := Hb3.out.size
  exact ((Hb1.out.trans (Hb2.out.mono s1)).trans (Hb3.out.mono (by omega))).trans (Hb4.out.mono (by omega))

theorem utfReads_walk (a : ByteArray) (w : World) (_ : a.size ≤ 140737488351232) :
    Calls Try.prog 4 #[.string a] w fun e w' => e = .returned (.bool true) ∧ Below w.heap.size w w' := by
  obtain ⟨la, rfl, _⟩ := string_list a
  exact utfReads_list la w

end Go.Proofs.Ytcehhphmmcoaaaa
