/-
  Law PackReads' walk: the call returns true, and writes nothing that was there. Condition: the text is no longer than a process can hold.
-/
import Derived.Test.YtkdgnnfkdhabhaaPackAwake
import Derived.Test.YtkdgnnfkdhabhaaPackRefInts
namespace Go.Proofs.Ytkdgnnfkdhabhaa
open Go.RowKit

/-- What the three readers answer, as variables, and that their errors are small. -/
theorem answers (s : List UInt8) : ∃ (N : Nat) (m e f g : Int) (r t u v : List UInt8), Pk.rd s 0 0 = (N, r, e) ∧ Pk.ri s = (m, t, f) ∧ Pk.rt s = (u, v, g) ∧ 0 ≤ e ∧ e ≤ 4 ∧ 0 ≤ f ∧ f ≤ 4 ∧ 0 ≤ g ∧ g ≤ 4 := by
  rcases Pk.rd_cases s with ⟨N, r, h, hN, _⟩ | ⟨e, h, he⟩
  · obtain ⟨m, hm, _, _⟩ := Pk.zz_ri s r N h
    by_cases hp : r.length < N
    · exact ⟨N, m, 0, 0, 3, r, r, [], [], h, hm, Pk.rt_short s r N h hp, by omega, by omega, by omega, by omega, by omega, by omega⟩
    · exact ⟨N, m, 0, 0, 0, r, r, _, _, h, hm, Pk.rt_end s r N h (by omega), by omega, by omega, by omega, by omega, by omega, by omega⟩
  · exact ⟨0, 0, e, e, e, [], [], [], [], h, Pk.ri_bad s e h (by omega), Pk.rt_bad s e h (by omega), by omega, by omega, by omega, by omega, by omega, by omega⟩

set_option maxHeartbeats 1000000 in
theorem packReads_list (s : List UInt8) (w : World) (hs : s.length ≤ 140737488351232) :
    Calls Try.prog 4 #[.string ⟨s.toArray⟩] w fun e w' => e = .returned (.bool true) ∧ Below w.heap.size w w' := by
  obtain ⟨N, m, e, f, g, r, t, u, v, h1, h2, h3, e0, e4, f0, f4, g0, g4⟩ := answers s
  have H1 := Lib.hid h1
  have H2 := Lib.hid h2
  have H3 := Lib.hid h3
  have Hs := Lib.hid (show s.length ≤ 140737488351300 from by omega)
  clear hs h1 h2 h3
  by_cases hl : (5000 : Int) < (s.length : Int)
  · go_enter Try.func4, Try.ntmps4
    go_wp2_with fail
    refine (awake_any _).mono ?_
    rintro e w1 ⟨rfl, hb⟩
    have B1 := Lib.hid hb
    clear hb
    go_wp2
    go_ret
    exact ⟨rfl, B1.out⟩
  replace hl : (s.length : Int) ≤ 5000 := by omega
  go_enter Try.func4, Try.ntmps4
  go_wp2_with fail
  refine (readUint_is s _ _ _ _ H1.out).mono ?_
  rintro e w1 ⟨rfl, hb⟩
  have B1 := Lib.hid (drew_below hb)
  clear hb
  go_wp2_with fail
  refine (rreadUint_is s _ _ _ _ H1.out).mono ?_
  rintro e w2 ⟨rfl, hb⟩
  have B2 := Lib.hid (drew_below hb)
  clear hb
  go_wp2_with fail
  refine (readInt_is s _ _ _ _ H2.out).mono ?_
  rintro e w3 ⟨rfl, hb⟩
  have B3 := Lib.hid (drew_below hb)
  clear hb
  go_wp2_with fail
  refine (rreadInt_is s _ _ _ _ H2.out).mono ?_
  rintro e w4 ⟨rfl, hb⟩
  have B4 := Lib.hid (drew_below hb)
  clear hb
  go_wp2_with fail
  refine (readText_is s _ _ _ _ Hs.out H3.out).mono ?_
  rintro e w5 ⟨rfl, hb⟩
  have B5 := Lib.hid (drew_below hb)
  clear hb
  go_wp2_with fail
  refine (rreadText_is s _ _ _ _ Hs.out H3.out).mono ?_
  rintro e w6 ⟨rfl, hb⟩
  have B6 := Lib.hid (drew_below hb)
  clear hb
  go_wp2_with fail
  refine (awake_any _).mono ?_
  rintro e w7 ⟨rfl, hb⟩
  have B7 := Lib.hid hb
  clear hb
  go_wp2
  go_ret
  exact ⟨rfl, below_then (below_then (below_then (below_then (below_then (below_then (B1.out) B2.out) B3.out) B4.out) B5.out) B6.out) B7.out⟩

theorem packReads_walk (s : ByteArray) (w : World) (hs : s.size ≤ 140737488351232) :
    Calls Try.prog 4 #[.string s] w fun e w' => e = .returned (.bool true) ∧ Below w.heap.size w w' := by
  obtain ⟨l, rfl, e⟩ := string_list s
  exact packReads_list l w (by omega)

end Go.Proofs.Ytkdgnnfkdhabhaa
