/-
  Law PackWrites' walk: the call returns true, and writes nothing that was there. Condition: the text is no longer than a process can hold.
-/
import Derived.Test.YtkdgnnfkdhabhaaPackAwake
import Derived.Test.YtkdgnnfkdhabhaaPackRefInts
namespace Go.Proofs.Ytkdgnnfkdhabhaa
open Go.RowKit

set_option maxHeartbeats 1000000 in
theorem packWrites_list (n : Int) (s : List UInt8) (w : World) (h0 : -9223372036854775808 ≤ n) (h1 : n ≤ 9223372036854775807) (hs : s.length ≤ 140737488351232) :
    Calls Try.prog 3 #[.int .i64 n, .string ⟨s.toArray⟩] w fun e w' => e = .returned (.bool true) ∧ Below w.heap.size w w' := by
  obtain ⟨x, hx, hx0, hx1⟩ := as_u64 n
  have Hs := Lib.hid hs
  clear hs
  by_cases hl : (5000 : Int) < (s.length : Int)
  · go_enter Try.func3, Try.ntmps3
    go_wp2_with fail
    refine (awake_any _).mono ?_
    rintro e w1 ⟨rfl, hb⟩
    have B1 := Lib.hid hb
    clear hb
    go_wp2
    go_ret
    exact ⟨rfl, B1.out⟩
  replace hl : (s.length : Int) ≤ 5000 := by omega
  go_enter Try.func3, Try.ntmps3
  go_wp2_with fail
  refine (uint_int x _ hx0 hx1).mono ?_
  rintro e w1 ⟨rfl, hb⟩
  have B1 := Lib.hid hb
  clear hb
  go_wp2_with fail
  refine (ruint_int x _ hx0 hx1).mono ?_
  rintro e w2 ⟨rfl, hb⟩
  have B2 := Lib.hid hb
  clear hb
  go_wp2_with fail
  refine (int_any n _ h0 h1).mono ?_
  rintro e w3 ⟨rfl, hb⟩
  have B3 := Lib.hid hb
  clear hb
  go_wp2_with fail
  refine (rint_any n _ h0 h1).mono ?_
  rintro e w4 ⟨rfl, hb⟩
  have B4 := Lib.hid hb
  clear hb
  go_wp2_with fail
  refine (text_any s _ Hs.out).mono ?_
  rintro e w5 ⟨rfl, hb⟩
  have B5 := Lib.hid hb
  clear hb
  go_wp2_with fail
  refine (rtext_any s _ Hs.out).mono ?_
  rintro e w6 ⟨rfl, hb⟩
  have B6 := Lib.hid hb
  clear hb
  go_wp2_with fail
  refine (awake_any _).mono ?_
  rintro e w7 ⟨rfl, hb⟩
  have B7 := Lib.hid hb
  clear hb
  go_wp2
  go_ret
  exact ⟨rfl, below_then (below_then (below_then (below_then (below_then (below_then (B1.out) B2.out) B3.out) B4.out) B5.out) B6.out) B7.out⟩

theorem packWrites_walk (n : Int) (s : ByteArray) (w : World) (hn : (Lit.int .i64 n).wf = true) (hs : s.size ≤ 140737488351232) :
    Calls Try.prog 3 #[.int .i64 n, .string s] w fun e w' => e = .returned (.bool true) ∧ Below w.heap.size w w' := by
  obtain ⟨l, rfl, e⟩ := string_list s
  exact packWrites_list n l w (i_of_wf hn).1 (i_of_wf hn).2 (by omega)

end Go.Proofs.Ytkdgnnfkdhabhaa
