/-
  What awake answers: true. No condition.
-/
import Derived.Test.YtkdgnnfkdhabhaaPackInts
namespace Go.Proofs.Ytkdgnnfkdhabhaa
open Go.RowKit

theorem below_then {w w1 w2 : World} (h : Below w.heap.size w w1) (g : Below w1.heap.size w1 w2) : Below w.heap.size w w2 := h.trans (g.mono h.size)

theorem drew_below {w w' : World} (h : ∃ n, w' = w.drewN n) : Below w.heap.size w w' := by
  obtain ⟨n, rfl⟩ := h
  have h := Below.refl w.heap.size w
  exact ⟨h.os, h.tape, h.output, h.size, h.block⟩

theorem i_of_wf {x : Int} (h : (Lit.int .i64 x).wf = true) : -9223372036854775808 ≤ x ∧ x ≤ 9223372036854775807 := by
  simp [Lit.wf, IntKind.min, IntKind.max, IntKind.signed, IntKind.bits] at h
  omega

theorem string_list (s : ByteArray) : ∃ l : List UInt8, s = ⟨l.toArray⟩ ∧ s.size = l.length := ⟨s.data.toList, by cases s; simp, by cases s; simp [ByteArray.size]⟩

/-- An int as one of 64 bits without a sign. -/
theorem as_u64 (n : Int) : ∃ x : Int, IntKind.u64.wrap n = x ∧ 0 ≤ x ∧ x < 18446744073709551616 := by
  refine ⟨_, rfl, ?_⟩
  simp [IntKind.wrap, IntKind.bits, IntKind.signed]; omega

set_option maxHeartbeats 1000000 in
theorem awake_any (w : World) :
    Calls Try.prog 7 #[] w fun e w' => e = .returned (.bool true) ∧ Below w.heap.size w w' := by
  go_enter Try.func7, Try.ntmps7
  go_wp2_with fail
  refine (readUint_is [128, 0] [] 0 4 _ (by decide)).mono ?_
  rintro e w1 ⟨rfl, hb⟩
  have B1 := Lib.hid (drew_below hb)
  clear hb
  go_wp2_with fail
  refine (readInt_is [3, 122] [122] (-2) 0 _ (by decide)).mono ?_
  rintro e w2 ⟨rfl, hb⟩
  have B2 := Lib.hid (drew_below hb)
  clear hb
  go_wp2_with fail
  refine (readText_is [2, 97, 98] [97, 98] [] 0 _ (by decide) (by decide)).mono ?_
  rintro e w3 ⟨rfl, hb⟩
  have B3 := Lib.hid (drew_below hb)
  clear hb
  go_wp2_with fail
  refine (readText_is [3, 97, 98] [] [] 3 _ (by decide) (by decide)).mono ?_
  rintro e w4 ⟨rfl, hb⟩
  have B4 := Lib.hid (drew_below hb)
  clear hb
  go_wp2_with fail
  refine (uint_is 300 [172, 2] _ (by decide) (by decide) (by decide)).mono ?_
  rintro e w5 ⟨rfl, hb⟩
  have B5 := Lib.hid hb
  clear hb
  go_wp2_with fail
  refine (int_is (-2) [3] _ (by decide) (by decide) (by decide)).mono ?_
  rintro e w6 ⟨rfl, hb⟩
  have B6 := Lib.hid hb
  clear hb
  go_wp2_with fail
  refine (text_is [97] [1, 97] _ (by decide) (by decide)).mono ?_
  rintro e w7 ⟨rfl, hb⟩
  have B7 := Lib.hid hb
  clear hb
  go_wp2
  go_ret
  exact ⟨rfl, below_then (below_then (below_then (below_then (below_then (below_then (B1.out) B2.out) B3.out) B4.out) B5.out) B6.out) B7.out⟩

end Go.Proofs.Ytkdgnnfkdhabhaa
