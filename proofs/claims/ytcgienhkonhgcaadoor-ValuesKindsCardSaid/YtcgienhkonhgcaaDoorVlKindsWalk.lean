/-
  Law ValuesKinds' walk: the call returns true, and writes nothing that was there. Condition: the table of names holds what its initialiser lays.
-/
import Derived.Test.YtcgienhkonhgcaaDoorVlAwake
import Derived.Test.YtcgienhkonhgcaaDoorVlSame
namespace Go.Proofs.YtcgienhkonhgcaaDoor
open Go.RowKit

theorem nm_ne (k : Int) (h0 : 0 ≤ k) (h1 : k ≤ 5) : nm k ≠ [] := by
  have c : k = 0 ∨ k = 1 ∨ k = 2 ∨ k = 3 ∨ k = 4 ∨ k = 5 := by omega
  rcases c with rfl | rfl | rfl | rfl | rfl | rfl <;> decide

set_option maxHeartbeats 8000000 in
set_option maxRecDepth 100000 in
theorem kinds_ok (k : Int) (s : List UInt8) (w : World) (h0 : 0 ≤ k) (h1 : k ≤ 5) (hT : Tab w) :
    Calls Tryd.prog 5 #[.int .i64 k, .string ⟨s.toArray⟩] w fun e w' => e = .returned (.bool true) ∧ Below w.heap.size w w' := by
  have T0 := Lib.hid hT
  clear hT
  have hn : nm k ≠ [] := nm_ne k h0 h1
  have hm := km_nm k hn
  obtain ⟨l, hl⟩ : ∃ l, nm k = l := ⟨_, rfl⟩
  rw [hl] at hn hm
  have N := Lib.hid hl
  have M := Lib.hid hm
  have l1 : (l == []) = false := by rw [beq_eq_false_iff_ne]; exact hn
  have l2 : ¬ l = [] := hn
  have P := Lib.hid (And.intro h0 h1)
  clear hl hm hn h0 h1
  obtain ⟨r, hr⟩ : ∃ r, km s = r := ⟨_, rfl⟩
  have R := Lib.hid hr
  clear hr
  go_enter Tryd.func5, Tryd.ntmps5
  go_wp2_with fail
  refine (zero_t k _ P.out.1 P.out.2).mono ?_
  rintro e w1 ⟨rfl, hb⟩
  have A1 := Lib.hid hb
  clear hb
  go_wp2_with fail
  refine (rzero_t k _ P.out.1 P.out.2).mono ?_
  rintro e w2 ⟨rfl, hb⟩
  have A2 := Lib.hid (step1 A1.out hb)
  have q0 := keep0 (keep0 (p := ⟨w1.heap.size, 0, none⟩) (x := .int .i64 k) (by simp) hb) (below1 w2 (.cells #[.int .i64 k, .int .i64 0, .int .u64 0, .string ⟨#[]⟩] 24))
  have q1 := keep0 (keep0 (p := ⟨w1.heap.size, 1, none⟩) (x := .int .i64 0) (by simp) hb) (below1 w2 (.cells #[.int .i64 k, .int .i64 0, .int .u64 0, .string ⟨#[]⟩] 24))
  have q2 := keep0 (keep0 (p := ⟨w1.heap.size, 2, none⟩) (x := .int .u64 0) (by simp) hb) (below1 w2 (.cells #[.int .i64 k, .int .i64 0, .int .u64 0, .string ⟨#[]⟩] 24))
  have q3 := keep0 (keep0 (p := ⟨w1.heap.size, 3, none⟩) (x := .string ⟨#[]⟩) (by simp) hb) (below1 w2 (.cells #[.int .i64 k, .int .i64 0, .int .u64 0, .string ⟨#[]⟩] 24))
  clear hb
  go_wp2_with fail
  refine (rsame_is k 0 0 [] k 0 0 [] true _ (by unfold Vl.sm; simp)).mono ?_
  rintro e w3 ⟨rfl, hb⟩
  have A3 := Lib.hid (step1 A2.out hb)
  have T3 := Lib.hid (T0.out.below A3.out)
  clear hb q0 q1 q2 q3
  go_wp2_with fail
  refine (name_is k l _ T3.out N.out).mono ?_
  rintro e w' ⟨rfl, rfl⟩
  go_wp2_with fail
  refine (rname_is k l _ N.out).mono ?_
  rintro e w' ⟨rfl, rfl⟩
  go_wp2_with fail
  refine (kind_is s r _ T3.out R.out).mono ?_
  rintro e w' ⟨rfl, rfl⟩
  go_wp2_with fail
  refine (rkind_is s r _ R.out).mono ?_
  rintro e w' ⟨rfl, rfl⟩
  go_wp2_with fail
  refine (name_is k l _ T3.out N.out).mono ?_
  rintro e w' ⟨rfl, rfl⟩
  go_wp2_with fail
  refine (name_is k l _ T3.out N.out).mono ?_
  rintro e w' ⟨rfl, rfl⟩
  go_wp2_with fail
  refine (kind_is l k _ T3.out M.out).mono ?_
  rintro e w' ⟨rfl, rfl⟩
  go_wp2_with fail
  refine (awake_any _ T3.out).mono ?_
  rintro e w4 ⟨rfl, hb⟩
  have A4 := Lib.hid (step0 A3.out hb)
  clear hb
  go_wp2
  go_ret
  exact ⟨rfl, A4.out⟩

set_option maxHeartbeats 8000000 in
set_option maxRecDepth 100000 in
theorem kinds_lo (k : Int) (s : List UInt8) (w : World) (h : k < 0) (hT : Tab w) :
    Calls Tryd.prog 5 #[.int .i64 k, .string ⟨s.toArray⟩] w fun e w' => e = .returned (.bool true) ∧ Below w.heap.size w w' := by
  have T0 := Lib.hid hT
  clear hT
  have N := Lib.hid (show nm k = [] from by unfold nm; repeat rw [if_neg (by omega)])
  have P := Lib.hid h
  clear h
  obtain ⟨r, hr⟩ : ∃ r, km s = r := ⟨_, rfl⟩
  have R := Lib.hid hr
  clear hr
  go_enter Tryd.func5, Tryd.ntmps5
  go_wp2_with fail
  refine (zero_f k _ (.inl P.out)).mono ?_
  rintro e w1 ⟨rfl, hb⟩
  have A1 := Lib.hid hb
  clear hb
  go_wp2_with fail
  refine (rzero_lo k _ P.out).mono ?_
  rintro e w2 ⟨rfl, hb⟩
  have A2 := Lib.hid (step1 A1.out hb)
  have q0 := keep0 (keep0 (p := ⟨w1.heap.size, 0, none⟩) (x := .int .i64 0) (by simp) hb) (below1 w2 (.cells #[.int .i64 0, .int .i64 0, .int .u64 0, .string ⟨#[]⟩] 24))
  have q1 := keep0 (keep0 (p := ⟨w1.heap.size, 1, none⟩) (x := .int .i64 0) (by simp) hb) (below1 w2 (.cells #[.int .i64 0, .int .i64 0, .int .u64 0, .string ⟨#[]⟩] 24))
  have q2 := keep0 (keep0 (p := ⟨w1.heap.size, 2, none⟩) (x := .int .u64 0) (by simp) hb) (below1 w2 (.cells #[.int .i64 0, .int .i64 0, .int .u64 0, .string ⟨#[]⟩] 24))
  have q3 := keep0 (keep0 (p := ⟨w1.heap.size, 3, none⟩) (x := .string ⟨#[]⟩) (by simp) hb) (below1 w2 (.cells #[.int .i64 0, .int .i64 0, .int .u64 0, .string ⟨#[]⟩] 24))
  clear hb
  go_wp2_with fail
  refine (rsame_is 0 0 0 [] 0 0 0 [] true _ (by unfold Vl.sm; simp)).mono ?_
  rintro e w3 ⟨rfl, hb⟩
  have A3 := Lib.hid (step1 A2.out hb)
  have T3 := Lib.hid (T0.out.below A3.out)
  clear hb q0 q1 q2 q3
  go_wp2_with fail
  refine (name_is k [] _ T3.out N.out).mono ?_
  rintro e w' ⟨rfl, rfl⟩
  go_wp2_with fail
  refine (rname_is k [] _ N.out).mono ?_
  rintro e w' ⟨rfl, rfl⟩
  go_wp2_with fail
  refine (kind_is s r _ T3.out R.out).mono ?_
  rintro e w' ⟨rfl, rfl⟩
  go_wp2_with fail
  refine (rkind_is s r _ R.out).mono ?_
  rintro e w' ⟨rfl, rfl⟩
  go_wp2_with fail
  refine (name_is k [] _ T3.out N.out).mono ?_
  rintro e w' ⟨rfl, rfl⟩
  go_wp2_with fail
  refine (awake_any _ T3.out).mono ?_
  rintro e w4 ⟨rfl, hb⟩
  have A4 := Lib.hid (step0 A3.out hb)
  clear hb
  go_wp2
  go_ret
  exact ⟨rfl, A4.out⟩

set_option maxHeartbeats 8000000 in
set_option maxRecDepth 100000 in
theorem kinds_hi (k : Int) (s : List UInt8) (w : World) (h : 5 < k) (hT : Tab w) :
    Calls Tryd.prog 5 #[.int .i64 k, .string ⟨s.toArray⟩] w fun e w' => e = .returned (.bool true) ∧ Below w.heap.size w w' := by
  have T0 := Lib.hid hT
  clear hT
  have N := Lib.hid (show nm k = [] from by unfold nm; repeat rw [if_neg (by omega)])
  have P := Lib.hid h
  clear h
  obtain ⟨r, hr⟩ : ∃ r, km s = r := ⟨_, rfl⟩
  have R := Lib.hid hr
  clear hr
  go_enter Tryd.func5, Tryd.ntmps5
  go_wp2_with fail
  refine (zero_f k _ (.inr P.out)).mono ?_
  rintro e w1 ⟨rfl, hb⟩
  have A1 := Lib.hid hb
  clear hb
  go_wp2_with fail
  refine (rzero_hi k _ P.out).mono ?_
  rintro e w2 ⟨rfl, hb⟩
  have A2 := Lib.hid (step1 A1.out hb)
  have q0 := keep0 (keep0 (p := ⟨w1.heap.size, 0, none⟩) (x := .int .i64 0) (by simp) hb) (below1 w2 (.cells #[.int .i64 0, .int .i64 0, .int .u64 0, .string ⟨#[]⟩] 24))
  have q1 := keep0 (keep0 (p := ⟨w1.heap.size, 1, none⟩) (x := .int .i64 0) (by simp) hb) (below1 w2 (.cells #[.int .i64 0, .int .i64 0, .int .u64 0, .string ⟨#[]⟩] 24))
  have q2 := keep0 (keep0 (p := ⟨w1.heap.size, 2, none⟩) (x := .int .u64 0) (by simp) hb) (below1 w2 (.cells #[.int .i64 0, .int .i64 0, .int .u64 0, .string ⟨#[]⟩] 24))
  have q3 := keep0 (keep0 (p := ⟨w1.heap.size, 3, none⟩) (x := .string ⟨#[]⟩) (by simp) hb) (below1 w2 (.cells #[.int .i64 0, .int .i64 0, .int .u64 0, .string ⟨#[]⟩] 24))
  clear hb
  go_wp2_with fail
  refine (rsame_is 0 0 0 [] 0 0 0 [] true _ (by unfold Vl.sm; simp)).mono ?_
  rintro e w3 ⟨rfl, hb⟩
  have A3 := Lib.hid (step1 A2.out hb)
  have T3 := Lib.hid (T0.out.below A3.out)
  clear hb q0 q1 q2 q3
  go_wp2_with fail
  refine (name_is k [] _ T3.out N.out).mono ?_
  rintro e w' ⟨rfl, rfl⟩
  go_wp2_with fail
  refine (rname_is k [] _ N.out).mono ?_
  rintro e w' ⟨rfl, rfl⟩
  go_wp2_with fail
  refine (kind_is s r _ T3.out R.out).mono ?_
  rintro e w' ⟨rfl, rfl⟩
  go_wp2_with fail
  refine (rkind_is s r _ R.out).mono ?_
  rintro e w' ⟨rfl, rfl⟩
  go_wp2_with fail
  refine (name_is k [] _ T3.out N.out).mono ?_
  rintro e w' ⟨rfl, rfl⟩
  go_wp2_with fail
  refine (awake_any _ T3.out).mono ?_
  rintro e w4 ⟨rfl, hb⟩
  have A4 := Lib.hid (step0 A3.out hb)
  clear hb
  go_wp2
  go_ret
  exact ⟨rfl, A4.out⟩

theorem valuesKinds_list (k : Int) (s : List UInt8) (w : World) (hT : Tab w) :
    Calls Tryd.prog 5 #[.int .i64 k, .string ⟨s.toArray⟩] w fun e w' => e = .returned (.bool true) ∧ Below w.heap.size w w' := by
  by_cases h : k < 0
  · exact kinds_lo k s w h hT
  by_cases g : 5 < k
  · exact kinds_hi k s w g hT
  · exact kinds_ok k s w (by omega) (by omega) hT

end Go.Proofs.YtcgienhkonhgcaaDoor
