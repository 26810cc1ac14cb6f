/-
  Law RealsThree's walk where the first is behind the second. Condition: the library's table holds what its initialiser lays.
-/
import Derived.Test.YtaknkiafchnlpaaDoorRealsAwake
namespace Go.Proofs.YtaknkiafchnlpaaDoor
open Go.RowKit

set_option maxHeartbeats 4000000 in
theorem three_more_less (a b c : Int) (w : World) (ha : Rl.U a) (hb : Rl.U b) (hc : Rl.U c) (T0 : Hid (Tab w)) (p1 : Hid (Rl.cp a b = 1)) (q1 : Hid (Rl.cp b c = -1)) :
    Calls Tryd.prog 8 #[.int .u64 a, .int .u64 b, .int .u64 c] w fun e w' => e = .returned (.bool true) ∧ Below w.heap.size w w' := by
  have p2 := Lib.hid (show Rl.cp b a = -1 by have z := Rl.cp_neg b a; rw [p1.out] at z; exact z)
  have k := beq_f (fun z => absurd ((Rl.cp_zero a b ha hb).2 z) (by rw [p1.out]; decide))
  by_cases e1 : Rl.eq a c = true
  · have e1 := Lib.hid e1
    by_cases e2 : Rl.eq a b = true
    · have e2 := Lib.hid e2
      go_enter Tryd.func8, Tryd.ntmps8
      go_wp2_with fail
      refine (cmp_is a b (1) _ ha hb p1.out).mono ?_
      rintro e w1 ⟨rfl, hb⟩
      have B1 := Lib.hid hb
      have T1 := Lib.hid (T0.out.below hb)
      clear hb
      go_wp2_with fail
      refine (cmp_is b a (-1) _ hb ha p2.out).mono ?_
      rintro e w2 ⟨rfl, hb⟩
      have B2 := Lib.hid hb
      have T2 := Lib.hid (T1.out.below hb)
      clear hb
      go_wp2_with fail
      refine (cmp_is a b (1) _ ha hb p1.out).mono ?_
      rintro e w3 ⟨rfl, hb⟩
      have B3 := Lib.hid hb
      have T3 := Lib.hid (T2.out.below hb)
      clear hb
      go_wp2_with fail
      refine (canon_any a _ ha).mono ?_
      rintro e w' ⟨rfl, rfl⟩
      go_wp2_with fail
      refine (canon_any b _ hb).mono ?_
      rintro e w' ⟨rfl, rfl⟩
      go_wp2_with fail
      refine (cmp_is a b (1) _ ha hb p1.out).mono ?_
      rintro e w4 ⟨rfl, hb⟩
      have B4 := Lib.hid hb
      have T4 := Lib.hid (T3.out.below hb)
      clear hb
      go_wp2_with fail
      refine (equal_is a c true _ ha hc e1.out).mono ?_
      rintro e w5 ⟨rfl, hb⟩
      have B5 := Lib.hid hb
      have T5 := Lib.hid (T4.out.below hb)
      clear hb
      go_wp2_with fail
      refine (equal_is a b true _ ha hb e2.out).mono ?_
      rintro e w6 ⟨rfl, hb⟩
      have B6 := Lib.hid hb
      have T6 := Lib.hid (T5.out.below hb)
      clear hb
      go_wp2_with fail
      refine (awake_any _ T6.out).mono ?_
      rintro e w7 ⟨rfl, hb⟩
      have B7 := Lib.hid hb
      have T7 := Lib.hid (T6.out.below hb)
      clear hb
      go_wp2
      go_ret
      exact ⟨rfl, below_then (below_then (below_then (below_then (below_then (below_then (B1.out) B2.out) B3.out) B4.out) B5.out) B6.out) B7.out⟩
    · have e2 := Lib.hid (show Rl.eq a b = false by cases q : Rl.eq a b; rfl; exact absurd q e2)
      go_enter Tryd.func8, Tryd.ntmps8
      go_wp2_with fail
      refine (cmp_is a b (1) _ ha hb p1.out).mono ?_
      rintro e w1 ⟨rfl, hb⟩
      have B1 := Lib.hid hb
      have T1 := Lib.hid (T0.out.below hb)
      clear hb
      go_wp2_with fail
      refine (cmp_is b a (-1) _ hb ha p2.out).mono ?_
      rintro e w2 ⟨rfl, hb⟩
      have B2 := Lib.hid hb
      have T2 := Lib.hid (T1.out.below hb)
      clear hb
      go_wp2_with fail
      refine (cmp_is a b (1) _ ha hb p1.out).mono ?_
      rintro e w3 ⟨rfl, hb⟩
      have B3 := Lib.hid hb
      have T3 := Lib.hid (T2.out.below hb)
      clear hb
      go_wp2_with fail
      refine (canon_any a _ ha).mono ?_
      rintro e w' ⟨rfl, rfl⟩
      go_wp2_with fail
      refine (canon_any b _ hb).mono ?_
      rintro e w' ⟨rfl, rfl⟩
      go_wp2_with fail
      refine (cmp_is a b (1) _ ha hb p1.out).mono ?_
      rintro e w4 ⟨rfl, hb⟩
      have B4 := Lib.hid hb
      have T4 := Lib.hid (T3.out.below hb)
      clear hb
      go_wp2_with fail
      refine (equal_is a c true _ ha hc e1.out).mono ?_
      rintro e w5 ⟨rfl, hb⟩
      have B5 := Lib.hid hb
      have T5 := Lib.hid (T4.out.below hb)
      clear hb
      go_wp2_with fail
      refine (equal_is a b false _ ha hb e2.out).mono ?_
      rintro e w6 ⟨rfl, hb⟩
      have B6 := Lib.hid hb
      have T6 := Lib.hid (T5.out.below hb)
      clear hb
      go_wp2_with fail
      refine (cmp_is a b (1) _ ha hb p1.out).mono ?_
      rintro e w7 ⟨rfl, hb⟩
      have B7 := Lib.hid hb
      have T7 := Lib.hid (T6.out.below hb)
      clear hb
      go_wp2_with fail
      refine (cmp_is b c (-1) _ hb hc q1.out).mono ?_
      rintro e w8 ⟨rfl, hb⟩
      have B8 := Lib.hid hb
      have T8 := Lib.hid (T7.out.below hb)
      clear hb
      go_wp2_with fail
      refine (awake_any _ T8.out).mono ?_
      rintro e w9 ⟨rfl, hb⟩
      have B9 := Lib.hid hb
      have T9 := Lib.hid (T8.out.below hb)
      clear hb
      go_wp2
      go_ret
      exact ⟨rfl, below_then (below_then (below_then (below_then (below_then (below_then (below_then (below_then (B1.out) B2.out) B3.out) B4.out) B5.out) B6.out) B7.out) B8.out) B9.out⟩
  · have e1 := Lib.hid (show Rl.eq a c = false by cases q : Rl.eq a c; rfl; exact absurd q e1)
    go_enter Tryd.func8, Tryd.ntmps8
    go_wp2_with fail
    refine (cmp_is a b (1) _ ha hb p1.out).mono ?_
    rintro e w1 ⟨rfl, hb⟩
    have B1 := Lib.hid hb
    have T1 := Lib.hid (T0.out.below hb)
    clear hb
    go_wp2_with fail
    refine (cmp_is b a (-1) _ hb ha p2.out).mono ?_
    rintro e w2 ⟨rfl, hb⟩
    have B2 := Lib.hid hb
    have T2 := Lib.hid (T1.out.below hb)
    clear hb
    go_wp2_with fail
    refine (cmp_is a b (1) _ ha hb p1.out).mono ?_
    rintro e w3 ⟨rfl, hb⟩
    have B3 := Lib.hid hb
    have T3 := Lib.hid (T2.out.below hb)
    clear hb
    go_wp2_with fail
    refine (canon_any a _ ha).mono ?_
    rintro e w' ⟨rfl, rfl⟩
    go_wp2_with fail
    refine (canon_any b _ hb).mono ?_
    rintro e w' ⟨rfl, rfl⟩
    go_wp2_with fail
    refine (cmp_is a b (1) _ ha hb p1.out).mono ?_
    rintro e w4 ⟨rfl, hb⟩
    have B4 := Lib.hid hb
    have T4 := Lib.hid (T3.out.below hb)
    clear hb
    go_wp2_with fail
    refine (equal_is a c false _ ha hc e1.out).mono ?_
    rintro e w5 ⟨rfl, hb⟩
    have B5 := Lib.hid hb
    have T5 := Lib.hid (T4.out.below hb)
    clear hb
    go_wp2_with fail
    refine (awake_any _ T5.out).mono ?_
    rintro e w6 ⟨rfl, hb⟩
    have B6 := Lib.hid hb
    have T6 := Lib.hid (T5.out.below hb)
    clear hb
    go_wp2
    go_ret
    exact ⟨rfl, below_then (below_then (below_then (below_then (below_then (B1.out) B2.out) B3.out) B4.out) B5.out) B6.out⟩

set_option maxHeartbeats 4000000 in
theorem three_more_same (a b c : Int) (w : World) (ha : Rl.U a) (hb : Rl.U b) (hc : Rl.U c) (T0 : Hid (Tab w)) (p1 : Hid (Rl.cp a b = 1)) (q1 : Hid (Rl.cp b c = 0)) :
    Calls Tryd.prog 8 #[.int .u64 a, .int .u64 b, .int .u64 c] w fun e w' => e = .returned (.bool true) ∧ Below w.heap.size w w' := by
  have p2 := Lib.hid (show Rl.cp b a = -1 by have z := Rl.cp_neg b a; rw [p1.out] at z; exact z)
  have k := beq_f (fun z => absurd ((Rl.cp_zero a b ha hb).2 z) (by rw [p1.out]; decide))
  by_cases e1 : Rl.eq a c = true
  · have e1 := Lib.hid e1
    by_cases e2 : Rl.eq a b = true
    · have e2 := Lib.hid e2
      go_enter Tryd.func8, Tryd.ntmps8
      go_wp2_with fail
      refine (cmp_is a b (1) _ ha hb p1.out).mono ?_
      rintro e w1 ⟨rfl, hb⟩
      have B1 := Lib.hid hb
      have T1 := Lib.hid (T0.out.below hb)
      clear hb
      go_wp2_with fail
      refine (cmp_is b a (-1) _ hb ha p2.out).mono ?_
      rintro e w2 ⟨rfl, hb⟩
      have B2 := Lib.hid hb
      have T2 := Lib.hid (T1.out.below hb)
      clear hb
      go_wp2_with fail
      refine (cmp_is a b (1) _ ha hb p1.out).mono ?_
      rintro e w3 ⟨rfl, hb⟩
      have B3 := Lib.hid hb
      have T3 := Lib.hid (T2.out.below hb)
      clear hb
      go_wp2_with fail
      refine (canon_any a _ ha).mono ?_
      rintro e w' ⟨rfl, rfl⟩
      go_wp2_with fail
      refine (canon_any b _ hb).mono ?_
      rintro e w' ⟨rfl, rfl⟩
      go_wp2_with fail
      refine (cmp_is a b (1) _ ha hb p1.out).mono ?_
      rintro e w4 ⟨rfl, hb⟩
      have B4 := Lib.hid hb
      have T4 := Lib.hid (T3.out.below hb)
      clear hb
      go_wp2_with fail
      refine (equal_is a c true _ ha hc e1.out).mono ?_
      rintro e w5 ⟨rfl, hb⟩
      have B5 := Lib.hid hb
      have T5 := Lib.hid (T4.out.below hb)
      clear hb
      go_wp2_with fail
      refine (equal_is a b true _ ha hb e2.out).mono ?_
      rintro e w6 ⟨rfl, hb⟩
      have B6 := Lib.hid hb
      have T6 := Lib.hid (T5.out.below hb)
      clear hb
      go_wp2_with fail
      refine (awake_any _ T6.out).mono ?_
      rintro e w7 ⟨rfl, hb⟩
      have B7 := Lib.hid hb
      have T7 := Lib.hid (T6.out.below hb)
      clear hb
      go_wp2
      go_ret
      exact ⟨rfl, below_then (below_then (below_then (below_then (below_then (below_then (B1.out) B2.out) B3.out) B4.out) B5.out) B6.out) B7.out⟩
    · have e2 := Lib.hid (show Rl.eq a b = false by cases q : Rl.eq a b; rfl; exact absurd q e2)
      go_enter Tryd.func8, Tryd.ntmps8
      go_wp2_with fail
      refine (cmp_is a b (1) _ ha hb p1.out).mono ?_
      rintro e w1 ⟨rfl, hb⟩
      have B1 := Lib.hid hb
      have T1 := Lib.hid (T0.out.below hb)
      clear hb
      go_wp2_with fail
      refine (cmp_is b a (-1) _ hb ha p2.out).mono ?_
      rintro e w2 ⟨rfl, hb⟩
      have B2 := Lib.hid hb
      have T2 := Lib.hid (T1.out.below hb)
      clear hb
      go_wp2_with fail
      refine (cmp_is a b (1) _ ha hb p1.out).mono ?_
      rintro e w3 ⟨rfl, hb⟩
      have B3 := Lib.hid hb
      have T3 := Lib.hid (T2.out.below hb)
      clear hb
      go_wp2_with fail
      refine (canon_any a _ ha).mono ?_
      rintro e w' ⟨rfl, rfl⟩
      go_wp2_with fail
      refine (canon_any b _ hb).mono ?_
      rintro e w' ⟨rfl, rfl⟩
      go_wp2_with fail
      refine (cmp_is a b (1) _ ha hb p1.out).mono ?_
      rintro e w4 ⟨rfl, hb⟩
      have B4 := Lib.hid hb
      have T4 := Lib.hid (T3.out.below hb)
      clear hb
      go_wp2_with fail
      refine (equal_is a c true _ ha hc e1.out).mono ?_
      rintro e w5 ⟨rfl, hb⟩
      have B5 := Lib.hid hb
      have T5 := Lib.hid (T4.out.below hb)
      clear hb
      go_wp2_with fail
      refine (equal_is a b false _ ha hb e2.out).mono ?_
      rintro e w6 ⟨rfl, hb⟩
      have B6 := Lib.hid hb
      have T6 := Lib.hid (T5.out.below hb)
      clear hb
      go_wp2_with fail
      refine (cmp_is a b (1) _ ha hb p1.out).mono ?_
      rintro e w7 ⟨rfl, hb⟩
      have B7 := Lib.hid hb
      have T7 := Lib.hid (T6.out.below hb)
      clear hb
      go_wp2_with fail
      refine (cmp_is b c (0) _ hb hc q1.out).mono ?_
      rintro e w8 ⟨rfl, hb⟩
      have B8 := Lib.hid hb
      have T8 := Lib.hid (T7.out.below hb)
      clear hb
      go_wp2_with fail
      refine (awake_any _ T8.out).mono ?_
      rintro e w9 ⟨rfl, hb⟩
      have B9 := Lib.hid hb
      have T9 := Lib.hid (T8.out.below hb)
      clear hb
      go_wp2
      go_ret
      exact ⟨rfl, below_then (below_then (below_then (below_then (below_then (below_then (below_then (below_then (B1.out) B2.out) B3.out) B4.out) B5.out) B6.out) B7.out) B8.out) B9.out⟩
  · have e1 := Lib.hid (show Rl.eq a c = false by cases q : Rl.eq a c; rfl; exact absurd q e1)
    go_enter Tryd.func8, Tryd.ntmps8
    go_wp2_with fail
    refine (cmp_is a b (1) _ ha hb p1.out).mono ?_
    rintro e w1 ⟨rfl, hb⟩
    have B1 := Lib.hid hb
    have T1 := Lib.hid (T0.out.below hb)
    clear hb
    go_wp2_with fail
    refine (cmp_is b a (-1) _ hb ha p2.out).mono ?_
    rintro e w2 ⟨rfl, hb⟩
    have B2 := Lib.hid hb
    have T2 := Lib.hid (T1.out.below hb)
    clear hb
    go_wp2_with fail
    refine (cmp_is a b (1) _ ha hb p1.out).mono ?_
    rintro e w3 ⟨rfl, hb⟩
    have B3 := Lib.hid hb
    have T3 := Lib.hid (T2.out.below hb)
    clear hb
    go_wp2_with fail
    refine (canon_any a _ ha).mono ?_
    rintro e w' ⟨rfl, rfl⟩
    go_wp2_with fail
    refine (canon_any b _ hb).mono ?_
    rintro e w' ⟨rfl, rfl⟩
    go_wp2_with fail
    refine (cmp_is a b (1) _ ha hb p1.out).mono ?_
    rintro e w4 ⟨rfl, hb⟩
    have B4 := Lib.hid hb
    have T4 := Lib.hid (T3.out.below hb)
    clear hb
    go_wp2_with fail
    refine (equal_is a c false _ ha hc e1.out).mono ?_
    rintro e w5 ⟨rfl, hb⟩
    have B5 := Lib.hid hb
    have T5 := Lib.hid (T4.out.below hb)
    clear hb
    go_wp2_with fail
    refine (awake_any _ T5.out).mono ?_
    rintro e w6 ⟨rfl, hb⟩
    have B6 := Lib.hid hb
    have T6 := Lib.hid (T5.out.below hb)
    clear hb
    go_wp2
    go_ret
    exact ⟨rfl, below_then (below_then (below_then (below_then (below_then (B1.out) B2.out) B3.out) B4.out) B5.out) B6.out⟩

set_option maxHeartbeats 4000000 in
theorem three_more_more (a b c : Int) (w : World) (ha : Rl.U a) (hb : Rl.U b) (hc : Rl.U c) (T0 : Hid (Tab w)) (p1 : Hid (Rl.cp a b = 1)) (q1 : Hid (Rl.cp b c = 1)) :
    Calls Tryd.prog 8 #[.int .u64 a, .int .u64 b, .int .u64 c] w fun e w' => e = .returned (.bool true) ∧ Below w.heap.size w w' := by
  have p2 := Lib.hid (show Rl.cp b a = -1 by have z := Rl.cp_neg b a; rw [p1.out] at z; exact z)
  have k := beq_f (fun z => absurd ((Rl.cp_zero a b ha hb).2 z) (by rw [p1.out]; decide))
  by_cases e1 : Rl.eq a c = true
  · exfalso
    have := Rl.beside a b c ha hc e1
    rw [p1.out, q1.out] at this
    revert this
    decide
  · have e1 := Lib.hid (show Rl.eq a c = false by cases q : Rl.eq a c; rfl; exact absurd q e1)
    go_enter Tryd.func8, Tryd.ntmps8
    go_wp2_with fail
    refine (cmp_is a b (1) _ ha hb p1.out).mono ?_
    rintro e w1 ⟨rfl, hb⟩
    have B1 := Lib.hid hb
    have T1 := Lib.hid (T0.out.below hb)
    clear hb
    go_wp2_with fail
    refine (cmp_is b a (-1) _ hb ha p2.out).mono ?_
    rintro e w2 ⟨rfl, hb⟩
    have B2 := Lib.hid hb
    have T2 := Lib.hid (T1.out.below hb)
    clear hb
    go_wp2_with fail
    refine (cmp_is a b (1) _ ha hb p1.out).mono ?_
    rintro e w3 ⟨rfl, hb⟩
    have B3 := Lib.hid hb
    have T3 := Lib.hid (T2.out.below hb)
    clear hb
    go_wp2_with fail
    refine (canon_any a _ ha).mono ?_
    rintro e w' ⟨rfl, rfl⟩
    go_wp2_with fail
    refine (canon_any b _ hb).mono ?_
    rintro e w' ⟨rfl, rfl⟩
    go_wp2_with fail
    refine (cmp_is a b (1) _ ha hb p1.out).mono ?_
    rintro e w4 ⟨rfl, hb⟩
    have B4 := Lib.hid hb
    have T4 := Lib.hid (T3.out.below hb)
    clear hb
    go_wp2_with fail
    refine (equal_is a c false _ ha hc e1.out).mono ?_
    rintro e w5 ⟨rfl, hb⟩
    have B5 := Lib.hid hb
    have T5 := Lib.hid (T4.out.below hb)
    clear hb
    go_wp2_with fail
    refine (awake_any _ T5.out).mono ?_
    rintro e w6 ⟨rfl, hb⟩
    have B6 := Lib.hid hb
    have T6 := Lib.hid (T5.out.below hb)
    clear hb
    go_wp2
    go_ret
    exact ⟨rfl, below_then (below_then (below_then (below_then (below_then (B1.out) B2.out) B3.out) B4.out) B5.out) B6.out⟩


end Go.Proofs.YtaknkiafchnlpaaDoor
