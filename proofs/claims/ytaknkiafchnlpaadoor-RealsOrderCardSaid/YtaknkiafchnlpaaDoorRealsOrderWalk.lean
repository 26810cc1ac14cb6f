/-
  Law RealsOrder's walk: the call returns true, and writes nothing that was there. Condition: the library's table holds what its initialiser lays.
-/
import Derived.Test.YtaknkiafchnlpaaDoorRealsAwake
namespace Go.Proofs.YtaknkiafchnlpaaDoor
open Go.RowKit

set_option maxHeartbeats 4000000 in
theorem realsOrder_walk (a : Int) (b : Int) (w : World) (wfa : (Lit.int .i64 a).wf = true) (wfb : (Lit.int .i64 b).wf = true) (hT : Tab w) :
    Calls Tryd.prog 7 #[.int .i64 a, .int .i64 b] w fun e w' => e = .returned (.bool true) ∧ Below w.heap.size w w' := by
  have ha := i_of_wf wfa
  have hb := i_of_wf wfb
  clear wfa wfb
  have T0 := Lib.hid hT
  clear hT
  by_cases fa : Rl.fo a = true
  rotate_left
  · have fa := Lib.hid (show Rl.fo a = false by cases q : Rl.fo a; rfl; exact absurd q fa)
    go_enter Tryd.func7, Tryd.ntmps7
    go_wp2_with fail
    refine (fromInt_is a _ false _ ha.1 ha.2 T0.out rfl fa.out).mono ?_
    rintro e w' ⟨rfl, rfl⟩
    go_wp2_with fail
    refine (fromInt_any b _ hb.1 hb.2 T0.out).mono ?_
    rintro e w' ⟨rfl, rfl⟩
    go_wp2_with fail
    refine (awake_any _ T0.out).mono ?_
    rintro e w1 ⟨rfl, hb⟩
    have B1 := Lib.hid hb
    have T1 := Lib.hid (T0.out.below hb)
    clear hb
    go_wp2
    go_ret
    exact ⟨rfl, B1.out⟩
  by_cases fb : Rl.fo b = true
  rotate_left
  · have fa := Lib.hid fa
    have fb := Lib.hid (show Rl.fo b = false by cases q : Rl.fo b; rfl; exact absurd q fb)
    go_enter Tryd.func7, Tryd.ntmps7
    go_wp2_with fail
    refine (fromInt_is a _ true _ ha.1 ha.2 T0.out rfl fa.out).mono ?_
    rintro e w' ⟨rfl, rfl⟩
    go_wp2_with fail
    refine (fromInt_is b _ false _ hb.1 hb.2 T0.out rfl fb.out).mono ?_
    rintro e w' ⟨rfl, rfl⟩
    go_wp2_with fail
    refine (awake_any _ T0.out).mono ?_
    rintro e w1 ⟨rfl, hb⟩
    have B1 := Lib.hid hb
    have T1 := Lib.hid (T0.out.below hb)
    clear hb
    go_wp2
    go_ret
    exact ⟨rfl, B1.out⟩
  obtain ⟨o1, o2, o3⟩ := Rl.order a b ha hb fa fb
  have xa := Rl.fi_U a (by omega)
  have xb := Rl.fi_U b (by omega)
  have nn := Lib.hid o3
  have fa := Lib.hid fa
  have fb := Lib.hid fb
  have r := Rl.cp_range (Rl.fi a) (Rl.fi b)
  have s := Rl.cp_neg (Rl.fi a) (Rl.fi b)
  rcases Int.lt_trichotomy a b with k | k | k
  · have c := Lib.hid (show Rl.cp (Rl.fi a) (Rl.fi b) = -1 by have : Rl.cp (Rl.fi a) (Rl.fi b) < 0 := of_decide_eq_true (by rw [← o1]; exact decide_eq_true k); omega)
    have q := Lib.hid (show Rl.eq (Rl.fi a) (Rl.fi b) = false by rw [← o2]; exact beq_f (by omega))
    have k1 := beq_f (show a ≠ b by omega)
    clear o1 o2 o3 r s
    go_enter Tryd.func7, Tryd.ntmps7
    go_wp2_with fail
    refine (fromInt_is a _ true _ ha.1 ha.2 T0.out rfl fa.out).mono ?_
    rintro e w' ⟨rfl, rfl⟩
    go_wp2_with fail
    refine (fromInt_is b _ true _ hb.1 hb.2 T0.out rfl fb.out).mono ?_
    rintro e w' ⟨rfl, rfl⟩
    go_wp2_with fail
    refine (cmp_is _ _ (-1) _ xa xb c.out).mono ?_
    rintro e w1 ⟨rfl, hb⟩
    have B1 := Lib.hid hb
    have T1 := Lib.hid (T0.out.below hb)
    clear hb
    go_wp2_with fail
    refine (equal_is _ _ false _ xa xb q.out).mono ?_
    rintro e w2 ⟨rfl, hb⟩
    have B2 := Lib.hid hb
    have T2 := Lib.hid (T1.out.below hb)
    clear hb
    go_wp2_with fail
    refine (cmp_is _ _ (-1) _ xa ⟨by decide, by decide⟩ nn.out).mono ?_
    rintro e w3 ⟨rfl, hb⟩
    have B3 := Lib.hid hb
    have T3 := Lib.hid (T2.out.below hb)
    clear hb
    go_wp2_with fail
    refine (awake_any _ T3.out).mono ?_
    rintro e w4 ⟨rfl, hb⟩
    have B4 := Lib.hid hb
    have T4 := Lib.hid (T3.out.below hb)
    clear hb
    go_wp2
    go_ret
    exact ⟨rfl, below_then (below_then (below_then (B1.out) B2.out) B3.out) B4.out⟩
  · subst k
    have c := Lib.hid (show Rl.cp (Rl.fi a) (Rl.fi a) = 0 by omega)
    have q := Lib.hid (show Rl.eq (Rl.fi a) (Rl.fi a) = true by rw [← o2]; exact beq_t rfl)
    clear o1 o2 o3 r s
    go_enter Tryd.func7, Tryd.ntmps7
    go_wp2_with fail
    refine (fromInt_is a _ true _ ha.1 ha.2 T0.out rfl fa.out).mono ?_
    rintro e w' ⟨rfl, rfl⟩
    go_wp2_with fail
    refine (fromInt_is a _ true _ ha.1 ha.2 T0.out rfl fb.out).mono ?_
    rintro e w' ⟨rfl, rfl⟩
    go_wp2_with fail
    refine (cmp_is _ _ (0) _ xa xb c.out).mono ?_
    rintro e w1 ⟨rfl, hb⟩
    have B1 := Lib.hid hb
    have T1 := Lib.hid (T0.out.below hb)
    clear hb
    go_wp2_with fail
    refine (equal_is _ _ true _ xa xb q.out).mono ?_
    rintro e w2 ⟨rfl, hb⟩
    have B2 := Lib.hid hb
    have T2 := Lib.hid (T1.out.below hb)
    clear hb
    go_wp2_with fail
    refine (cmp_is _ _ (-1) _ xa ⟨by decide, by decide⟩ nn.out).mono ?_
    rintro e w3 ⟨rfl, hb⟩
    have B3 := Lib.hid hb
    have T3 := Lib.hid (T2.out.below hb)
    clear hb
    go_wp2_with fail
    refine (awake_any _ T3.out).mono ?_
    rintro e w4 ⟨rfl, hb⟩
    have B4 := Lib.hid hb
    have T4 := Lib.hid (T3.out.below hb)
    clear hb
    go_wp2
    go_ret
    exact ⟨rfl, below_then (below_then (below_then (B1.out) B2.out) B3.out) B4.out⟩
  · have c := Lib.hid (show Rl.cp (Rl.fi a) (Rl.fi b) = 1 by
      have n : ¬ Rl.cp (Rl.fi a) (Rl.fi b) < 0 := of_decide_eq_false (by rw [← o1]; exact decide_eq_false (by omega))
      rcases r with e | e | e
      · omega
      · exfalso
        obtain ⟨p1, _, _⟩ := Rl.order b a hb ha fb.out fa.out
        rw [decide_eq_true k] at p1
        have := of_decide_eq_true p1.symm
        omega
      · exact e)
    have q := Lib.hid (show Rl.eq (Rl.fi a) (Rl.fi b) = false by rw [← o2]; exact beq_f (by omega))
    have k1 := beq_f (show a ≠ b by omega)
    have k2 : decide (a < b) = false := decide_eq_false (by omega)
    clear o1 o2 o3 r s
    go_enter Tryd.func7, Tryd.ntmps7
    go_wp2_with fail
    refine (fromInt_is a _ true _ ha.1 ha.2 T0.out rfl fa.out).mono ?_
    rintro e w' ⟨rfl, rfl⟩
    go_wp2_with fail
    refine (fromInt_is b _ true _ hb.1 hb.2 T0.out rfl fb.out).mono ?_
    rintro e w' ⟨rfl, rfl⟩
    go_wp2_with fail
    refine (cmp_is _ _ (1) _ xa xb c.out).mono ?_
    rintro e w1 ⟨rfl, hb⟩
    have B1 := Lib.hid hb
    have T1 := Lib.hid (T0.out.below hb)
    clear hb
    go_wp2_with fail
    refine (equal_is _ _ false _ xa xb q.out).mono ?_
    rintro e w2 ⟨rfl, hb⟩
    have B2 := Lib.hid hb
    have T2 := Lib.hid (T1.out.below hb)
    clear hb
    go_wp2_with fail
    refine (cmp_is _ _ (-1) _ xa ⟨by decide, by decide⟩ nn.out).mono ?_
    rintro e w3 ⟨rfl, hb⟩
    have B3 := Lib.hid hb
    have T3 := Lib.hid (T2.out.below hb)
    clear hb
    go_wp2_with fail
    refine (awake_any _ T3.out).mono ?_
    rintro e w4 ⟨rfl, hb⟩
    have B4 := Lib.hid hb
    have T4 := Lib.hid (T3.out.below hb)
    clear hb
    go_wp2
    go_ret
    exact ⟨rfl, below_then (below_then (below_then (B1.out) B2.out) B3.out) B4.out⟩

end Go.Proofs.YtaknkiafchnlpaaDoor
