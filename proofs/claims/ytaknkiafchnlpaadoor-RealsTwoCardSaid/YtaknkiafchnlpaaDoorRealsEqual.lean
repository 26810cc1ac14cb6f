/-
  What Equal answers, the program's and the document's, for any two reals; they write nothing that was there.
-/
import Derived.Test.YtaknkiafchnlpaaDoorRealsKey
import Derived.Test.YtaknkiafchnlpaaDoorRealsEight
import Derived.DeepKeys
namespace Go.Proofs.YtaknkiafchnlpaaDoor
open Go.RowKit

theorem wf8 (a : Int) (h : 0 ≤ a ∧ a < 256) : (Lit.int .u8 a).wf = true := by
  simp [Lit.wf, IntKind.min, IntKind.max, IntKind.signed, IntKind.bits]
  omega

theorem cells5 : Tryd.prog.cellsOf 5 = 1 := by kernel_rfl
theorem cells40 : Tryd.prog.cellsOf 40 = 8 := by kernel_rfl

theorem lits8 {x a b c d e f g h : Int} (D : Dg x a b c d e f g h) :
    Tryd.prog.keyLits 3 40 (Value.agg #[.int .u8 a, .int .u8 b, .int .u8 c, .int .u8 d, .int .u8 e, .int .u8 f, .int .u8 g, .int .u8 h]).cells.toList
      = some [.int .u8 a, .int .u8 b, .int .u8 c, .int .u8 d, .int .u8 e, .int .u8 f, .int .u8 g, .int .u8 h] := by
  obtain ⟨_, ha, hb, hc, hd, he, hf, hg, hh⟩ := D
  simp [Program.keyLits, Tryd.underlying40, Tryd.underlying5, cells5, cells40, Value.cells, List.range, List.range.loop, wf8 a ha, wf8 b hb, wf8 c hc, wf8 d hd, wf8 e he, wf8 f hf, wf8 g hg, wf8 h hh]

/-- Two arrays of eight bytes are one exactly where the numbers that they are the digits of are one. -/
theorem same8 {x y a b c d e f g h a' b' c' d' e' f' g' h' : Int} (D1 : Dg x a b c d e f g h) (D2 : Dg y a' b' c' d' e' f' g' h') (w : World) :
    (Op.equalIn 10000 40 (.agg #[.int .u8 a, .int .u8 b, .int .u8 c, .int .u8 d, .int .u8 e, .int .u8 f, .int .u8 g, .int .u8 h]) (.agg #[.int .u8 a', .int .u8 b', .int .u8 c', .int .u8 d', .int .u8 e', .int .u8 f', .int .u8 g', .int .u8 h'])).run Tryd.prog w = .ok (x == y) w := by
  obtain ⟨r, hr, hi⟩ := run_equalIn_deep (P := Tryd.prog) 9998 2 40 (by kernel_rfl) w 3 3
    (.agg #[.int .u8 a, .int .u8 b, .int .u8 c, .int .u8 d, .int .u8 e, .int .u8 f, .int .u8 g, .int .u8 h]) (.agg #[.int .u8 a', .int .u8 b', .int .u8 c', .int .u8 d', .int .u8 e', .int .u8 f', .int .u8 g', .int .u8 h'])
    [.int .u8 a, .int .u8 b, .int .u8 c, .int .u8 d, .int .u8 e, .int .u8 f, .int .u8 g, .int .u8 h] [.int .u8 a', .int .u8 b', .int .u8 c', .int .u8 d', .int .u8 e', .int .u8 f', .int .u8 g', .int .u8 h']
    (by kernel_rfl) (by kernel_rfl) (lits8 D1) (lits8 D2)
  rw [hr]
  congr 1
  rw [Bool.eq_iff_iff, hi, beq_iff_eq]
  simp only [List.cons.injEq, Lit.int.injEq, true_and, and_true]
  unfold Dg at D1 D2
  omega

theorem class_is (x r : Int) (w : World) (hx : Rl.U x) (h : Rl.cl x = r) :
    Calls Tryd.prog 11 #[.int .u64 x] w fun e w' => e = .returned (.int .i64 r) ∧ w = w' := by
  rw [← h]; exact class_any x w hx

set_option maxHeartbeats 1000000 in
theorem equal_any (x y : Int) (w : World) (hx : Rl.U x) (hy : Rl.U y) :
    Calls Tryd.prog 20 #[.int .u64 x, .int .u64 y] w fun e w' => e = .returned (.bool (Rl.eq x y)) ∧ Below w.heap.size w w' := by
  by_cases h : Rl.cl x = 1
  · have e : Rl.eq x y = false := by unfold Rl.eq; rw [h]; rfl
    rw [e]
    clear e
    have H := Lib.hid h
    clear h
    go_enter Tryd.func20, Tryd.ntmps20
    go_wp2_with fail
    refine (class_is x 1 _ hx H.out).mono ?_
    rintro r w' ⟨rfl, rfl⟩
    go_wp2
    go_ret
    exact ⟨rfl, Below.refl _ _⟩
  by_cases g : Rl.cl x = 3
  · by_cases k : Rl.cl y = 3
    · have e : Rl.eq x y = true := by unfold Rl.eq; rw [g, k]; simp
      rw [e]
      clear e
      have G := Lib.hid g
      have K := Lib.hid k
      clear h g k
      go_enter Tryd.func20, Tryd.ntmps20
      go_wp2_with fail
      refine (class_is x 3 _ hx G.out).mono ?_
      rintro r w' ⟨rfl, rfl⟩
      go_wp2_with fail
      refine (class_is y 3 _ hy K.out).mono ?_
      rintro r w' ⟨rfl, rfl⟩
      go_wp2
      go_ret
      exact ⟨rfl, Below.refl _ _⟩
    · have e : Rl.eq x y = false := by
        cases q : Rl.eq x y
        · rfl
        · obtain ⟨_, _, q | q⟩ := (Rl.eq_iff x y).1 q
          · subst q; exact absurd g k
          · exact absurd q.2 k
      rw [e]
      clear e
      have G := Lib.hid g
      have k1 := beq_f k
      clear h g k
      go_enter Tryd.func20, Tryd.ntmps20
      go_wp2_with fail
      refine (class_is x 3 _ hx G.out).mono ?_
      rintro r w' ⟨rfl, rfl⟩
      go_wp2_with fail
      refine (class_any y _ hy).mono ?_
      rintro r w' ⟨rfl, rfl⟩
      go_wp2
      go_ret
      exact ⟨rfl, Below.refl _ _⟩
  have e : Rl.eq x y = (x == y) := by
    rw [Bool.eq_iff_iff, Rl.eq_iff, beq_iff_eq]
    constructor
    · rintro ⟨_, _, q | q⟩
      · exact q
      · exact absurd q.1 g
    · rintro rfl; exact ⟨h, h, Or.inl rfl⟩
  rw [e]
  clear e
  have h1 := beq_f h
  have g1 := beq_f g
  clear h g
  go_enter Tryd.func20, Tryd.ntmps20
  go_wp2_with fail
  refine (class_any x _ hx).mono ?_
  rintro r w' ⟨rfl, rfl⟩
  go_wp2_with fail
  refine (eight_any _ _ hx).mono ?_
  rintro r w1 ⟨a, b, c, d, e, f, g, h, rfl, D1, B1⟩
  have D1 := Lib.hid D1
  have B1 := Lib.hid B1
  go_wp2_with fail
  refine (eight_any _ _ hy).mono ?_
  rintro r w2 ⟨a', b', c', d', e', f', g', h', rfl, D2, B2⟩
  have D2 := Lib.hid D2
  have B2 := Lib.hid B2
  unfold ag
  have hE := same8 D1.out D2.out w2
  go_wp2
  go_ret
  exact ⟨rfl, B1.out.trans (B2.out.mono B1.out.size)⟩

theorem equal_is (x y : Int) (r : Bool) (w : World) (hx : Rl.U x) (hy : Rl.U y) (h : Rl.eq x y = r) :
    Calls Tryd.prog 20 #[.int .u64 x, .int .u64 y] w fun e w' => e = .returned (.bool r) ∧ Below w.heap.size w w' := by
  rw [← h]; exact equal_any x y w hx hy

theorem refClass_is (x r : Int) (w : World) (hx : Rl.U x) (h : Rl.cl x = r) :
    Calls Tryd.prog 12 #[.int .u64 x] w fun e w' => e = .returned (.int .i64 r) ∧ w = w' := by
  rw [← h]; exact refClass_any x w hx

set_option maxHeartbeats 1000000 in
theorem refEqual_any (x y : Int) (w : World) (hx : Rl.U x) (hy : Rl.U y) :
    Calls Tryd.prog 21 #[.int .u64 x, .int .u64 y] w fun e w' => e = .returned (.bool (Rl.eq x y)) ∧ w = w' := by
  by_cases h : Rl.cl x = 1
  · have e : Rl.eq x y = false := by unfold Rl.eq; rw [h]; rfl
    rw [e]
    clear e
    have H := Lib.hid h
    clear h
    go_enter Tryd.func21, Tryd.ntmps21
    go_wp2_with fail
    refine (refClass_is x 1 _ hx H.out).mono ?_
    rintro r w' ⟨rfl, rfl⟩
    go_wp2
    go_ret
    exact ⟨rfl, rfl⟩
  have h1 := beq_f h
  by_cases g : Rl.cl y = 1
  · have e : Rl.eq x y = false := by unfold Rl.eq; rw [g]; simp
    rw [e]
    clear e
    have G := Lib.hid g
    clear g h
    go_enter Tryd.func21, Tryd.ntmps21
    go_wp2_with fail
    refine (refClass_any x _ hx).mono ?_
    rintro r w' ⟨rfl, rfl⟩
    go_wp2_with fail
    refine (refClass_is y 1 _ hy G.out).mono ?_
    rintro r w' ⟨rfl, rfl⟩
    go_wp2
    go_ret
    exact ⟨rfl, rfl⟩
  have g1 := beq_f g
  by_cases q : x = y
  · subst q
    have e : Rl.eq x x = true := (Rl.eq_iff x x).2 ⟨h, h, Or.inl rfl⟩
    rw [e]
    clear e h g
    go_enter Tryd.func21, Tryd.ntmps21
    go_wp2_with fail
    refine (refClass_any x _ hx).mono ?_
    rintro r w' ⟨rfl, rfl⟩
    go_wp2_with fail
    refine (refClass_any x _ hx).mono ?_
    rintro r w' ⟨rfl, rfl⟩
    go_wp2
    go_ret
    exact ⟨rfl, rfl⟩
  have q1 := beq_f q
  by_cases k : Rl.cl x = 3
  · by_cases l : Rl.cl y = 3
    · have e : Rl.eq x y = true := (Rl.eq_iff x y).2 ⟨h, g, Or.inr ⟨k, l⟩⟩
      rw [e]
      have K := Lib.hid k
      have L := Lib.hid l
      clear e h g q k l h1 g1
      go_enter Tryd.func21, Tryd.ntmps21
      go_wp2_with fail
      refine (refClass_is x 3 _ hx K.out).mono ?_
      rintro r w' ⟨rfl, rfl⟩
      go_wp2_with fail
      refine (refClass_is y 3 _ hy L.out).mono ?_
      rintro r w' ⟨rfl, rfl⟩
      go_wp2_with fail
      refine (refClass_is x 3 _ hx K.out).mono ?_
      rintro r w' ⟨rfl, rfl⟩
      go_wp2_with fail
      refine (refClass_is y 3 _ hy L.out).mono ?_
      rintro r w' ⟨rfl, rfl⟩
      go_wp2
      go_ret
      exact ⟨rfl, rfl⟩
    · have e : Rl.eq x y = false := by
        cases p : Rl.eq x y
        · rfl
        · obtain ⟨_, _, p | p⟩ := (Rl.eq_iff x y).1 p
          · exact absurd p q
          · exact absurd p.2 l
      rw [e]
      have K := Lib.hid k
      have l1 := beq_f l
      clear e h g q k l h1
      go_enter Tryd.func21, Tryd.ntmps21
      go_wp2_with fail
      refine (refClass_is x 3 _ hx K.out).mono ?_
      rintro r w' ⟨rfl, rfl⟩
      go_wp2_with fail
      refine (refClass_any y _ hy).mono ?_
      rintro r w' ⟨rfl, rfl⟩
      go_wp2_with fail
      refine (refClass_is x 3 _ hx K.out).mono ?_
      rintro r w' ⟨rfl, rfl⟩
      go_wp2_with fail
      refine (refClass_any y _ hy).mono ?_
      rintro r w' ⟨rfl, rfl⟩
      go_wp2
      go_ret
      exact ⟨rfl, rfl⟩
  · have e : Rl.eq x y = false := by
      cases p : Rl.eq x y
      · rfl
      · obtain ⟨_, _, p | p⟩ := (Rl.eq_iff x y).1 p
        · exact absurd p q
        · exact absurd p.1 k
    rw [e]
    have k1 := beq_f k
    clear e h g q k
    go_enter Tryd.func21, Tryd.ntmps21
    go_wp2_with fail
    refine (refClass_any x _ hx).mono ?_
    rintro r w' ⟨rfl, rfl⟩
    go_wp2_with fail
    refine (refClass_any y _ hy).mono ?_
    rintro r w' ⟨rfl, rfl⟩
    go_wp2_with fail
    refine (refClass_any x _ hx).mono ?_
    rintro r w' ⟨rfl, rfl⟩
    go_wp2
    go_ret
    exact ⟨rfl, rfl⟩

end Go.Proofs.YtaknkiafchnlpaaDoor
