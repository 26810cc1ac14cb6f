/-
  The walks of the laws TidMakes, TidBits, TidNexts and TidBack. Conditions: the bounds of the arguments.
-/
import Derived.Test.YtljgnflmomakaaaTdAwake
import Derived.Deep.RegionHeld3
import Derived.Deep.DrawnRows
namespace Go.Proofs.Ytljgnflmomakaaa
open Go.RowKit

theorem below_alloc (w : World) (o : Obj) : Below w.heap.size w (w.alloc o) := (Below.refl _ w).alloc (Nat.le_refl _) o
theorem step0 {B : Nat} {w0 w1 w2 : World} (h : Below B w0 w1) (hb : Below w1.heap.size w1 w2) (hB : B ≤ w1.heap.size) : Below B w0 w2 := h.trans (hb.mono hB)

/-- The three cells of a box of booleans, in a world that keeps what was there. -/
theorem three {w v : World} {k : Nat} {l a d : Value} (h : k < w.heap.size ∧ w.cell? ⟨k, 0, none⟩ = some l ∧ w.cell? ⟨k, 1, none⟩ = some a ∧ w.cell? ⟨k, 2, none⟩ = some d) (hb : Below w.heap.size w v) :
    Below w.heap.size w v ∧ v.cell? ⟨k, 0, none⟩ = some l ∧ v.cell? ⟨k, 1, none⟩ = some a ∧ v.cell? ⟨k, 2, none⟩ = some d := by
  obtain ⟨hk, h1, h2, h3⟩ := h
  exact ⟨hb, (hb.cell (p := ⟨k, 0, none⟩) hk).trans h1, (hb.cell (p := ⟨k, 1, none⟩) hk).trans h2, (hb.cell (p := ⟨k, 2, none⟩) hk).trans h3⟩

set_option maxHeartbeats 2000000 in
theorem makes_x (p s r E : Int) (W : World) (h : Td.mkw p s = r) (k : Td.mke p s = E) :
    Calls Try.prog 3 #[.int .i64 p, .int .i64 s] W fun e W' => e = .returned (.bool true) ∧ Below W.heap.size W W' := by
  have H := Lib.hid (And.intro h k)
  clear h k
  go_enter Try.func3, Try.ntmps3
  go_wp2_with fail
  refine (make_is p s r E _ H.out.1 H.out.2).mono ?_
  rintro _ w' ⟨rfl, rfl⟩
  go_wp2_with fail
  refine (rmake_is p s r E _ H.out.1 H.out.2).mono ?_
  rintro _ w' ⟨rfl, rfl⟩
  go_wp2_with fail
  refine (awake_any _).mono ?_
  rintro _ v ⟨rfl, hb⟩
  have B := Lib.hid hb
  clear hb
  go_wp2
  go_ret
  exact ⟨rfl, B.out⟩
theorem tidMakes_walk (p s : Int) (W : World) (_ : (Lit.int .i64 p).wf = true) (_ : (Lit.int .i64 s).wf = true) :
    Calls Try.prog 3 #[.int .i64 p, .int .i64 s] W fun e W' => e = .returned (.bool true) ∧ Below W.heap.size W W' := makes_x p s _ _ W rfl rfl

set_option maxHeartbeats 4000000 in
theorem nexts_x (p l s m x y E : Int) (W : World) (h : Td.nx p l s m = (x, y, E)) :
    Calls Try.prog 5 #[.agg #[.int .i64 p, .int .i64 l], .agg #[.int .i64 s, .int .i64 m]] W fun e W' => e = .returned (.bool true) ∧ Below W.heap.size W W' := by
  have H := Lib.hid h
  clear h
  go_enter Try.func5, Try.ntmps5
  go_wp2_with fail
  refine (next_is p l s m x y E _ H.out).mono ?_
  rintro _ w' ⟨rfl, rfl⟩
  go_wp2_with fail
  refine (rnext_is p l s m x y E _ H.out).mono ?_
  rintro _ w' ⟨rfl, rfl⟩
  go_wp2_with fail
  refine (awake_any _).mono ?_
  rintro _ v ⟨rfl, hb⟩
  have B := Lib.hid hb
  clear hb
  go_wp2
  go_ret
  exact ⟨rfl, (((Below.refl W.heap.size W).alloc (Nat.le_refl _) _).alloc (by simp <;> omega) _).trans (B.out.mono (by simp <;> omega))⟩
theorem tidNexts_walk (p l s m : Int) (W : World) :
    Calls Try.prog 5 #[.agg #[.int .i64 p, .int .i64 l], .agg #[.int .i64 s, .int .i64 m]] W fun e W' => e = .returned (.bool true) ∧ Below W.heap.size W W' := nexts_x p l s m _ _ _ W rfl

set_option maxHeartbeats 8000000 in
theorem bits_x (w x P Q C R S : Int) (A B D l a d : Bool) (W : World) (hw : Td.U w) (h1 : Td.ep w = P) (h2 : Td.sq w = Q) (h3 : Td.bt w 1 = A) (h4 : Td.bt w 2 = B) (h5 : Td.bt w 4 = D) (h6 : Td.wi w l a d = R) (h7 : Td.wi w false (Td.bt w 2) (Td.bt w 4) = S) (h8 : Td.cm w x = C) :
    Calls Try.prog 4 #[.int .i64 w, .int .i64 x, .agg #[.bool l, .bool a, .bool d]] W fun e W' => e = .returned (.bool true) ∧ Below W.heap.size W W' := by
  have H1 := Lib.hid h1
  have H2 := Lib.hid h2
  have H3 := Lib.hid h3
  have H4 := Lib.hid h4
  have H5 := Lib.hid h5
  have H6 := Lib.hid h6
  have H7 := Lib.hid h7
  have H8 := Lib.hid h8
  have HU := Lib.hid hw
  clear h1 h2 h3 h4 h5 h6 h7 h8 hw
  go_enter Try.func4, Try.ntmps4
  go_wp2_with fail
  obtain ⟨W6, hW6⟩ : ∃ W6, W.alloc (.cells #[.bool l, .bool a, .bool d] 29) = W6 := ⟨_, rfl⟩
  have X := Lib.hid (show Below W.heap.size W W6 ∧ W.heap.size < W6.heap.size ∧ W6.cell? ⟨W.heap.size, 0, none⟩ = some (.bool l) ∧ W6.cell? ⟨W.heap.size, 1, none⟩ = some (.bool a) ∧ W6.cell? ⟨W.heap.size, 2, none⟩ = some (.bool d) from by
    rw [← hW6]
    exact ⟨below_alloc _ _, by simp, by simp, by simp, by simp⟩)
  rw [hW6]
  clear hW6
  simp only [List.append_eq, List.cons_append, List.nil_append]
  go_region_held3 (fun v => Below W6.heap.size W6 v ∧ v.cell? ⟨W.heap.size, 0, none⟩ = some (.bool l) ∧ v.cell? ⟨W.heap.size, 1, none⟩ = some (.bool a) ∧ v.cell? ⟨W.heap.size, 2, none⟩ = some (.bool d))
    (first | exact three X.out.2 (Below.refl _ _) | exact three X.out.2 (Below.refl _ _).drew | exact three X.out.2 (step0 (Below.refl _ _).drew hb (Nat.le_refl _)) | exact three X.out.2 (step0 ‹Below W6.heap.size W6 _ ∧ _›.1 hb ‹Below W6.heap.size W6 _ ∧ _›.1.size))
    (first
      | (go_at_call 11; refine (epoch_is w P _ H1.out).mono ?_; rintro e w2 ⟨rfl, rfl⟩)
      | (go_at_call 12; refine (repoch_is w P _ H1.out).mono ?_; rintro e w2 ⟨rfl, rfl⟩)
      | (go_at_call 13; refine (seq_is w Q _ H2.out).mono ?_; rintro e w2 ⟨rfl, rfl⟩)
      | (go_at_call 14; refine (rseq_is w Q _ H2.out).mono ?_; rintro e w2 ⟨rfl, rfl⟩)
      | (go_at_call 15; refine (locked_is w A _ H3.out).mono ?_; rintro e w2 ⟨rfl, rfl⟩)
      | (go_at_call 16; refine (rlocked_is w A _ H3.out).mono ?_; rintro e w2 ⟨rfl, rfl⟩)
      | (go_at_call 17; refine (absent_is w B _ H4.out).mono ?_; rintro e w2 ⟨rfl, rfl⟩)
      | (go_at_call 18; refine (rabsent_is w B _ H4.out).mono ?_; rintro e w2 ⟨rfl, rfl⟩)
      | (go_at_call 19; refine (dead_is w D _ H5.out).mono ?_; rintro e w2 ⟨rfl, rfl⟩)
      | (go_at_call 20; refine (rdead_is w D _ H5.out).mono ?_; rintro e w2 ⟨rfl, rfl⟩)
      | (go_at_call 21; refine (with_is w R l a d _ HU.out H6.out).mono ?_; rintro e w2 ⟨rfl, rfl⟩)
      | (go_at_call 22; refine (rwith_is w R l a d _ HU.out H6.out).mono ?_; rintro e w2 ⟨rfl, rfl⟩)
      | (go_at_call 23; refine (plain_w w S _ HU.out H7.out).mono ?_; rintro e w2 ⟨rfl, rfl⟩)
      | (go_at_call 24; refine (rplain_is w S _ HU.out H7.out).mono ?_; rintro e w2 ⟨rfl, rfl⟩)
      | (go_at_call 26; refine (rcmp_is w x C _ H8.out).mono ?_; rintro e w2 ⟨rfl, rfl⟩)
      | (go_at_call 25; refine (cmp_is w x C _ H8.out).mono ?_; rintro e w3 ⟨rfl, hb⟩)
      | (go_at_call 10; refine (awake_any _).mono ?_; rintro e w4 ⟨rfl, hb⟩))
  have Z := Lib.hid (step0 X.out.1 ‹Below W6.heap.size W6 _ ∧ _›.1 (Nat.le_of_lt X.out.2.1))
  go_wp2
  go_ret
  exact ⟨rfl, Z.out⟩
theorem tidBits_walk (w x : Int) (l a d : Bool) (W : World) (hw : Td.U w) :
    Calls Try.prog 4 #[.int .i64 w, .int .i64 x, .agg #[.bool l, .bool a, .bool d]] W fun e W' => e = .returned (.bool true) ∧ Below W.heap.size W W' := bits_x w x _ _ _ _ _ _ _ _ l a d W hw rfl rfl rfl rfl rfl rfl rfl rfl

set_option maxHeartbeats 4000000 in
theorem back_no (p s : Int) (l a d : Bool) (W : World) (h : Td.mkw p s = 0) (k : Td.mke p s = 1) :
    Calls Try.prog 6 #[.int .i64 p, .int .i64 s, .agg #[.bool l, .bool a, .bool d]] W fun e W' => e = .returned (.bool true) ∧ Below W.heap.size W W' := by
  have H := Lib.hid (And.intro h k)
  clear h k
  go_enter Try.func6, Try.ntmps6
  go_wp2_with fail
  refine (make_is p s 0 1 _ H.out.1 H.out.2).mono ?_
  rintro _ w' ⟨rfl, rfl⟩
  go_wp2_with fail
  refine (awake_any _).mono ?_
  rintro _ v ⟨rfl, hb⟩
  have B := Lib.hid hb
  clear hb
  go_wp2
  go_ret
  exact ⟨rfl, ((Below.refl W.heap.size W).alloc (Nat.le_refl _) _).trans (B.out.mono (by simp <;> omega))⟩

set_option maxHeartbeats 8000000 in
theorem back_yes (p s r x y : Int) (l a d : Bool) (W : World) (h : Td.mkw p s = r) (k : Td.mke p s = 0) (u : Td.U r) (ux : Td.U x) (uy : Td.U y)
    (h1 : Td.wi r l a d = x) (h2 : Td.ep x = p) (h3 : Td.sq x = s) (h4 : Td.bt x 1 = l) (h5 : Td.bt x 2 = a) (h6 : Td.bt x 4 = d) (h7 : Td.wi x false (Td.bt x 2) (Td.bt x 4) = y) (h8 : Td.bt y 1 = false) (h9 : Td.wi x false false false = r) :
    Calls Try.prog 6 #[.int .i64 p, .int .i64 s, .agg #[.bool l, .bool a, .bool d]] W fun e W' => e = .returned (.bool true) ∧ Below W.heap.size W W' := by
  have H := Lib.hid (And.intro h k)
  have H1 := Lib.hid h1
  have H2 := Lib.hid h2
  have H3 := Lib.hid h3
  have H4 := Lib.hid h4
  have H5 := Lib.hid h5
  have H6 := Lib.hid h6
  have H7 := Lib.hid h7
  have H8 := Lib.hid h8
  have H9 := Lib.hid h9
  have HU := Lib.hid (And.intro u (And.intro ux uy))
  clear h k h1 h2 h3 h4 h5 h6 h7 h8 h9 u ux uy
  go_enter Try.func6, Try.ntmps6
  go_wp2_with fail
  refine (make_is p s r 0 _ H.out.1 H.out.2).mono ?_
  rintro _ w' ⟨rfl, rfl⟩
  go_wp2_with fail
  refine (with_is r x l a d _ HU.out.1 H1.out).mono ?_
  rintro _ w' ⟨rfl, rfl⟩
  go_wp2_with fail
  obtain ⟨W6, hW6⟩ : ∃ W6, W.alloc (.cells #[.bool l, .bool a, .bool d] 29) = W6 := ⟨_, rfl⟩
  have X := Lib.hid (show Below W.heap.size W W6 ∧ W.heap.size < W6.heap.size ∧ W6.cell? ⟨W.heap.size, 0, none⟩ = some (.bool l) ∧ W6.cell? ⟨W.heap.size, 1, none⟩ = some (.bool a) ∧ W6.cell? ⟨W.heap.size, 2, none⟩ = some (.bool d) from by
    rw [← hW6]
    exact ⟨below_alloc _ _, by simp, by simp, by simp, by simp⟩)
  rw [hW6]
  clear hW6
  go_region_held3 (fun v => Below W6.heap.size W6 v ∧ v.cell? ⟨W.heap.size, 0, none⟩ = some (.bool l) ∧ v.cell? ⟨W.heap.size, 1, none⟩ = some (.bool a) ∧ v.cell? ⟨W.heap.size, 2, none⟩ = some (.bool d))
    (first | exact three X.out.2 (Below.refl _ _) | exact three X.out.2 (Below.refl _ _).drew | exact three X.out.2 (step0 (Below.refl _ _).drew hb (Nat.le_refl _)) | exact three X.out.2 (step0 ‹Below W6.heap.size W6 _ ∧ _›.1 hb ‹Below W6.heap.size W6 _ ∧ _›.1.size))
    (first
      | (go_at_call 11; refine (epoch_is x p _ H2.out).mono ?_; rintro e w2 ⟨rfl, rfl⟩)
      | (go_at_call 13; refine (seq_is x s _ H3.out).mono ?_; rintro e w2 ⟨rfl, rfl⟩)
      | (go_at_call_of 15 (Value.int .i64 x); refine (locked_is x l _ H4.out).mono ?_; rintro e w2 ⟨rfl, rfl⟩)
      | (go_at_call_of 15 (Value.int .i64 y); refine (locked_is y false _ H8.out).mono ?_; rintro e w2 ⟨rfl, rfl⟩)
      | (go_at_call 17; refine (absent_is x a _ H5.out).mono ?_; rintro e w2 ⟨rfl, rfl⟩)
      | (go_at_call 19; refine (dead_is x d _ H6.out).mono ?_; rintro e w2 ⟨rfl, rfl⟩)
      | (go_at_call 23; refine (plain_w x y _ HU.out.2.1 H7.out).mono ?_; rintro e w2 ⟨rfl, rfl⟩)
      | (go_at_call 21; refine (with_is x r false false false _ HU.out.2.1 H9.out).mono ?_; rintro e w2 ⟨rfl, rfl⟩)
      | (go_at_call 10; refine (awake_any _).mono ?_; rintro e w4 ⟨rfl, hb⟩))
  have Z := Lib.hid (step0 X.out.1 ‹Below W6.heap.size W6 _ ∧ _›.1 (Nat.le_of_lt X.out.2.1))
  go_wp2
  go_ret
  exact ⟨rfl, Z.out⟩
theorem tidBack_walk (p s : Int) (l a d : Bool) (W : World) :
    Calls Try.prog 6 #[.int .i64 p, .int .i64 s, .agg #[.bool l, .bool a, .bool d]] W fun e W' => e = .returned (.bool true) ∧ Below W.heap.size W W' := by
  by_cases hh : Td.ins p = true ∧ Td.ins s = true
  · have k : Td.mke p s = 0 := by unfold Td.mke; rw [if_pos hh]
    have h : Td.mkw p s = p * 8388608 + s * 8 := by unfold Td.mkw; rw [if_pos hh]
    have b0 := Td.ins_t hh.1
    have b1 := Td.ins_t hh.2
    obtain ⟨e1, e2, e3⟩ := Td.of_mkw b0.1 b0.2 b1.1 b1.2
    have u : Td.U (p * 8388608 + s * 8) := by unfold Td.U; omega
    generalize hr : p * 8388608 + s * 8 = r at *
    have t := Td.bt_wi r l a d
    refine back_yes p s r (Td.wi r l a d) _ l a d W h k u (Td.wi_u u) (Td.wi_u (Td.wi_u u)) rfl ((Td.ep_wi r l a d).trans e1) ((Td.sq_wi r l a d).trans e2) t.1 t.2.1 t.2.2 rfl ?_ ?_
    · exact (Td.bt_wi _ _ _ _).1
    · rw [Td.wi_wi]; exact e3
  · have k : Td.mke p s = 1 := by unfold Td.mke; rw [if_neg hh]
    have h : Td.mkw p s = 0 := by unfold Td.mkw; rw [if_neg hh]
    exact back_no p s l a d W h k

end Go.Proofs.Ytljgnflmomakaaa
