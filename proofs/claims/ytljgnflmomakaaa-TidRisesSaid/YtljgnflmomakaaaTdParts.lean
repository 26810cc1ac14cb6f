/-
  What Make, With, Plain, Cmp and Next answer, of package tid and of the document. Conditions: the bounds named in each theorem.
-/
import Derived.Test.YtljgnflmomakaaaTdLeaf
namespace Go.Proofs.Ytljgnflmomakaaa
open Go.RowKit

theorem beq_f {a b : Int} (h : a ≠ b) : (a == b) = false := by simp [h]
theorem bne_t {a b : Int} (h : a ≠ b) : (a != b) = true := by simp [h]
theorem ret_i2 {k l : IntKind} {a b c d : Int} (h : a = b) (g : c = d) : Ending.returned (.tuple #[.int k a, .int l c]) = .returned (.tuple #[.int k b, .int l d]) := by rw [h, g]

set_option maxHeartbeats 1000000 in
theorem compareInt_any (a b : Int) (w : World) :
    Calls Try.prog 37 #[.int .i64 a, .int .i64 b] w fun e w' => e = .returned (.int .i64 (Td.ic a b)) ∧ w = w' := by
  by_cases h : a < b
  · have e : Td.ic a b = -1 := by unfold Td.ic; rw [if_pos h]
    rw [e]
    clear e
    go_enter Try.func37, Try.ntmps37
    go_wp2
    go_ret
    exact ⟨rfl, rfl⟩
  by_cases g : b < a
  · have e : Td.ic a b = 1 := by unfold Td.ic; rw [if_neg h, if_pos g]
    rw [e]
    clear e h
    have g1 : b ≤ a := Int.le_of_lt g
    go_enter Try.func37, Try.ntmps37
    go_wp2
    go_ret
    exact ⟨rfl, rfl⟩
  · have e : Td.ic a b = 0 := by unfold Td.ic; rw [if_neg h, if_neg g]
    rw [e]
    obtain rfl : a = b := by omega
    clear e h g
    go_enter Try.func37, Try.ntmps37
    go_wp2
    go_ret
    exact ⟨rfl, rfl⟩

set_option maxHeartbeats 2000000 in
theorem or_0 (g : Nat) (a : Int) (w : World) (c0 : w.cell? ⟨g, 0, none⟩ = some (.int .i64 a)) (h : a ≠ 0) :
    Calls Try.prog 36 #[.slice (some ⟨g, 0, none⟩) 2 2] w fun e w' => e = .returned (.int .i64 a) ∧ w = w' := by
  have h1 := beq_f h
  have h2 := bne_t h
  go_enter Try.func36, Try.ntmps36
  go_wp2
  refine wp_loop_rounds 3 ?_
  rw [rounds_succ]
  go_wp2
  go_ret
  exact ⟨rfl, rfl⟩
set_option maxHeartbeats 2000000 in
theorem or_1 (g : Nat) (b : Int) (w : World) (c0 : w.cell? ⟨g, 0, none⟩ = some (.int .i64 0)) (c1 : w.cell? ⟨g, 1, none⟩ = some (.int .i64 b)) (h : b ≠ 0) :
    Calls Try.prog 36 #[.slice (some ⟨g, 0, none⟩) 2 2] w fun e w' => e = .returned (.int .i64 b) ∧ w = w' := by
  have h1 := beq_f h
  have h2 := bne_t h
  go_enter Try.func36, Try.ntmps36
  go_wp2
  refine wp_loop_rounds 3 ?_
  rw [rounds_succ]
  go_wp2
  rw [rounds_succ]
  go_wp2
  go_ret
  exact ⟨rfl, rfl⟩
set_option maxHeartbeats 2000000 in
theorem or_2 (g : Nat) (w : World) (c0 : w.cell? ⟨g, 0, none⟩ = some (.int .i64 0)) (c1 : w.cell? ⟨g, 1, none⟩ = some (.int .i64 0)) :
    Calls Try.prog 36 #[.slice (some ⟨g, 0, none⟩) 2 2] w fun e w' => e = .returned (.int .i64 0) ∧ w = w' := by
  go_enter Try.func36, Try.ntmps36
  go_wp2
  refine wp_loop_rounds 3 ?_
  rw [rounds_succ]
  go_wp2
  rw [rounds_succ]
  go_wp2
  rw [rounds_succ]
  go_wp2
  go_ret
  exact ⟨rfl, rfl⟩
theorem or_is (g : Nat) (a b r : Int) (w : World) (c0 : w.cell? ⟨g, 0, none⟩ = some (.int .i64 a)) (c1 : w.cell? ⟨g, 1, none⟩ = some (.int .i64 b)) (h : Td.or2 a b = r) :
    Calls Try.prog 36 #[.slice (some ⟨g, 0, none⟩) 2 2] w fun e w' => e = .returned (.int .i64 r) ∧ w = w' := by
  subst h
  unfold Td.or2
  by_cases ha : a = 0
  · subst ha
    rw [if_pos rfl]
    by_cases hb : b = 0
    · subst hb
      exact or_2 g w c0 c1
    · exact or_1 g b w c0 c1 hb
  · rw [if_neg ha]; exact or_0 g a w c0 ha

set_option maxHeartbeats 1000000 in
theorem put_2 (w r : Int) (l a d : Bool) (W : World) (hu : Td.U w) (h : Td.wi w l a d = r) :
    Calls Try.prog 34 #[.int .i64 w, .int .i64 2, .bool l, .bool a, .bool d] W fun e W' => e = .returned (.int .i64 r) ∧ W = W' := by
  obtain ⟨x4, h4⟩ : ∃ x, Td.st w 4 d = x := ⟨_, rfl⟩
  obtain ⟨x2, h2⟩ : ∃ x, Td.st x4 2 a = x := ⟨_, rfl⟩
  have u4 : Td.U x4 := h4 ▸ Td.st_u4 hu
  have u2 : Td.U x2 := h2 ▸ Td.st_u2 u4
  have e : Td.st x2 1 l = r := by rw [← h2, ← h4, Td.wi_is]; exact h
  have H := Lib.hid (And.intro hu (And.intro u4 (And.intro u2 (And.intro h2 e))))
  have H4 := Lib.hid h4
  clear h2 h4 u4 u2 e h hu
  go_enter Try.func34, Try.ntmps34
  go_wp2_with fail
  refine (set_2 w x4 d _ H.out.1.1 H.out.1.2 H4.out).mono ?_
  rintro e w' ⟨rfl, rfl⟩
  go_wp2_with fail
  refine (set_1 x4 x2 a _ H.out.2.1.1 H.out.2.1.2 H.out.2.2.2.1).mono ?_
  rintro e w' ⟨rfl, rfl⟩
  go_wp2_with fail
  refine (set_0 x2 r l _ H.out.2.2.1.1 H.out.2.2.1.2 H.out.2.2.2.2).mono ?_
  rintro e w' ⟨rfl, rfl⟩
  go_wp2
  go_ret
  exact ⟨rfl, rfl⟩
set_option maxHeartbeats 1000000 in
theorem put_0 (w r : Int) (W : World) (hu : Td.U w) (h : Td.st w 1 false = r) :
    Calls Try.prog 34 #[.int .i64 w, .int .i64 0, .bool false, .bool false, .bool false] W fun e W' => e = .returned (.int .i64 r) ∧ W = W' := by
  have H := Lib.hid (And.intro hu h)
  clear h hu
  go_enter Try.func34, Try.ntmps34
  go_wp2_with fail
  refine (set_0 w r false _ H.out.1.1 H.out.1.2 H.out.2).mono ?_
  rintro e w' ⟨rfl, rfl⟩
  go_wp2
  go_ret
  exact ⟨rfl, rfl⟩
set_option maxHeartbeats 1000000 in
theorem with_is (w r : Int) (l a d : Bool) (W : World) (hu : Td.U w) (h : Td.wi w l a d = r) :
    Calls Try.prog 21 #[.int .i64 w, .bool l, .bool a, .bool d] W fun e W' => e = .returned (.int .i64 r) ∧ W = W' := by
  have H := Lib.hid (And.intro hu h)
  clear h hu
  go_enter Try.func21, Try.ntmps21
  go_wp2_with fail
  refine (put_2 w r l a d _ H.out.1 H.out.2).mono ?_
  rintro e w' ⟨rfl, rfl⟩
  go_wp2
  go_ret
  exact ⟨rfl, rfl⟩
set_option maxHeartbeats 1000000 in
theorem plain_w (w r : Int) (W : World) (hu : Td.U w) (h : Td.wi w false (Td.bt w 2) (Td.bt w 4) = r) :
    Calls Try.prog 23 #[.int .i64 w] W fun e W' => e = .returned (.int .i64 r) ∧ W = W' := by
  have H := Lib.hid (And.intro hu ((Td.plain_is w).trans h))
  clear h hu
  go_enter Try.func23, Try.ntmps23
  go_wp2_with fail
  refine (put_0 w r _ H.out.1 H.out.2).mono ?_
  rintro e w' ⟨rfl, rfl⟩
  go_wp2
  go_ret
  exact ⟨rfl, rfl⟩
theorem below1 (w : World) (o : Obj) : Below w.heap.size w (w.alloc o) := (Below.refl w.heap.size w).alloc (Nat.le_refl _) o

set_option maxHeartbeats 1000000 in
theorem cmp_is (a b r : Int) (W : World) (h : Td.cm a b = r) :
    Calls Try.prog 25 #[.int .i64 a, .int .i64 b] W fun e W' => e = .returned (.int .i64 r) ∧ Below W.heap.size W W' := by
  obtain ⟨x, hx⟩ : ∃ x, Td.ep a = x := ⟨_, rfl⟩
  obtain ⟨y, hy⟩ : ∃ x, Td.ep b = x := ⟨_, rfl⟩
  obtain ⟨u, hu⟩ : ∃ x, Td.sq a = x := ⟨_, rfl⟩
  obtain ⟨v, hv⟩ : ∃ x, Td.sq b = x := ⟨_, rfl⟩
  have e : Td.or2 (Td.ic x y) (Td.ic u v) = r := by rw [← hx, ← hy, ← hu, ← hv]; exact h
  have H := Lib.hid (And.intro hx (And.intro hy (And.intro hu (And.intro hv e))))
  clear hx hy hu hv e h
  go_enter Try.func25, Try.ntmps25
  go_wp2_with fail
  refine (epoch_is a x _ H.out.1).mono ?_
  rintro e w' ⟨rfl, rfl⟩
  go_wp2_with fail
  refine (epoch_is b y _ H.out.2.1).mono ?_
  rintro e w' ⟨rfl, rfl⟩
  go_wp2_with fail
  refine (compareInt_any x y _).mono ?_
  rintro e w' ⟨rfl, rfl⟩
  go_wp2_with fail
  refine (seq_is a u _ H.out.2.2.1).mono ?_
  rintro e w' ⟨rfl, rfl⟩
  go_wp2_with fail
  refine (seq_is b v _ H.out.2.2.2.1).mono ?_
  rintro e w' ⟨rfl, rfl⟩
  go_wp2_with fail
  refine (compareInt_any u v _).mono ?_
  rintro e w' ⟨rfl, rfl⟩
  go_wp2_with fail
  refine (or_is _ (Td.ic x y) (Td.ic u v) r _ (by simp) (by simp) H.out.2.2.2.2).mono ?_
  rintro e w' ⟨rfl, rfl⟩
  go_wp2
  go_ret
  exact ⟨rfl, below1 _ _⟩
set_option maxHeartbeats 1000000 in
theorem rcmp_is (a b r : Int) (W : World) (h : Td.cm a b = r) :
    Calls Try.prog 26 #[.int .i64 a, .int .i64 b] W fun e W' => e = .returned (.int .i64 r) ∧ W = W' := by
  obtain ⟨x, hx⟩ : ∃ x, Td.ep a = x := ⟨_, rfl⟩
  obtain ⟨y, hy⟩ : ∃ x, Td.ep b = x := ⟨_, rfl⟩
  obtain ⟨u, hu⟩ : ∃ x, Td.sq a = x := ⟨_, rfl⟩
  obtain ⟨v, hv⟩ : ∃ x, Td.sq b = x := ⟨_, rfl⟩
  have bx : 0 ≤ x ∧ x < 1048576 := by rw [← hx]; unfold Td.ep; omega
  have b_y : 0 ≤ y ∧ y < 1048576 := by rw [← hy]; unfold Td.ep; omega
  have bu : 0 ≤ u ∧ u < 1048576 := by rw [← hu]; unfold Td.sq; omega
  have bv : 0 ≤ v ∧ v < 1048576 := by rw [← hv]; unfold Td.sq; omega
  have e := (Td.cm_is a b).symm.trans h
  rw [hx, hy, hu, hv] at e
  have H := Lib.hid (And.intro hx (And.intro hy (And.intro hu (And.intro hv (And.intro bx (And.intro b_y (And.intro bu e)))))))
  obtain ⟨bx0, bx1⟩ := bx
  obtain ⟨by0, by1⟩ := b_y
  obtain ⟨bu0, bu1⟩ := bu
  obtain ⟨bv0, bv1⟩ := bv
  clear hx hy hu hv e h
  go_enter Try.func26, Try.ntmps26
  go_wp2_with fail
  refine (repoch_is a x _ H.out.1).mono ?_
  rintro e w' ⟨rfl, rfl⟩
  go_wp2_with fail
  refine (rseq_is a u _ H.out.2.2.1).mono ?_
  rintro e w' ⟨rfl, rfl⟩
  go_wp2_with fail
  refine (repoch_is b y _ H.out.2.1).mono ?_
  rintro e w' ⟨rfl, rfl⟩
  go_wp2_with fail
  refine (rseq_is b v _ H.out.2.2.2.1).mono ?_
  rintro e w' ⟨rfl, rfl⟩
  go_wp2
  all_goals go_ret
  all_goals refine ⟨ret_int ?_, rfl⟩
  all_goals have g := H.out.2.2.2.2.2.2
  all_goals rw [← g.2]
  all_goals (repeat' split) <;> omega
set_option maxHeartbeats 1000000 in
theorem rwith_is (w r : Int) (l a d : Bool) (W : World) (hu : Td.U w) (h : Td.wi w l a d = r) :
    Calls Try.prog 22 #[.int .i64 w, .bool l, .bool a, .bool d] W fun e W' => e = .returned (.int .i64 r) ∧ W = W' := by
  obtain ⟨x, hx⟩ : ∃ x : Int, (if l then (1 : Int) else 0) = x := ⟨_, rfl⟩
  obtain ⟨y, hy⟩ : ∃ x : Int, (if a then (1 : Int) else 0) = x := ⟨_, rfl⟩
  obtain ⟨z, hz⟩ : ∃ x : Int, (if d then (1 : Int) else 0) = x := ⟨_, rfl⟩
  have H := Lib.hid (And.intro hx (And.intro hy (And.intro hz (And.intro hu h))))
  clear hx hy hz hu h
  go_enter Try.func22, Try.ntmps22
  go_wp2_with fail
  refine (one_is l x _ H.out.1).mono ?_
  rintro e w' ⟨rfl, rfl⟩
  go_wp2_with fail
  refine (one_is a y _ H.out.2.1).mono ?_
  rintro e w' ⟨rfl, rfl⟩
  go_wp2_with fail
  refine (one_is d z _ H.out.2.2.1).mono ?_
  rintro e w' ⟨rfl, rfl⟩
  go_wp2
  go_ret
  exact ⟨ret_int (with_num w r x y z l a d H.out.1 H.out.2.1 H.out.2.2.1 H.out.2.2.2.1 H.out.2.2.2.2), rfl⟩
set_option maxHeartbeats 1000000 in
theorem rplain_is (w r : Int) (W : World) (hu : Td.U w) (h : Td.wi w false (Td.bt w 2) (Td.bt w 4) = r) :
    Calls Try.prog 24 #[.int .i64 w] W fun e W' => e = .returned (.int .i64 r) ∧ W = W' := by
  obtain ⟨A, hA⟩ : ∃ x, Td.bt w 2 = x := ⟨_, rfl⟩
  obtain ⟨D, hD⟩ : ∃ x, Td.bt w 4 = x := ⟨_, rfl⟩
  rw [hA, hD] at h
  have H := Lib.hid (And.intro hA (And.intro hD (And.intro hu h)))
  clear hA hD hu h
  go_enter Try.func24, Try.ntmps24
  go_wp2_with fail
  refine (rabsent_is w A _ H.out.1).mono ?_
  rintro e w' ⟨rfl, rfl⟩
  go_wp2_with fail
  refine (rdead_is w D _ H.out.2.1).mono ?_
  rintro e w' ⟨rfl, rfl⟩
  go_wp2_with fail
  refine (rwith_is w r false A D _ H.out.2.2.1 H.out.2.2.2).mono ?_
  rintro e w' ⟨rfl, rfl⟩
  go_wp2
  go_ret
  exact ⟨rfl, rfl⟩
set_option maxHeartbeats 1000000 in
theorem make_t (p s r : Int) (W : World) (h0 : Td.ins p = true) (h1 : Td.ins s = true) (h : p * 8388608 + s * 8 = r) :
    Calls Try.prog 8 #[.int .i64 p, .int .i64 s] W fun e W' => e = .returned (.tuple #[.int .i64 r, .int .i64 0]) ∧ W = W' := by
  have b0 := (Td.ins_t h0).1
  have b1 := (Td.ins_t h0).2
  have b2 := (Td.ins_t h1).1
  have b3 := (Td.ins_t h1).2
  have H := Lib.hid (And.intro h0 (And.intro h1 ((Td.made p s b0 b1 b2 b3).trans h)))
  clear h0 h1 h
  go_enter Try.func8, Try.ntmps8
  go_wp2_with fail
  refine (isEpoch_is p true _ H.out.1).mono ?_
  rintro _ w' ⟨rfl, rfl⟩
  go_wp2_with fail
  refine (isSeq_is s true _ H.out.2.1).mono ?_
  rintro _ w' ⟨rfl, rfl⟩
  go_wp2
  go_ret2
  exact ⟨ret_i2 H.out.2.2 rfl, rfl⟩
set_option maxHeartbeats 1000000 in
theorem make_f0 (p s : Int) (W : World) (h0 : Td.ins p = false) :
    Calls Try.prog 8 #[.int .i64 p, .int .i64 s] W fun e W' => e = .returned (.tuple #[.int .i64 0, .int .i64 1]) ∧ W = W' := by
  have H := Lib.hid h0
  clear h0
  go_enter Try.func8, Try.ntmps8
  go_wp2_with fail
  refine (isEpoch_is p false _ H.out).mono ?_
  rintro _ w' ⟨rfl, rfl⟩
  go_wp2
  go_ret2
  exact ⟨rfl, rfl⟩
set_option maxHeartbeats 1000000 in
theorem make_f1 (p s : Int) (W : World) (h0 : Td.ins p = true) (h1 : Td.ins s = false) :
    Calls Try.prog 8 #[.int .i64 p, .int .i64 s] W fun e W' => e = .returned (.tuple #[.int .i64 0, .int .i64 1]) ∧ W = W' := by
  have H := Lib.hid (And.intro h0 h1)
  clear h0 h1
  go_enter Try.func8, Try.ntmps8
  go_wp2_with fail
  refine (isEpoch_is p true _ H.out.1).mono ?_
  rintro _ w' ⟨rfl, rfl⟩
  go_wp2_with fail
  refine (isSeq_is s false _ H.out.2).mono ?_
  rintro _ w' ⟨rfl, rfl⟩
  go_wp2
  go_ret2
  exact ⟨rfl, rfl⟩
set_option maxHeartbeats 1000000 in
theorem rmake_x (p s : Int) (W : World) :
    Calls Try.prog 9 #[.int .i64 p, .int .i64 s] W fun e W' => e = .returned (.tuple #[.int .i64 (Td.mkw p s), .int .i64 (Td.mke p s)]) ∧ W = W' := by
  have Hf := Lib.hid (show p < 0 ∨ 1048576 ≤ p ∨ s < 0 ∨ 1048576 ≤ s → Td.mkw p s = 0 ∧ Td.mke p s = 1 from fun h => by
    have g : ¬ (Td.ins p = true ∧ Td.ins s = true) := fun k => by
      have := Td.ins_t k.1
      have := Td.ins_t k.2
      omega
    unfold Td.mkw Td.mke
    rw [if_neg g, if_neg g]
    exact ⟨rfl, rfl⟩)
  have Ht := Lib.hid (show 0 ≤ p → p < 1048576 → 0 ≤ s → s < 1048576 → Td.mkw p s = p * 8388608 + s * 8 ∧ Td.mke p s = 0 from fun a b c d => by
    unfold Td.mkw Td.mke
    rw [if_pos ⟨Td.ins_of a b, Td.ins_of c d⟩, if_pos ⟨Td.ins_of a b, Td.ins_of c d⟩]
    exact ⟨rfl, rfl⟩)
  go_enter Try.func9, Try.ntmps9
  go_wp2
  all_goals go_ret2
  all_goals refine ⟨ret_i2 ?_ ?_, rfl⟩
  all_goals first | exact (Hf.out (by omega)).1.symm | exact (Hf.out (by omega)).2.symm | (rw [(Ht.out (by omega) (by omega) (by omega) (by omega)).1]; omega) | exact (Ht.out (by omega) (by omega) (by omega) (by omega)).2.symm
theorem make_is (p s r E : Int) (W : World) (h : Td.mkw p s = r) (k : Td.mke p s = E) :
    Calls Try.prog 8 #[.int .i64 p, .int .i64 s] W fun e W' => e = .returned (.tuple #[.int .i64 r, .int .i64 E]) ∧ W = W' := by
  subst h k
  unfold Td.mkw Td.mke
  by_cases a : Td.ins p = true
  · by_cases b : Td.ins s = true
    · rw [if_pos ⟨a, b⟩, if_pos ⟨a, b⟩]; exact make_t p s _ W a b rfl
    · rw [if_neg (fun c => b c.2), if_neg (fun c => b c.2)]; exact make_f1 p s W a (by simpa using b)
  · rw [if_neg (fun c => a c.1), if_neg (fun c => a c.1)]; exact make_f0 p s W (by simpa using a)
theorem rmake_is (p s r E : Int) (W : World) (h : Td.mkw p s = r) (k : Td.mke p s = E) :
    Calls Try.prog 9 #[.int .i64 p, .int .i64 s] W fun e W' => e = .returned (.tuple #[.int .i64 r, .int .i64 E]) ∧ W = W' := by
  subst h k
  exact rmake_x p s W

theorem ret_i3 {k l m : IntKind} {a b c d x y : Int} (h : a = b) (g : c = d) (i : x = y) : Ending.returned (.tuple #[.int k a, .int l c, .int m x]) = .returned (.tuple #[.int k b, .int l d, .int m y]) := by rw [h, g, i]

set_option maxHeartbeats 1000000 in
theorem next_f0 (p l s m : Int) (W : World) (h0 : Td.ins p = false) :
    Calls Try.prog 27 #[.int .i64 p, .int .i64 l, .int .i64 s, .int .i64 m] W fun e W' => e = .returned (.tuple #[.int .i64 0, .int .i64 0, .int .i64 1]) ∧ W = W' := by
  have H0 := Lib.hid h0
  clear h0
  go_enter Try.func27, Try.ntmps27
  go_wp2_with fail
  refine (isEpoch_is p false _ H0.out).mono ?_
  rintro _ w' ⟨rfl, rfl⟩
  go_wp2
  go_ret3
  exact ⟨rfl, rfl⟩
set_option maxHeartbeats 1000000 in
theorem next_f1 (p l s m : Int) (W : World) (h0 : Td.ins p = true) (h1 : Td.ins l = false) :
    Calls Try.prog 27 #[.int .i64 p, .int .i64 l, .int .i64 s, .int .i64 m] W fun e W' => e = .returned (.tuple #[.int .i64 0, .int .i64 0, .int .i64 1]) ∧ W = W' := by
  have H0 := Lib.hid h0
  clear h0
  have H1 := Lib.hid h1
  clear h1
  go_enter Try.func27, Try.ntmps27
  go_wp2_with fail
  refine (isEpoch_is p true _ H0.out).mono ?_
  rintro _ w' ⟨rfl, rfl⟩
  go_wp2_with fail
  refine (isEpoch_is l false _ H1.out).mono ?_
  rintro _ w' ⟨rfl, rfl⟩
  go_wp2
  go_ret3
  exact ⟨rfl, rfl⟩
set_option maxHeartbeats 1000000 in
theorem next_f2 (p l s m : Int) (W : World) (h0 : Td.ins p = true) (h1 : Td.ins l = true) (h2 : Td.ins s = false) :
    Calls Try.prog 27 #[.int .i64 p, .int .i64 l, .int .i64 s, .int .i64 m] W fun e W' => e = .returned (.tuple #[.int .i64 0, .int .i64 0, .int .i64 1]) ∧ W = W' := by
  have H0 := Lib.hid h0
  clear h0
  have H1 := Lib.hid h1
  clear h1
  have H2 := Lib.hid h2
  clear h2
  go_enter Try.func27, Try.ntmps27
  go_wp2_with fail
  refine (isEpoch_is p true _ H0.out).mono ?_
  rintro _ w' ⟨rfl, rfl⟩
  go_wp2_with fail
  refine (isEpoch_is l true _ H1.out).mono ?_
  rintro _ w' ⟨rfl, rfl⟩
  go_wp2_with fail
  refine (isSeq_is s false _ H2.out).mono ?_
  rintro _ w' ⟨rfl, rfl⟩
  go_wp2
  go_ret3
  exact ⟨rfl, rfl⟩
set_option maxHeartbeats 1000000 in
theorem next_f3 (p l s m : Int) (W : World) (h0 : Td.ins p = true) (h1 : Td.ins l = true) (h2 : Td.ins s = true) (h3 : Td.ins m = false) :
    Calls Try.prog 27 #[.int .i64 p, .int .i64 l, .int .i64 s, .int .i64 m] W fun e W' => e = .returned (.tuple #[.int .i64 0, .int .i64 0, .int .i64 1]) ∧ W = W' := by
  have H0 := Lib.hid h0
  clear h0
  have H1 := Lib.hid h1
  clear h1
  have H2 := Lib.hid h2
  clear h2
  have H3 := Lib.hid h3
  clear h3
  go_enter Try.func27, Try.ntmps27
  go_wp2_with fail
  refine (isEpoch_is p true _ H0.out).mono ?_
  rintro _ w' ⟨rfl, rfl⟩
  go_wp2_with fail
  refine (isEpoch_is l true _ H1.out).mono ?_
  rintro _ w' ⟨rfl, rfl⟩
  go_wp2_with fail
  refine (isSeq_is s true _ H2.out).mono ?_
  rintro _ w' ⟨rfl, rfl⟩
  go_wp2_with fail
  refine (isSeq_is m false _ H3.out).mono ?_
  rintro _ w' ⟨rfl, rfl⟩
  go_wp2
  go_ret3
  exact ⟨rfl, rfl⟩
set_option maxHeartbeats 1000000 in
theorem next_lt (p l s m : Int) (W : World) (h0 : Td.ins p = true) (h1 : Td.ins l = true) (h2 : Td.ins s = true) (h3 : Td.ins m = true) (g : p < l) :
    Calls Try.prog 27 #[.int .i64 p, .int .i64 l, .int .i64 s, .int .i64 m] W fun e W' => e = .returned (.tuple #[.int .i64 0, .int .i64 0, .int .i64 1]) ∧ W = W' := by
  have H0 := Lib.hid h0
  have H1 := Lib.hid h1
  have H2 := Lib.hid h2
  have H3 := Lib.hid h3
  clear h0
  clear h1
  clear h2
  clear h3
  go_enter Try.func27, Try.ntmps27
  go_wp2_with fail
  refine (isEpoch_is p true _ H0.out).mono ?_
  rintro _ w' ⟨rfl, rfl⟩
  go_wp2_with fail
  refine (isEpoch_is l true _ H1.out).mono ?_
  rintro _ w' ⟨rfl, rfl⟩
  go_wp2_with fail
  refine (isSeq_is s true _ H2.out).mono ?_
  rintro _ w' ⟨rfl, rfl⟩
  go_wp2_with fail
  refine (isSeq_is m true _ H3.out).mono ?_
  rintro _ w' ⟨rfl, rfl⟩
  go_wp2
  go_ret3
  exact ⟨rfl, rfl⟩
set_option maxHeartbeats 1000000 in
theorem next_gt0 (p l s m : Int) (W : World) (h0 : Td.ins p = true) (h1 : Td.ins l = true) (h2 : Td.ins s = true) (h3 : Td.ins m = true) (g : l < p) (k : m < 1) :
    Calls Try.prog 27 #[.int .i64 p, .int .i64 l, .int .i64 s, .int .i64 m] W fun e W' => e = .returned (.tuple #[.int .i64 0, .int .i64 0, .int .i64 21]) ∧ W = W' := by
  have b0 := (Td.ins_t h2).1
  have b1 := (Td.ins_t h2).2
  have g1 : l ≤ p := Int.le_of_lt g
  have H0 := Lib.hid h0
  have H1 := Lib.hid h1
  have H2 := Lib.hid h2
  have H3 := Lib.hid h3
  clear h0
  clear h1
  clear h2
  clear h3
  go_enter Try.func27, Try.ntmps27
  go_wp2_with fail
  refine (isEpoch_is p true _ H0.out).mono ?_
  rintro _ w' ⟨rfl, rfl⟩
  go_wp2_with fail
  refine (isEpoch_is l true _ H1.out).mono ?_
  rintro _ w' ⟨rfl, rfl⟩
  go_wp2_with fail
  refine (isSeq_is s true _ H2.out).mono ?_
  rintro _ w' ⟨rfl, rfl⟩
  go_wp2_with fail
  refine (isSeq_is m true _ H3.out).mono ?_
  rintro _ w' ⟨rfl, rfl⟩
  go_wp2
  go_ret3
  exact ⟨rfl, rfl⟩
set_option maxHeartbeats 1000000 in
theorem next_gt1 (p l s m : Int) (W : World) (h0 : Td.ins p = true) (h1 : Td.ins l = true) (h2 : Td.ins s = true) (h3 : Td.ins m = true) (g : l < p) (k : 1 ≤ m) :
    Calls Try.prog 27 #[.int .i64 p, .int .i64 l, .int .i64 s, .int .i64 m] W fun e W' => e = .returned (.tuple #[.int .i64 p, .int .i64 1, .int .i64 0]) ∧ W = W' := by
  have b0 := (Td.ins_t h2).1
  have b1 := (Td.ins_t h2).2
  have g1 : l ≤ p := Int.le_of_lt g
  have H0 := Lib.hid h0
  have H1 := Lib.hid h1
  have H2 := Lib.hid h2
  have H3 := Lib.hid h3
  clear h0
  clear h1
  clear h2
  clear h3
  go_enter Try.func27, Try.ntmps27
  go_wp2_with fail
  refine (isEpoch_is p true _ H0.out).mono ?_
  rintro _ w' ⟨rfl, rfl⟩
  go_wp2_with fail
  refine (isEpoch_is l true _ H1.out).mono ?_
  rintro _ w' ⟨rfl, rfl⟩
  go_wp2_with fail
  refine (isSeq_is s true _ H2.out).mono ?_
  rintro _ w' ⟨rfl, rfl⟩
  go_wp2_with fail
  refine (isSeq_is m true _ H3.out).mono ?_
  rintro _ w' ⟨rfl, rfl⟩
  go_wp2
  go_ret3
  exact ⟨rfl, rfl⟩
set_option maxHeartbeats 1000000 in
theorem next_eq0 (p l s m : Int) (W : World) (h0 : Td.ins p = true) (h1 : Td.ins l = true) (h2 : Td.ins s = true) (h3 : Td.ins m = true) (g : l = p) (k : m < s + 1) :
    Calls Try.prog 27 #[.int .i64 p, .int .i64 l, .int .i64 s, .int .i64 m] W fun e W' => e = .returned (.tuple #[.int .i64 0, .int .i64 0, .int .i64 21]) ∧ W = W' := by
  have b0 := (Td.ins_t h2).1
  have b1 := (Td.ins_t h2).2
  have g1 : l ≤ p := by omega
  have g2 : p ≤ l := by omega
  clear g
  have H0 := Lib.hid h0
  have H1 := Lib.hid h1
  have H2 := Lib.hid h2
  have H3 := Lib.hid h3
  clear h0
  clear h1
  clear h2
  clear h3
  go_enter Try.func27, Try.ntmps27
  go_wp2_with fail
  refine (isEpoch_is p true _ H0.out).mono ?_
  rintro _ w' ⟨rfl, rfl⟩
  go_wp2_with fail
  refine (isEpoch_is l true _ H1.out).mono ?_
  rintro _ w' ⟨rfl, rfl⟩
  go_wp2_with fail
  refine (isSeq_is s true _ H2.out).mono ?_
  rintro _ w' ⟨rfl, rfl⟩
  go_wp2_with fail
  refine (isSeq_is m true _ H3.out).mono ?_
  rintro _ w' ⟨rfl, rfl⟩
  go_wp2
  go_ret3
  exact ⟨rfl, rfl⟩
set_option maxHeartbeats 1000000 in
theorem next_eq1 (p l s m : Int) (W : World) (h0 : Td.ins p = true) (h1 : Td.ins l = true) (h2 : Td.ins s = true) (h3 : Td.ins m = true) (g : l = p) (k : s + 1 ≤ m) :
    Calls Try.prog 27 #[.int .i64 p, .int .i64 l, .int .i64 s, .int .i64 m] W fun e W' => e = .returned (.tuple #[.int .i64 p, .int .i64 (s + 1), .int .i64 0]) ∧ W = W' := by
  have b0 := (Td.ins_t h2).1
  have b1 := (Td.ins_t h2).2
  have g1 : l ≤ p := by omega
  have g2 : p ≤ l := by omega
  clear g
  have H0 := Lib.hid h0
  have H1 := Lib.hid h1
  have H2 := Lib.hid h2
  have H3 := Lib.hid h3
  clear h0
  clear h1
  clear h2
  clear h3
  go_enter Try.func27, Try.ntmps27
  go_wp2_with fail
  refine (isEpoch_is p true _ H0.out).mono ?_
  rintro _ w' ⟨rfl, rfl⟩
  go_wp2_with fail
  refine (isEpoch_is l true _ H1.out).mono ?_
  rintro _ w' ⟨rfl, rfl⟩
  go_wp2_with fail
  refine (isSeq_is s true _ H2.out).mono ?_
  rintro _ w' ⟨rfl, rfl⟩
  go_wp2_with fail
  refine (isSeq_is m true _ H3.out).mono ?_
  rintro _ w' ⟨rfl, rfl⟩
  go_wp2
  go_ret3
  exact ⟨rfl, rfl⟩
theorem next_is (p l s m x y E : Int) (W : World) (h : Td.nx p l s m = (x, y, E)) :
    Calls Try.prog 27 #[.int .i64 p, .int .i64 l, .int .i64 s, .int .i64 m] W fun e W' => e = .returned (.tuple #[.int .i64 x, .int .i64 y, .int .i64 E]) ∧ W = W' := by
  unfold Td.nx at h
  by_cases h0 : Td.ins p = false
  · rw [if_neg (fun c => by simp [h0] at c)] at h; cases h; exact next_f0 p l s m W h0
  rw [Bool.not_eq_false] at h0
  by_cases h1 : Td.ins l = false
  · rw [if_neg (fun c => by simp [h1] at c)] at h; cases h; exact next_f1 p l s m W h0 h1
  rw [Bool.not_eq_false] at h1
  by_cases h2 : Td.ins s = false
  · rw [if_neg (fun c => by simp [h2] at c)] at h; cases h; exact next_f2 p l s m W h0 h1 h2
  rw [Bool.not_eq_false] at h2
  by_cases h3 : Td.ins m = false
  · rw [if_neg (fun c => by simp [h3] at c)] at h; cases h; exact next_f3 p l s m W h0 h1 h2 h3
  rw [Bool.not_eq_false] at h3
  by_cases h4 : p < l
  · rw [if_neg (fun c => by omega)] at h; cases h; exact next_lt p l s m W h0 h1 h2 h3 h4
  have h4 : l ≤ p := by omega
  rw [if_pos ⟨h0, h1, h2, h3, h4⟩] at h
  by_cases h5 : l < p
  · have q : Td.nq p l s = 1 := by unfold Td.nq; rw [if_pos h5]
    rw [q] at h
    by_cases h6 : m < 1
    · rw [if_pos h6] at h; cases h; exact next_gt0 p l s m W h0 h1 h2 h3 h5 h6
    · rw [if_neg h6] at h; cases h; exact next_gt1 p l s m W h0 h1 h2 h3 h5 (by omega)
  · have q : Td.nq p l s = s + 1 := by unfold Td.nq; rw [if_neg h5]
    rw [q] at h
    by_cases h6 : m < s + 1
    · rw [if_pos h6] at h; cases h; exact next_eq0 p l s m W h0 h1 h2 h3 (by omega) h6
    · rw [if_neg h6] at h; cases h; exact next_eq1 p l s m W h0 h1 h2 h3 (by omega) (by omega)

set_option maxHeartbeats 1000000 in
theorem rnext_is (p l s m x y E : Int) (W : World) (h : Td.nx p l s m = (x, y, E)) :
    Calls Try.prog 28 #[.int .i64 p, .int .i64 l, .int .i64 s, .int .i64 m] W fun e W' => e = .returned (.tuple #[.int .i64 x, .int .i64 y, .int .i64 E]) ∧ W = W' := by
  have Hf := Lib.hid (show l < 0 ∨ p < l ∨ 1048576 ≤ p ∨ s < 0 ∨ 1048576 ≤ s ∨ m < 0 ∨ 1048576 ≤ m → x = 0 ∧ y = 0 ∧ E = 1 from fun a => by
    unfold Td.nx at h
    rw [if_neg (fun c => by
      have := Td.ins_t c.1
      have := Td.ins_t c.2.1
      have := Td.ins_t c.2.2.1
      have := Td.ins_t c.2.2.2.1
      have := c.2.2.2.2
      omega)] at h
    cases h
    exact ⟨rfl, rfl, rfl⟩)
  have Hg := Lib.hid (show ¬ (l < 0 ∨ p < l ∨ 1048576 ≤ p ∨ s < 0 ∨ 1048576 ≤ s ∨ m < 0 ∨ 1048576 ≤ m) → (l < p ∧ m < 1 ∨ l = p ∧ m < s + 1) → x = 0 ∧ y = 0 ∧ E = 21 from fun a b => by
    unfold Td.nx at h
    rw [if_pos ⟨Td.ins_of (by omega) (by omega), Td.ins_of (by omega) (by omega), Td.ins_of (by omega) (by omega), Td.ins_of (by omega) (by omega), by omega⟩, if_pos (by unfold Td.nq; split <;> omega)] at h
    cases h
    exact ⟨rfl, rfl, rfl⟩)
  have Hh := Lib.hid (show ¬ (l < 0 ∨ p < l ∨ 1048576 ≤ p ∨ s < 0 ∨ 1048576 ≤ s ∨ m < 0 ∨ 1048576 ≤ m) → (l < p ∧ 1 ≤ m ∨ l = p ∧ s + 1 ≤ m) → x = p ∧ y = (if l < p then 1 else s + 1) ∧ E = 0 from fun a b => by
    unfold Td.nx at h
    rw [if_pos ⟨Td.ins_of (by omega) (by omega), Td.ins_of (by omega) (by omega), Td.ins_of (by omega) (by omega), Td.ins_of (by omega) (by omega), by omega⟩, if_neg (by unfold Td.nq; split <;> omega)] at h
    cases h
    exact ⟨rfl, rfl, rfl⟩)
  clear h
  go_enter Try.func28, Try.ntmps28
  go_wp2
  all_goals go_ret3
  all_goals first | (have e1 : p = l := eq_of_beq (by assumption)) | (have e1 : p ≠ l := by have k : (p == l) = false := (by assumption); simpa using k) | skip
  all_goals refine ⟨ret_i3 ?_ ?_ ?_, rfl⟩
  all_goals first | exact (Hf.out (by omega)).1.symm | exact (Hf.out (by omega)).2.1.symm | exact (Hf.out (by omega)).2.2.symm | exact (Hg.out (by omega) (by omega)).1.symm | exact (Hg.out (by omega) (by omega)).2.1.symm | exact (Hg.out (by omega) (by omega)).2.2.symm | exact (Hh.out (by omega) (by omega)).1.symm | (rw [(Hh.out (by omega) (by omega)).2.1]; split <;> omega) | exact (Hh.out (by omega) (by omega)).2.2.symm
end Go.Proofs.Ytljgnflmomakaaa
