/-
  What eight, readEight and ofNumber of package convert answer. Condition: the library's tables and variables hold what their initialisers lay.
-/
import Derived.Test.YtdonmbmahcjfbaaGreatDoorCvNum
import Derived.Test.YtdonmbmahcjfbaaGreatDoorKmPutNum
import Derived.Test.YtdonmbmahcjfbaaGreatDoorKmNumRd
namespace Go.Proofs.YtdonmbmahcjfbaaGreatDoor.Km
open Go.RowKit

/-- A block of cells of a type. -/
def Blk (W : World) (B : Nat) (cs : Array Value) (t : TypeId) : Prop := W.heap[B]? = some (.cells cs t (0, 0))
theorem Blk.lt {W : World} {B : Nat} {cs : Array Value} {t : TypeId} (h : Blk W B cs t) : B < W.heap.size := (Array.getElem?_eq_some_iff.1 h).1
theorem Blk.cell {W : World} {B : Nat} {cs : Array Value} {t : TypeId} (h : Blk W B cs t) (i : Nat) : W.cell? ⟨B, i, none⟩ = cs[i]? := by
  simp [World.cell?, show W.heap[B]? = _ from h]
theorem Blk.new (W : World) (cs : Array Value) (t : TypeId) : Blk (W.alloc (.cells cs t)) W.heap.size cs t := Go.heap_alloc_new W _
theorem Blk.new' (W : World) (B : Nat) (cs : Array Value) (t : TypeId) (h : W.heap.size = B) : Blk (W.alloc (.cells cs t)) B cs t := h ▸ Blk.new W cs t
theorem Blk.below {W W' : World} {B : Nat} {cs : Array Value} {t : TypeId} (h : Blk W B cs t) (hb : Below W.heap.size W W') : Blk W' B cs t := (hb.block B h.lt).trans h
theorem Blk.alloc {W : World} {B : Nat} {cs : Array Value} {t : TypeId} (h : Blk W B cs t) (o : Obj) : Blk (W.alloc o) B cs t := h.below (below1 W o)
theorem Blk.frozen {W : World} {B : Nat} {cs : Array Value} {t : TypeId} (h : Blk W B cs t) (i : Nat) : W.frozen? ⟨B, i, none⟩ = false := by simp [World.frozen?, show W.heap[B]? = _ from h]
theorem Blk.setAt {W : World} {B : Nat} {cs : Array Value} {t : TypeId} (i : Nat) (u : Value) (h : Blk W B cs t) : Blk (W.setCell ⟨B, i, none⟩ u) B (cs.setIfInBounds i u) t := by
  obtain ⟨hlt, hk⟩ := Array.getElem?_eq_some_iff.1 h
  show (W.heap.modify B _)[B]? = _
  rw [Array.getElem?_eq_getElem (by rw [Array.size_modify]; exact hlt), Array.getElem_modify_self, hk]
  rfl
theorem Blk.otherAt {W : World} {B B' : Nat} {cs : Array Value} {t : TypeId} (h : Blk W B cs t) (hne : B ≠ B') (i : Nat) (u : Value) : Blk (W.setCell ⟨B', i, none⟩ u) B cs t :=
  (Below.heap_setCell W ⟨B', i, none⟩ u B hne).trans h
/-- Four stores into a block of the call's own. -/
theorem put4 {w W : World} {B : Nat} (h : Below w.heap.size w W) (hB : w.heap.size ≤ B) (a b c d : Value) :
    Below w.heap.size w ((((W.setCell ⟨B, 0, none⟩ a).setCell ⟨B, 1, none⟩ b).setCell ⟨B, 2, none⟩ c).setCell ⟨B, 3, none⟩ d) :=
  (((h.setCell (p := ⟨B, 0, none⟩) hB a).setCell (p := ⟨B, 1, none⟩) hB b).setCell (p := ⟨B, 2, none⟩) hB c).setCell (p := ⟨B, 3, none⟩) hB d

set_option maxHeartbeats 400000 in
theorem eight7 (x : Int) (N : Nat) (w : World) (hx : x = N) :
    Calls Tryz.prog 124 #[.int .u64 x] w fun e w' => e = .returned (.string ⟨(Kc.bn 8 N).toArray⟩) ∧ Below w.heap.size w w' := by
  subst hx
  go_enter Tryz.func124, Tryz.ntmps124
  go_wp2_with fail
  refine (putNumber_is w.heap.size (.slice none 0 0) [] N 8 _ (ow_nil _ _) (Nat.le_refl _) (by decide) (by decide)).mono ?_
  rintro e w1 ⟨v, rfl, ho, hg⟩
  have hc := conv_own _ ho
  rw [List.nil_append] at hc
  have B := Lib.hid (hg.below (ow_nil w w.heap.size) (Nat.le_refl _))
  clear ho hg
  go_wp2
  go_ret
  exact ⟨rfl, B.out⟩

theorem readEight_bad (s : List UInt8) (w : World) (h : s.length ≠ 8) :
    Calls Tryz.prog 126 #[.string ⟨s.toArray⟩] w fun e w' => e = .returned (.tuple #[.int .u64 0, .int .i64 6]) ∧ Below w.heap.size w w' := by
  have h1 : ((s.length : Int) == 8) = false := beq_f (by omega)
  have h2 : ¬ s.length = 8 := h
  clear h
  go_enter Tryz.func126, Tryz.ntmps126
  go_wp2
  go_ret2
  exact ⟨rfl, Below.refl _ _⟩
theorem readEight_ok (s : List UInt8) (N : Nat) (w : World) (h : s.length = 8) (hN : Kc.nm s = N) :
    Calls Tryz.prog 126 #[.string ⟨s.toArray⟩] w fun e w' => e = .returned (.tuple #[.int .u64 N, .int .i64 0]) ∧ Below w.heap.size w w' := by
  have H := Lib.hid (And.intro h hN)
  have h1 : ((s.length : Int) == 8) = true := by rw [h]; rfl
  clear hN
  go_enter Tryz.func126, Tryz.ntmps126
  go_wp2_with fail
  refine (readNumber_is s 8 8 _ rfl (by decide) (by rw [H.out.1]; exact Nat.le_refl _)).mono ?_
  rintro e w1 ⟨rfl, hb⟩
  rw [show s.take 8 = s from List.take_of_length_le (by rw [H.out.1]; exact Nat.le_refl _), H.out.2]
  have B := Lib.hid hb
  clear hb h h1
  go_wp2
  go_ret2
  exact ⟨rfl, B.out⟩

set_option maxHeartbeats 1000000 in
theorem of_1_0 (w : World) :
    Calls Tryz.prog 140 #[.int .i64 0, .int .i64 1] w fun e w' => e = .returned (.tuple #[.agg #[.int .i64 1, .int .i64 0, .int .u64 0, .string ⟨([] : List UInt8).toArray⟩], .int .i64 0]) ∧ Below w.heap.size w w' := by
  go_enter Tryz.func140, Tryz.ntmps140
  go_wp2
  refine bodyPost_ret (v := .tuple #[.agg #[.int .i64 1, .int .i64 0, .int .u64 0, .string ⟨([] : List UInt8).toArray⟩], .int .i64 0]) ?_ rfl ⟨rfl, below1 _ _⟩
  simp [results, Tryz.results140, go_sem]

set_option maxHeartbeats 1000000 in
theorem of_1_1 (w : World) :
    Calls Tryz.prog 140 #[.int .i64 1, .int .i64 1] w fun e w' => e = .returned (.tuple #[.agg #[.int .i64 1, .int .i64 1, .int .u64 0, .string ⟨([] : List UInt8).toArray⟩], .int .i64 0]) ∧ Below w.heap.size w w' := by
  go_enter Tryz.func140, Tryz.ntmps140
  go_wp2
  refine bodyPost_ret (v := .tuple #[.agg #[.int .i64 1, .int .i64 1, .int .u64 0, .string ⟨([] : List UInt8).toArray⟩], .int .i64 0]) ?_ rfl ⟨rfl, below1 _ _⟩
  simp [results, Tryz.results140, go_sem]

set_option maxHeartbeats 1000000 in
theorem of_1_x (n : Int) (w : World) (h0 : n ≠ 0) (h1 : n ≠ 1) :
    Calls Tryz.prog 140 #[.int .i64 n, .int .i64 1] w fun e w' => e = .returned (.tuple #[.agg #[.int .i64 0, .int .i64 0, .int .u64 0, .string ⟨([] : List UInt8).toArray⟩], .int .i64 6]) ∧ Below w.heap.size w w' := by
  have n0 := bne_t h0
  have n1 := bne_t h1
  go_enter Tryz.func140, Tryz.ntmps140
  go_wp2
  refine bodyPost_ret (v := .tuple #[.agg #[.int .i64 0, .int .i64 0, .int .u64 0, .string ⟨([] : List UInt8).toArray⟩], .int .i64 6]) ?_ rfl ⟨rfl, below1 _ _⟩
  simp [results, Tryz.results140, go_sem]

set_option maxHeartbeats 1000000 in
theorem of_2 (n : Int) (w : World) :
    Calls Tryz.prog 140 #[.int .i64 n, .int .i64 2] w fun e w' => e = .returned (.tuple #[.agg #[.int .i64 2, .int .i64 n, .int .u64 0, .string ⟨([] : List UInt8).toArray⟩], .int .i64 0]) ∧ Below w.heap.size w w' := by
  go_enter Tryz.func140, Tryz.ntmps140
  go_wp2
  refine bodyPost_ret (v := .tuple #[.agg #[.int .i64 2, .int .i64 n, .int .u64 0, .string ⟨([] : List UInt8).toArray⟩], .int .i64 0]) ?_ rfl ⟨rfl, below1 _ _⟩
  simp [results, Tryz.results140, go_sem]

set_option maxHeartbeats 1000000 in
theorem of_3_t (n r : Int) (w : World) (h : Cv.I n) (E : Env w) (hr : Rl.fi n = r) (hf : Rl.fo n = true) :
    Calls Tryz.prog 140 #[.int .i64 n, .int .i64 3] w fun e w' => e = .returned (.tuple #[.agg #[.int .i64 3, .int .i64 0, .int .u64 r, .string ⟨([] : List UInt8).toArray⟩], .int .i64 0]) ∧ Below w.heap.size w w' := by
  have H := Lib.hid (And.intro h (And.intro hr hf))
  clear h hr hf
  go_enter Tryz.func140, Tryz.ntmps140
  go_wp2_with fail
  refine (fromInt_is n r true _ H.out.1.1 H.out.1.2 (E.alloc _).tab H.out.2.1 H.out.2.2).mono ?_
  rintro e w' ⟨rfl, rfl⟩
  go_wp2
  refine bodyPost_ret (v := .tuple #[.agg #[.int .i64 3, .int .i64 0, .int .u64 r, .string ⟨([] : List UInt8).toArray⟩], .int .i64 0]) ?_ rfl ⟨rfl, below1 _ _⟩
  simp [results, Tryz.results140, go_sem]

set_option maxHeartbeats 1000000 in
theorem of_3_f (n : Int) (w : World) (h : Cv.I n) (E : Env w) (hf : Rl.fo n = false) :
    Calls Tryz.prog 140 #[.int .i64 n, .int .i64 3] w fun e w' => e = .returned (.tuple #[.agg #[.int .i64 0, .int .i64 0, .int .u64 0, .string ⟨([] : List UInt8).toArray⟩], .int .i64 6]) ∧ Below w.heap.size w w' := by
  have H := Lib.hid (And.intro h hf)
  clear h hf
  go_enter Tryz.func140, Tryz.ntmps140
  go_wp2_with fail
  refine (fromInt_is n _ false _ H.out.1.1 H.out.1.2 (E.alloc _).tab rfl H.out.2).mono ?_
  rintro e w' ⟨rfl, rfl⟩
  go_wp2
  refine bodyPost_ret (v := .tuple #[.agg #[.int .i64 0, .int .i64 0, .int .u64 0, .string ⟨([] : List UInt8).toArray⟩], .int .i64 6]) ?_ rfl ⟨rfl, below1 _ _⟩
  simp [results, Tryz.results140, go_sem]

set_option maxHeartbeats 1000000 in
theorem of_4 (n : Int) (N : Nat) (S : List UInt8) (w : World) (hN : (n % 18446744073709551616).toNat = N) (hS : Kc.bn 8 N = S) :
    Calls Tryz.prog 140 #[.int .i64 n, .int .i64 4] w fun e w' => e = .returned (.tuple #[.agg #[.int .i64 4, .int .i64 0, .int .u64 0, .string ⟨(S : List UInt8).toArray⟩], .int .i64 0]) ∧ Below w.heap.size w w' := by
  have hw : IntKind.u64.wrap n = (N : Int) := by rw [IntKind.wrap_u64]; omega
  have H := Lib.hid hS
  clear hN hS
  go_enter Tryz.func140, Tryz.ntmps140
  go_wp2_with fail
  refine (eight7 _ N _ rfl).mono ?_
  rintro e w1 ⟨rfl, hb⟩
  rw [H.out]
  have k1 := (Blk.new w #[.int .i64 0, .int .i64 0, .int .u64 0, .string ⟨([] : List UInt8).toArray⟩] 28).below hb
  have g0 := k1.cell 0
  have g1 := k1.cell 1
  have g2 := k1.cell 2
  have g3 := k1.cell 3
  have t0 := k1.frozen 0
  have t1 := k1.frozen 1
  have t2 := k1.frozen 2
  have t3 := k1.frozen 3
  simp at g0 g1 g2 g3
  have BF := Lib.hid (old_1 hb)
  clear hb k1
  go_wp2
  refine bodyPost_ret (v := .tuple #[.agg #[.int .i64 4, .int .i64 0, .int .u64 0, .string ⟨(S : List UInt8).toArray⟩], .int .i64 0]) ?_ rfl ⟨rfl, put4 BF.out (Nat.le_refl _) _ _ _ _⟩
  simp [results, Tryz.results140, go_sem, g0, g1, g2, g3]

set_option maxHeartbeats 1000000 in
theorem of_5 (n : Int) (S : List UInt8) (w : World) (h : Cv.I n) (E : Env w) (hS : Lib.itoa n = S) :
    Calls Tryz.prog 140 #[.int .i64 n, .int .i64 5] w fun e w' => e = .returned (.tuple #[.agg #[.int .i64 5, .int .i64 0, .int .u64 0, .string ⟨(S : List UInt8).toArray⟩], .int .i64 0]) ∧ Below w.heap.size w w' := by
  have H := Lib.hid (And.intro h hS)
  clear h hS
  go_enter Tryz.func140, Tryz.ntmps140
  go_wp2_with fail
  refine (digits_is n S _ H.out.1 (E.alloc _) H.out.2).mono ?_
  rintro e w1 ⟨rfl, hb⟩
  have k1 := (Blk.new w #[.int .i64 0, .int .i64 0, .int .u64 0, .string ⟨([] : List UInt8).toArray⟩] 28).below hb
  have g0 := k1.cell 0
  have g1 := k1.cell 1
  have g2 := k1.cell 2
  have g3 := k1.cell 3
  have t0 := k1.frozen 0
  have t1 := k1.frozen 1
  have t2 := k1.frozen 2
  have t3 := k1.frozen 3
  simp at g0 g1 g2 g3
  have BF := Lib.hid (old_1 hb)
  clear hb k1
  go_wp2
  refine bodyPost_ret (v := .tuple #[.agg #[.int .i64 5, .int .i64 0, .int .u64 0, .string ⟨(S : List UInt8).toArray⟩], .int .i64 0]) ?_ rfl ⟨rfl, put4 BF.out (Nat.le_refl _) _ _ _ _⟩
  simp [results, Tryz.results140, go_sem, g0, g1, g2, g3]

/-- What ofNumber answers, in all. -/
theorem of_is (n kind : Int) (r : Cv.R) (w : World) (h : Cv.I n) (E : Env w) (h0 : 1 ≤ kind) (h1 : kind ≤ 5) (hr : Cv.ofn n kind = r) :
    Calls Tryz.prog 140 #[.int .i64 n, .int .i64 kind] w fun e w' => e = .returned (.tuple #[.agg #[.int .i64 r.k, .int .i64 r.n, .int .u64 r.b, .string ⟨r.s.toArray⟩], .int .i64 r.e]) ∧ Below w.heap.size w w' := by
  subst hr
  have c : kind = 1 ∨ kind = 2 ∨ kind = 3 ∨ kind = 4 ∨ kind = 5 := by omega
  rcases c with rfl | rfl | rfl | rfl | rfl
  · by_cases e0 : n = 0
    · subst e0; exact of_1_0 w
    by_cases e1 : n = 1
    · subst e1; exact of_1_1 w
    · have : Cv.ofn n 1 = Cv.er 6 := by unfold Cv.ofn; rw [if_pos rfl, if_neg (by omega)]
      rw [this]; exact of_1_x n w e0 e1
  · exact of_2 n w
  · cases f : Rl.fo n with
    | true =>
      have : Cv.ofn n 3 = ⟨3, 0, Rl.fi n, [], 0⟩ := by unfold Cv.ofn; rw [if_neg (by decide), if_pos rfl, if_pos f]
      rw [this]; exact of_3_t n _ w h E rfl f
    | false =>
      have : Cv.ofn n 3 = Cv.er 6 := by unfold Cv.ofn; rw [if_neg (by decide), if_pos rfl, if_neg (by rw [f]; simp)]
      rw [this]; exact of_3_f n w h E f
  · exact of_4 n _ _ w rfl rfl
  · exact of_5 n _ w h E rfl

end Go.Proofs.YtdonmbmahcjfbaaGreatDoor.Km
