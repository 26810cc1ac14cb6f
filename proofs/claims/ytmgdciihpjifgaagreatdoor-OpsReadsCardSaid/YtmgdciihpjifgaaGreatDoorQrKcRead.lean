/-
 What readReal, read and Read answer of any text. Condition: the bound named in each theorem.
 What Read answers of any text. Condition: the bound named in the theorem.
-/
import Derived.Test.YtmgdciihpjifgaaGreatDoorQrKcReadBytes
import Derived.Test.YtmgdciihpjifgaaGreatDoorQrKcVals
import Derived.Test.YtmgdciihpjifgaaGreatDoorQrVlWorld
import Derived.Test.YtmgdciihpjifgaaGreatDoorQrBase
import Derived.Test.YtmgdciihpjifgaaGreatDoorQrVlSame
set_option maxHeartbeats 2000000
namespace Go.Proofs.YtmgdciihpjifgaaGreatDoor
open Go.RowKit
theorem nm8_U (l : List UInt8) : Rl.U (Kc.nm (l.take 8)) := by
 have h1 := Kc.nm_lt (l.take 8)
 have h2 : 256 ^ (l.take 8).length ≤ 256 ^ 8 := Nat.pow_le_pow_right (by decide) (by rw [List.length_take]; omega)
 have e : (256 : Nat) ^ 8 = 18446744073709551616 := by decide
 unfold Rl.U
 omega
theorem readReal_short (l : List UInt8) (w : World) (hl : l.length < 8) :
  Calls Tryz.prog 160 #[.string ⟨l.toArray⟩] w fun e w' => e = .returned (.tuple #[.int .u64 0, .string ⟨([] : List UInt8).toArray⟩, .int .i64 3]) ∧ Below w.heap.size w w' := by
 go_enter Tryz.func160, Tryz.ntmps160
 go_wp2_with fail
 refine (readNumber_short l 8 8 _ rfl hl).mono ?_
 rintro e w' ⟨rfl, rfl⟩
 clear hl
 go_wp2
 go_ret3
 exact ⟨rfl, Below.refl _ _⟩
theorem readReal_bad (l : List UInt8) (w : World) (hl : 8 ≤ l.length) (hb : Rl.bo (Kc.nm (l.take 8)) = false) :
  Calls Tryz.prog 160 #[.string ⟨l.toArray⟩] w fun e w' => e = .returned (.tuple #[.int .u64 0, .string ⟨([] : List UInt8).toArray⟩, .int .i64 4]) ∧ Below w.heap.size w w' := by
 have H := zh (za hl hb)
 clear hl hb
 go_enter Tryz.func160, Tryz.ntmps160
 go_wp2_with fail
 refine (readNumber_is l 8 8 _ rfl (by decide) H.out.1).mono ?_
 rintro e w1 ⟨rfl, b1⟩
 have B1 := zh b1
 clear b1
 go_wp2_with fail
 refine (back_any _ _ (nm8_U l)).mono ?_
 rintro e w' ⟨rfl, rfl⟩
 rw [H.out.2]
 go_wp2
 go_ret3
 exact ⟨rfl, B1.out⟩
theorem readReal_ok (l : List UInt8) (w : World) (hl : 8 ≤ l.length) (hb : Rl.bo (Kc.nm (l.take 8)) = true) :
  Calls Tryz.prog 160 #[.string ⟨l.toArray⟩] w fun e w' => e = .returned (.tuple #[.int .u64 (Rl.bk (Kc.nm (l.take 8))), .string ⟨(l.drop 8).toArray⟩, .int .i64 0]) ∧ Below w.heap.size w w' := by
 have H := zh (za hl hb)
 clear hl hb
 go_enter Tryz.func160, Tryz.ntmps160
 go_wp2_with fail
 refine (readNumber_is l 8 8 _ rfl (by decide) H.out.1).mono ?_
 rintro e w1 ⟨rfl, b1⟩
 have B1 := zh b1
 clear b1
 go_wp2_with fail
 refine (back_any _ _ (nm8_U l)).mono ?_
 rintro e w' ⟨rfl, rfl⟩
 rw [H.out.2]
 go_wp2
 go_ret3
 exact ⟨rfl, B1.out⟩
theorem rns (l : List UInt8) (k : Nat) (y : Int) (w : World) (hy : y = k) (hl : l.length < k) :
  Calls Tryz.prog 139 #[.string ⟨l.toArray⟩, .int .i64 y] w fun e w' => e = .returned (.tuple #[.int .u64 0, .string ⟨([] : List UInt8).toArray⟩, .int .i64 3]) ∧ Below w.heap.size w w' := by
 refine (readNumber_short l k y w hy hl).mono ?_
 rintro e w' ⟨rfl, rfl⟩
 exact ⟨rfl, Below.refl _ _⟩
theorem Blk.frozen {W : World} {B : Nat} {cs : Array Value} {t : TypeId} (h : Blk W B cs t) (i : Nat) : W.frozen? ⟨B, i, none⟩ = false := by simp [World.frozen?, show W.heap[B]? = _ from h]
theorem Blk.setAt {W : World} {B : Nat} {cs : Array Value} {t : TypeId} (i : Nat) (u : Value) (h : Blk W B cs t) : Blk (W.setCell ⟨B, i, none⟩ u) B (cs.setIfInBounds i u) t := by
 obtain ⟨hlt, hk⟩ := Array.getElem?_eq_some_iff.1 h
 show (W.heap.modify B _)[B]? = _
 rw [Array.getElem?_eq_getElem (by rw [Array.size_modify]; exact hlt), Array.getElem_modify_self, hk]
 rfl
theorem Blk.otherAt {W : World} {B B' : Nat} {cs : Array Value} {t : TypeId} (h : Blk W B cs t) (hne : B ≠ B') (i : Nat) (u : Value) : Blk (W.setCell ⟨B', i, none⟩ u) B cs t :=
 (Below.heap_setCell W ⟨B', i, none⟩ u B hne).trans h
theorem read_boxes {w w1 : World} {k : Int} (hb : Below ((w.alloc (.cells #[.int .i64 0, .int .i64 0, .int .u64 0, .string ⟨([] : List UInt8).toArray⟩] 25)).alloc (.cells #[.int .i64 k, .int .i64 0, .int .u64 0, .string ⟨([] : List UInt8).toArray⟩] 25)).heap.size ((w.alloc (.cells #[.int .i64 0, .int .i64 0, .int .u64 0, .string ⟨([] : List UInt8).toArray⟩] 25)).alloc (.cells #[.int .i64 k, .int .i64 0, .int .u64 0, .string ⟨([] : List UInt8).toArray⟩] 25)) w1) :
  Blk w1 w.heap.size #[.int .i64 0, .int .i64 0, .int .u64 0, .string ⟨([] : List UInt8).toArray⟩] 25 ∧ Blk w1 (w.heap.size + 1) #[.int .i64 k, .int .i64 0, .int .u64 0, .string ⟨([] : List UInt8).toArray⟩] 25 ∧ Below w.heap.size w w1 :=
 ⟨((Blk.new w _ _).alloc _).below hb, (Blk.new' _ _ _ _ (by simp)).below hb, old_2 hb⟩
theorem read_1s (l : List UInt8) (w : World) (hl : l.length < 1) :
  Calls Tryz.prog 151 #[.int .i64 1, .string ⟨l.toArray⟩] w fun e w' => e = .returned (.tuple #[.agg #[.int .i64 1, .int .i64 0, .int .u64 0, .string ⟨(([] : List UInt8)).toArray⟩], .string ⟨(([] : List UInt8)).toArray⟩, .int .i64 3]) ∧ Below w.heap.size w w' := by
 have H := zh hl
 clear hl
 go_enter Tryz.func151, Tryz.ntmps151
 go_wp2_with fail
 refine (rns l 1 1 _ rfl H.out).mono ?_
 rintro e w1 ⟨rfl, hb⟩
 obtain ⟨q0, q1, qB⟩ := read_boxes hb
 have c1 := q1.cell 1
 have f1 := q1.frozen 1
 have p1 := q1.setAt 1 (.int .i64 0)
 have p0 := q0.otherAt (show w.heap.size ≠ w.heap.size + 1 by omega) 1 (.int .i64 0)
 have pB := qB.setCell (p := ⟨w.heap.size + 1, 1, none⟩) (show w.heap.size ≤ w.heap.size + 1 by omega) (.int .i64 0)
 obtain ⟨W2, hW2⟩ : ∃ W2, w1.setCell ⟨w.heap.size + 1, 1, none⟩ (.int .i64 0) = W2 := ⟨_, rfl⟩
 rw [hW2] at p0 p1 pB
 have d0 := p1.cell 0
 have d1 := p1.cell 1
 have d2 := p1.cell 2
 have d3 := p1.cell 3
 have g0 := p0.cell 0
 have g1 := p0.cell 1
 have g2 := p0.cell 2
 have g3 := p0.cell 3
 have h0 := p0.frozen 0
 have h1 := p0.frozen 1
 have h2 := p0.frozen 2
 have h3 := p0.frozen 3
 simp at c1 d0 d1 d2 d3 g0 g1 g2 g3
 have PB := zh pB
 clear hb q0 q1 qB p0 p1 pB
 go_wp2
 have z := (((PB.out.setCell (p := ⟨w.heap.size, 0, none⟩) (Nat.le_refl _) (.int .i64 1)).setCell (p := ⟨w.heap.size, 1, none⟩) (Nat.le_refl _) (.int .i64 0)).setCell (p := ⟨w.heap.size, 2, none⟩) (Nat.le_refl _) (.int .u64 0)).setCell (p := ⟨w.heap.size, 3, none⟩) (Nat.le_refl _) (.string ⟨(([] : List UInt8)).toArray⟩)
 refine bodyPost_ret (v := .tuple #[.agg #[.int .i64 1, .int .i64 0, .int .u64 0, .string ⟨(([] : List UInt8)).toArray⟩], .string ⟨(([] : List UInt8)).toArray⟩, .int .i64 3]) ?_ rfl ⟨rfl, z⟩
 simp [results, Tryz.results151, go_sem, g0, g1, g2, g3]
theorem rn_is (l : List UInt8) (k : Nat) (y X : Int) (R : List UInt8) (w : World) (hy : y = k) (hk : k ≤ 8) (hl : k ≤ l.length) (hX : (Kc.nm (l.take k) : Int) = X) (hR : l.drop k = R) :
  Calls Tryz.prog 139 #[.string ⟨l.toArray⟩, .int .i64 y] w fun e w' => e = .returned (.tuple #[.int .u64 X, .string ⟨R.toArray⟩, .int .i64 0]) ∧ Below w.heap.size w w' := by
 subst hX hR; exact readNumber_is l k y w hy hk hl
theorem rr_is (l : List UInt8) (X : Int) (R : List UInt8) (w : World) (hl : 8 ≤ l.length) (hb : Rl.bo (Kc.nm (l.take 8)) = true) (hX : Rl.bk (Kc.nm (l.take 8)) = X) (hR : l.drop 8 = R) :
  Calls Tryz.prog 160 #[.string ⟨l.toArray⟩] w fun e w' => e = .returned (.tuple #[.int .u64 X, .string ⟨R.toArray⟩, .int .i64 0]) ∧ Below w.heap.size w w' := by
 subst hX hR; exact readReal_ok l w hl hb
theorem rbs_is (l S R : List UInt8) (e : Int) (w : World) (hl : l.length ≤ 1000000) (h : Kc.un l = (S, R, e)) :
  Calls Tryz.prog 161 #[.string ⟨l.toArray⟩] w fun x w' => x = .returned (.tuple #[.string ⟨S.toArray⟩, .string ⟨R.toArray⟩, .int .i64 e]) ∧ Below w.heap.size w w' := by
 have := readBytes_is l w hl
 rw [h] at this
 exact this
theorem xs_back (X : Int) (h : Rl.U X) : wrap64 (bits BinOp.xor IntKind.u64 X 9223372036854775808) = X - 9223372036854775808 := by
 rw [Rl.xsign _ h]
 unfold Rl.U at h
 unfold wrap64
 split <;> omega
theorem read_1 (X : Int) (R : List UInt8) (l : List UInt8) (w : World) (hl : 1 ≤ l.length) (hX : (Kc.nm (l.take 1) : Int) = X) (hR : l.drop 1 = R) (hw : wrap64 X = X) :
  Calls Tryz.prog 151 #[.int .i64 1, .string ⟨l.toArray⟩] w fun e w' => e = .returned (.tuple #[.agg #[.int .i64 1, .int .i64 X, .int .u64 0, .string ⟨(([] : List UInt8)).toArray⟩], .string ⟨(R).toArray⟩, .int .i64 0]) ∧ Below w.heap.size w w' := by
 have H := zh (za hl (za hX hR))
 clear hl hX hR
 go_enter Tryz.func151, Tryz.ntmps151
 go_wp2_with fail
 refine (rn_is l 1 1 X R _ rfl (by decide) H.out.1 H.out.2.1 H.out.2.2).mono ?_
 rintro e w1 ⟨rfl, hb⟩
 obtain ⟨q0, q1, qB⟩ := read_boxes hb
 have c1 := q1.cell 1
 have f1 := q1.frozen 1
 have p1 := q1.setAt 1 (.int .i64 X)
 have p0 := q0.otherAt (show w.heap.size ≠ w.heap.size + 1 by omega) 1 (.int .i64 X)
 have pB := qB.setCell (p := ⟨w.heap.size + 1, 1, none⟩) (show w.heap.size ≤ w.heap.size + 1 by omega) (.int .i64 X)
 obtain ⟨W2, hW2⟩ : ∃ W2, w1.setCell ⟨w.heap.size + 1, 1, none⟩ (.int .i64 X) = W2 := ⟨_, rfl⟩
 rw [hW2] at p0 p1 pB
 have d0 := p1.cell 0
 have d1 := p1.cell 1
 have d2 := p1.cell 2
 have d3 := p1.cell 3
 have g0 := p0.cell 0
 have g1 := p0.cell 1
 have g2 := p0.cell 2
 have g3 := p0.cell 3
 have h0 := p0.frozen 0
 have h1 := p0.frozen 1
 have h2 := p0.frozen 2
 have h3 := p0.frozen 3
 simp at c1 d0 d1 d2 d3 g0 g1 g2 g3
 have PB := zh pB
 clear hb q0 q1 qB p0 p1 pB
 go_wp2
 have z := (((PB.out.setCell (p := ⟨w.heap.size, 0, none⟩) (Nat.le_refl _) (.int .i64 1)).setCell (p := ⟨w.heap.size, 1, none⟩) (Nat.le_refl _) (.int .i64 X)).setCell (p := ⟨w.heap.size, 2, none⟩) (Nat.le_refl _) (.int .u64 0)).setCell (p := ⟨w.heap.size, 3, none⟩) (Nat.le_refl _) (.string ⟨(([] : List UInt8)).toArray⟩)
 refine bodyPost_ret (v := .tuple #[.agg #[.int .i64 1, .int .i64 X, .int .u64 0, .string ⟨(([] : List UInt8)).toArray⟩], .string ⟨(R).toArray⟩, .int .i64 0]) ?_ rfl ⟨rfl, z⟩
 simp [results, Tryz.results151, go_sem, g0, g1, g2, g3]
theorem read_2s (l : List UInt8) (w : World) (hl : l.length < 8) :
  Calls Tryz.prog 151 #[.int .i64 2, .string ⟨l.toArray⟩] w fun e w' => e = .returned (.tuple #[.agg #[.int .i64 2, .int .i64 (-9223372036854775808), .int .u64 0, .string ⟨(([] : List UInt8)).toArray⟩], .string ⟨(([] : List UInt8)).toArray⟩, .int .i64 3]) ∧ Below w.heap.size w w' := by
 have H := zh hl
 have hx : wrap64 (bits BinOp.xor IntKind.u64 0 9223372036854775808) = -9223372036854775808 := xs_back 0 ⟨by decide, by decide⟩
 clear hl
 go_enter Tryz.func151, Tryz.ntmps151
 go_wp2_with fail
 refine (rns l 8 8 _ rfl H.out).mono ?_
 rintro e w1 ⟨rfl, hb⟩
 obtain ⟨q0, q1, qB⟩ := read_boxes hb
 have c1 := q1.cell 1
 have f1 := q1.frozen 1
 have p1 := q1.setAt 1 (.int .i64 (-9223372036854775808))
 have p0 := q0.otherAt (show w.heap.size ≠ w.heap.size + 1 by omega) 1 (.int .i64 (-9223372036854775808))
 have pB := qB.setCell (p := ⟨w.heap.size + 1, 1, none⟩) (show w.heap.size ≤ w.heap.size + 1 by omega) (.int .i64 (-9223372036854775808))
 obtain ⟨W2, hW2⟩ : ∃ W2, w1.setCell ⟨w.heap.size + 1, 1, none⟩ (.int .i64 (-9223372036854775808)) = W2 := ⟨_, rfl⟩
 rw [hW2] at p0 p1 pB
 have d0 := p1.cell 0
 have d1 := p1.cell 1
 have d2 := p1.cell 2
 have d3 := p1.cell 3
 have g0 := p0.cell 0
 have g1 := p0.cell 1
 have g2 := p0.cell 2
 have g3 := p0.cell 3
 have h0 := p0.frozen 0
 have h1 := p0.frozen 1
 have h2 := p0.frozen 2
 have h3 := p0.frozen 3
 simp at c1 d0 d1 d2 d3 g0 g1 g2 g3
 have PB := zh pB
 clear hb q0 q1 qB p0 p1 pB
 go_wp2
 have z := (((PB.out.setCell (p := ⟨w.heap.size, 0, none⟩) (Nat.le_refl _) (.int .i64 2)).setCell (p := ⟨w.heap.size, 1, none⟩) (Nat.le_refl _) (.int .i64 (-9223372036854775808))).setCell (p := ⟨w.heap.size, 2, none⟩) (Nat.le_refl _) (.int .u64 0)).setCell (p := ⟨w.heap.size, 3, none⟩) (Nat.le_refl _) (.string ⟨(([] : List UInt8)).toArray⟩)
 refine bodyPost_ret (v := .tuple #[.agg #[.int .i64 2, .int .i64 (-9223372036854775808), .int .u64 0, .string ⟨(([] : List UInt8)).toArray⟩], .string ⟨(([] : List UInt8)).toArray⟩, .int .i64 3]) ?_ rfl ⟨rfl, z⟩
 simp [results, Tryz.results151, go_sem, g0, g1, g2, g3]
theorem read_2 (X N : Int) (R : List UInt8) (l : List UInt8) (w : World) (hl : 8 ≤ l.length) (hX : (Kc.nm (l.take 8) : Int) = X) (hR : l.drop 8 = R) (hw : wrap64 (bits BinOp.xor IntKind.u64 X 9223372036854775808) = N) :
  Calls Tryz.prog 151 #[.int .i64 2, .string ⟨l.toArray⟩] w fun e w' => e = .returned (.tuple #[.agg #[.int .i64 2, .int .i64 N, .int .u64 0, .string ⟨(([] : List UInt8)).toArray⟩], .string ⟨(R).toArray⟩, .int .i64 0]) ∧ Below w.heap.size w w' := by
 have H := zh (za hl (za hX hR))
 clear hl hX hR
 go_enter Tryz.func151, Tryz.ntmps151
 go_wp2_with fail
 refine (rn_is l 8 8 X R _ rfl (by decide) H.out.1 H.out.2.1 H.out.2.2).mono ?_
 rintro e w1 ⟨rfl, hb⟩
 obtain ⟨q0, q1, qB⟩ := read_boxes hb
 have c1 := q1.cell 1
 have f1 := q1.frozen 1
 have p1 := q1.setAt 1 (.int .i64 N)
 have p0 := q0.otherAt (show w.heap.size ≠ w.heap.size + 1 by omega) 1 (.int .i64 N)
 have pB := qB.setCell (p := ⟨w.heap.size + 1, 1, none⟩) (show w.heap.size ≤ w.heap.size + 1 by omega) (.int .i64 N)
 obtain ⟨W2, hW2⟩ : ∃ W2, w1.setCell ⟨w.heap.size + 1, 1, none⟩ (.int .i64 N) = W2 := ⟨_, rfl⟩
 rw [hW2] at p0 p1 pB
 have d0 := p1.cell 0
 have d1 := p1.cell 1
 have d2 := p1.cell 2
 have d3 := p1.cell 3
 have g0 := p0.cell 0
 have g1 := p0.cell 1
 have g2 := p0.cell 2
 have g3 := p0.cell 3
 have h0 := p0.frozen 0
 have h1 := p0.frozen 1
 have h2 := p0.frozen 2
 have h3 := p0.frozen 3
 simp at c1 d0 d1 d2 d3 g0 g1 g2 g3
 have PB := zh pB
 clear hb q0 q1 qB p0 p1 pB
 go_wp2
 have z := (((PB.out.setCell (p := ⟨w.heap.size, 0, none⟩) (Nat.le_refl _) (.int .i64 2)).setCell (p := ⟨w.heap.size, 1, none⟩) (Nat.le_refl _) (.int .i64 N)).setCell (p := ⟨w.heap.size, 2, none⟩) (Nat.le_refl _) (.int .u64 0)).setCell (p := ⟨w.heap.size, 3, none⟩) (Nat.le_refl _) (.string ⟨(([] : List UInt8)).toArray⟩)
 refine bodyPost_ret (v := .tuple #[.agg #[.int .i64 2, .int .i64 N, .int .u64 0, .string ⟨(([] : List UInt8)).toArray⟩], .string ⟨(R).toArray⟩, .int .i64 0]) ?_ rfl ⟨rfl, z⟩
 simp [results, Tryz.results151, go_sem, g0, g1, g2, g3]
theorem read_3s (l : List UInt8) (w : World) (hl : l.length < 8) :
  Calls Tryz.prog 151 #[.int .i64 3, .string ⟨l.toArray⟩] w fun e w' => e = .returned (.tuple #[.agg #[.int .i64 3, .int .i64 0, .int .u64 0, .string ⟨(([] : List UInt8)).toArray⟩], .string ⟨(([] : List UInt8)).toArray⟩, .int .i64 3]) ∧ Below w.heap.size w w' := by
 have H := zh hl
 clear hl
 go_enter Tryz.func151, Tryz.ntmps151
 go_wp2_with fail
 refine (readReal_short l _ H.out).mono ?_
 rintro e w1 ⟨rfl, hb⟩
 obtain ⟨q0, q1, qB⟩ := read_boxes hb
 have c1 := q1.cell 2
 have f1 := q1.frozen 2
 have p1 := q1.setAt 2 (.int .u64 0)
 have p0 := q0.otherAt (show w.heap.size ≠ w.heap.size + 1 by omega) 2 (.int .u64 0)
 have pB := qB.setCell (p := ⟨w.heap.size + 1, 2, none⟩) (show w.heap.size ≤ w.heap.size + 1 by omega) (.int .u64 0)
 obtain ⟨W2, hW2⟩ : ∃ W2, w1.setCell ⟨w.heap.size + 1, 2, none⟩ (.int .u64 0) = W2 := ⟨_, rfl⟩
 rw [hW2] at p0 p1 pB
 have d0 := p1.cell 0
 have d1 := p1.cell 1
 have d2 := p1.cell 2
 have d3 := p1.cell 3
 have g0 := p0.cell 0
 have g1 := p0.cell 1
 have g2 := p0.cell 2
 have g3 := p0.cell 3
 have h0 := p0.frozen 0
 have h1 := p0.frozen 1
 have h2 := p0.frozen 2
 have h3 := p0.frozen 3
 simp at c1 d0 d1 d2 d3 g0 g1 g2 g3
 have PB := zh pB
 clear hb q0 q1 qB p0 p1 pB
 go_wp2
 have z := (((PB.out.setCell (p := ⟨w.heap.size, 0, none⟩) (Nat.le_refl _) (.int .i64 3)).setCell (p := ⟨w.heap.size, 1, none⟩) (Nat.le_refl _) (.int .i64 0)).setCell (p := ⟨w.heap.size, 2, none⟩) (Nat.le_refl _) (.int .u64 0)).setCell (p := ⟨w.heap.size, 3, none⟩) (Nat.le_refl _) (.string ⟨(([] : List UInt8)).toArray⟩)
 refine bodyPost_ret (v := .tuple #[.agg #[.int .i64 3, .int .i64 0, .int .u64 0, .string ⟨(([] : List UInt8)).toArray⟩], .string ⟨(([] : List UInt8)).toArray⟩, .int .i64 3]) ?_ rfl ⟨rfl, z⟩
 simp [results, Tryz.results151, go_sem, g0, g1, g2, g3]
theorem read_3b (l : List UInt8) (w : World) (hl : 8 ≤ l.length) (hb : Rl.bo (Kc.nm (l.take 8)) = false) :
  Calls Tryz.prog 151 #[.int .i64 3, .string ⟨l.toArray⟩] w fun e w' => e = .returned (.tuple #[.agg #[.int .i64 3, .int .i64 0, .int .u64 0, .string ⟨(([] : List UInt8)).toArray⟩], .string ⟨(([] : List UInt8)).toArray⟩, .int .i64 4]) ∧ Below w.heap.size w w' := by
 have H := zh (za hl hb)
 clear hl hb
 go_enter Tryz.func151, Tryz.ntmps151
 go_wp2_with fail
 refine (readReal_bad l _ H.out.1 H.out.2).mono ?_
 rintro e w1 ⟨rfl, hb⟩
 obtain ⟨q0, q1, qB⟩ := read_boxes hb
 have c1 := q1.cell 2
 have f1 := q1.frozen 2
 have p1 := q1.setAt 2 (.int .u64 0)
 have p0 := q0.otherAt (show w.heap.size ≠ w.heap.size + 1 by omega) 2 (.int .u64 0)
 have pB := qB.setCell (p := ⟨w.heap.size + 1, 2, none⟩) (show w.heap.size ≤ w.heap.size + 1 by omega) (.int .u64 0)
 obtain ⟨W2, hW2⟩ : ∃ W2, w1.setCell ⟨w.heap.size + 1, 2, none⟩ (.int .u64 0) = W2 := ⟨_, rfl⟩
 rw [hW2] at p0 p1 pB
 have d0 := p1.cell 0
 have d1 := p1.cell 1
 have d2 := p1.cell 2
 have d3 := p1.cell 3
 have g0 := p0.cell 0
 have g1 := p0.cell 1
 have g2 := p0.cell 2
 have g3 := p0.cell 3
 have h0 := p0.frozen 0
 have h1 := p0.frozen 1
 have h2 := p0.frozen 2
 have h3 := p0.frozen 3
 simp at c1 d0 d1 d2 d3 g0 g1 g2 g3
 have PB := zh pB
 clear hb q0 q1 qB p0 p1 pB
 go_wp2
 have z := (((PB.out.setCell (p := ⟨w.heap.size, 0, none⟩) (Nat.le_refl _) (.int .i64 3)).setCell (p := ⟨w.heap.size, 1, none⟩) (Nat.le_refl _) (.int .i64 0)).setCell (p := ⟨w.heap.size, 2, none⟩) (Nat.le_refl _) (.int .u64 0)).setCell (p := ⟨w.heap.size, 3, none⟩) (Nat.le_refl _) (.string ⟨(([] : List UInt8)).toArray⟩)
 refine bodyPost_ret (v := .tuple #[.agg #[.int .i64 3, .int .i64 0, .int .u64 0, .string ⟨(([] : List UInt8)).toArray⟩], .string ⟨(([] : List UInt8)).toArray⟩, .int .i64 4]) ?_ rfl ⟨rfl, z⟩
 simp [results, Tryz.results151, go_sem, g0, g1, g2, g3]
theorem read_3 (X : Int) (R : List UInt8) (l : List UInt8) (w : World) (hl : 8 ≤ l.length) (hb : Rl.bo (Kc.nm (l.take 8)) = true) (hX : Rl.bk (Kc.nm (l.take 8)) = X) (hR : l.drop 8 = R) :
  Calls Tryz.prog 151 #[.int .i64 3, .string ⟨l.toArray⟩] w fun e w' => e = .returned (.tuple #[.agg #[.int .i64 3, .int .i64 0, .int .u64 X, .string ⟨(([] : List UInt8)).toArray⟩], .string ⟨(R).toArray⟩, .int .i64 0]) ∧ Below w.heap.size w w' := by
 have H := zh (za hl (za hb (za hX hR)))
 clear hl hb hX hR
 go_enter Tryz.func151, Tryz.ntmps151
 go_wp2_with fail
 refine (rr_is l X R _ H.out.1 H.out.2.1 H.out.2.2.1 H.out.2.2.2).mono ?_
 rintro e w1 ⟨rfl, hb⟩
 obtain ⟨q0, q1, qB⟩ := read_boxes hb
 have c1 := q1.cell 2
 have f1 := q1.frozen 2
 have p1 := q1.setAt 2 (.int .u64 X)
 have p0 := q0.otherAt (show w.heap.size ≠ w.heap.size + 1 by omega) 2 (.int .u64 X)
 have pB := qB.setCell (p := ⟨w.heap.size + 1, 2, none⟩) (show w.heap.size ≤ w.heap.size + 1 by omega) (.int .u64 X)
 obtain ⟨W2, hW2⟩ : ∃ W2, w1.setCell ⟨w.heap.size + 1, 2, none⟩ (.int .u64 X) = W2 := ⟨_, rfl⟩
 rw [hW2] at p0 p1 pB
 have d0 := p1.cell 0
 have d1 := p1.cell 1
 have d2 := p1.cell 2
 have d3 := p1.cell 3
 have g0 := p0.cell 0
 have g1 := p0.cell 1
 have g2 := p0.cell 2
 have g3 := p0.cell 3
 have h0 := p0.frozen 0
 have h1 := p0.frozen 1
 have h2 := p0.frozen 2
 have h3 := p0.frozen 3
 simp at c1 d0 d1 d2 d3 g0 g1 g2 g3
 have PB := zh pB
 clear hb q0 q1 qB p0 p1 pB
 go_wp2
 have z := (((PB.out.setCell (p := ⟨w.heap.size, 0, none⟩) (Nat.le_refl _) (.int .i64 3)).setCell (p := ⟨w.heap.size, 1, none⟩) (Nat.le_refl _) (.int .i64 0)).setCell (p := ⟨w.heap.size, 2, none⟩) (Nat.le_refl _) (.int .u64 X)).setCell (p := ⟨w.heap.size, 3, none⟩) (Nat.le_refl _) (.string ⟨(([] : List UInt8)).toArray⟩)
 refine bodyPost_ret (v := .tuple #[.agg #[.int .i64 3, .int .i64 0, .int .u64 X, .string ⟨(([] : List UInt8)).toArray⟩], .string ⟨(R).toArray⟩, .int .i64 0]) ?_ rfl ⟨rfl, z⟩
 simp [results, Tryz.results151, go_sem, g0, g1, g2, g3]
theorem read_4 (S R : List UInt8) (E : Int) (l : List UInt8) (w : World) (hl : l.length ≤ 1000000) (h : Kc.un l = (S, R, E)) :
  Calls Tryz.prog 151 #[.int .i64 4, .string ⟨l.toArray⟩] w fun e w' => e = .returned (.tuple #[.agg #[.int .i64 4, .int .i64 0, .int .u64 0, .string ⟨(S).toArray⟩], .string ⟨(R).toArray⟩, .int .i64 E]) ∧ Below w.heap.size w w' := by
 have H := zh (za hl h)
 clear hl h
 go_enter Tryz.func151, Tryz.ntmps151
 go_wp2_with fail
 refine (rbs_is l S R E _ H.out.1 H.out.2).mono ?_
 rintro e w1 ⟨rfl, hb⟩
 obtain ⟨q0, q1, qB⟩ := read_boxes hb
 have c1 := q1.cell 3
 have f1 := q1.frozen 3
 have p1 := q1.setAt 3 (.string ⟨S.toArray⟩)
 have p0 := q0.otherAt (show w.heap.size ≠ w.heap.size + 1 by omega) 3 (.string ⟨S.toArray⟩)
 have pB := qB.setCell (p := ⟨w.heap.size + 1, 3, none⟩) (show w.heap.size ≤ w.heap.size + 1 by omega) (.string ⟨S.toArray⟩)
 obtain ⟨W2, hW2⟩ : ∃ W2, w1.setCell ⟨w.heap.size + 1, 3, none⟩ (.string ⟨S.toArray⟩) = W2 := ⟨_, rfl⟩
 rw [hW2] at p0 p1 pB
 have d0 := p1.cell 0
 have d1 := p1.cell 1
 have d2 := p1.cell 2
 have d3 := p1.cell 3
 have g0 := p0.cell 0
 have g1 := p0.cell 1
 have g2 := p0.cell 2
 have g3 := p0.cell 3
 have h0 := p0.frozen 0
 have h1 := p0.frozen 1
 have h2 := p0.frozen 2
 have h3 := p0.frozen 3
 simp at c1 d0 d1 d2 d3 g0 g1 g2 g3
 have PB := zh pB
 clear hb q0 q1 qB p0 p1 pB
 go_wp2
 have z := (((PB.out.setCell (p := ⟨w.heap.size, 0, none⟩) (Nat.le_refl _) (.int .i64 4)).setCell (p := ⟨w.heap.size, 1, none⟩) (Nat.le_refl _) (.int .i64 0)).setCell (p := ⟨w.heap.size, 2, none⟩) (Nat.le_refl _) (.int .u64 0)).setCell (p := ⟨w.heap.size, 3, none⟩) (Nat.le_refl _) (.string ⟨(S).toArray⟩)
 refine bodyPost_ret (v := .tuple #[.agg #[.int .i64 4, .int .i64 0, .int .u64 0, .string ⟨(S).toArray⟩], .string ⟨(R).toArray⟩, .int .i64 E]) ?_ rfl ⟨rfl, z⟩
 simp [results, Tryz.results151, go_sem, g0, g1, g2, g3]
theorem read_5 (S R : List UInt8) (E : Int) (l : List UInt8) (w : World) (hl : l.length ≤ 1000000) (h : Kc.un l = (S, R, E)) :
  Calls Tryz.prog 151 #[.int .i64 5, .string ⟨l.toArray⟩] w fun e w' => e = .returned (.tuple #[.agg #[.int .i64 5, .int .i64 0, .int .u64 0, .string ⟨(S).toArray⟩], .string ⟨(R).toArray⟩, .int .i64 E]) ∧ Below w.heap.size w w' := by
 have H := zh (za hl h)
 clear hl h
 go_enter Tryz.func151, Tryz.ntmps151
 go_wp2_with fail
 refine (rbs_is l S R E _ H.out.1 H.out.2).mono ?_
 rintro e w1 ⟨rfl, hb⟩
 obtain ⟨q0, q1, qB⟩ := read_boxes hb
 have c1 := q1.cell 3
 have f1 := q1.frozen 3
 have p1 := q1.setAt 3 (.string ⟨S.toArray⟩)
 have p0 := q0.otherAt (show w.heap.size ≠ w.heap.size + 1 by omega) 3 (.string ⟨S.toArray⟩)
 have pB := qB.setCell (p := ⟨w.heap.size + 1, 3, none⟩) (show w.heap.size ≤ w.heap.size + 1 by omega) (.string ⟨S.toArray⟩)
 obtain ⟨W2, hW2⟩ : ∃ W2, w1.setCell ⟨w.heap.size + 1, 3, none⟩ (.string ⟨S.toArray⟩) = W2 := ⟨_, rfl⟩
 rw [hW2] at p0 p1 pB
 have d0 := p1.cell 0
 have d1 := p1.cell 1
 have d2 := p1.cell 2
 have d3 := p1.cell 3
 have g0 := p0.cell 0
 have g1 := p0.cell 1
 have g2 := p0.cell 2
 have g3 := p0.cell 3
 have h0 := p0.frozen 0
 have h1 := p0.frozen 1
 have h2 := p0.frozen 2
 have h3 := p0.frozen 3
 simp at c1 d0 d1 d2 d3 g0 g1 g2 g3
 have PB := zh pB
 clear hb q0 q1 qB p0 p1 pB
 go_wp2
 have z := (((PB.out.setCell (p := ⟨w.heap.size, 0, none⟩) (Nat.le_refl _) (.int .i64 5)).setCell (p := ⟨w.heap.size, 1, none⟩) (Nat.le_refl _) (.int .i64 0)).setCell (p := ⟨w.heap.size, 2, none⟩) (Nat.le_refl _) (.int .u64 0)).setCell (p := ⟨w.heap.size, 3, none⟩) (Nat.le_refl _) (.string ⟨(S).toArray⟩)
 refine bodyPost_ret (v := .tuple #[.agg #[.int .i64 5, .int .i64 0, .int .u64 0, .string ⟨(S).toArray⟩], .string ⟨(R).toArray⟩, .int .i64 E]) ?_ rfl ⟨rfl, z⟩
 simp [results, Tryz.results151, go_sem, g0, g1, g2, g3]
theorem read_0 (l : List UInt8) (w : World) :
  Calls Tryz.prog 151 #[.int .i64 0, .string ⟨l.toArray⟩] w fun e w' => e = .returned (.tuple #[.agg #[.int .i64 0, .int .i64 0, .int .u64 0, .string ⟨([] : List UInt8).toArray⟩], .string ⟨l.toArray⟩, .int .i64 0]) ∧ Below w.heap.size w w' := by
 go_enter Tryz.func151, Tryz.ntmps151
 go_wp2
 refine bodyPost_ret (v := .tuple #[.agg #[.int .i64 0, .int .i64 0, .int .u64 0, .string ⟨([] : List UInt8).toArray⟩], .string ⟨l.toArray⟩, .int .i64 0]) ?_ rfl ⟨rfl, below2s _ _ _⟩
 simp [results, Tryz.results151, go_sem]
end Go.Proofs.YtmgdciihpjifgaaGreatDoor
namespace Go.Proofs.YtmgdciihpjifgaaGreatDoor
open Go.RowKit
theorem kread_nil (w : World) :
  Calls Tryz.prog 133 #[.string ⟨([] : List UInt8).toArray⟩] w fun e w' => e = .returned (.tuple #[.agg #[.int .i64 0, .int .i64 0, .int .u64 0, .string ⟨([] : List UInt8).toArray⟩], .string ⟨([] : List UInt8).toArray⟩, .int .i64 3]) ∧ Below w.heap.size w w' := by
 go_enter Tryz.func133, Tryz.ntmps133
 go_wp2
 refine bodyPost_ret (v := .tuple #[.agg #[.int .i64 0, .int .i64 0, .int .u64 0, .string ⟨([] : List UInt8).toArray⟩], .string ⟨([] : List UInt8).toArray⟩, .int .i64 3]) ?_ rfl ⟨rfl, below1 _ _⟩
 simp [results, Tryz.results133, go_sem]
theorem kread_kind (l : List UInt8) (K : Int) (w : World) (h0 : 0 < l.length) (hK : (l[0].toNat : Int) = K) (h5 : 5 < K) :
  Calls Tryz.prog 133 #[.string ⟨l.toArray⟩] w fun e w' => e = .returned (.tuple #[.agg #[.int .i64 0, .int .i64 0, .int .u64 0, .string ⟨([] : List UInt8).toArray⟩], .string ⟨([] : List UInt8).toArray⟩, .int .i64 4]) ∧ Below w.heap.size w w' := by
 have hsz : 0 < (ByteArray.mk l.toArray).size := h0
 have hba : (ByteArray.mk l.toArray)[0] = l[0] := byte_at l 0 h0
 have hie : l.isEmpty = false := by cases l with | nil => exact absurd h0 (by decide) | cons _ _ => rfl
 have hnn : ¬ l = [] := fun e => by subst e; exact absurd h0 (by decide)
 have hwK : wrap64 K = K := by rw [← hK]; have := l[0].toNat_lt; exact wrap_in _ (by omega) (by omega)
 have H := zh h5
 clear h5
 go_enter Tryz.func133, Tryz.ntmps133
 go_wp2_with fail
 refine (zero_f K _ (.inr H.out)).mono ?_
 rintro e w1 ⟨rfl, hb⟩
 have B1 := zh (old_1 hb)
 have k1 := (Blk.new w #[.int .i64 0, .int .i64 0, .int .u64 0, .string ⟨([] : List UInt8).toArray⟩] 25).below hb
 clear hb
 have B2 := zh (B1.out.alloc B1.out.size (.cells #[.int .i64 0, .int .i64 0, .int .u64 0, .string ⟨([] : List UInt8).toArray⟩] 25))
 have k2 := k1.alloc (.cells #[.int .i64 0, .int .i64 0, .int .u64 0, .string ⟨([] : List UInt8).toArray⟩] 25)
 have g0 := k2.cell 0
 have g1 := k2.cell 1
 have g2 := k2.cell 2
 have g3 := k2.cell 3
 have t0 := k2.frozen 0
 have t1 := k2.frozen 1
 have t2 := k2.frozen 2
 have t3 := k2.frozen 3
 simp at g0 g1 g2 g3
 clear k1 k2
 go_wp2
 have z := (((B2.out.setCell (p := ⟨w.heap.size, 0, none⟩) (Nat.le_refl _) (.int .i64 0)).setCell (p := ⟨w.heap.size, 1, none⟩) (Nat.le_refl _) (.int .i64 0)).setCell (p := ⟨w.heap.size, 2, none⟩) (Nat.le_refl _) (.int .u64 0)).setCell (p := ⟨w.heap.size, 3, none⟩) (Nat.le_refl _) (.string ⟨(([] : List UInt8)).toArray⟩)
 refine bodyPost_ret (v := .tuple #[.agg #[.int .i64 0, .int .i64 0, .int .u64 0, .string ⟨(([] : List UInt8)).toArray⟩], .string ⟨(([] : List UInt8)).toArray⟩, .int .i64 4]) ?_ rfl ⟨rfl, z⟩
 simp [results, Tryz.results133, go_sem, g0, g1, g2, g3]
theorem kread_err (l : List UInt8) (K : Int) (T S R : List UInt8) (N B E : Int) (w : World) (h0 : 0 < l.length) (hK : (l[0].toNat : Int) = K) (k0 : 0 ≤ K) (k5 : K ≤ 5) (hT : l.drop 1 = T) (hr : ∀ w, Calls Tryz.prog 151 #[.int .i64 K, .string ⟨T.toArray⟩] w fun e w' => e = .returned (.tuple #[.agg #[.int .i64 K, .int .i64 N, .int .u64 B, .string ⟨S.toArray⟩], .string ⟨R.toArray⟩, .int .i64 E]) ∧ Below w.heap.size w w') (hE : E ≠ 0) :
  Calls Tryz.prog 133 #[.string ⟨l.toArray⟩] w fun e w' => e = .returned (.tuple #[.agg #[.int .i64 0, .int .i64 0, .int .u64 0, .string ⟨([] : List UInt8).toArray⟩], .string ⟨([] : List UInt8).toArray⟩, .int .i64 E]) ∧ Below w.heap.size w w' := by
 have hsz : 0 < (ByteArray.mk l.toArray).size := h0
 have hba : (ByteArray.mk l.toArray)[0] = l[0] := byte_at l 0 h0
 have hie : l.isEmpty = false := by cases l with | nil => exact absurd h0 (by decide) | cons _ _ => rfl
 have hnn : ¬ l = [] := fun e => by subst e; exact absurd h0 (by decide)
 have hwK : wrap64 K = K := by rw [← hK]; have := l[0].toNat_lt; exact wrap_in _ (by omega) (by omega)
 have e1 := bne_t hE
 have e2 := beq_f hE
 have H := zh (za k0 (za k5 hr))
 have ct := cut_from l 1
 rw [hT] at ct
 have hl1 : (1 : Int) ≤ (l.length : Int) := by omega
 clear k0 k5 hr hT
 go_enter Tryz.func133, Tryz.ntmps133
 go_wp2_with fail
 refine (zero_t K _ H.out.1 H.out.2.1).mono ?_
 rintro e w1 ⟨rfl, hb⟩
 have B1 := zh (old_1 hb)
 have k1 := (Blk.new w #[.int .i64 0, .int .i64 0, .int .u64 0, .string ⟨([] : List UInt8).toArray⟩] 25).below hb
 clear hb
 go_wp2_with fail
 refine (H.out.2.2 _).mono ?_
 rintro e w2 ⟨rfl, hb⟩
 have B2 := zh (step1 B1.out hb)
 have k2 := (k1.alloc _).below hb
 clear hb k1
 have B3 := zh (B2.out.alloc B2.out.size (.cells #[.int .i64 K, .int .i64 N, .int .u64 B, .string ⟨S.toArray⟩] 25))
 have k3 := k2.alloc (.cells #[.int .i64 K, .int .i64 N, .int .u64 B, .string ⟨S.toArray⟩] 25)
 obtain ⟨W3, hW3⟩ : ∃ W3, w2.alloc (.cells #[.int .i64 K, .int .i64 N, .int .u64 B, .string ⟨S.toArray⟩] 25) = W3 := ⟨_, rfl⟩
 rw [hW3] at k3 B3
 have g0 := k3.cell 0
 have g1 := k3.cell 1
 have g2 := k3.cell 2
 have g3 := k3.cell 3
 have t0 := k3.frozen 0
 have t1 := k3.frozen 1
 have t2 := k3.frozen 2
 have t3 := k3.frozen 3
 simp at g0 g1 g2 g3
 clear k2 k3
 go_wp2
 have z := (((B3.out.setCell (p := ⟨w.heap.size, 0, none⟩) (Nat.le_refl _) (.int .i64 0)).setCell (p := ⟨w.heap.size, 1, none⟩) (Nat.le_refl _) (.int .i64 0)).setCell (p := ⟨w.heap.size, 2, none⟩) (Nat.le_refl _) (.int .u64 0)).setCell (p := ⟨w.heap.size, 3, none⟩) (Nat.le_refl _) (.string ⟨(([] : List UInt8)).toArray⟩)
 refine bodyPost_ret (v := .tuple #[.agg #[.int .i64 0, .int .i64 0, .int .u64 0, .string ⟨(([] : List UInt8)).toArray⟩], .string ⟨(([] : List UInt8)).toArray⟩, .int .i64 E]) ?_ rfl ⟨rfl, z⟩
 simp [results, Tryz.results133, go_sem, g0, g1, g2, g3]
theorem kread_bad (l : List UInt8) (K : Int) (T S R : List UInt8) (N B C : Int) (w : World) (h0 : 0 < l.length) (hK : (l[0].toNat : Int) = K) (k0 : 0 ≤ K) (k5 : K ≤ 5) (hT : l.drop 1 = T) (hr : ∀ w, Calls Tryz.prog 151 #[.int .i64 K, .string ⟨T.toArray⟩] w fun e w' => e = .returned (.tuple #[.agg #[.int .i64 K, .int .i64 N, .int .u64 B, .string ⟨S.toArray⟩], .string ⟨R.toArray⟩, .int .i64 0]) ∧ Below w.heap.size w w') (hU : Rl.U B) (hC : Vl.ck K N B S = C) (hc : C ≠ 0) :
  Calls Tryz.prog 133 #[.string ⟨l.toArray⟩] w fun e w' => e = .returned (.tuple #[.agg #[.int .i64 0, .int .i64 0, .int .u64 0, .string ⟨([] : List UInt8).toArray⟩], .string ⟨([] : List UInt8).toArray⟩, .int .i64 4]) ∧ Below w.heap.size w w' := by
 have hsz : 0 < (ByteArray.mk l.toArray).size := h0
 have hba : (ByteArray.mk l.toArray)[0] = l[0] := byte_at l 0 h0
 have hie : l.isEmpty = false := by cases l with | nil => exact absurd h0 (by decide) | cons _ _ => rfl
 have hnn : ¬ l = [] := fun e => by subst e; exact absurd h0 (by decide)
 have hwK : wrap64 K = K := by rw [← hK]; have := l[0].toNat_lt; exact wrap_in _ (by omega) (by omega)
 have e1 := bne_t hc
 have e2 := beq_f hc
 have HC := zh hC
 clear hC
 have H := zh (za k0 (za k5 hr))
 have ct := cut_from l 1
 rw [hT] at ct
 have hl1 : (1 : Int) ≤ (l.length : Int) := by omega
 clear k0 k5 hr hT
 go_enter Tryz.func133, Tryz.ntmps133
 go_wp2_with fail
 refine (zero_t K _ H.out.1 H.out.2.1).mono ?_
 rintro e w1 ⟨rfl, hb⟩
 have B1 := zh (old_1 hb)
 have k1 := (Blk.new w #[.int .i64 0, .int .i64 0, .int .u64 0, .string ⟨([] : List UInt8).toArray⟩] 25).below hb
 clear hb
 go_wp2_with fail
 refine (H.out.2.2 _).mono ?_
 rintro e w2 ⟨rfl, hb⟩
 have B2 := zh (step1 B1.out hb)
 have k2 := (k1.alloc _).below hb
 clear hb k1
 go_wp2_with fail
 refine (check_is K N B C S _ hU HC.out).mono ?_
 rintro e w3 ⟨rfl, hb⟩
 have B3 := zh (step1 B2.out hb)
 have k3 := (k2.alloc _).below hb
 have m3 := (Blk.new w2 #[.int .i64 K, .int .i64 N, .int .u64 B, .string ⟨S.toArray⟩] 25).below hb
 clear hb k2
 have g0 := k3.cell 0
 have g1 := k3.cell 1
 have g2 := k3.cell 2
 have g3 := k3.cell 3
 have t0 := k3.frozen 0
 have t1 := k3.frozen 1
 have t2 := k3.frozen 2
 have t3 := k3.frozen 3
 simp at g0 g1 g2 g3
 clear k3 m3
 go_wp2
 have z := (((B3.out.setCell (p := ⟨w.heap.size, 0, none⟩) (Nat.le_refl _) (.int .i64 0)).setCell (p := ⟨w.heap.size, 1, none⟩) (Nat.le_refl _) (.int .i64 0)).setCell (p := ⟨w.heap.size, 2, none⟩) (Nat.le_refl _) (.int .u64 0)).setCell (p := ⟨w.heap.size, 3, none⟩) (Nat.le_refl _) (.string ⟨(([] : List UInt8)).toArray⟩)
 refine bodyPost_ret (v := .tuple #[.agg #[.int .i64 0, .int .i64 0, .int .u64 0, .string ⟨(([] : List UInt8)).toArray⟩], .string ⟨(([] : List UInt8)).toArray⟩, .int .i64 4]) ?_ rfl ⟨rfl, z⟩
 simp [results, Tryz.results133, go_sem, g0, g1, g2, g3]
theorem kread_ok (l : List UInt8) (K : Int) (T S R : List UInt8) (N B : Int) (w : World) (h0 : 0 < l.length) (hK : (l[0].toNat : Int) = K) (k0 : 0 ≤ K) (k5 : K ≤ 5) (hT : l.drop 1 = T) (hr : ∀ w, Calls Tryz.prog 151 #[.int .i64 K, .string ⟨T.toArray⟩] w fun e w' => e = .returned (.tuple #[.agg #[.int .i64 K, .int .i64 N, .int .u64 B, .string ⟨S.toArray⟩], .string ⟨R.toArray⟩, .int .i64 0]) ∧ Below w.heap.size w w') (hU : Rl.U B) (hC : Vl.ck K N B S = 0) :
  Calls Tryz.prog 133 #[.string ⟨l.toArray⟩] w fun e w' => e = .returned (.tuple #[.agg #[.int .i64 K, .int .i64 N, .int .u64 B, .string ⟨S.toArray⟩], .string ⟨R.toArray⟩, .int .i64 0]) ∧ Below w.heap.size w w' := by
 have hsz : 0 < (ByteArray.mk l.toArray).size := h0
 have hba : (ByteArray.mk l.toArray)[0] = l[0] := byte_at l 0 h0
 have hie : l.isEmpty = false := by cases l with | nil => exact absurd h0 (by decide) | cons _ _ => rfl
 have hnn : ¬ l = [] := fun e => by subst e; exact absurd h0 (by decide)
 have hwK : wrap64 K = K := by rw [← hK]; have := l[0].toNat_lt; exact wrap_in _ (by omega) (by omega)
 have HC := zh hC
 clear hC
 have H := zh (za k0 (za k5 hr))
 have ct := cut_from l 1
 rw [hT] at ct
 have hl1 : (1 : Int) ≤ (l.length : Int) := by omega
 clear k0 k5 hr hT
 go_enter Tryz.func133, Tryz.ntmps133
 go_wp2_with fail
 refine (zero_t K _ H.out.1 H.out.2.1).mono ?_
 rintro e w1 ⟨rfl, hb⟩
 have B1 := zh (old_1 hb)
 have k1 := (Blk.new w #[.int .i64 0, .int .i64 0, .int .u64 0, .string ⟨([] : List UInt8).toArray⟩] 25).below hb
 clear hb
 go_wp2_with fail
 refine (H.out.2.2 _).mono ?_
 rintro e w2 ⟨rfl, hb⟩
 have B2 := zh (step1 B1.out hb)
 have k2 := (k1.alloc _).below hb
 clear hb k1
 go_wp2_with fail
 refine (check_is K N B 0 S _ hU HC.out).mono ?_
 rintro e w3 ⟨rfl, hb⟩
 have B3 := zh (step1 B2.out hb)
 have k3 := (k2.alloc _).below hb
 have m3 := (Blk.new w2 #[.int .i64 K, .int .i64 N, .int .u64 B, .string ⟨S.toArray⟩] 25).below hb
 clear hb k2
 have g0 := k3.cell 0
 have g1 := k3.cell 1
 have g2 := k3.cell 2
 have g3 := k3.cell 3
 have t0 := k3.frozen 0
 have t1 := k3.frozen 1
 have t2 := k3.frozen 2
 have t3 := k3.frozen 3
 simp at g0 g1 g2 g3
 obtain ⟨v0, v1, v2, v3⟩ := vbox m3
 clear k3 m3
 go_wp2
 have z := (((B3.out.setCell (p := ⟨w.heap.size, 0, none⟩) (Nat.le_refl _) (.int .i64 K)).setCell (p := ⟨w.heap.size, 1, none⟩) (Nat.le_refl _) (.int .i64 N)).setCell (p := ⟨w.heap.size, 2, none⟩) (Nat.le_refl _) (.int .u64 B)).setCell (p := ⟨w.heap.size, 3, none⟩) (Nat.le_refl _) (.string ⟨(S).toArray⟩)
 refine bodyPost_ret (v := .tuple #[.agg #[.int .i64 K, .int .i64 N, .int .u64 B, .string ⟨(S).toArray⟩], .string ⟨(R).toArray⟩, .int .i64 0]) ?_ rfl ⟨rfl, z⟩
 simp [results, Tryz.results133, go_sem, g0, g1, g2, g3]
end Go.Proofs.YtmgdciihpjifgaaGreatDoor
