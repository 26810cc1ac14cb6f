/-
 What the document's own value answers: the value that bytes begin with and what is behind, or the error. Condition: the bound named in each theorem.
-/
import Derived.Test.YtmgdciihpjifgaaGreatDoorQrRkRead
set_option maxHeartbeats 2000000
namespace Go.Proofs.YtmgdciihpjifgaaGreatDoor.Rk
open Go.RowKit
theorem Blk.new' (W : World) (cs : Array Value) (t : TypeId) (B : Nat) (h : W.heap.size = B) : Blk (W.alloc (.cells cs t)) B cs t := by subst h; exact Blk.new W cs t
theorem dri_is (l R : List UInt8) (m e : Int) (w : World) (h : Pk.ri l = (m, R, e)) :
  Calls Tryz.prog 124 #[.string ⟨l.toArray⟩] w fun x w' => x = .returned (.tuple #[.int .i64 m, .string ⟨R.toArray⟩, .int .i64 e]) ∧ Below w.heap.size w w' := by
 refine (rreadInt_is l R m e w h).mono ?_
 rintro x w' ⟨rfl, n, rfl⟩
 exact ⟨rfl, below_drewV n (Below.refl _ _)⟩
theorem drt_is (l T R : List UInt8) (e : Int) (w : World) (hl : l.length ≤ 1000000) (h : Pk.rt l = (T, R, e)) :
  Calls Tryz.prog 51 #[.string ⟨l.toArray⟩] w fun x w' => x = .returned (.tuple #[.string ⟨T.toArray⟩, .string ⟨R.toArray⟩, .int .i64 e]) ∧ Below w.heap.size w w' := by
 refine (rreadText_is l T R e w (by omega) h).mono ?_
 rintro x w' ⟨rfl, n, rfl⟩
 exact ⟨rfl, below_drewV n (Below.refl _ _)⟩
theorem num_is (l : List UInt8) (X : Int) (w : World) (hl : 8 ≤ l.length) (hX : (Kc.nm (l.take 8) : Int) = X) :
  Calls Tryz.prog 116 #[.string ⟨l.toArray⟩] w fun e w' => e = .returned (.int .u64 X) ∧ w = w' := by
 subst hX; exact number_is l w hl
theorem dv_nil (w : World) :
  Calls Tryz.prog 106 #[.string ⟨([] : List UInt8).toArray⟩] w fun e w' => e = .returned (.tuple #[.agg #[.int .i64 0, .int .i64 0, .int .u64 0, .string ⟨([] : List UInt8).toArray⟩], .string ⟨([] : List UInt8).toArray⟩, .int .i64 3]) ∧ Below w.heap.size w w' := by
 go_enter Tryz.func106, Tryz.ntmps106
 go_wp2
 refine bodyPost_ret (v := .tuple #[.agg #[.int .i64 0, .int .i64 0, .int .u64 0, .string ⟨([] : List UInt8).toArray⟩], .string ⟨([] : List UInt8).toArray⟩, .int .i64 3]) ?_ rfl ⟨rfl, below1 _ _⟩
 simp [results, Tryz.results106, go_sem]
theorem dv_0 (l T : List UInt8)  (w : World) (h0 : 0 < l.length) (hK : (l[0].toNat : Int) = 0) (hT : l.drop 1 = T)  (hC : Vl.ck 0 0 0 [] = 0) :
  Calls Tryz.prog 106 #[.string ⟨l.toArray⟩] w fun e w' => e = .returned (.tuple #[.agg #[.int .i64 0, .int .i64 0, .int .u64 0, .string ⟨([] : List UInt8).toArray⟩], .string ⟨(T : List UInt8).toArray⟩, .int .i64 0]) ∧ Below w.heap.size w w' := by
 have hsz : 0 < (ByteArray.mk l.toArray).size := h0
 have hba : (ByteArray.mk l.toArray)[0] = l[0] := byte_at l 0 h0
 have hie : l.isEmpty = false := by cases l with | nil => exact absurd h0 (by decide) | cons _ _ => rfl
 have hnn : ¬ l = [] := fun e => by subst e; exact absurd h0 (by decide)
 have hl1 : (1 : Int) ≤ (l.length : Int) := by omega
 have hwK : wrap64 (l[0].toNat : Int) = 0 := by rw [← hK]; have := l[0].toNat_lt; exact wrap_in _ (by omega) (by omega)
 have ct := cut_from l 1
 rw [hT] at ct
 have HC := zh hC
 clear hC
 clear hT
 go_enter Tryz.func106, Tryz.ntmps106
 go_wp2_with fail
 refine (rcheck_is 0 0 0 0 [] _ u0 HC.out).mono ?_
 rintro e w4 ⟨rfl, hb⟩
 have BF := zh (old_2 hb)
 have k4 := ((Blk.new w #[.int .i64 0, .int .i64 0, .int .u64 0, .string ⟨([] : List UInt8).toArray⟩] 25).alloc _).below hb
 have m4 := (Blk.new' (w.alloc (.cells #[.int .i64 0, .int .i64 0, .int .u64 0, .string ⟨([] : List UInt8).toArray⟩] 25)) #[.int .i64 0, .int .i64 0, .int .u64 0, .string ⟨([] : List UInt8).toArray⟩] 25 (w.heap.size + 1) (by simp)).below hb
 clear hb
 have g0 := k4.cell 0
 have g1 := k4.cell 1
 have g2 := k4.cell 2
 have g3 := k4.cell 3
 have t0 := k4.frozen 0
 have t1 := k4.frozen 1
 have t2 := k4.frozen 2
 have t3 := k4.frozen 3
 simp at g0 g1 g2 g3
 have v0 := m4.cell 0
 have v1 := m4.cell 1
 have v2 := m4.cell 2
 have v3 := m4.cell 3
 simp at v0 v1 v2 v3
 clear k4 m4
 go_wp2
 have z := (((BF.out.setCell (p := ⟨w.heap.size, 0, none⟩) (Nat.le_refl _) (.int .i64 0)).setCell (p := ⟨w.heap.size, 1, none⟩) (Nat.le_refl _) (.int .i64 0)).setCell (p := ⟨w.heap.size, 2, none⟩) (Nat.le_refl _) (.int .u64 0)).setCell (p := ⟨w.heap.size, 3, none⟩) (Nat.le_refl _) (.string ⟨([] : List UInt8).toArray⟩)
 refine bodyPost_ret (v := .tuple #[.agg #[.int .i64 0, .int .i64 0, .int .u64 0, .string ⟨([] : List UInt8).toArray⟩], .string ⟨(T : List UInt8).toArray⟩, .int .i64 0]) ?_ rfl ⟨rfl, z⟩
 simp [results, Tryz.results106, go_sem, g0, g1, g2, g3]
theorem dv_hi (l T : List UInt8) (K : Int) (w : World) (h0 : 0 < l.length) (hK : (l[0].toNat : Int) = K) (hT : l.drop 1 = T) (h5 : 5 < K) :
  Calls Tryz.prog 106 #[.string ⟨l.toArray⟩] w fun e w' => e = .returned (.tuple #[.agg #[.int .i64 K, .int .i64 0, .int .u64 0, .string ⟨([] : List UInt8).toArray⟩], .string ⟨(T : List UInt8).toArray⟩, .int .i64 5]) ∧ Below w.heap.size w w' := by
 have hsz : 0 < (ByteArray.mk l.toArray).size := h0
 have hba : (ByteArray.mk l.toArray)[0] = l[0] := byte_at l 0 h0
 have hie : l.isEmpty = false := by cases l with | nil => exact absurd h0 (by decide) | cons _ _ => rfl
 have hnn : ¬ l = [] := fun e => by subst e; exact absurd h0 (by decide)
 have hl1 : (1 : Int) ≤ (l.length : Int) := by omega
 have hwK : wrap64 (l[0].toNat : Int) = K := by rw [← hK]; have := l[0].toNat_lt; exact wrap_in _ (by omega) (by omega)
 have ct := cut_from l 1
 rw [hT] at ct
 have hwX : wrap64 K = K := by rw [← hK]; have := l[0].toNat_lt; exact wrap_in _ (by omega) (by omega)
 have n0 := beq_f (show K ≠ 0 by omega)
 have n1 := beq_f (show K ≠ 1 by omega)
 have n2 := beq_f (show K ≠ 2 by omega)
 have n3 := beq_f (show K ≠ 3 by omega)
 have n4 := beq_f (show K ≠ 4 by omega)
 have n5 := beq_f (show K ≠ 5 by omega)
 clear h5
 clear hT
 go_enter Tryz.func106, Tryz.ntmps106
 go_wp2
 refine bodyPost_ret (v := .tuple #[.agg #[.int .i64 K, .int .i64 0, .int .u64 0, .string ⟨([] : List UInt8).toArray⟩], .string ⟨(T : List UInt8).toArray⟩, .int .i64 5]) ?_ rfl ⟨rfl, below2s _ _ _⟩
 simp [results, Tryz.results106, go_sem]
theorem dv_1s (l T : List UInt8)  (w : World) (h0 : 0 < l.length) (hK : (l[0].toNat : Int) = 1) (hT : l.drop 1 = T) (hs : T.length < 1) :
  Calls Tryz.prog 106 #[.string ⟨l.toArray⟩] w fun e w' => e = .returned (.tuple #[.agg #[.int .i64 1, .int .i64 0, .int .u64 0, .string ⟨([] : List UInt8).toArray⟩], .string ⟨([] : List UInt8).toArray⟩, .int .i64 3]) ∧ Below w.heap.size w w' := by
 have hsz : 0 < (ByteArray.mk l.toArray).size := h0
 have hba : (ByteArray.mk l.toArray)[0] = l[0] := byte_at l 0 h0
 have hie : l.isEmpty = false := by cases l with | nil => exact absurd h0 (by decide) | cons _ _ => rfl
 have hnn : ¬ l = [] := fun e => by subst e; exact absurd h0 (by decide)
 have hl1 : (1 : Int) ≤ (l.length : Int) := by omega
 have hwK : wrap64 (l[0].toNat : Int) = 1 := by rw [← hK]; have := l[0].toNat_lt; exact wrap_in _ (by omega) (by omega)
 have ct := cut_from l 1
 rw [hT] at ct
 obtain rfl : T = [] := List.eq_nil_of_length_eq_zero (by omega)
 clear hs
 clear hT
 go_enter Tryz.func106, Tryz.ntmps106
 go_wp2
 refine bodyPost_ret (v := .tuple #[.agg #[.int .i64 1, .int .i64 0, .int .u64 0, .string ⟨([] : List UInt8).toArray⟩], .string ⟨([] : List UInt8).toArray⟩, .int .i64 3]) ?_ rfl ⟨rfl, below2s _ _ _⟩
 simp [results, Tryz.results106, go_sem]
theorem dv_10 (l T : List UInt8) (R : List UInt8) (w : World) (h0 : 0 < l.length) (hK : (l[0].toNat : Int) = 1) (hT : l.drop 1 = T) (hs : 0 < T.length) (hX : (T[0].toNat : Int) = 0) (hR : T.drop 1 = R) (hC : Vl.ck 1 0 0 [] = 0) :
  Calls Tryz.prog 106 #[.string ⟨l.toArray⟩] w fun e w' => e = .returned (.tuple #[.agg #[.int .i64 1, .int .i64 0, .int .u64 0, .string ⟨([] : List UInt8).toArray⟩], .string ⟨(R : List UInt8).toArray⟩, .int .i64 0]) ∧ Below w.heap.size w w' := by
 have hsz : 0 < (ByteArray.mk l.toArray).size := h0
 have hba : (ByteArray.mk l.toArray)[0] = l[0] := byte_at l 0 h0
 have hie : l.isEmpty = false := by cases l with | nil => exact absurd h0 (by decide) | cons _ _ => rfl
 have hnn : ¬ l = [] := fun e => by subst e; exact absurd h0 (by decide)
 have hl1 : (1 : Int) ≤ (l.length : Int) := by omega
 have hwK : wrap64 (l[0].toNat : Int) = 1 := by rw [← hK]; have := l[0].toNat_lt; exact wrap_in _ (by omega) (by omega)
 have ct := cut_from l 1
 rw [hT] at ct
 have tsz : 0 < (ByteArray.mk T.toArray).size := hs
 have tba : (ByteArray.mk T.toArray)[0] = T[0] := byte_at T 0 hs
 have tie : T.isEmpty = false := by cases T with | nil => exact absurd hs (by decide) | cons _ _ => rfl
 have tnn : ¬ T = [] := fun e => by subst e; exact absurd hs (by decide)
 have tl1 : (1 : Int) ≤ (T.length : Int) := by omega
 have twK : wrap64 (T[0].toNat : Int) = 0 := by rw [hX]; have := T[0].toNat_lt; exact wrap_in _ (by omega) (by omega)
 have tct := cut_from T 1
 rw [hR] at tct
 have HC := zh hC
 clear hC
 clear hT
 go_enter Tryz.func106, Tryz.ntmps106
 go_wp2_with fail
 refine (rcheck_is 1 0 0 0 [] _ u0 HC.out).mono ?_
 rintro e w4 ⟨rfl, hb⟩
 have BF := zh (old_2 hb)
 have k4 := ((Blk.new w #[.int .i64 0, .int .i64 0, .int .u64 0, .string ⟨([] : List UInt8).toArray⟩] 25).alloc _).below hb
 have m4 := (Blk.new' (w.alloc (.cells #[.int .i64 0, .int .i64 0, .int .u64 0, .string ⟨([] : List UInt8).toArray⟩] 25)) #[.int .i64 1, .int .i64 0, .int .u64 0, .string ⟨([] : List UInt8).toArray⟩] 25 (w.heap.size + 1) (by simp)).below hb
 clear hb
 have g0 := k4.cell 0
 have g1 := k4.cell 1
 have g2 := k4.cell 2
 have g3 := k4.cell 3
 have t0 := k4.frozen 0
 have t1 := k4.frozen 1
 have t2 := k4.frozen 2
 have t3 := k4.frozen 3
 simp at g0 g1 g2 g3
 have v0 := m4.cell 0
 have v1 := m4.cell 1
 have v2 := m4.cell 2
 have v3 := m4.cell 3
 simp at v0 v1 v2 v3
 clear k4 m4
 go_wp2
 have z := (((BF.out.setCell (p := ⟨w.heap.size, 0, none⟩) (Nat.le_refl _) (.int .i64 1)).setCell (p := ⟨w.heap.size, 1, none⟩) (Nat.le_refl _) (.int .i64 0)).setCell (p := ⟨w.heap.size, 2, none⟩) (Nat.le_refl _) (.int .u64 0)).setCell (p := ⟨w.heap.size, 3, none⟩) (Nat.le_refl _) (.string ⟨([] : List UInt8).toArray⟩)
 refine bodyPost_ret (v := .tuple #[.agg #[.int .i64 1, .int .i64 0, .int .u64 0, .string ⟨([] : List UInt8).toArray⟩], .string ⟨(R : List UInt8).toArray⟩, .int .i64 0]) ?_ rfl ⟨rfl, z⟩
 simp [results, Tryz.results106, go_sem, g0, g1, g2, g3]
theorem dv_11 (l T : List UInt8) (R : List UInt8) (w : World) (h0 : 0 < l.length) (hK : (l[0].toNat : Int) = 1) (hT : l.drop 1 = T) (hs : 0 < T.length) (hX : (T[0].toNat : Int) = 1) (hR : T.drop 1 = R) (hC : Vl.ck 1 1 0 [] = 0) :
  Calls Tryz.prog 106 #[.string ⟨l.toArray⟩] w fun e w' => e = .returned (.tuple #[.agg #[.int .i64 1, .int .i64 1, .int .u64 0, .string ⟨([] : List UInt8).toArray⟩], .string ⟨(R : List UInt8).toArray⟩, .int .i64 0]) ∧ Below w.heap.size w w' := by
 have hsz : 0 < (ByteArray.mk l.toArray).size := h0
 have hba : (ByteArray.mk l.toArray)[0] = l[0] := byte_at l 0 h0
 have hie : l.isEmpty = false := by cases l with | nil => exact absurd h0 (by decide) | cons _ _ => rfl
 have hnn : ¬ l = [] := fun e => by subst e; exact absurd h0 (by decide)
 have hl1 : (1 : Int) ≤ (l.length : Int) := by omega
 have hwK : wrap64 (l[0].toNat : Int) = 1 := by rw [← hK]; have := l[0].toNat_lt; exact wrap_in _ (by omega) (by omega)
 have ct := cut_from l 1
 rw [hT] at ct
 have tsz : 0 < (ByteArray.mk T.toArray).size := hs
 have tba : (ByteArray.mk T.toArray)[0] = T[0] := byte_at T 0 hs
 have tie : T.isEmpty = false := by cases T with | nil => exact absurd hs (by decide) | cons _ _ => rfl
 have tnn : ¬ T = [] := fun e => by subst e; exact absurd hs (by decide)
 have tl1 : (1 : Int) ≤ (T.length : Int) := by omega
 have twK : wrap64 (T[0].toNat : Int) = 1 := by rw [hX]; have := T[0].toNat_lt; exact wrap_in _ (by omega) (by omega)
 have tct := cut_from T 1
 rw [hR] at tct
 have HC := zh hC
 clear hC
 clear hT
 go_enter Tryz.func106, Tryz.ntmps106
 go_wp2_with fail
 refine (rcheck_is 1 1 0 0 [] _ u0 HC.out).mono ?_
 rintro e w4 ⟨rfl, hb⟩
 have BF := zh (old_2 hb)
 have k4 := ((Blk.new w #[.int .i64 0, .int .i64 0, .int .u64 0, .string ⟨([] : List UInt8).toArray⟩] 25).alloc _).below hb
 have m4 := (Blk.new' (w.alloc (.cells #[.int .i64 0, .int .i64 0, .int .u64 0, .string ⟨([] : List UInt8).toArray⟩] 25)) #[.int .i64 1, .int .i64 1, .int .u64 0, .string ⟨([] : List UInt8).toArray⟩] 25 (w.heap.size + 1) (by simp)).below hb
 clear hb
 have g0 := k4.cell 0
 have g1 := k4.cell 1
 have g2 := k4.cell 2
 have g3 := k4.cell 3
 have t0 := k4.frozen 0
 have t1 := k4.frozen 1
 have t2 := k4.frozen 2
 have t3 := k4.frozen 3
 simp at g0 g1 g2 g3
 have v0 := m4.cell 0
 have v1 := m4.cell 1
 have v2 := m4.cell 2
 have v3 := m4.cell 3
 simp at v0 v1 v2 v3
 clear k4 m4
 go_wp2
 have z := (((BF.out.setCell (p := ⟨w.heap.size, 0, none⟩) (Nat.le_refl _) (.int .i64 1)).setCell (p := ⟨w.heap.size, 1, none⟩) (Nat.le_refl _) (.int .i64 1)).setCell (p := ⟨w.heap.size, 2, none⟩) (Nat.le_refl _) (.int .u64 0)).setCell (p := ⟨w.heap.size, 3, none⟩) (Nat.le_refl _) (.string ⟨([] : List UInt8).toArray⟩)
 refine bodyPost_ret (v := .tuple #[.agg #[.int .i64 1, .int .i64 1, .int .u64 0, .string ⟨([] : List UInt8).toArray⟩], .string ⟨(R : List UInt8).toArray⟩, .int .i64 0]) ?_ rfl ⟨rfl, z⟩
 simp [results, Tryz.results106, go_sem, g0, g1, g2, g3]
theorem dv_1b (l T : List UInt8) (R : List UInt8) (X : Int) (w : World) (h0 : 0 < l.length) (hK : (l[0].toNat : Int) = 1) (hT : l.drop 1 = T) (hs : 0 < T.length) (hX : (T[0].toNat : Int) = X) (hR : T.drop 1 = R) (hx : 1 < X) :
  Calls Tryz.prog 106 #[.string ⟨l.toArray⟩] w fun e w' => e = .returned (.tuple #[.agg #[.int .i64 1, .int .i64 X, .int .u64 0, .string ⟨([] : List UInt8).toArray⟩], .string ⟨(R : List UInt8).toArray⟩, .int .i64 6]) ∧ Below w.heap.size w w' := by
 have hsz : 0 < (ByteArray.mk l.toArray).size := h0
 have hba : (ByteArray.mk l.toArray)[0] = l[0] := byte_at l 0 h0
 have hie : l.isEmpty = false := by cases l with | nil => exact absurd h0 (by decide) | cons _ _ => rfl
 have hnn : ¬ l = [] := fun e => by subst e; exact absurd h0 (by decide)
 have hl1 : (1 : Int) ≤ (l.length : Int) := by omega
 have hwK : wrap64 (l[0].toNat : Int) = 1 := by rw [← hK]; have := l[0].toNat_lt; exact wrap_in _ (by omega) (by omega)
 have ct := cut_from l 1
 rw [hT] at ct
 have tsz : 0 < (ByteArray.mk T.toArray).size := hs
 have tba : (ByteArray.mk T.toArray)[0] = T[0] := byte_at T 0 hs
 have tie : T.isEmpty = false := by cases T with | nil => exact absurd hs (by decide) | cons _ _ => rfl
 have tnn : ¬ T = [] := fun e => by subst e; exact absurd hs (by decide)
 have tl1 : (1 : Int) ≤ (T.length : Int) := by omega
 have twK : wrap64 (T[0].toNat : Int) = X := by rw [hX]; have := T[0].toNat_lt; exact wrap_in _ (by omega) (by omega)
 have tct := cut_from T 1
 rw [hR] at tct
 have hwX : wrap64 X = X := by rw [← hX]; have := T[0].toNat_lt; exact wrap_in _ (by omega) (by omega)
 clear hT
 go_enter Tryz.func106, Tryz.ntmps106
 go_wp2
 refine bodyPost_ret (v := .tuple #[.agg #[.int .i64 1, .int .i64 X, .int .u64 0, .string ⟨([] : List UInt8).toArray⟩], .string ⟨(R : List UInt8).toArray⟩, .int .i64 6]) ?_ rfl ⟨rfl, below2s _ _ _⟩
 simp [results, Tryz.results106, go_sem]
theorem dv_2e (l T : List UInt8) (R : List UInt8) (X E : Int) (w : World) (h0 : 0 < l.length) (hK : (l[0].toNat : Int) = 2) (hT : l.drop 1 = T) (hr : Pk.ri T = (X, R, E)) (hE : E ≠ 0) :
  Calls Tryz.prog 106 #[.string ⟨l.toArray⟩] w fun e w' => e = .returned (.tuple #[.agg #[.int .i64 2, .int .i64 X, .int .u64 0, .string ⟨([] : List UInt8).toArray⟩], .string ⟨(R : List UInt8).toArray⟩, .int .i64 E]) ∧ Below w.heap.size w w' := by
 have hsz : 0 < (ByteArray.mk l.toArray).size := h0
 have hba : (ByteArray.mk l.toArray)[0] = l[0] := byte_at l 0 h0
 have hie : l.isEmpty = false := by cases l with | nil => exact absurd h0 (by decide) | cons _ _ => rfl
 have hnn : ¬ l = [] := fun e => by subst e; exact absurd h0 (by decide)
 have hl1 : (1 : Int) ≤ (l.length : Int) := by omega
 have hwK : wrap64 (l[0].toNat : Int) = 2 := by rw [← hK]; have := l[0].toNat_lt; exact wrap_in _ (by omega) (by omega)
 have ct := cut_from l 1
 rw [hT] at ct
 have HS := zh hr
 clear hr
 have e1 := bne_t hE
 have e2 := beq_f hE
 clear hT
 go_enter Tryz.func106, Tryz.ntmps106
 go_wp2_with fail
 refine (dri_is T R X E _ HS.out).mono ?_
 rintro e w2 ⟨rfl, hb⟩
 have k2 := ((Blk.new w #[.int .i64 0, .int .i64 0, .int .u64 0, .string ⟨([] : List UInt8).toArray⟩] 25).alloc _).below hb
 have m2 := (Blk.new' (w.alloc (.cells #[.int .i64 0, .int .i64 0, .int .u64 0, .string ⟨([] : List UInt8).toArray⟩] 25)) #[.int .i64 2, .int .i64 0, .int .u64 0, .string ⟨([] : List UInt8).toArray⟩] 25 (w.heap.size + 1) (by simp)).below hb
 have c1 := m2.cell 1
 have f1 := m2.frozen 1
 have p1 := m2.setAt 1 (.int .i64 X)
 have p0 := k2.otherAt (show w.heap.size ≠ w.heap.size + 1 by omega) 1 (.int .i64 X)
 have pB := (old_2 hb).setCell (p := ⟨w.heap.size + 1, 1, none⟩) (show w.heap.size ≤ w.heap.size + 1 by omega) (.int .i64 X)
 obtain ⟨W3, hW3⟩ : ∃ W3, w2.setCell ⟨w.heap.size + 1, 1, none⟩ (.int .i64 X) = W3 := ⟨_, rfl⟩
 rw [hW3] at p0 p1 pB
 simp at c1
 have PB := zh pB
 clear hb k2 m2 pB
 have k4 := p0
 have m4 := p1
 have BF := PB
 clear p0 p1
 have g0 := k4.cell 0
 have g1 := k4.cell 1
 have g2 := k4.cell 2
 have g3 := k4.cell 3
 have t0 := k4.frozen 0
 have t1 := k4.frozen 1
 have t2 := k4.frozen 2
 have t3 := k4.frozen 3
 simp at g0 g1 g2 g3
 have v0 := m4.cell 0
 have v1 := m4.cell 1
 have v2 := m4.cell 2
 have v3 := m4.cell 3
 simp at v0 v1 v2 v3
 clear k4 m4
 go_wp2
 have z := (((BF.out.setCell (p := ⟨w.heap.size, 0, none⟩) (Nat.le_refl _) (.int .i64 2)).setCell (p := ⟨w.heap.size, 1, none⟩) (Nat.le_refl _) (.int .i64 X)).setCell (p := ⟨w.heap.size, 2, none⟩) (Nat.le_refl _) (.int .u64 0)).setCell (p := ⟨w.heap.size, 3, none⟩) (Nat.le_refl _) (.string ⟨([] : List UInt8).toArray⟩)
 refine bodyPost_ret (v := .tuple #[.agg #[.int .i64 2, .int .i64 X, .int .u64 0, .string ⟨([] : List UInt8).toArray⟩], .string ⟨(R : List UInt8).toArray⟩, .int .i64 E]) ?_ rfl ⟨rfl, z⟩
 simp [results, Tryz.results106, go_sem, g0, g1, g2, g3]
theorem dv_2 (l T : List UInt8) (R : List UInt8) (X : Int) (w : World) (h0 : 0 < l.length) (hK : (l[0].toNat : Int) = 2) (hT : l.drop 1 = T) (hr : Pk.ri T = (X, R, 0)) (hC : Vl.ck 2 X 0 [] = 0) :
  Calls Tryz.prog 106 #[.string ⟨l.toArray⟩] w fun e w' => e = .returned (.tuple #[.agg #[.int .i64 2, .int .i64 X, .int .u64 0, .string ⟨([] : List UInt8).toArray⟩], .string ⟨(R : List UInt8).toArray⟩, .int .i64 0]) ∧ Below w.heap.size w w' := by
 have hsz : 0 < (ByteArray.mk l.toArray).size := h0
 have hba : (ByteArray.mk l.toArray)[0] = l[0] := byte_at l 0 h0
 have hie : l.isEmpty = false := by cases l with | nil => exact absurd h0 (by decide) | cons _ _ => rfl
 have hnn : ¬ l = [] := fun e => by subst e; exact absurd h0 (by decide)
 have hl1 : (1 : Int) ≤ (l.length : Int) := by omega
 have hwK : wrap64 (l[0].toNat : Int) = 2 := by rw [← hK]; have := l[0].toNat_lt; exact wrap_in _ (by omega) (by omega)
 have ct := cut_from l 1
 rw [hT] at ct
 have HS := zh hr
 clear hr
 have HC := zh hC
 clear hC
 clear hT
 go_enter Tryz.func106, Tryz.ntmps106
 go_wp2_with fail
 refine (dri_is T R X 0 _ HS.out).mono ?_
 rintro e w2 ⟨rfl, hb⟩
 have k2 := ((Blk.new w #[.int .i64 0, .int .i64 0, .int .u64 0, .string ⟨([] : List UInt8).toArray⟩] 25).alloc _).below hb
 have m2 := (Blk.new' (w.alloc (.cells #[.int .i64 0, .int .i64 0, .int .u64 0, .string ⟨([] : List UInt8).toArray⟩] 25)) #[.int .i64 2, .int .i64 0, .int .u64 0, .string ⟨([] : List UInt8).toArray⟩] 25 (w.heap.size + 1) (by simp)).below hb
 have c1 := m2.cell 1
 have f1 := m2.frozen 1
 have p1 := m2.setAt 1 (.int .i64 X)
 have p0 := k2.otherAt (show w.heap.size ≠ w.heap.size + 1 by omega) 1 (.int .i64 X)
 have pB := (old_2 hb).setCell (p := ⟨w.heap.size + 1, 1, none⟩) (show w.heap.size ≤ w.heap.size + 1 by omega) (.int .i64 X)
 obtain ⟨W3, hW3⟩ : ∃ W3, w2.setCell ⟨w.heap.size + 1, 1, none⟩ (.int .i64 X) = W3 := ⟨_, rfl⟩
 rw [hW3] at p0 p1 pB
 simp at c1
 have PB := zh pB
 clear hb k2 m2 pB
 have d0 := p1.cell 0
 have d1 := p1.cell 1
 have d2 := p1.cell 2
 have d3 := p1.cell 3
 simp at d0 d1 d2 d3
 have P0 := zh p0
 have P1 := zh p1
 clear p0 p1
 go_wp2_with fail
 refine (rcheck_is 2 X 0 0 [] _ u0 HC.out).mono ?_
 rintro e w4 ⟨rfl, hb⟩
 have BF := zh (step0 PB.out hb)
 have k4 := P0.out.below hb
 have m4 := P1.out.below hb
 clear hb
 have g0 := k4.cell 0
 have g1 := k4.cell 1
 have g2 := k4.cell 2
 have g3 := k4.cell 3
 have t0 := k4.frozen 0
 have t1 := k4.frozen 1
 have t2 := k4.frozen 2
 have t3 := k4.frozen 3
 simp at g0 g1 g2 g3
 have v0 := m4.cell 0
 have v1 := m4.cell 1
 have v2 := m4.cell 2
 have v3 := m4.cell 3
 simp at v0 v1 v2 v3
 clear k4 m4
 go_wp2
 have z := (((BF.out.setCell (p := ⟨w.heap.size, 0, none⟩) (Nat.le_refl _) (.int .i64 2)).setCell (p := ⟨w.heap.size, 1, none⟩) (Nat.le_refl _) (.int .i64 X)).setCell (p := ⟨w.heap.size, 2, none⟩) (Nat.le_refl _) (.int .u64 0)).setCell (p := ⟨w.heap.size, 3, none⟩) (Nat.le_refl _) (.string ⟨([] : List UInt8).toArray⟩)
 refine bodyPost_ret (v := .tuple #[.agg #[.int .i64 2, .int .i64 X, .int .u64 0, .string ⟨([] : List UInt8).toArray⟩], .string ⟨(R : List UInt8).toArray⟩, .int .i64 0]) ?_ rfl ⟨rfl, z⟩
 simp [results, Tryz.results106, go_sem, g0, g1, g2, g3]
theorem dv_3s (l T : List UInt8)  (w : World) (h0 : 0 < l.length) (hK : (l[0].toNat : Int) = 3) (hT : l.drop 1 = T) (hs : T.length < 8) :
  Calls Tryz.prog 106 #[.string ⟨l.toArray⟩] w fun e w' => e = .returned (.tuple #[.agg #[.int .i64 3, .int .i64 0, .int .u64 0, .string ⟨([] : List UInt8).toArray⟩], .string ⟨([] : List UInt8).toArray⟩, .int .i64 3]) ∧ Below w.heap.size w w' := by
 have hsz : 0 < (ByteArray.mk l.toArray).size := h0
 have hba : (ByteArray.mk l.toArray)[0] = l[0] := byte_at l 0 h0
 have hie : l.isEmpty = false := by cases l with | nil => exact absurd h0 (by decide) | cons _ _ => rfl
 have hnn : ¬ l = [] := fun e => by subst e; exact absurd h0 (by decide)
 have hl1 : (1 : Int) ≤ (l.length : Int) := by omega
 have hwK : wrap64 (l[0].toNat : Int) = 3 := by rw [← hK]; have := l[0].toNat_lt; exact wrap_in _ (by omega) (by omega)
 have ct := cut_from l 1
 rw [hT] at ct
 have s8 : (T.length : Int) < 8 := by omega
 clear hs
 clear hT
 go_enter Tryz.func106, Tryz.ntmps106
 go_wp2
 refine bodyPost_ret (v := .tuple #[.agg #[.int .i64 3, .int .i64 0, .int .u64 0, .string ⟨([] : List UInt8).toArray⟩], .string ⟨([] : List UInt8).toArray⟩, .int .i64 3]) ?_ rfl ⟨rfl, below2s _ _ _⟩
 simp [results, Tryz.results106, go_sem]
theorem dv_3 (l T : List UInt8) (R : List UInt8) (X C : Int) (w : World) (h0 : 0 < l.length) (hK : (l[0].toNat : Int) = 3) (hT : l.drop 1 = T) (hs : 8 ≤ T.length) (hX : (Kc.nm (T.take 8) : Int) = X) (hR : T.drop 8 = R) (hU : Rl.U X) (hC : Vl.ck 3 0 X [] = C) :
  Calls Tryz.prog 106 #[.string ⟨l.toArray⟩] w fun e w' => e = .returned (.tuple #[.agg #[.int .i64 3, .int .i64 0, .int .u64 X, .string ⟨([] : List UInt8).toArray⟩], .string ⟨(R : List UInt8).toArray⟩, .int .i64 C]) ∧ Below w.heap.size w w' := by
 have hsz : 0 < (ByteArray.mk l.toArray).size := h0
 have hba : (ByteArray.mk l.toArray)[0] = l[0] := byte_at l 0 h0
 have hie : l.isEmpty = false := by cases l with | nil => exact absurd h0 (by decide) | cons _ _ => rfl
 have hnn : ¬ l = [] := fun e => by subst e; exact absurd h0 (by decide)
 have hl1 : (1 : Int) ≤ (l.length : Int) := by omega
 have hwK : wrap64 (l[0].toNat : Int) = 3 := by rw [← hK]; have := l[0].toNat_lt; exact wrap_in _ (by omega) (by omega)
 have ct := cut_from l 1
 rw [hT] at ct
 have s8 : decide ((T.length : Int) < 8) = false := by rw [decide_eq_false_iff_not]; omega
 have s9 : (8 : Int) ≤ (T.length : Int) := by omega
 have HS := zh (za hs hX)
 have HU := zh hU
 have tct := cut_from T 8
 rw [hR] at tct
 clear hs hX hU
 have HC := zh hC
 clear hC
 clear hT
 go_enter Tryz.func106, Tryz.ntmps106
 go_wp2_with fail
 refine (num_is T X _ HS.out.1 HS.out.2).mono ?_
 rintro e w' ⟨rfl, rfl⟩
 go_wp2_with fail
 refine (rcheck_is 3 0 X C [] _ HU.out HC.out).mono ?_
 rintro e w4 ⟨rfl, hb⟩
 have BF := zh (old_2 hb)
 have k4 := ((Blk.new w #[.int .i64 0, .int .i64 0, .int .u64 0, .string ⟨([] : List UInt8).toArray⟩] 25).alloc _).below hb
 have m4 := (Blk.new' (w.alloc (.cells #[.int .i64 0, .int .i64 0, .int .u64 0, .string ⟨([] : List UInt8).toArray⟩] 25)) #[.int .i64 3, .int .i64 0, .int .u64 X, .string ⟨([] : List UInt8).toArray⟩] 25 (w.heap.size + 1) (by simp)).below hb
 clear hb
 have g0 := k4.cell 0
 have g1 := k4.cell 1
 have g2 := k4.cell 2
 have g3 := k4.cell 3
 have t0 := k4.frozen 0
 have t1 := k4.frozen 1
 have t2 := k4.frozen 2
 have t3 := k4.frozen 3
 simp at g0 g1 g2 g3
 have v0 := m4.cell 0
 have v1 := m4.cell 1
 have v2 := m4.cell 2
 have v3 := m4.cell 3
 simp at v0 v1 v2 v3
 clear k4 m4
 go_wp2
 have z := (((BF.out.setCell (p := ⟨w.heap.size, 0, none⟩) (Nat.le_refl _) (.int .i64 3)).setCell (p := ⟨w.heap.size, 1, none⟩) (Nat.le_refl _) (.int .i64 0)).setCell (p := ⟨w.heap.size, 2, none⟩) (Nat.le_refl _) (.int .u64 X)).setCell (p := ⟨w.heap.size, 3, none⟩) (Nat.le_refl _) (.string ⟨([] : List UInt8).toArray⟩)
 refine bodyPost_ret (v := .tuple #[.agg #[.int .i64 3, .int .i64 0, .int .u64 X, .string ⟨([] : List UInt8).toArray⟩], .string ⟨(R : List UInt8).toArray⟩, .int .i64 C]) ?_ rfl ⟨rfl, z⟩
 simp [results, Tryz.results106, go_sem, g0, g1, g2, g3]
theorem dv_4e (l T : List UInt8) (S R : List UInt8) (E : Int) (w : World) (h0 : 0 < l.length) (hK : (l[0].toNat : Int) = 4) (hT : l.drop 1 = T) (hl : T.length ≤ 1000000) (hr : Pk.rt T = (S, R, E)) (hE : E ≠ 0) :
  Calls Tryz.prog 106 #[.string ⟨l.toArray⟩] w fun e w' => e = .returned (.tuple #[.agg #[.int .i64 4, .int .i64 0, .int .u64 0, .string ⟨(S : List UInt8).toArray⟩], .string ⟨(R : List UInt8).toArray⟩, .int .i64 E]) ∧ Below w.heap.size w w' := by
 have hsz : 0 < (ByteArray.mk l.toArray).size := h0
 have hba : (ByteArray.mk l.toArray)[0] = l[0] := byte_at l 0 h0
 have hie : l.isEmpty = false := by cases l with | nil => exact absurd h0 (by decide) | cons _ _ => rfl
 have hnn : ¬ l = [] := fun e => by subst e; exact absurd h0 (by decide)
 have hl1 : (1 : Int) ≤ (l.length : Int) := by omega
 have hwK : wrap64 (l[0].toNat : Int) = 4 := by rw [← hK]; have := l[0].toNat_lt; exact wrap_in _ (by omega) (by omega)
 have ct := cut_from l 1
 rw [hT] at ct
 have HS := zh (za hl hr)
 clear hl hr
 have e1 := bne_t hE
 have e2 := beq_f hE
 clear hT
 go_enter Tryz.func106, Tryz.ntmps106
 go_wp2_with fail
 refine (drt_is T S R E _ HS.out.1 HS.out.2).mono ?_
 rintro e w2 ⟨rfl, hb⟩
 have k2 := ((Blk.new w #[.int .i64 0, .int .i64 0, .int .u64 0, .string ⟨([] : List UInt8).toArray⟩] 25).alloc _).below hb
 have m2 := (Blk.new' (w.alloc (.cells #[.int .i64 0, .int .i64 0, .int .u64 0, .string ⟨([] : List UInt8).toArray⟩] 25)) #[.int .i64 4, .int .i64 0, .int .u64 0, .string ⟨([] : List UInt8).toArray⟩] 25 (w.heap.size + 1) (by simp)).below hb
 have c1 := m2.cell 3
 have f1 := m2.frozen 3
 have p1 := m2.setAt 3 (.string ⟨S.toArray⟩)
 have p0 := k2.otherAt (show w.heap.size ≠ w.heap.size + 1 by omega) 3 (.string ⟨S.toArray⟩)
 have pB := (old_2 hb).setCell (p := ⟨w.heap.size + 1, 3, none⟩) (show w.heap.size ≤ w.heap.size + 1 by omega) (.string ⟨S.toArray⟩)
 obtain ⟨W3, hW3⟩ : ∃ W3, w2.setCell ⟨w.heap.size + 1, 3, none⟩ (.string ⟨S.toArray⟩) = W3 := ⟨_, rfl⟩
 rw [hW3] at p0 p1 pB
 simp at c1
 have PB := zh pB
 clear hb k2 m2 pB
 have k4 := p0
 have m4 := p1
 have BF := PB
 clear p0 p1
 have g0 := k4.cell 0
 have g1 := k4.cell 1
 have g2 := k4.cell 2
 have g3 := k4.cell 3
 have t0 := k4.frozen 0
 have t1 := k4.frozen 1
 have t2 := k4.frozen 2
 have t3 := k4.frozen 3
 simp at g0 g1 g2 g3
 have v0 := m4.cell 0
 have v1 := m4.cell 1
 have v2 := m4.cell 2
 have v3 := m4.cell 3
 simp at v0 v1 v2 v3
 clear k4 m4
 go_wp2
 have z := (((BF.out.setCell (p := ⟨w.heap.size, 0, none⟩) (Nat.le_refl _) (.int .i64 4)).setCell (p := ⟨w.heap.size, 1, none⟩) (Nat.le_refl _) (.int .i64 0)).setCell (p := ⟨w.heap.size, 2, none⟩) (Nat.le_refl _) (.int .u64 0)).setCell (p := ⟨w.heap.size, 3, none⟩) (Nat.le_refl _) (.string ⟨(S : List UInt8).toArray⟩)
 refine bodyPost_ret (v := .tuple #[.agg #[.int .i64 4, .int .i64 0, .int .u64 0, .string ⟨(S : List UInt8).toArray⟩], .string ⟨(R : List UInt8).toArray⟩, .int .i64 E]) ?_ rfl ⟨rfl, z⟩
 simp [results, Tryz.results106, go_sem, g0, g1, g2, g3]
theorem dv_4 (l T : List UInt8) (S R : List UInt8) (C : Int) (w : World) (h0 : 0 < l.length) (hK : (l[0].toNat : Int) = 4) (hT : l.drop 1 = T) (hl : T.length ≤ 1000000) (hr : Pk.rt T = (S, R, 0)) (hC : Vl.ck 4 0 0 S = C) :
  Calls Tryz.prog 106 #[.string ⟨l.toArray⟩] w fun e w' => e = .returned (.tuple #[.agg #[.int .i64 4, .int .i64 0, .int .u64 0, .string ⟨(S : List UInt8).toArray⟩], .string ⟨(R : List UInt8).toArray⟩, .int .i64 C]) ∧ Below w.heap.size w w' := by
 have hsz : 0 < (ByteArray.mk l.toArray).size := h0
 have hba : (ByteArray.mk l.toArray)[0] = l[0] := byte_at l 0 h0
 have hie : l.isEmpty = false := by cases l with | nil => exact absurd h0 (by decide) | cons _ _ => rfl
 have hnn : ¬ l = [] := fun e => by subst e; exact absurd h0 (by decide)
 have hl1 : (1 : Int) ≤ (l.length : Int) := by omega
 have hwK : wrap64 (l[0].toNat : Int) = 4 := by rw [← hK]; have := l[0].toNat_lt; exact wrap_in _ (by omega) (by omega)
 have ct := cut_from l 1
 rw [hT] at ct
 have HS := zh (za hl hr)
 clear hl hr
 have HC := zh hC
 clear hC
 clear hT
 go_enter Tryz.func106, Tryz.ntmps106
 go_wp2_with fail
 refine (drt_is T S R 0 _ HS.out.1 HS.out.2).mono ?_
 rintro e w2 ⟨rfl, hb⟩
 have k2 := ((Blk.new w #[.int .i64 0, .int .i64 0, .int .u64 0, .string ⟨([] : List UInt8).toArray⟩] 25).alloc _).below hb
 have m2 := (Blk.new' (w.alloc (.cells #[.int .i64 0, .int .i64 0, .int .u64 0, .string ⟨([] : List UInt8).toArray⟩] 25)) #[.int .i64 4, .int .i64 0, .int .u64 0, .string ⟨([] : List UInt8).toArray⟩] 25 (w.heap.size + 1) (by simp)).below hb
 have c1 := m2.cell 3
 have f1 := m2.frozen 3
 have p1 := m2.setAt 3 (.string ⟨S.toArray⟩)
 have p0 := k2.otherAt (show w.heap.size ≠ w.heap.size + 1 by omega) 3 (.string ⟨S.toArray⟩)
 have pB := (old_2 hb).setCell (p := ⟨w.heap.size + 1, 3, none⟩) (show w.heap.size ≤ w.heap.size + 1 by omega) (.string ⟨S.toArray⟩)
 obtain ⟨W3, hW3⟩ : ∃ W3, w2.setCell ⟨w.heap.size + 1, 3, none⟩ (.string ⟨S.toArray⟩) = W3 := ⟨_, rfl⟩
 rw [hW3] at p0 p1 pB
 simp at c1
 have PB := zh pB
 clear hb k2 m2 pB
 have d0 := p1.cell 0
 have d1 := p1.cell 1
 have d2 := p1.cell 2
 have d3 := p1.cell 3
 simp at d0 d1 d2 d3
 have P0 := zh p0
 have P1 := zh p1
 clear p0 p1
 go_wp2_with fail
 refine (rcheck_is 4 0 0 C S _ u0 HC.out).mono ?_
 rintro e w4 ⟨rfl, hb⟩
 have BF := zh (step0 PB.out hb)
 have k4 := P0.out.below hb
 have m4 := P1.out.below hb
 clear hb
 have g0 := k4.cell 0
 have g1 := k4.cell 1
 have g2 := k4.cell 2
 have g3 := k4.cell 3
 have t0 := k4.frozen 0
 have t1 := k4.frozen 1
 have t2 := k4.frozen 2
 have t3 := k4.frozen 3
 simp at g0 g1 g2 g3
 have v0 := m4.cell 0
 have v1 := m4.cell 1
 have v2 := m4.cell 2
 have v3 := m4.cell 3
 simp at v0 v1 v2 v3
 clear k4 m4
 go_wp2
 have z := (((BF.out.setCell (p := ⟨w.heap.size, 0, none⟩) (Nat.le_refl _) (.int .i64 4)).setCell (p := ⟨w.heap.size, 1, none⟩) (Nat.le_refl _) (.int .i64 0)).setCell (p := ⟨w.heap.size, 2, none⟩) (Nat.le_refl _) (.int .u64 0)).setCell (p := ⟨w.heap.size, 3, none⟩) (Nat.le_refl _) (.string ⟨(S : List UInt8).toArray⟩)
 refine bodyPost_ret (v := .tuple #[.agg #[.int .i64 4, .int .i64 0, .int .u64 0, .string ⟨(S : List UInt8).toArray⟩], .string ⟨(R : List UInt8).toArray⟩, .int .i64 C]) ?_ rfl ⟨rfl, z⟩
 simp [results, Tryz.results106, go_sem, g0, g1, g2, g3]
theorem dv_5e (l T : List UInt8) (S R : List UInt8) (E : Int) (w : World) (h0 : 0 < l.length) (hK : (l[0].toNat : Int) = 5) (hT : l.drop 1 = T) (hl : T.length ≤ 1000000) (hr : Pk.rt T = (S, R, E)) (hE : E ≠ 0) :
  Calls Tryz.prog 106 #[.string ⟨l.toArray⟩] w fun e w' => e = .returned (.tuple #[.agg #[.int .i64 5, .int .i64 0, .int .u64 0, .string ⟨(S : List UInt8).toArray⟩], .string ⟨(R : List UInt8).toArray⟩, .int .i64 E]) ∧ Below w.heap.size w w' := by
 have hsz : 0 < (ByteArray.mk l.toArray).size := h0
 have hba : (ByteArray.mk l.toArray)[0] = l[0] := byte_at l 0 h0
 have hie : l.isEmpty = false := by cases l with | nil => exact absurd h0 (by decide) | cons _ _ => rfl
 have hnn : ¬ l = [] := fun e => by subst e; exact absurd h0 (by decide)
 have hl1 : (1 : Int) ≤ (l.length : Int) := by omega
 have hwK : wrap64 (l[0].toNat : Int) = 5 := by rw [← hK]; have := l[0].toNat_lt; exact wrap_in _ (by omega) (by omega)
 have ct := cut_from l 1
 rw [hT] at ct
 have HS := zh (za hl hr)
 clear hl hr
 have e1 := bne_t hE
 have e2 := beq_f hE
 clear hT
 go_enter Tryz.func106, Tryz.ntmps106
 go_wp2_with fail
 refine (drt_is T S R E _ HS.out.1 HS.out.2).mono ?_
 rintro e w2 ⟨rfl, hb⟩
 have k2 := ((Blk.new w #[.int .i64 0, .int .i64 0, .int .u64 0, .string ⟨([] : List UInt8).toArray⟩] 25).alloc _).below hb
 have m2 := (Blk.new' (w.alloc (.cells #[.int .i64 0, .int .i64 0, .int .u64 0, .string ⟨([] : List UInt8).toArray⟩] 25)) #[.int .i64 5, .int .i64 0, .int .u64 0, .string ⟨([] : List UInt8).toArray⟩] 25 (w.heap.size + 1) (by simp)).below hb
 have c1 := m2.cell 3
 have f1 := m2.frozen 3
 have p1 := m2.setAt 3 (.string ⟨S.toArray⟩)
 have p0 := k2.otherAt (show w.heap.size ≠ w.heap.size + 1 by omega) 3 (.string ⟨S.toArray⟩)
 have pB := (old_2 hb).setCell (p := ⟨w.heap.size + 1, 3, none⟩) (show w.heap.size ≤ w.heap.size + 1 by omega) (.string ⟨S.toArray⟩)
 obtain ⟨W3, hW3⟩ : ∃ W3, w2.setCell ⟨w.heap.size + 1, 3, none⟩ (.string ⟨S.toArray⟩) = W3 := ⟨_, rfl⟩
 rw [hW3] at p0 p1 pB
 simp at c1
 have PB := zh pB
 clear hb k2 m2 pB
 have k4 := p0
 have m4 := p1
 have BF := PB
 clear p0 p1
 have g0 := k4.cell 0
 have g1 := k4.cell 1
 have g2 := k4.cell 2
 have g3 := k4.cell 3
 have t0 := k4.frozen 0
 have t1 := k4.frozen 1
 have t2 := k4.frozen 2
 have t3 := k4.frozen 3
 simp at g0 g1 g2 g3
 have v0 := m4.cell 0
 have v1 := m4.cell 1
 have v2 := m4.cell 2
 have v3 := m4.cell 3
 simp at v0 v1 v2 v3
 clear k4 m4
 go_wp2
 have z := (((BF.out.setCell (p := ⟨w.heap.size, 0, none⟩) (Nat.le_refl _) (.int .i64 5)).setCell (p := ⟨w.heap.size, 1, none⟩) (Nat.le_refl _) (.int .i64 0)).setCell (p := ⟨w.heap.size, 2, none⟩) (Nat.le_refl _) (.int .u64 0)).setCell (p := ⟨w.heap.size, 3, none⟩) (Nat.le_refl _) (.string ⟨(S : List UInt8).toArray⟩)
 refine bodyPost_ret (v := .tuple #[.agg #[.int .i64 5, .int .i64 0, .int .u64 0, .string ⟨(S : List UInt8).toArray⟩], .string ⟨(R : List UInt8).toArray⟩, .int .i64 E]) ?_ rfl ⟨rfl, z⟩
 simp [results, Tryz.results106, go_sem, g0, g1, g2, g3]
theorem dv_5 (l T : List UInt8) (S R : List UInt8) (C : Int) (w : World) (h0 : 0 < l.length) (hK : (l[0].toNat : Int) = 5) (hT : l.drop 1 = T) (hl : T.length ≤ 1000000) (hr : Pk.rt T = (S, R, 0)) (hC : Vl.ck 5 0 0 S = C) :
  Calls Tryz.prog 106 #[.string ⟨l.toArray⟩] w fun e w' => e = .returned (.tuple #[.agg #[.int .i64 5, .int .i64 0, .int .u64 0, .string ⟨(S : List UInt8).toArray⟩], .string ⟨(R : List UInt8).toArray⟩, .int .i64 C]) ∧ Below w.heap.size w w' := by
 have hsz : 0 < (ByteArray.mk l.toArray).size := h0
 have hba : (ByteArray.mk l.toArray)[0] = l[0] := byte_at l 0 h0
 have hie : l.isEmpty = false := by cases l with | nil => exact absurd h0 (by decide) | cons _ _ => rfl
 have hnn : ¬ l = [] := fun e => by subst e; exact absurd h0 (by decide)
 have hl1 : (1 : Int) ≤ (l.length : Int) := by omega
 have hwK : wrap64 (l[0].toNat : Int) = 5 := by rw [← hK]; have := l[0].toNat_lt; exact wrap_in _ (by omega) (by omega)
 have ct := cut_from l 1
 rw [hT] at ct
 have HS := zh (za hl hr)
 clear hl hr
 have HC := zh hC
 clear hC
 clear hT
 go_enter Tryz.func106, Tryz.ntmps106
 go_wp2_with fail
 refine (drt_is T S R 0 _ HS.out.1 HS.out.2).mono ?_
 rintro e w2 ⟨rfl, hb⟩
 have k2 := ((Blk.new w #[.int .i64 0, .int .i64 0, .int .u64 0, .string ⟨([] : List UInt8).toArray⟩] 25).alloc _).below hb
 have m2 := (Blk.new' (w.alloc (.cells #[.int .i64 0, .int .i64 0, .int .u64 0, .string ⟨([] : List UInt8).toArray⟩] 25)) #[.int .i64 5, .int .i64 0, .int .u64 0, .string ⟨([] : List UInt8).toArray⟩] 25 (w.heap.size + 1) (by simp)).below hb
 have c1 := m2.cell 3
 have f1 := m2.frozen 3
 have p1 := m2.setAt 3 (.string ⟨S.toArray⟩)
 have p0 := k2.otherAt (show w.heap.size ≠ w.heap.size + 1 by omega) 3 (.string ⟨S.toArray⟩)
 have pB := (old_2 hb).setCell (p := ⟨w.heap.size + 1, 3, none⟩) (show w.heap.size ≤ w.heap.size + 1 by omega) (.string ⟨S.toArray⟩)
 obtain ⟨W3, hW3⟩ : ∃ W3, w2.setCell ⟨w.heap.size + 1, 3, none⟩ (.string ⟨S.toArray⟩) = W3 := ⟨_, rfl⟩
 rw [hW3] at p0 p1 pB
 simp at c1
 have PB := zh pB
 clear hb k2 m2 pB
 have d0 := p1.cell 0
 have d1 := p1.cell 1
 have d2 := p1.cell 2
 have d3 := p1.cell 3
 simp at d0 d1 d2 d3
 have P0 := zh p0
 have P1 := zh p1
 clear p0 p1
 go_wp2_with fail
 refine (rcheck_is 5 0 0 C S _ u0 HC.out).mono ?_
 rintro e w4 ⟨rfl, hb⟩
 have BF := zh (step0 PB.out hb)
 have k4 := P0.out.below hb
 have m4 := P1.out.below hb
 clear hb
 have g0 := k4.cell 0
 have g1 := k4.cell 1
 have g2 := k4.cell 2
 have g3 := k4.cell 3
 have t0 := k4.frozen 0
 have t1 := k4.frozen 1
 have t2 := k4.frozen 2
 have t3 := k4.frozen 3
 simp at g0 g1 g2 g3
 have v0 := m4.cell 0
 have v1 := m4.cell 1
 have v2 := m4.cell 2
 have v3 := m4.cell 3
 simp at v0 v1 v2 v3
 clear k4 m4
 go_wp2
 have z := (((BF.out.setCell (p := ⟨w.heap.size, 0, none⟩) (Nat.le_refl _) (.int .i64 5)).setCell (p := ⟨w.heap.size, 1, none⟩) (Nat.le_refl _) (.int .i64 0)).setCell (p := ⟨w.heap.size, 2, none⟩) (Nat.le_refl _) (.int .u64 0)).setCell (p := ⟨w.heap.size, 3, none⟩) (Nat.le_refl _) (.string ⟨(S : List UInt8).toArray⟩)
 refine bodyPost_ret (v := .tuple #[.agg #[.int .i64 5, .int .i64 0, .int .u64 0, .string ⟨(S : List UInt8).toArray⟩], .string ⟨(R : List UInt8).toArray⟩, .int .i64 C]) ?_ rfl ⟨rfl, z⟩
 simp [results, Tryz.results106, go_sem, g0, g1, g2, g3]
end Go.Proofs.YtmgdciihpjifgaaGreatDoor.Rk
