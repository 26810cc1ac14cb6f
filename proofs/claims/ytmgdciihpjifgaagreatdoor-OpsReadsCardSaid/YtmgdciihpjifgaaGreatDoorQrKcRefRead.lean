/-
 What the document's Read answers of any text, kind by kind. Conditions: the bounds named in each theorem.
-/
import Derived.Test.YtmgdciihpjifgaaGreatDoorQrKcRead
import Derived.Test.YtmgdciihpjifgaaGreatDoorQrKcRefPut
set_option maxHeartbeats 2000000
namespace Go.Proofs.YtmgdciihpjifgaaGreatDoor
open Go.RowKit
theorem number_x (l : List UInt8) (X : Int) (w : World) (hl : 8 ≤ l.length) (hX : (Kc.nm (l.take 8) : Int) = X) :
  Calls Tryz.prog 116 #[.string ⟨l.toArray⟩] w fun e w' => e = .returned (.int .u64 X) ∧ w = w' := by
 subst hX; exact number_is l w hl
theorem rback_x (x X : Int) (o : Bool) (w : World) (hx : Rl.U x) (hX : Rl.bk x = X) (ho : Rl.bo x = o) :
  Calls Tryz.prog 117 #[.int .u64 x] w fun e w' => e = .returned (.tuple #[.int .u64 X, .bool o]) ∧ w = w' := by
 subst hX ho; exact refBack_any x w hx
theorem rplain_x (l S R : List UInt8) (e : Int) (w : World) (hl : l.length ≤ 1000000) (h : Kc.un l = (S, R, e)) :
  Calls Tryz.prog 118 #[.string ⟨l.toArray⟩] w fun x w' => x = .returned (.tuple #[.string ⟨S.toArray⟩, .string ⟨R.toArray⟩, .int .i64 e]) ∧ Below w.heap.size w w' := by
 have := rplain_is l w hl
 rw [h] at this
 exact this
theorem fixed_0 (w : World) : Calls Tryz.prog 115 #[.int .i64 0] w fun e w' => e = .returned (.int .i64 0) ∧ w = w' := by
 go_enter Tryz.func115, Tryz.ntmps115
 go_wp2
 go_ret
 exact ⟨rfl, rfl⟩
theorem fixed_1 (w : World) : Calls Tryz.prog 115 #[.int .i64 1] w fun e w' => e = .returned (.int .i64 1) ∧ w = w' := by
 go_enter Tryz.func115, Tryz.ntmps115
 go_wp2
 go_ret
 exact ⟨rfl, rfl⟩
theorem fixed_2 (w : World) : Calls Tryz.prog 115 #[.int .i64 2] w fun e w' => e = .returned (.int .i64 8) ∧ w = w' := by
 go_enter Tryz.func115, Tryz.ntmps115
 go_wp2
 go_ret
 exact ⟨rfl, rfl⟩
theorem fixed_3 (w : World) : Calls Tryz.prog 115 #[.int .i64 3] w fun e w' => e = .returned (.int .i64 8) ∧ w = w' := by
 go_enter Tryz.func115, Tryz.ntmps115
 go_wp2
 go_ret
 exact ⟨rfl, rfl⟩
theorem fixed_4 (w : World) : Calls Tryz.prog 115 #[.int .i64 4] w fun e w' => e = .returned (.int .i64 0) ∧ w = w' := by
 go_enter Tryz.func115, Tryz.ntmps115
 go_wp2
 go_ret
 exact ⟨rfl, rfl⟩
theorem fixed_5 (w : World) : Calls Tryz.prog 115 #[.int .i64 5] w fun e w' => e = .returned (.int .i64 0) ∧ w = w' := by
 go_enter Tryz.func115, Tryz.ntmps115
 go_wp2
 go_ret
 exact ⟨rfl, rfl⟩
theorem rread_nil (w : World) :
  Calls Tryz.prog 95 #[.string ⟨([] : List UInt8).toArray⟩] w fun e w' => e = .returned (.tuple #[.agg #[.int .i64 0, .int .i64 0, .int .u64 0, .string ⟨([] : List UInt8).toArray⟩], .string ⟨([] : List UInt8).toArray⟩, .int .i64 3]) ∧ Below w.heap.size w w' := by
 go_enter Tryz.func95, Tryz.ntmps95
 go_wp2
 refine bodyPost_ret (v := .tuple #[.agg #[.int .i64 0, .int .i64 0, .int .u64 0, .string ⟨([] : List UInt8).toArray⟩], .string ⟨([] : List UInt8).toArray⟩, .int .i64 3]) ?_ rfl ⟨rfl, below1 _ _⟩
 simp [results, Tryz.results95, go_sem]
theorem rread_kind (l : List UInt8) (K : Int) (w : World) (h0 : 0 < l.length) (hK : (l[0].toNat : Int) = K) (h5 : 5 < K) :
  Calls Tryz.prog 95 #[.string ⟨l.toArray⟩] w fun e w' => e = .returned (.tuple #[.agg #[.int .i64 0, .int .i64 0, .int .u64 0, .string ⟨([] : List UInt8).toArray⟩], .string ⟨([] : List UInt8).toArray⟩, .int .i64 4]) ∧ Below w.heap.size w w' := by
 have hsz : 0 < (ByteArray.mk l.toArray).size := h0
 have hba : (ByteArray.mk l.toArray)[0] = l[0] := byte_at l 0 h0
 have hl0 : ((l.length : Int) == 0) = false := beq_f (by omega)
 have hl1 : (1 : Int) ≤ (l.length : Int) := by omega
 have hwK : wrap64 K = K := by rw [← hK]; have := l[0].toNat_lt; exact wrap_in _ (by omega) (by omega)
 go_enter Tryz.func95, Tryz.ntmps95
 go_wp2
 refine bodyPost_ret (v := .tuple #[.agg #[.int .i64 0, .int .i64 0, .int .u64 0, .string ⟨([] : List UInt8).toArray⟩], .string ⟨([] : List UInt8).toArray⟩, .int .i64 4]) ?_ rfl ⟨rfl, below2s _ _ _⟩
 simp [results, Tryz.results95, go_sem]
theorem rread_1s (l : List UInt8) (T : List UInt8) (w : World) (h0 : 0 < l.length) (hK : (l[0].toNat : Int) = 1) (hT : l.drop 1 = T) (hs : T.length < 1) :
  Calls Tryz.prog 95 #[.string ⟨l.toArray⟩] w fun e w' => e = .returned (.tuple #[.agg #[.int .i64 0, .int .i64 0, .int .u64 0, .string ⟨([] : List UInt8).toArray⟩], .string ⟨([] : List UInt8).toArray⟩, .int .i64 3]) ∧ Below w.heap.size w w' := by
 have hsz : 0 < (ByteArray.mk l.toArray).size := h0
 have hba : (ByteArray.mk l.toArray)[0] = l[0] := byte_at l 0 h0
 have hl0 : ((l.length : Int) == 0) = false := beq_f (by omega)
 have hl1 : (1 : Int) ≤ (l.length : Int) := by omega
 have ct := cut_from l 1
 rw [hT] at ct
 have s1 : (T.length : Int) < 1 := by omega
 clear hs
 clear hT
 go_enter Tryz.func95, Tryz.ntmps95
 go_wp2_with fail
 refine (fixed_1 _).mono ?_
 rintro e w' ⟨rfl, rfl⟩
 go_wp2
 refine bodyPost_ret (v := .tuple #[.agg #[.int .i64 0, .int .i64 0, .int .u64 0, .string ⟨([] : List UInt8).toArray⟩], .string ⟨([] : List UInt8).toArray⟩, .int .i64 3]) ?_ rfl ⟨rfl, below2s _ _ _⟩
 simp [results, Tryz.results95, go_sem]
theorem rread_2s (l : List UInt8) (T : List UInt8) (w : World) (h0 : 0 < l.length) (hK : (l[0].toNat : Int) = 2) (hT : l.drop 1 = T) (hs : T.length < 8) :
  Calls Tryz.prog 95 #[.string ⟨l.toArray⟩] w fun e w' => e = .returned (.tuple #[.agg #[.int .i64 0, .int .i64 0, .int .u64 0, .string ⟨([] : List UInt8).toArray⟩], .string ⟨([] : List UInt8).toArray⟩, .int .i64 3]) ∧ Below w.heap.size w w' := by
 have hsz : 0 < (ByteArray.mk l.toArray).size := h0
 have hba : (ByteArray.mk l.toArray)[0] = l[0] := byte_at l 0 h0
 have hl0 : ((l.length : Int) == 0) = false := beq_f (by omega)
 have hl1 : (1 : Int) ≤ (l.length : Int) := by omega
 have ct := cut_from l 1
 rw [hT] at ct
 have s1 : (T.length : Int) < 8 := by omega
 clear hs
 clear hT
 go_enter Tryz.func95, Tryz.ntmps95
 go_wp2_with fail
 refine (fixed_2 _).mono ?_
 rintro e w' ⟨rfl, rfl⟩
 go_wp2
 refine bodyPost_ret (v := .tuple #[.agg #[.int .i64 0, .int .i64 0, .int .u64 0, .string ⟨([] : List UInt8).toArray⟩], .string ⟨([] : List UInt8).toArray⟩, .int .i64 3]) ?_ rfl ⟨rfl, below2s _ _ _⟩
 simp [results, Tryz.results95, go_sem]
theorem rread_3s (l : List UInt8) (T : List UInt8) (w : World) (h0 : 0 < l.length) (hK : (l[0].toNat : Int) = 3) (hT : l.drop 1 = T) (hs : T.length < 8) :
  Calls Tryz.prog 95 #[.string ⟨l.toArray⟩] w fun e w' => e = .returned (.tuple #[.agg #[.int .i64 0, .int .i64 0, .int .u64 0, .string ⟨([] : List UInt8).toArray⟩], .string ⟨([] : List UInt8).toArray⟩, .int .i64 3]) ∧ Below w.heap.size w w' := by
 have hsz : 0 < (ByteArray.mk l.toArray).size := h0
 have hba : (ByteArray.mk l.toArray)[0] = l[0] := byte_at l 0 h0
 have hl0 : ((l.length : Int) == 0) = false := beq_f (by omega)
 have hl1 : (1 : Int) ≤ (l.length : Int) := by omega
 have ct := cut_from l 1
 rw [hT] at ct
 have s1 : (T.length : Int) < 8 := by omega
 clear hs
 clear hT
 go_enter Tryz.func95, Tryz.ntmps95
 go_wp2_with fail
 refine (fixed_3 _).mono ?_
 rintro e w' ⟨rfl, rfl⟩
 go_wp2
 refine bodyPost_ret (v := .tuple #[.agg #[.int .i64 0, .int .i64 0, .int .u64 0, .string ⟨([] : List UInt8).toArray⟩], .string ⟨([] : List UInt8).toArray⟩, .int .i64 3]) ?_ rfl ⟨rfl, below2s _ _ _⟩
 simp [results, Tryz.results95, go_sem]
theorem rread_0 (l : List UInt8) (T : List UInt8) (w : World) (h0 : 0 < l.length) (hK : (l[0].toNat : Int) = 0) (hT : l.drop 1 = T) (hU : Rl.U 0) (hC : Vl.ck 0 0 0 ([] : List UInt8) = 0) :
  Calls Tryz.prog 95 #[.string ⟨l.toArray⟩] w fun e w' => e = .returned (.tuple #[.agg #[.int .i64 0, .int .i64 0, .int .u64 0, .string ⟨(([] : List UInt8)).toArray⟩], .string ⟨(T).toArray⟩, .int .i64 0]) ∧ Below w.heap.size w w' := by
 have hsz : 0 < (ByteArray.mk l.toArray).size := h0
 have hba : (ByteArray.mk l.toArray)[0] = l[0] := byte_at l 0 h0
 have hl0 : ((l.length : Int) == 0) = false := beq_f (by omega)
 have hl1 : (1 : Int) ≤ (l.length : Int) := by omega
 have ct := cut_from l 1
 rw [hT] at ct
 have s1 : decide ((T.length : Int) < 0) = false := by rw [decide_eq_false_iff_not]; omega
 have cr : (ByteArray.mk T.toArray).extract 0 T.length = ⟨T.toArray⟩ := cut_from T 0
 have HC := zh hC
 clear hC
 clear hT
 go_enter Tryz.func95, Tryz.ntmps95
 go_wp2_with fail
 refine (fixed_0 _).mono ?_
 rintro e w' ⟨rfl, rfl⟩
 go_wp2_with fail
 refine (fixed_0 _).mono ?_
 rintro e w' ⟨rfl, rfl⟩
 go_wp2_with fail
 refine (rcheck_is 0 0 0 0 ([] : List UInt8) _ hU HC.out).mono ?_
 rintro e w3 ⟨rfl, hb⟩
 have k3 := ((Blk.new w #[.int .i64 0, .int .i64 0, .int .u64 0, .string ⟨([] : List UInt8).toArray⟩] 25).alloc (.cells #[.int .i64 0, .int .i64 0, .int .u64 0, .string ⟨(([] : List UInt8)).toArray⟩] 25)).below hb
 have m3 := (Blk.new' (w.alloc (.cells #[.int .i64 0, .int .i64 0, .int .u64 0, .string ⟨([] : List UInt8).toArray⟩] 25)) (w.heap.size + 1) #[.int .i64 0, .int .i64 0, .int .u64 0, .string ⟨(([] : List UInt8)).toArray⟩] 25 (by simp)).below hb
 have B3 := zh (old_2 hb)
 have g0 := k3.cell 0
 have g1 := k3.cell 1
 have g2 := k3.cell 2
 have g3 := k3.cell 3
 have t0 := k3.frozen 0
 have t1 := k3.frozen 1
 have t2 := k3.frozen 2
 have t3 := k3.frozen 3
 simp at g0 g1 g2 g3
 obtain ⟨v0, v1, v2, v3⟩ := vbox m3
 clear hb k3 m3
 go_wp2
 have z := (((B3.out.setCell (p := ⟨w.heap.size, 0, none⟩) (Nat.le_refl _) (.int .i64 0)).setCell (p := ⟨w.heap.size, 1, none⟩) (Nat.le_refl _) (.int .i64 0)).setCell (p := ⟨w.heap.size, 2, none⟩) (Nat.le_refl _) (.int .u64 0)).setCell (p := ⟨w.heap.size, 3, none⟩) (Nat.le_refl _) (.string ⟨(([] : List UInt8)).toArray⟩)
 refine bodyPost_ret (v := .tuple #[.agg #[.int .i64 0, .int .i64 0, .int .u64 0, .string ⟨(([] : List UInt8)).toArray⟩], .string ⟨(T).toArray⟩, .int .i64 0]) ?_ rfl ⟨rfl, z⟩
 simp [results, Tryz.results95, go_sem, g0, g1, g2, g3]
theorem rread_0b (l : List UInt8) (T : List UInt8) (C : Int) (w : World) (h0 : 0 < l.length) (hK : (l[0].toNat : Int) = 0) (hT : l.drop 1 = T) (hU : Rl.U 0) (hC : Vl.ck 0 0 0 ([] : List UInt8) = C) (hc : C ≠ 0) :
  Calls Tryz.prog 95 #[.string ⟨l.toArray⟩] w fun e w' => e = .returned (.tuple #[.agg #[.int .i64 0, .int .i64 0, .int .u64 0, .string ⟨([] : List UInt8).toArray⟩], .string ⟨([] : List UInt8).toArray⟩, .int .i64 4]) ∧ Below w.heap.size w w' := by
 have hsz : 0 < (ByteArray.mk l.toArray).size := h0
 have hba : (ByteArray.mk l.toArray)[0] = l[0] := byte_at l 0 h0
 have hl0 : ((l.length : Int) == 0) = false := beq_f (by omega)
 have hl1 : (1 : Int) ≤ (l.length : Int) := by omega
 have ct := cut_from l 1
 rw [hT] at ct
 have s1 : decide ((T.length : Int) < 0) = false := by rw [decide_eq_false_iff_not]; omega
 have cr : (ByteArray.mk T.toArray).extract 0 T.length = ⟨T.toArray⟩ := cut_from T 0
 have HC := zh hC
 clear hC
 have e1 := bne_t hc
 have e2 := beq_f hc
 clear hT
 go_enter Tryz.func95, Tryz.ntmps95
 go_wp2_with fail
 refine (fixed_0 _).mono ?_
 rintro e w' ⟨rfl, rfl⟩
 go_wp2_with fail
 refine (fixed_0 _).mono ?_
 rintro e w' ⟨rfl, rfl⟩
 go_wp2_with fail
 refine (rcheck_is 0 0 0 C ([] : List UInt8) _ hU HC.out).mono ?_
 rintro e w3 ⟨rfl, hb⟩
 have k3 := ((Blk.new w #[.int .i64 0, .int .i64 0, .int .u64 0, .string ⟨([] : List UInt8).toArray⟩] 25).alloc (.cells #[.int .i64 0, .int .i64 0, .int .u64 0, .string ⟨(([] : List UInt8)).toArray⟩] 25)).below hb
 have m3 := (Blk.new' (w.alloc (.cells #[.int .i64 0, .int .i64 0, .int .u64 0, .string ⟨([] : List UInt8).toArray⟩] 25)) (w.heap.size + 1) #[.int .i64 0, .int .i64 0, .int .u64 0, .string ⟨(([] : List UInt8)).toArray⟩] 25 (by simp)).below hb
 have B3 := zh (old_2 hb)
 have g0 := k3.cell 0
 have g1 := k3.cell 1
 have g2 := k3.cell 2
 have g3 := k3.cell 3
 have t0 := k3.frozen 0
 have t1 := k3.frozen 1
 have t2 := k3.frozen 2
 have t3 := k3.frozen 3
 simp at g0 g1 g2 g3
 obtain ⟨v0, v1, v2, v3⟩ := vbox m3
 clear hb k3 m3
 go_wp2
 have z := (((B3.out.setCell (p := ⟨w.heap.size, 0, none⟩) (Nat.le_refl _) (.int .i64 0)).setCell (p := ⟨w.heap.size, 1, none⟩) (Nat.le_refl _) (.int .i64 0)).setCell (p := ⟨w.heap.size, 2, none⟩) (Nat.le_refl _) (.int .u64 0)).setCell (p := ⟨w.heap.size, 3, none⟩) (Nat.le_refl _) (.string ⟨(([] : List UInt8)).toArray⟩)
 refine bodyPost_ret (v := .tuple #[.agg #[.int .i64 0, .int .i64 0, .int .u64 0, .string ⟨(([] : List UInt8)).toArray⟩], .string ⟨(([] : List UInt8)).toArray⟩, .int .i64 4]) ?_ rfl ⟨rfl, z⟩
 simp [results, Tryz.results95, go_sem, g0, g1, g2, g3]
theorem rread_1 (l : List UInt8) (T R : List UInt8) (X : Int) (w : World) (h0 : 0 < l.length) (hK : (l[0].toNat : Int) = 1) (hT : l.drop 1 = T) (hl : 1 ≤ T.length) (hR : T.drop 1 = R) (hX : ((T[0]'(by omega)).toNat : Int) = X) (hw : wrap64 X = X) (hU : Rl.U 0) (hC : Vl.ck 1 X 0 ([] : List UInt8) = 0) :
  Calls Tryz.prog 95 #[.string ⟨l.toArray⟩] w fun e w' => e = .returned (.tuple #[.agg #[.int .i64 1, .int .i64 X, .int .u64 0, .string ⟨(([] : List UInt8)).toArray⟩], .string ⟨(R).toArray⟩, .int .i64 0]) ∧ Below w.heap.size w w' := by
 have hsz : 0 < (ByteArray.mk l.toArray).size := h0
 have hba : (ByteArray.mk l.toArray)[0] = l[0] := byte_at l 0 h0
 have hl0 : ((l.length : Int) == 0) = false := beq_f (by omega)
 have hl1 : (1 : Int) ≤ (l.length : Int) := by omega
 have ct := cut_from l 1
 rw [hT] at ct
 have s1 : decide ((T.length : Int) < 1) = false := by rw [decide_eq_false_iff_not]; omega
 have s2 : (1 : Int) ≤ (T.length : Int) := by omega
 have cr := cut_from T 1
 rw [hR] at cr
 have hb1 : 0 < (ByteArray.mk T.toArray).size := hl
 have hb2 : (ByteArray.mk T.toArray)[0] = T[0] := byte_at T 0 hl
 clear hR
 have HC := zh hC
 clear hC
 clear hT
 go_enter Tryz.func95, Tryz.ntmps95
 go_wp2_with fail
 refine (fixed_1 _).mono ?_
 rintro e w' ⟨rfl, rfl⟩
 go_wp2_with fail
 refine (fixed_1 _).mono ?_
 rintro e w' ⟨rfl, rfl⟩
 go_wp2_with fail
 refine (rcheck_is 1 X 0 0 ([] : List UInt8) _ hU HC.out).mono ?_
 rintro e w3 ⟨rfl, hb⟩
 have k3 := ((Blk.new w #[.int .i64 0, .int .i64 0, .int .u64 0, .string ⟨([] : List UInt8).toArray⟩] 25).alloc (.cells #[.int .i64 1, .int .i64 X, .int .u64 0, .string ⟨(([] : List UInt8)).toArray⟩] 25)).below hb
 have m3 := (Blk.new' (w.alloc (.cells #[.int .i64 0, .int .i64 0, .int .u64 0, .string ⟨([] : List UInt8).toArray⟩] 25)) (w.heap.size + 1) #[.int .i64 1, .int .i64 X, .int .u64 0, .string ⟨(([] : List UInt8)).toArray⟩] 25 (by simp)).below hb
 have B3 := zh (old_2 hb)
 have g0 := k3.cell 0
 have g1 := k3.cell 1
 have g2 := k3.cell 2
 have g3 := k3.cell 3
 have t0 := k3.frozen 0
 have t1 := k3.frozen 1
 have t2 := k3.frozen 2
 have t3 := k3.frozen 3
 simp at g0 g1 g2 g3
 obtain ⟨v0, v1, v2, v3⟩ := vbox m3
 clear hb k3 m3
 go_wp2
 have z := (((B3.out.setCell (p := ⟨w.heap.size, 0, none⟩) (Nat.le_refl _) (.int .i64 1)).setCell (p := ⟨w.heap.size, 1, none⟩) (Nat.le_refl _) (.int .i64 X)).setCell (p := ⟨w.heap.size, 2, none⟩) (Nat.le_refl _) (.int .u64 0)).setCell (p := ⟨w.heap.size, 3, none⟩) (Nat.le_refl _) (.string ⟨(([] : List UInt8)).toArray⟩)
 refine bodyPost_ret (v := .tuple #[.agg #[.int .i64 1, .int .i64 X, .int .u64 0, .string ⟨(([] : List UInt8)).toArray⟩], .string ⟨(R).toArray⟩, .int .i64 0]) ?_ rfl ⟨rfl, z⟩
 simp [results, Tryz.results95, go_sem, g0, g1, g2, g3]
theorem rread_1b (l : List UInt8) (T R : List UInt8) (X : Int) (C : Int) (w : World) (h0 : 0 < l.length) (hK : (l[0].toNat : Int) = 1) (hT : l.drop 1 = T) (hl : 1 ≤ T.length) (hR : T.drop 1 = R) (hX : ((T[0]'(by omega)).toNat : Int) = X) (hw : wrap64 X = X) (hU : Rl.U 0) (hC : Vl.ck 1 X 0 ([] : List UInt8) = C) (hc : C ≠ 0) :
  Calls Tryz.prog 95 #[.string ⟨l.toArray⟩] w fun e w' => e = .returned (.tuple #[.agg #[.int .i64 0, .int .i64 0, .int .u64 0, .string ⟨([] : List UInt8).toArray⟩], .string ⟨([] : List UInt8).toArray⟩, .int .i64 4]) ∧ Below w.heap.size w w' := by
 have hsz : 0 < (ByteArray.mk l.toArray).size := h0
 have hba : (ByteArray.mk l.toArray)[0] = l[0] := byte_at l 0 h0
 have hl0 : ((l.length : Int) == 0) = false := beq_f (by omega)
 have hl1 : (1 : Int) ≤ (l.length : Int) := by omega
 have ct := cut_from l 1
 rw [hT] at ct
 have s1 : decide ((T.length : Int) < 1) = false := by rw [decide_eq_false_iff_not]; omega
 have s2 : (1 : Int) ≤ (T.length : Int) := by omega
 have cr := cut_from T 1
 rw [hR] at cr
 have hb1 : 0 < (ByteArray.mk T.toArray).size := hl
 have hb2 : (ByteArray.mk T.toArray)[0] = T[0] := byte_at T 0 hl
 clear hR
 have HC := zh hC
 clear hC
 have e1 := bne_t hc
 have e2 := beq_f hc
 clear hT
 go_enter Tryz.func95, Tryz.ntmps95
 go_wp2_with fail
 refine (fixed_1 _).mono ?_
 rintro e w' ⟨rfl, rfl⟩
 go_wp2_with fail
 refine (fixed_1 _).mono ?_
 rintro e w' ⟨rfl, rfl⟩
 go_wp2_with fail
 refine (rcheck_is 1 X 0 C ([] : List UInt8) _ hU HC.out).mono ?_
 rintro e w3 ⟨rfl, hb⟩
 have k3 := ((Blk.new w #[.int .i64 0, .int .i64 0, .int .u64 0, .string ⟨([] : List UInt8).toArray⟩] 25).alloc (.cells #[.int .i64 1, .int .i64 X, .int .u64 0, .string ⟨(([] : List UInt8)).toArray⟩] 25)).below hb
 have m3 := (Blk.new' (w.alloc (.cells #[.int .i64 0, .int .i64 0, .int .u64 0, .string ⟨([] : List UInt8).toArray⟩] 25)) (w.heap.size + 1) #[.int .i64 1, .int .i64 X, .int .u64 0, .string ⟨(([] : List UInt8)).toArray⟩] 25 (by simp)).below hb
 have B3 := zh (old_2 hb)
 have g0 := k3.cell 0
 have g1 := k3.cell 1
 have g2 := k3.cell 2
 have g3 := k3.cell 3
 have t0 := k3.frozen 0
 have t1 := k3.frozen 1
 have t2 := k3.frozen 2
 have t3 := k3.frozen 3
 simp at g0 g1 g2 g3
 obtain ⟨v0, v1, v2, v3⟩ := vbox m3
 clear hb k3 m3
 go_wp2
 have z := (((B3.out.setCell (p := ⟨w.heap.size, 0, none⟩) (Nat.le_refl _) (.int .i64 0)).setCell (p := ⟨w.heap.size, 1, none⟩) (Nat.le_refl _) (.int .i64 0)).setCell (p := ⟨w.heap.size, 2, none⟩) (Nat.le_refl _) (.int .u64 0)).setCell (p := ⟨w.heap.size, 3, none⟩) (Nat.le_refl _) (.string ⟨(([] : List UInt8)).toArray⟩)
 refine bodyPost_ret (v := .tuple #[.agg #[.int .i64 0, .int .i64 0, .int .u64 0, .string ⟨(([] : List UInt8)).toArray⟩], .string ⟨(([] : List UInt8)).toArray⟩, .int .i64 4]) ?_ rfl ⟨rfl, z⟩
 simp [results, Tryz.results95, go_sem, g0, g1, g2, g3]
theorem rread_2 (l : List UInt8) (T R : List UInt8) (X N : Int) (w : World) (h0 : 0 < l.length) (hK : (l[0].toNat : Int) = 2) (hT : l.drop 1 = T) (hl : 8 ≤ T.length) (hR : T.drop 8 = R) (hX : (Kc.nm (T.take 8) : Int) = X) (hw : wrap64 (bits BinOp.xor IntKind.u64 X 9223372036854775808) = N) (hU : Rl.U 0) (hC : Vl.ck 2 N 0 ([] : List UInt8) = 0) :
  Calls Tryz.prog 95 #[.string ⟨l.toArray⟩] w fun e w' => e = .returned (.tuple #[.agg #[.int .i64 2, .int .i64 N, .int .u64 0, .string ⟨(([] : List UInt8)).toArray⟩], .string ⟨(R).toArray⟩, .int .i64 0]) ∧ Below w.heap.size w w' := by
 have hsz : 0 < (ByteArray.mk l.toArray).size := h0
 have hba : (ByteArray.mk l.toArray)[0] = l[0] := byte_at l 0 h0
 have hl0 : ((l.length : Int) == 0) = false := beq_f (by omega)
 have hl1 : (1 : Int) ≤ (l.length : Int) := by omega
 have ct := cut_from l 1
 rw [hT] at ct
 have s1 : decide ((T.length : Int) < 8) = false := by rw [decide_eq_false_iff_not]; omega
 have s2 : (8 : Int) ≤ (T.length : Int) := by omega
 have cr := cut_from T 8
 rw [hR] at cr
 have H := zh (za hl hX)
 clear hR hl hX
 have HC := zh hC
 clear hC
 clear hT
 go_enter Tryz.func95, Tryz.ntmps95
 go_wp2_with fail
 refine (fixed_2 _).mono ?_
 rintro e w' ⟨rfl, rfl⟩
 go_wp2_with fail
 refine (fixed_2 _).mono ?_
 rintro e w' ⟨rfl, rfl⟩
 go_wp2_with fail
 refine (number_x T X _ H.out.1 H.out.2).mono ?_
 rintro e w' ⟨rfl, rfl⟩
 go_wp2_with fail
 refine (rcheck_is 2 N 0 0 ([] : List UInt8) _ hU HC.out).mono ?_
 rintro e w3 ⟨rfl, hb⟩
 have k3 := ((Blk.new w #[.int .i64 0, .int .i64 0, .int .u64 0, .string ⟨([] : List UInt8).toArray⟩] 25).alloc (.cells #[.int .i64 2, .int .i64 N, .int .u64 0, .string ⟨(([] : List UInt8)).toArray⟩] 25)).below hb
 have m3 := (Blk.new' (w.alloc (.cells #[.int .i64 0, .int .i64 0, .int .u64 0, .string ⟨([] : List UInt8).toArray⟩] 25)) (w.heap.size + 1) #[.int .i64 2, .int .i64 N, .int .u64 0, .string ⟨(([] : List UInt8)).toArray⟩] 25 (by simp)).below hb
 have B3 := zh (old_2 hb)
 have g0 := k3.cell 0
 have g1 := k3.cell 1
 have g2 := k3.cell 2
 have g3 := k3.cell 3
 have t0 := k3.frozen 0
 have t1 := k3.frozen 1
 have t2 := k3.frozen 2
 have t3 := k3.frozen 3
 simp at g0 g1 g2 g3
 obtain ⟨v0, v1, v2, v3⟩ := vbox m3
 clear hb k3 m3
 go_wp2
 have z := (((B3.out.setCell (p := ⟨w.heap.size, 0, none⟩) (Nat.le_refl _) (.int .i64 2)).setCell (p := ⟨w.heap.size, 1, none⟩) (Nat.le_refl _) (.int .i64 N)).setCell (p := ⟨w.heap.size, 2, none⟩) (Nat.le_refl _) (.int .u64 0)).setCell (p := ⟨w.heap.size, 3, none⟩) (Nat.le_refl _) (.string ⟨(([] : List UInt8)).toArray⟩)
 refine bodyPost_ret (v := .tuple #[.agg #[.int .i64 2, .int .i64 N, .int .u64 0, .string ⟨(([] : List UInt8)).toArray⟩], .string ⟨(R).toArray⟩, .int .i64 0]) ?_ rfl ⟨rfl, z⟩
 simp [results, Tryz.results95, go_sem, g0, g1, g2, g3]
theorem rread_2b (l : List UInt8) (T R : List UInt8) (X N : Int) (C : Int) (w : World) (h0 : 0 < l.length) (hK : (l[0].toNat : Int) = 2) (hT : l.drop 1 = T) (hl : 8 ≤ T.length) (hR : T.drop 8 = R) (hX : (Kc.nm (T.take 8) : Int) = X) (hw : wrap64 (bits BinOp.xor IntKind.u64 X 9223372036854775808) = N) (hU : Rl.U 0) (hC : Vl.ck 2 N 0 ([] : List UInt8) = C) (hc : C ≠ 0) :
  Calls Tryz.prog 95 #[.string ⟨l.toArray⟩] w fun e w' => e = .returned (.tuple #[.agg #[.int .i64 0, .int .i64 0, .int .u64 0, .string ⟨([] : List UInt8).toArray⟩], .string ⟨([] : List UInt8).toArray⟩, .int .i64 4]) ∧ Below w.heap.size w w' := by
 have hsz : 0 < (ByteArray.mk l.toArray).size := h0
 have hba : (ByteArray.mk l.toArray)[0] = l[0] := byte_at l 0 h0
 have hl0 : ((l.length : Int) == 0) = false := beq_f (by omega)
 have hl1 : (1 : Int) ≤ (l.length : Int) := by omega
 have ct := cut_from l 1
 rw [hT] at ct
 have s1 : decide ((T.length : Int) < 8) = false := by rw [decide_eq_false_iff_not]; omega
 have s2 : (8 : Int) ≤ (T.length : Int) := by omega
 have cr := cut_from T 8
 rw [hR] at cr
 have H := zh (za hl hX)
 clear hR hl hX
 have HC := zh hC
 clear hC
 have e1 := bne_t hc
 have e2 := beq_f hc
 clear hT
 go_enter Tryz.func95, Tryz.ntmps95
 go_wp2_with fail
 refine (fixed_2 _).mono ?_
 rintro e w' ⟨rfl, rfl⟩
 go_wp2_with fail
 refine (fixed_2 _).mono ?_
 rintro e w' ⟨rfl, rfl⟩
 go_wp2_with fail
 refine (number_x T X _ H.out.1 H.out.2).mono ?_
 rintro e w' ⟨rfl, rfl⟩
 go_wp2_with fail
 refine (rcheck_is 2 N 0 C ([] : List UInt8) _ hU HC.out).mono ?_
 rintro e w3 ⟨rfl, hb⟩
 have k3 := ((Blk.new w #[.int .i64 0, .int .i64 0, .int .u64 0, .string ⟨([] : List UInt8).toArray⟩] 25).alloc (.cells #[.int .i64 2, .int .i64 N, .int .u64 0, .string ⟨(([] : List UInt8)).toArray⟩] 25)).below hb
 have m3 := (Blk.new' (w.alloc (.cells #[.int .i64 0, .int .i64 0, .int .u64 0, .string ⟨([] : List UInt8).toArray⟩] 25)) (w.heap.size + 1) #[.int .i64 2, .int .i64 N, .int .u64 0, .string ⟨(([] : List UInt8)).toArray⟩] 25 (by simp)).below hb
 have B3 := zh (old_2 hb)
 have g0 := k3.cell 0
 have g1 := k3.cell 1
 have g2 := k3.cell 2
 have g3 := k3.cell 3
 have t0 := k3.frozen 0
 have t1 := k3.frozen 1
 have t2 := k3.frozen 2
 have t3 := k3.frozen 3
 simp at g0 g1 g2 g3
 obtain ⟨v0, v1, v2, v3⟩ := vbox m3
 clear hb k3 m3
 go_wp2
 have z := (((B3.out.setCell (p := ⟨w.heap.size, 0, none⟩) (Nat.le_refl _) (.int .i64 0)).setCell (p := ⟨w.heap.size, 1, none⟩) (Nat.le_refl _) (.int .i64 0)).setCell (p := ⟨w.heap.size, 2, none⟩) (Nat.le_refl _) (.int .u64 0)).setCell (p := ⟨w.heap.size, 3, none⟩) (Nat.le_refl _) (.string ⟨(([] : List UInt8)).toArray⟩)
 refine bodyPost_ret (v := .tuple #[.agg #[.int .i64 0, .int .i64 0, .int .u64 0, .string ⟨(([] : List UInt8)).toArray⟩], .string ⟨(([] : List UInt8)).toArray⟩, .int .i64 4]) ?_ rfl ⟨rfl, z⟩
 simp [results, Tryz.results95, go_sem, g0, g1, g2, g3]
theorem rread_3 (l : List UInt8) (T R : List UInt8) (X Y : Int) (w : World) (h0 : 0 < l.length) (hK : (l[0].toNat : Int) = 3) (hT : l.drop 1 = T) (hl : 8 ≤ T.length) (hR : T.drop 8 = R) (hX : (Kc.nm (T.take 8) : Int) = X) (hx : Rl.U X) (hY : Rl.bk X = Y) (ho : Rl.bo X = true) (hU : Rl.U Y) (hC : Vl.ck 3 0 Y ([] : List UInt8) = 0) :
  Calls Tryz.prog 95 #[.string ⟨l.toArray⟩] w fun e w' => e = .returned (.tuple #[.agg #[.int .i64 3, .int .i64 0, .int .u64 Y, .string ⟨(([] : List UInt8)).toArray⟩], .string ⟨(R).toArray⟩, .int .i64 0]) ∧ Below w.heap.size w w' := by
 have hsz : 0 < (ByteArray.mk l.toArray).size := h0
 have hba : (ByteArray.mk l.toArray)[0] = l[0] := byte_at l 0 h0
 have hl0 : ((l.length : Int) == 0) = false := beq_f (by omega)
 have hl1 : (1 : Int) ≤ (l.length : Int) := by omega
 have ct := cut_from l 1
 rw [hT] at ct
 have s1 : decide ((T.length : Int) < 8) = false := by rw [decide_eq_false_iff_not]; omega
 have s2 : (8 : Int) ≤ (T.length : Int) := by omega
 have cr := cut_from T 8
 rw [hR] at cr
 have H := zh (za hl (za hX (za hx (za hY ho))))
 clear hR hl hX hx hY ho
 have HC := zh hC
 clear hC
 clear hT
 go_enter Tryz.func95, Tryz.ntmps95
 go_wp2_with fail
 refine (fixed_3 _).mono ?_
 rintro e w' ⟨rfl, rfl⟩
 go_wp2_with fail
 refine (fixed_3 _).mono ?_
 rintro e w' ⟨rfl, rfl⟩
 go_wp2_with fail
 refine (number_x T X _ H.out.1 H.out.2.1).mono ?_
 rintro e w' ⟨rfl, rfl⟩
 go_wp2_with fail
 refine (rback_x X Y true _ H.out.2.2.1 H.out.2.2.2.1 H.out.2.2.2.2).mono ?_
 rintro e w' ⟨rfl, rfl⟩
 go_wp2_with fail
 refine (rcheck_is 3 0 Y 0 ([] : List UInt8) _ hU HC.out).mono ?_
 rintro e w3 ⟨rfl, hb⟩
 have k3 := ((Blk.new w #[.int .i64 0, .int .i64 0, .int .u64 0, .string ⟨([] : List UInt8).toArray⟩] 25).alloc (.cells #[.int .i64 3, .int .i64 0, .int .u64 Y, .string ⟨(([] : List UInt8)).toArray⟩] 25)).below hb
 have m3 := (Blk.new' (w.alloc (.cells #[.int .i64 0, .int .i64 0, .int .u64 0, .string ⟨([] : List UInt8).toArray⟩] 25)) (w.heap.size + 1) #[.int .i64 3, .int .i64 0, .int .u64 Y, .string ⟨(([] : List UInt8)).toArray⟩] 25 (by simp)).below hb
 have B3 := zh (old_2 hb)
 have g0 := k3.cell 0
 have g1 := k3.cell 1
 have g2 := k3.cell 2
 have g3 := k3.cell 3
 have t0 := k3.frozen 0
 have t1 := k3.frozen 1
 have t2 := k3.frozen 2
 have t3 := k3.frozen 3
 simp at g0 g1 g2 g3
 obtain ⟨v0, v1, v2, v3⟩ := vbox m3
 clear hb k3 m3
 go_wp2
 have z := (((B3.out.setCell (p := ⟨w.heap.size, 0, none⟩) (Nat.le_refl _) (.int .i64 3)).setCell (p := ⟨w.heap.size, 1, none⟩) (Nat.le_refl _) (.int .i64 0)).setCell (p := ⟨w.heap.size, 2, none⟩) (Nat.le_refl _) (.int .u64 Y)).setCell (p := ⟨w.heap.size, 3, none⟩) (Nat.le_refl _) (.string ⟨(([] : List UInt8)).toArray⟩)
 refine bodyPost_ret (v := .tuple #[.agg #[.int .i64 3, .int .i64 0, .int .u64 Y, .string ⟨(([] : List UInt8)).toArray⟩], .string ⟨(R).toArray⟩, .int .i64 0]) ?_ rfl ⟨rfl, z⟩
 simp [results, Tryz.results95, go_sem, g0, g1, g2, g3]
theorem rread_3b (l : List UInt8) (T R : List UInt8) (X Y : Int) (C : Int) (w : World) (h0 : 0 < l.length) (hK : (l[0].toNat : Int) = 3) (hT : l.drop 1 = T) (hl : 8 ≤ T.length) (hR : T.drop 8 = R) (hX : (Kc.nm (T.take 8) : Int) = X) (hx : Rl.U X) (hY : Rl.bk X = Y) (ho : Rl.bo X = true) (hU : Rl.U Y) (hC : Vl.ck 3 0 Y ([] : List UInt8) = C) (hc : C ≠ 0) :
  Calls Tryz.prog 95 #[.string ⟨l.toArray⟩] w fun e w' => e = .returned (.tuple #[.agg #[.int .i64 0, .int .i64 0, .int .u64 0, .string ⟨([] : List UInt8).toArray⟩], .string ⟨([] : List UInt8).toArray⟩, .int .i64 4]) ∧ Below w.heap.size w w' := by
 have hsz : 0 < (ByteArray.mk l.toArray).size := h0
 have hba : (ByteArray.mk l.toArray)[0] = l[0] := byte_at l 0 h0
 have hl0 : ((l.length : Int) == 0) = false := beq_f (by omega)
 have hl1 : (1 : Int) ≤ (l.length : Int) := by omega
 have ct := cut_from l 1
 rw [hT] at ct
 have s1 : decide ((T.length : Int) < 8) = false := by rw [decide_eq_false_iff_not]; omega
 have s2 : (8 : Int) ≤ (T.length : Int) := by omega
 have cr := cut_from T 8
 rw [hR] at cr
 have H := zh (za hl (za hX (za hx (za hY ho))))
 clear hR hl hX hx hY ho
 have HC := zh hC
 clear hC
 have e1 := bne_t hc
 have e2 := beq_f hc
 clear hT
 go_enter Tryz.func95, Tryz.ntmps95
 go_wp2_with fail
 refine (fixed_3 _).mono ?_
 rintro e w' ⟨rfl, rfl⟩
 go_wp2_with fail
 refine (fixed_3 _).mono ?_
 rintro e w' ⟨rfl, rfl⟩
 go_wp2_with fail
 refine (number_x T X _ H.out.1 H.out.2.1).mono ?_
 rintro e w' ⟨rfl, rfl⟩
 go_wp2_with fail
 refine (rback_x X Y true _ H.out.2.2.1 H.out.2.2.2.1 H.out.2.2.2.2).mono ?_
 rintro e w' ⟨rfl, rfl⟩
 go_wp2_with fail
 refine (rcheck_is 3 0 Y C ([] : List UInt8) _ hU HC.out).mono ?_
 rintro e w3 ⟨rfl, hb⟩
 have k3 := ((Blk.new w #[.int .i64 0, .int .i64 0, .int .u64 0, .string ⟨([] : List UInt8).toArray⟩] 25).alloc (.cells #[.int .i64 3, .int .i64 0, .int .u64 Y, .string ⟨(([] : List UInt8)).toArray⟩] 25)).below hb
 have m3 := (Blk.new' (w.alloc (.cells #[.int .i64 0, .int .i64 0, .int .u64 0, .string ⟨([] : List UInt8).toArray⟩] 25)) (w.heap.size + 1) #[.int .i64 3, .int .i64 0, .int .u64 Y, .string ⟨(([] : List UInt8)).toArray⟩] 25 (by simp)).below hb
 have B3 := zh (old_2 hb)
 have g0 := k3.cell 0
 have g1 := k3.cell 1
 have g2 := k3.cell 2
 have g3 := k3.cell 3
 have t0 := k3.frozen 0
 have t1 := k3.frozen 1
 have t2 := k3.frozen 2
 have t3 := k3.frozen 3
 simp at g0 g1 g2 g3
 obtain ⟨v0, v1, v2, v3⟩ := vbox m3
 clear hb k3 m3
 go_wp2
 have z := (((B3.out.setCell (p := ⟨w.heap.size, 0, none⟩) (Nat.le_refl _) (.int .i64 0)).setCell (p := ⟨w.heap.size, 1, none⟩) (Nat.le_refl _) (.int .i64 0)).setCell (p := ⟨w.heap.size, 2, none⟩) (Nat.le_refl _) (.int .u64 0)).setCell (p := ⟨w.heap.size, 3, none⟩) (Nat.le_refl _) (.string ⟨(([] : List UInt8)).toArray⟩)
 refine bodyPost_ret (v := .tuple #[.agg #[.int .i64 0, .int .i64 0, .int .u64 0, .string ⟨(([] : List UInt8)).toArray⟩], .string ⟨(([] : List UInt8)).toArray⟩, .int .i64 4]) ?_ rfl ⟨rfl, z⟩
 simp [results, Tryz.results95, go_sem, g0, g1, g2, g3]
theorem rread_3f (l : List UInt8) (T R : List UInt8) (X Y : Int) (w : World) (h0 : 0 < l.length) (hK : (l[0].toNat : Int) = 3) (hT : l.drop 1 = T) (hl : 8 ≤ T.length) (hR : T.drop 8 = R) (hX : (Kc.nm (T.take 8) : Int) = X) (hx : Rl.U X) (hY : Rl.bk X = Y) (ho : Rl.bo X = false) :
  Calls Tryz.prog 95 #[.string ⟨l.toArray⟩] w fun e w' => e = .returned (.tuple #[.agg #[.int .i64 0, .int .i64 0, .int .u64 0, .string ⟨([] : List UInt8).toArray⟩], .string ⟨([] : List UInt8).toArray⟩, .int .i64 4]) ∧ Below w.heap.size w w' := by
 have hsz : 0 < (ByteArray.mk l.toArray).size := h0
 have hba : (ByteArray.mk l.toArray)[0] = l[0] := byte_at l 0 h0
 have hl0 : ((l.length : Int) == 0) = false := beq_f (by omega)
 have hl1 : (1 : Int) ≤ (l.length : Int) := by omega
 have ct := cut_from l 1
 rw [hT] at ct
 have s1 : decide ((T.length : Int) < 8) = false := by rw [decide_eq_false_iff_not]; omega
 have s2 : (8 : Int) ≤ (T.length : Int) := by omega
 have cr := cut_from T 8
 rw [hR] at cr
 have H := zh (za hl (za hX (za hx (za hY ho))))
 clear hR hl hX hx hY ho
 clear hT
 go_enter Tryz.func95, Tryz.ntmps95
 go_wp2_with fail
 refine (fixed_3 _).mono ?_
 rintro e w' ⟨rfl, rfl⟩
 go_wp2_with fail
 refine (fixed_3 _).mono ?_
 rintro e w' ⟨rfl, rfl⟩
 go_wp2_with fail
 refine (number_x T X _ H.out.1 H.out.2.1).mono ?_
 rintro e w' ⟨rfl, rfl⟩
 go_wp2_with fail
 refine (rback_x X Y false _ H.out.2.2.1 H.out.2.2.2.1 H.out.2.2.2.2).mono ?_
 rintro e w' ⟨rfl, rfl⟩
 go_wp2
 refine bodyPost_ret (v := .tuple #[.agg #[.int .i64 0, .int .i64 0, .int .u64 0, .string ⟨([] : List UInt8).toArray⟩], .string ⟨([] : List UInt8).toArray⟩, .int .i64 4]) ?_ rfl ⟨rfl, below2s _ _ _⟩
 simp [results, Tryz.results95, go_sem]
theorem rread_4 (l : List UInt8) (T S R : List UInt8) (w : World) (h0 : 0 < l.length) (hK : (l[0].toNat : Int) = 4) (hT : l.drop 1 = T) (hl : T.length ≤ 1000000) (hu : Kc.un T = (S, R, 0)) (hU : Rl.U 0) (hC : Vl.ck 4 0 0 S = 0) :
  Calls Tryz.prog 95 #[.string ⟨l.toArray⟩] w fun e w' => e = .returned (.tuple #[.agg #[.int .i64 4, .int .i64 0, .int .u64 0, .string ⟨(S).toArray⟩], .string ⟨(R).toArray⟩, .int .i64 0]) ∧ Below w.heap.size w w' := by
 have hsz : 0 < (ByteArray.mk l.toArray).size := h0
 have hba : (ByteArray.mk l.toArray)[0] = l[0] := byte_at l 0 h0
 have hl0 : ((l.length : Int) == 0) = false := beq_f (by omega)
 have hl1 : (1 : Int) ≤ (l.length : Int) := by omega
 have ct := cut_from l 1
 rw [hT] at ct
 have s1 : decide ((T.length : Int) < 0) = false := by rw [decide_eq_false_iff_not]; omega
 have cr : (ByteArray.mk T.toArray).extract 0 T.length = ⟨T.toArray⟩ := cut_from T 0
 have H := zh (za hl hu)
 clear hl hu
 have HC := zh hC
 clear hC
 clear hT
 go_enter Tryz.func95, Tryz.ntmps95
 go_wp2_with fail
 refine (fixed_4 _).mono ?_
 rintro e w' ⟨rfl, rfl⟩
 go_wp2_with fail
 refine (fixed_4 _).mono ?_
 rintro e w' ⟨rfl, rfl⟩
 go_wp2_with fail
 refine (rplain_x T S R 0 _ H.out.1 H.out.2).mono ?_
 rintro e w2 ⟨rfl, hb⟩
 obtain ⟨q0, q1, qB⟩ := read_boxes hb
 have c1 := q1.cell 3
 have f1 := q1.frozen 3
 have p1 := q1.setAt 3 (.string ⟨S.toArray⟩)
 have p0 := q0.otherAt (show w.heap.size ≠ w.heap.size + 1 by omega) 3 (.string ⟨S.toArray⟩)
 have pB := qB.setCell (p := ⟨w.heap.size + 1, 3, none⟩) (show w.heap.size ≤ w.heap.size + 1 by omega) (.string ⟨S.toArray⟩)
 obtain ⟨W2, hW2⟩ : ∃ W2, w2.setCell ⟨w.heap.size + 1, 3, none⟩ (.string ⟨S.toArray⟩) = W2 := ⟨_, rfl⟩
 rw [hW2] at p0 p1 pB
 simp at c1 p1
 obtain ⟨d0, d1, d2, d3⟩ := vbox p1
 have P := zh (za p0 (za p1 pB))
 clear hb q0 q1 qB p0 p1 pB
 go_wp2_with fail
 refine (rcheck_is 4 0 0 0 S _ hU HC.out).mono ?_
 rintro e w3 ⟨rfl, hb⟩
 have k3 := P.out.1.below hb
 have m3 := P.out.2.1.below hb
 have B3 := zh (step0 P.out.2.2 hb)
 have g0 := k3.cell 0
 have g1 := k3.cell 1
 have g2 := k3.cell 2
 have g3 := k3.cell 3
 have t0 := k3.frozen 0
 have t1 := k3.frozen 1
 have t2 := k3.frozen 2
 have t3 := k3.frozen 3
 simp at g0 g1 g2 g3
 obtain ⟨v0, v1, v2, v3⟩ := vbox m3
 clear hb k3 m3
 go_wp2
 have z := (((B3.out.setCell (p := ⟨w.heap.size, 0, none⟩) (Nat.le_refl _) (.int .i64 4)).setCell (p := ⟨w.heap.size, 1, none⟩) (Nat.le_refl _) (.int .i64 0)).setCell (p := ⟨w.heap.size, 2, none⟩) (Nat.le_refl _) (.int .u64 0)).setCell (p := ⟨w.heap.size, 3, none⟩) (Nat.le_refl _) (.string ⟨(S).toArray⟩)
 refine bodyPost_ret (v := .tuple #[.agg #[.int .i64 4, .int .i64 0, .int .u64 0, .string ⟨(S).toArray⟩], .string ⟨(R).toArray⟩, .int .i64 0]) ?_ rfl ⟨rfl, z⟩
 simp [results, Tryz.results95, go_sem, g0, g1, g2, g3]
theorem rread_4b (l : List UInt8) (T S R : List UInt8) (C : Int) (w : World) (h0 : 0 < l.length) (hK : (l[0].toNat : Int) = 4) (hT : l.drop 1 = T) (hl : T.length ≤ 1000000) (hu : Kc.un T = (S, R, 0)) (hU : Rl.U 0) (hC : Vl.ck 4 0 0 S = C) (hc : C ≠ 0) :
  Calls Tryz.prog 95 #[.string ⟨l.toArray⟩] w fun e w' => e = .returned (.tuple #[.agg #[.int .i64 0, .int .i64 0, .int .u64 0, .string ⟨([] : List UInt8).toArray⟩], .string ⟨([] : List UInt8).toArray⟩, .int .i64 4]) ∧ Below w.heap.size w w' := by
 have hsz : 0 < (ByteArray.mk l.toArray).size := h0
 have hba : (ByteArray.mk l.toArray)[0] = l[0] := byte_at l 0 h0
 have hl0 : ((l.length : Int) == 0) = false := beq_f (by omega)
 have hl1 : (1 : Int) ≤ (l.length : Int) := by omega
 have ct := cut_from l 1
 rw [hT] at ct
 have s1 : decide ((T.length : Int) < 0) = false := by rw [decide_eq_false_iff_not]; omega
 have cr : (ByteArray.mk T.toArray).extract 0 T.length = ⟨T.toArray⟩ := cut_from T 0
 have H := zh (za hl hu)
 clear hl hu
 have HC := zh hC
 clear hC
 have e1 := bne_t hc
 have e2 := beq_f hc
 clear hT
 go_enter Tryz.func95, Tryz.ntmps95
 go_wp2_with fail
 refine (fixed_4 _).mono ?_
 rintro e w' ⟨rfl, rfl⟩
 go_wp2_with fail
 refine (fixed_4 _).mono ?_
 rintro e w' ⟨rfl, rfl⟩
 go_wp2_with fail
 refine (rplain_x T S R 0 _ H.out.1 H.out.2).mono ?_
 rintro e w2 ⟨rfl, hb⟩
 obtain ⟨q0, q1, qB⟩ := read_boxes hb
 have c1 := q1.cell 3
 have f1 := q1.frozen 3
 have p1 := q1.setAt 3 (.string ⟨S.toArray⟩)
 have p0 := q0.otherAt (show w.heap.size ≠ w.heap.size + 1 by omega) 3 (.string ⟨S.toArray⟩)
 have pB := qB.setCell (p := ⟨w.heap.size + 1, 3, none⟩) (show w.heap.size ≤ w.heap.size + 1 by omega) (.string ⟨S.toArray⟩)
 obtain ⟨W2, hW2⟩ : ∃ W2, w2.setCell ⟨w.heap.size + 1, 3, none⟩ (.string ⟨S.toArray⟩) = W2 := ⟨_, rfl⟩
 rw [hW2] at p0 p1 pB
 simp at c1 p1
 obtain ⟨d0, d1, d2, d3⟩ := vbox p1
 have P := zh (za p0 (za p1 pB))
 clear hb q0 q1 qB p0 p1 pB
 go_wp2_with fail
 refine (rcheck_is 4 0 0 C S _ hU HC.out).mono ?_
 rintro e w3 ⟨rfl, hb⟩
 have k3 := P.out.1.below hb
 have m3 := P.out.2.1.below hb
 have B3 := zh (step0 P.out.2.2 hb)
 have g0 := k3.cell 0
 have g1 := k3.cell 1
 have g2 := k3.cell 2
 have g3 := k3.cell 3
 have t0 := k3.frozen 0
 have t1 := k3.frozen 1
 have t2 := k3.frozen 2
 have t3 := k3.frozen 3
 simp at g0 g1 g2 g3
 obtain ⟨v0, v1, v2, v3⟩ := vbox m3
 clear hb k3 m3
 go_wp2
 have z := (((B3.out.setCell (p := ⟨w.heap.size, 0, none⟩) (Nat.le_refl _) (.int .i64 0)).setCell (p := ⟨w.heap.size, 1, none⟩) (Nat.le_refl _) (.int .i64 0)).setCell (p := ⟨w.heap.size, 2, none⟩) (Nat.le_refl _) (.int .u64 0)).setCell (p := ⟨w.heap.size, 3, none⟩) (Nat.le_refl _) (.string ⟨(([] : List UInt8)).toArray⟩)
 refine bodyPost_ret (v := .tuple #[.agg #[.int .i64 0, .int .i64 0, .int .u64 0, .string ⟨(([] : List UInt8)).toArray⟩], .string ⟨(([] : List UInt8)).toArray⟩, .int .i64 4]) ?_ rfl ⟨rfl, z⟩
 simp [results, Tryz.results95, go_sem, g0, g1, g2, g3]
theorem rread_4e (l : List UInt8) (T S R : List UInt8) (E : Int) (w : World) (h0 : 0 < l.length) (hK : (l[0].toNat : Int) = 4) (hT : l.drop 1 = T) (hl : T.length ≤ 1000000) (hu : Kc.un T = (S, R, E)) (hE : E ≠ 0) :
  Calls Tryz.prog 95 #[.string ⟨l.toArray⟩] w fun e w' => e = .returned (.tuple #[.agg #[.int .i64 0, .int .i64 0, .int .u64 0, .string ⟨([] : List UInt8).toArray⟩], .string ⟨([] : List UInt8).toArray⟩, .int .i64 E]) ∧ Below w.heap.size w w' := by
 have hsz : 0 < (ByteArray.mk l.toArray).size := h0
 have hba : (ByteArray.mk l.toArray)[0] = l[0] := byte_at l 0 h0
 have hl0 : ((l.length : Int) == 0) = false := beq_f (by omega)
 have hl1 : (1 : Int) ≤ (l.length : Int) := by omega
 have ct := cut_from l 1
 rw [hT] at ct
 have s1 : decide ((T.length : Int) < 0) = false := by rw [decide_eq_false_iff_not]; omega
 have cr : (ByteArray.mk T.toArray).extract 0 T.length = ⟨T.toArray⟩ := cut_from T 0
 have H := zh (za hl hu)
 clear hl hu
 have e1 := bne_t hE
 have e2 := beq_f hE
 clear hT
 go_enter Tryz.func95, Tryz.ntmps95
 go_wp2_with fail
 refine (fixed_4 _).mono ?_
 rintro e w' ⟨rfl, rfl⟩
 go_wp2_with fail
 refine (fixed_4 _).mono ?_
 rintro e w' ⟨rfl, rfl⟩
 go_wp2_with fail
 refine (rplain_x T S R E _ H.out.1 H.out.2).mono ?_
 rintro e w2 ⟨rfl, hb⟩
 obtain ⟨q0, q1, qB⟩ := read_boxes hb
 have g0 := q0.cell 0
 have g1 := q0.cell 1
 have g2 := q0.cell 2
 have g3 := q0.cell 3
 have t0 := q0.frozen 0
 have t1 := q0.frozen 1
 have t2 := q0.frozen 2
 have t3 := q0.frozen 3
 simp at g0 g1 g2 g3
 have B3 := zh qB
 clear hb q0 q1 qB
 go_wp2
 have z := (((B3.out.setCell (p := ⟨w.heap.size, 0, none⟩) (Nat.le_refl _) (.int .i64 0)).setCell (p := ⟨w.heap.size, 1, none⟩) (Nat.le_refl _) (.int .i64 0)).setCell (p := ⟨w.heap.size, 2, none⟩) (Nat.le_refl _) (.int .u64 0)).setCell (p := ⟨w.heap.size, 3, none⟩) (Nat.le_refl _) (.string ⟨(([] : List UInt8)).toArray⟩)
 refine bodyPost_ret (v := .tuple #[.agg #[.int .i64 0, .int .i64 0, .int .u64 0, .string ⟨([] : List UInt8).toArray⟩], .string ⟨([] : List UInt8).toArray⟩, .int .i64 E]) ?_ rfl ⟨rfl, z⟩
 simp [results, Tryz.results95, go_sem, g0, g1, g2, g3]
theorem rread_5 (l : List UInt8) (T S R : List UInt8) (w : World) (h0 : 0 < l.length) (hK : (l[0].toNat : Int) = 5) (hT : l.drop 1 = T) (hl : T.length ≤ 1000000) (hu : Kc.un T = (S, R, 0)) (hU : Rl.U 0) (hC : Vl.ck 5 0 0 S = 0) :
  Calls Tryz.prog 95 #[.string ⟨l.toArray⟩] w fun e w' => e = .returned (.tuple #[.agg #[.int .i64 5, .int .i64 0, .int .u64 0, .string ⟨(S).toArray⟩], .string ⟨(R).toArray⟩, .int .i64 0]) ∧ Below w.heap.size w w' := by
 have hsz : 0 < (ByteArray.mk l.toArray).size := h0
 have hba : (ByteArray.mk l.toArray)[0] = l[0] := byte_at l 0 h0
 have hl0 : ((l.length : Int) == 0) = false := beq_f (by omega)
 have hl1 : (1 : Int) ≤ (l.length : Int) := by omega
 have ct := cut_from l 1
 rw [hT] at ct
 have s1 : decide ((T.length : Int) < 0) = false := by rw [decide_eq_false_iff_not]; omega
 have cr : (ByteArray.mk T.toArray).extract 0 T.length = ⟨T.toArray⟩ := cut_from T 0
 have H := zh (za hl hu)
 clear hl hu
 have HC := zh hC
 clear hC
 clear hT
 go_enter Tryz.func95, Tryz.ntmps95
 go_wp2_with fail
 refine (fixed_5 _).mono ?_
 rintro e w' ⟨rfl, rfl⟩
 go_wp2_with fail
 refine (fixed_5 _).mono ?_
 rintro e w' ⟨rfl, rfl⟩
 go_wp2_with fail
 refine (rplain_x T S R 0 _ H.out.1 H.out.2).mono ?_
 rintro e w2 ⟨rfl, hb⟩
 obtain ⟨q0, q1, qB⟩ := read_boxes hb
 have c1 := q1.cell 3
 have f1 := q1.frozen 3
 have p1 := q1.setAt 3 (.string ⟨S.toArray⟩)
 have p0 := q0.otherAt (show w.heap.size ≠ w.heap.size + 1 by omega) 3 (.string ⟨S.toArray⟩)
 have pB := qB.setCell (p := ⟨w.heap.size + 1, 3, none⟩) (show w.heap.size ≤ w.heap.size + 1 by omega) (.string ⟨S.toArray⟩)
 obtain ⟨W2, hW2⟩ : ∃ W2, w2.setCell ⟨w.heap.size + 1, 3, none⟩ (.string ⟨S.toArray⟩) = W2 := ⟨_, rfl⟩
 rw [hW2] at p0 p1 pB
 simp at c1 p1
 obtain ⟨d0, d1, d2, d3⟩ := vbox p1
 have P := zh (za p0 (za p1 pB))
 clear hb q0 q1 qB p0 p1 pB
 go_wp2_with fail
 refine (rcheck_is 5 0 0 0 S _ hU HC.out).mono ?_
 rintro e w3 ⟨rfl, hb⟩
 have k3 := P.out.1.below hb
 have m3 := P.out.2.1.below hb
 have B3 := zh (step0 P.out.2.2 hb)
 have g0 := k3.cell 0
 have g1 := k3.cell 1
 have g2 := k3.cell 2
 have g3 := k3.cell 3
 have t0 := k3.frozen 0
 have t1 := k3.frozen 1
 have t2 := k3.frozen 2
 have t3 := k3.frozen 3
 simp at g0 g1 g2 g3
 obtain ⟨v0, v1, v2, v3⟩ := vbox m3
 clear hb k3 m3
 go_wp2
 have z := (((B3.out.setCell (p := ⟨w.heap.size, 0, none⟩) (Nat.le_refl _) (.int .i64 5)).setCell (p := ⟨w.heap.size, 1, none⟩) (Nat.le_refl _) (.int .i64 0)).setCell (p := ⟨w.heap.size, 2, none⟩) (Nat.le_refl _) (.int .u64 0)).setCell (p := ⟨w.heap.size, 3, none⟩) (Nat.le_refl _) (.string ⟨(S).toArray⟩)
 refine bodyPost_ret (v := .tuple #[.agg #[.int .i64 5, .int .i64 0, .int .u64 0, .string ⟨(S).toArray⟩], .string ⟨(R).toArray⟩, .int .i64 0]) ?_ rfl ⟨rfl, z⟩
 simp [results, Tryz.results95, go_sem, g0, g1, g2, g3]
theorem rread_5b (l : List UInt8) (T S R : List UInt8) (C : Int) (w : World) (h0 : 0 < l.length) (hK : (l[0].toNat : Int) = 5) (hT : l.drop 1 = T) (hl : T.length ≤ 1000000) (hu : Kc.un T = (S, R, 0)) (hU : Rl.U 0) (hC : Vl.ck 5 0 0 S = C) (hc : C ≠ 0) :
  Calls Tryz.prog 95 #[.string ⟨l.toArray⟩] w fun e w' => e = .returned (.tuple #[.agg #[.int .i64 0, .int .i64 0, .int .u64 0, .string ⟨([] : List UInt8).toArray⟩], .string ⟨([] : List UInt8).toArray⟩, .int .i64 4]) ∧ Below w.heap.size w w' := by
 have hsz : 0 < (ByteArray.mk l.toArray).size := h0
 have hba : (ByteArray.mk l.toArray)[0] = l[0] := byte_at l 0 h0
 have hl0 : ((l.length : Int) == 0) = false := beq_f (by omega)
 have hl1 : (1 : Int) ≤ (l.length : Int) := by omega
 have ct := cut_from l 1
 rw [hT] at ct
 have s1 : decide ((T.length : Int) < 0) = false := by rw [decide_eq_false_iff_not]; omega
 have cr : (ByteArray.mk T.toArray).extract 0 T.length = ⟨T.toArray⟩ := cut_from T 0
 have H := zh (za hl hu)
 clear hl hu
 have HC := zh hC
 clear hC
 have e1 := bne_t hc
 have e2 := beq_f hc
 clear hT
 go_enter Tryz.func95, Tryz.ntmps95
 go_wp2_with fail
 refine (fixed_5 _).mono ?_
 rintro e w' ⟨rfl, rfl⟩
 go_wp2_with fail
 refine (fixed_5 _).mono ?_
 rintro e w' ⟨rfl, rfl⟩
 go_wp2_with fail
 refine (rplain_x T S R 0 _ H.out.1 H.out.2).mono ?_
 rintro e w2 ⟨rfl, hb⟩
 obtain ⟨q0, q1, qB⟩ := read_boxes hb
 have c1 := q1.cell 3
 have f1 := q1.frozen 3
 have p1 := q1.setAt 3 (.string ⟨S.toArray⟩)
 have p0 := q0.otherAt (show w.heap.size ≠ w.heap.size + 1 by omega) 3 (.string ⟨S.toArray⟩)
 have pB := qB.setCell (p := ⟨w.heap.size + 1, 3, none⟩) (show w.heap.size ≤ w.heap.size + 1 by omega) (.string ⟨S.toArray⟩)
 obtain ⟨W2, hW2⟩ : ∃ W2, w2.setCell ⟨w.heap.size + 1, 3, none⟩ (.string ⟨S.toArray⟩) = W2 := ⟨_, rfl⟩
 rw [hW2] at p0 p1 pB
 simp at c1 p1
 obtain ⟨d0, d1, d2, d3⟩ := vbox p1
 have P := zh (za p0 (za p1 pB))
 clear hb q0 q1 qB p0 p1 pB
 go_wp2_with fail
 refine (rcheck_is 5 0 0 C S _ hU HC.out).mono ?_
 rintro e w3 ⟨rfl, hb⟩
 have k3 := P.out.1.below hb
 have m3 := P.out.2.1.below hb
 have B3 := zh (step0 P.out.2.2 hb)
 have g0 := k3.cell 0
 have g1 := k3.cell 1
 have g2 := k3.cell 2
 have g3 := k3.cell 3
 have t0 := k3.frozen 0
 have t1 := k3.frozen 1
 have t2 := k3.frozen 2
 have t3 := k3.frozen 3
 simp at g0 g1 g2 g3
 obtain ⟨v0, v1, v2, v3⟩ := vbox m3
 clear hb k3 m3
 go_wp2
 have z := (((B3.out.setCell (p := ⟨w.heap.size, 0, none⟩) (Nat.le_refl _) (.int .i64 0)).setCell (p := ⟨w.heap.size, 1, none⟩) (Nat.le_refl _) (.int .i64 0)).setCell (p := ⟨w.heap.size, 2, none⟩) (Nat.le_refl _) (.int .u64 0)).setCell (p := ⟨w.heap.size, 3, none⟩) (Nat.le_refl _) (.string ⟨(([] : List UInt8)).toArray⟩)
 refine bodyPost_ret (v := .tuple #[.agg #[.int .i64 0, .int .i64 0, .int .u64 0, .string ⟨(([] : List UInt8)).toArray⟩], .string ⟨(([] : List UInt8)).toArray⟩, .int .i64 4]) ?_ rfl ⟨rfl, z⟩
 simp [results, Tryz.results95, go_sem, g0, g1, g2, g3]
theorem rread_5e (l : List UInt8) (T S R : List UInt8) (E : Int) (w : World) (h0 : 0 < l.length) (hK : (l[0].toNat : Int) = 5) (hT : l.drop 1 = T) (hl : T.length ≤ 1000000) (hu : Kc.un T = (S, R, E)) (hE : E ≠ 0) :
  Calls Tryz.prog 95 #[.string ⟨l.toArray⟩] w fun e w' => e = .returned (.tuple #[.agg #[.int .i64 0, .int .i64 0, .int .u64 0, .string ⟨([] : List UInt8).toArray⟩], .string ⟨([] : List UInt8).toArray⟩, .int .i64 E]) ∧ Below w.heap.size w w' := by
 have hsz : 0 < (ByteArray.mk l.toArray).size := h0
 have hba : (ByteArray.mk l.toArray)[0] = l[0] := byte_at l 0 h0
 have hl0 : ((l.length : Int) == 0) = false := beq_f (by omega)
 have hl1 : (1 : Int) ≤ (l.length : Int) := by omega
 have ct := cut_from l 1
 rw [hT] at ct
 have s1 : decide ((T.length : Int) < 0) = false := by rw [decide_eq_false_iff_not]; omega
 have cr : (ByteArray.mk T.toArray).extract 0 T.length = ⟨T.toArray⟩ := cut_from T 0
 have H := zh (za hl hu)
 clear hl hu
 have e1 := bne_t hE
 have e2 := beq_f hE
 clear hT
 go_enter Tryz.func95, Tryz.ntmps95
 go_wp2_with fail
 refine (fixed_5 _).mono ?_
 rintro e w' ⟨rfl, rfl⟩
 go_wp2_with fail
 refine (fixed_5 _).mono ?_
 rintro e w' ⟨rfl, rfl⟩
 go_wp2_with fail
 refine (rplain_x T S R E _ H.out.1 H.out.2).mono ?_
 rintro e w2 ⟨rfl, hb⟩
 obtain ⟨q0, q1, qB⟩ := read_boxes hb
 have g0 := q0.cell 0
 have g1 := q0.cell 1
 have g2 := q0.cell 2
 have g3 := q0.cell 3
 have t0 := q0.frozen 0
 have t1 := q0.frozen 1
 have t2 := q0.frozen 2
 have t3 := q0.frozen 3
 simp at g0 g1 g2 g3
 have B3 := zh qB
 clear hb q0 q1 qB
 go_wp2
 have z := (((B3.out.setCell (p := ⟨w.heap.size, 0, none⟩) (Nat.le_refl _) (.int .i64 0)).setCell (p := ⟨w.heap.size, 1, none⟩) (Nat.le_refl _) (.int .i64 0)).setCell (p := ⟨w.heap.size, 2, none⟩) (Nat.le_refl _) (.int .u64 0)).setCell (p := ⟨w.heap.size, 3, none⟩) (Nat.le_refl _) (.string ⟨(([] : List UInt8)).toArray⟩)
 refine bodyPost_ret (v := .tuple #[.agg #[.int .i64 0, .int .i64 0, .int .u64 0, .string ⟨([] : List UInt8).toArray⟩], .string ⟨([] : List UInt8).toArray⟩, .int .i64 E]) ?_ rfl ⟨rfl, z⟩
 simp [results, Tryz.results95, go_sem, g0, g1, g2, g3]
end Go.Proofs.YtmgdciihpjifgaaGreatDoor
