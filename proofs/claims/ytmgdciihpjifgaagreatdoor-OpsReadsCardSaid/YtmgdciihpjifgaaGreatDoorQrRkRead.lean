/-
 What readValue answers: the value that bytes begin with and what is behind, or the error. Condition: the bound named in each theorem.
-/
import Derived.Test.YtmgdciihpjifgaaGreatDoorQrRkPut
set_option maxHeartbeats 2000000
namespace Go.Proofs.YtmgdciihpjifgaaGreatDoor.Rk
open Go.RowKit
theorem ri_is (l R : List UInt8) (m e : Int) (w : World) (h : Pk.ri l = (m, R, e)) :
  Calls Tryz.prog 140 #[.string ⟨l.toArray⟩] w fun x w' => x = .returned (.tuple #[.int .i64 m, .string ⟨R.toArray⟩, .int .i64 e]) ∧ Below w.heap.size w w' := by
 refine (readInt_is l R m e w h).mono ?_
 rintro x w' ⟨rfl, n, rfl⟩
 exact ⟨rfl, below_drewV n (Below.refl _ _)⟩
theorem rt_is (l T R : List UInt8) (e : Int) (w : World) (hl : l.length ≤ 1000000) (h : Pk.rt l = (T, R, e)) :
  Calls Tryz.prog 63 #[.string ⟨l.toArray⟩] w fun x w' => x = .returned (.tuple #[.string ⟨T.toArray⟩, .string ⟨R.toArray⟩, .int .i64 e]) ∧ Below w.heap.size w w' := by
 refine (readText_is l T R e w (by omega) h).mono ?_
 rintro x w' ⟨rfl, n, rfl⟩
 exact ⟨rfl, below_drewV n (Below.refl _ _)⟩
theorem rv_nil (w : World) :
  Calls Tryz.prog 123 #[.string ⟨([] : List UInt8).toArray⟩] w fun e w' => e = .returned (.tuple #[.agg #[.int .i64 0, .int .i64 0, .int .u64 0, .string ⟨([] : List UInt8).toArray⟩], .string ⟨([] : List UInt8).toArray⟩, .int .i64 3]) ∧ Below w.heap.size w w' := by
 go_enter Tryz.func123, Tryz.ntmps123
 go_wp2_with fail
 refine (readNumber_short [] 1 1 _ rfl (by decide)).mono ?_
 rintro e w' ⟨rfl, rfl⟩
 go_wp2
 refine bodyPost_ret (v := .tuple #[.agg #[.int .i64 0, .int .i64 0, .int .u64 0, .string ⟨([] : List UInt8).toArray⟩], .string ⟨([] : List UInt8).toArray⟩, .int .i64 3]) ?_ rfl ⟨rfl, below1 _ _⟩
 simp [results, Tryz.results123, go_sem]
theorem rv_0 (l T : List UInt8)  (w : World) (h0 : 1 ≤ l.length) (hK : (Kc.nm (l.take 1) : Int) = 0) (hT : l.drop 1 = T)  (hC : Vl.ck 0 0 0 [] = 0) :
  Calls Tryz.prog 123 #[.string ⟨l.toArray⟩] w fun e w' => e = .returned (.tuple #[.agg #[.int .i64 0, .int .i64 0, .int .u64 0, .string ⟨([] : List UInt8).toArray⟩], .string ⟨(T : List UInt8).toArray⟩, .int .i64 0]) ∧ Below w.heap.size w w' := by
 have H := zh (za h0 (za hK hT))
 have HC := zh hC
 clear hC
 clear h0 hK hT
 go_enter Tryz.func123, Tryz.ntmps123
 go_wp2_with fail
 refine (rn_is l 1 1 0 T _ rfl (by decide) H.out.1 H.out.2.1 H.out.2.2).mono ?_
 rintro e w1 ⟨rfl, hb⟩
 have B1 := zh (old_1 hb)
 have k1 := (Blk.new w #[.int .i64 0, .int .i64 0, .int .u64 0, .string ⟨([] : List UInt8).toArray⟩] 25).below hb
 clear hb
 go_wp2_with fail
 refine (check_is 0 0 0 0 [] _ u0 HC.out).mono ?_
 rintro e w4 ⟨rfl, hb⟩
 have BF := zh (step1 B1.out hb)
 have k4 := (k1.alloc _).below hb
 have m4 := (Blk.new w1 #[.int .i64 0, .int .i64 0, .int .u64 0, .string ⟨([] : List UInt8).toArray⟩] 25).below hb
 clear hb k1
 have g0 := k4.cell 0
 have g1 := k4.cell 1
 have g2 := k4.cell 2
 have g3 := k4.cell 3
 have t0 := k4.frozen 0
 have t1 := k4.frozen 1
 have t2 := k4.frozen 2
 have t3 := k4.frozen 3
 simp at g0 g1 g2 g3
 have v0 := m4.cell 0
 have v1 := m4.cell 1
 have v2 := m4.cell 2
 have v3 := m4.cell 3
 simp at v0 v1 v2 v3
 clear k4 m4
 go_wp2
 have z := (((BF.out.setCell (p := ⟨w.heap.size, 0, none⟩) (Nat.le_refl _) (.int .i64 0)).setCell (p := ⟨w.heap.size, 1, none⟩) (Nat.le_refl _) (.int .i64 0)).setCell (p := ⟨w.heap.size, 2, none⟩) (Nat.le_refl _) (.int .u64 0)).setCell (p := ⟨w.heap.size, 3, none⟩) (Nat.le_refl _) (.string ⟨([] : List UInt8).toArray⟩)
 refine bodyPost_ret (v := .tuple #[.agg #[.int .i64 0, .int .i64 0, .int .u64 0, .string ⟨([] : List UInt8).toArray⟩], .string ⟨(T : List UInt8).toArray⟩, .int .i64 0]) ?_ rfl ⟨rfl, z⟩
 simp [results, Tryz.results123, go_sem, g0, g1, g2, g3]
theorem rv_hi (l T : List UInt8) (K : Int) (w : World) (h0 : 1 ≤ l.length) (hK : (Kc.nm (l.take 1) : Int) = K) (hT : l.drop 1 = T) (h5 : 5 < K) (hC : Vl.ck K 0 0 [] = 5) (hc : (5 : Int) ≠ 0) :
  Calls Tryz.prog 123 #[.string ⟨l.toArray⟩] w fun e w' => e = .returned (.tuple #[.agg #[.int .i64 0, .int .i64 0, .int .u64 0, .string ⟨([] : List UInt8).toArray⟩], .string ⟨([] : List UInt8).toArray⟩, .int .i64 5]) ∧ Below w.heap.size w w' := by
 have H := zh (za h0 (za hK hT))
 have hwK : wrap64 K = K := by rw [← hK]; exact nm1_w l
 have n1 := beq_f (show K ≠ 1 by omega)
 have n2 := beq_f (show K ≠ 2 by omega)
 have n3 := beq_f (show K ≠ 3 by omega)
 have n4 := beq_f (show K ≠ 4 by omega)
 have n5 := beq_f (show K ≠ 5 by omega)
 clear h5
 have HC := zh hC
 clear hC
 have e1 := bne_t hc
 have e2 := beq_f hc
 clear h0 hK hT
 go_enter Tryz.func123, Tryz.ntmps123
 go_wp2_with fail
 refine (rn_is l 1 1 K T _ rfl (by decide) H.out.1 H.out.2.1 H.out.2.2).mono ?_
 rintro e w1 ⟨rfl, hb⟩
 have B1 := zh (old_1 hb)
 have k1 := (Blk.new w #[.int .i64 0, .int .i64 0, .int .u64 0, .string ⟨([] : List UInt8).toArray⟩] 25).below hb
 clear hb
 go_wp2_with fail
 refine (check_is K 0 0 5 [] _ u0 HC.out).mono ?_
 rintro e w4 ⟨rfl, hb⟩
 have BF := zh (step1 B1.out hb)
 have k4 := (k1.alloc _).below hb
 have m4 := (Blk.new w1 #[.int .i64 K, .int .i64 0, .int .u64 0, .string ⟨([] : List UInt8).toArray⟩] 25).below hb
 clear hb k1
 have g0 := k4.cell 0
 have g1 := k4.cell 1
 have g2 := k4.cell 2
 have g3 := k4.cell 3
 have t0 := k4.frozen 0
 have t1 := k4.frozen 1
 have t2 := k4.frozen 2
 have t3 := k4.frozen 3
 simp at g0 g1 g2 g3
 clear k4 m4
 go_wp2
 have z := (((BF.out.setCell (p := ⟨w.heap.size, 0, none⟩) (Nat.le_refl _) (.int .i64 0)).setCell (p := ⟨w.heap.size, 1, none⟩) (Nat.le_refl _) (.int .i64 0)).setCell (p := ⟨w.heap.size, 2, none⟩) (Nat.le_refl _) (.int .u64 0)).setCell (p := ⟨w.heap.size, 3, none⟩) (Nat.le_refl _) (.string ⟨(([] : List UInt8) : List UInt8).toArray⟩)
 refine bodyPost_ret (v := .tuple #[.agg #[.int .i64 0, .int .i64 0, .int .u64 0, .string ⟨([] : List UInt8).toArray⟩], .string ⟨([] : List UInt8).toArray⟩, .int .i64 5]) ?_ rfl ⟨rfl, z⟩
 simp [results, Tryz.results123, go_sem, g0, g1, g2, g3]
theorem rv_1s (l T : List UInt8)  (w : World) (h0 : 1 ≤ l.length) (hK : (Kc.nm (l.take 1) : Int) = 1) (hT : l.drop 1 = T) (hs : T.length < 1) :
  Calls Tryz.prog 123 #[.string ⟨l.toArray⟩] w fun e w' => e = .returned (.tuple #[.agg #[.int .i64 0, .int .i64 0, .int .u64 0, .string ⟨([] : List UInt8).toArray⟩], .string ⟨([] : List UInt8).toArray⟩, .int .i64 3]) ∧ Below w.heap.size w w' := by
 have H := zh (za h0 (za hK hT))
 have HS := zh hs
 clear hs
 clear h0 hK hT
 go_enter Tryz.func123, Tryz.ntmps123
 go_wp2_with fail
 refine (rn_is l 1 1 1 T _ rfl (by decide) H.out.1 H.out.2.1 H.out.2.2).mono ?_
 rintro e w1 ⟨rfl, hb⟩
 have B1 := zh (old_1 hb)
 have k1 := (Blk.new w #[.int .i64 0, .int .i64 0, .int .u64 0, .string ⟨([] : List UInt8).toArray⟩] 25).below hb
 clear hb
 have hlt := k1.lt
 have ne : w.heap.size ≠ w1.heap.size := by omega
 have le : w.heap.size ≤ w1.heap.size := by omega
 clear hlt
 go_wp2_with fail
 refine (rns T 1 1 _ rfl HS.out).mono ?_
 rintro e w2 ⟨rfl, hb⟩
 have k2 := (k1.alloc _).below hb
 have m2 := (Blk.new w1 #[.int .i64 1, .int .i64 0, .int .u64 0, .string ⟨([] : List UInt8).toArray⟩] 25).below hb
 have c1 := m2.cell 1
 have f1 := m2.frozen 1
 have p1 := m2.setAt 1 (.int .i64 0)
 have p0 := k2.otherAt ne 1 (.int .i64 0)
 have pB := (step1 B1.out hb).setCell (p := ⟨w1.heap.size, 1, none⟩) le (.int .i64 0)
 obtain ⟨W3, hW3⟩ : ∃ W3, w2.setCell ⟨w1.heap.size, 1, none⟩ (.int .i64 0) = W3 := ⟨_, rfl⟩
 rw [hW3] at p0 p1 pB
 simp at c1
 have PB := zh pB
 clear hb k1 k2 m2 pB
 have k4 := p0
 have BF := PB
 clear p0 p1
 have g0 := k4.cell 0
 have g1 := k4.cell 1
 have g2 := k4.cell 2
 have g3 := k4.cell 3
 have t0 := k4.frozen 0
 have t1 := k4.frozen 1
 have t2 := k4.frozen 2
 have t3 := k4.frozen 3
 simp at g0 g1 g2 g3
 clear k4
 go_wp2
 have z := (((BF.out.setCell (p := ⟨w.heap.size, 0, none⟩) (Nat.le_refl _) (.int .i64 0)).setCell (p := ⟨w.heap.size, 1, none⟩) (Nat.le_refl _) (.int .i64 0)).setCell (p := ⟨w.heap.size, 2, none⟩) (Nat.le_refl _) (.int .u64 0)).setCell (p := ⟨w.heap.size, 3, none⟩) (Nat.le_refl _) (.string ⟨(([] : List UInt8) : List UInt8).toArray⟩)
 refine bodyPost_ret (v := .tuple #[.agg #[.int .i64 0, .int .i64 0, .int .u64 0, .string ⟨([] : List UInt8).toArray⟩], .string ⟨([] : List UInt8).toArray⟩, .int .i64 3]) ?_ rfl ⟨rfl, z⟩
 simp [results, Tryz.results123, go_sem, g0, g1, g2, g3]
theorem rv_1 (l T : List UInt8) (R : List UInt8) (X : Int) (w : World) (h0 : 1 ≤ l.length) (hK : (Kc.nm (l.take 1) : Int) = 1) (hT : l.drop 1 = T) (hs : 1 ≤ T.length) (hX : (Kc.nm (T.take 1) : Int) = X) (hR : T.drop 1 = R) (hw : wrap64 X = X) (hC : Vl.ck 1 X 0 [] = 0) :
  Calls Tryz.prog 123 #[.string ⟨l.toArray⟩] w fun e w' => e = .returned (.tuple #[.agg #[.int .i64 1, .int .i64 X, .int .u64 0, .string ⟨([] : List UInt8).toArray⟩], .string ⟨(R : List UInt8).toArray⟩, .int .i64 0]) ∧ Below w.heap.size w w' := by
 have H := zh (za h0 (za hK hT))
 have HS := zh (za hs (za hX hR))
 clear hs hX hR
 have HC := zh hC
 clear hC
 clear h0 hK hT
 go_enter Tryz.func123, Tryz.ntmps123
 go_wp2_with fail
 refine (rn_is l 1 1 1 T _ rfl (by decide) H.out.1 H.out.2.1 H.out.2.2).mono ?_
 rintro e w1 ⟨rfl, hb⟩
 have B1 := zh (old_1 hb)
 have k1 := (Blk.new w #[.int .i64 0, .int .i64 0, .int .u64 0, .string ⟨([] : List UInt8).toArray⟩] 25).below hb
 clear hb
 have hlt := k1.lt
 have ne : w.heap.size ≠ w1.heap.size := by omega
 have le : w.heap.size ≤ w1.heap.size := by omega
 clear hlt
 go_wp2_with fail
 refine (rn_is T 1 1 X R _ rfl (by decide) HS.out.1 HS.out.2.1 HS.out.2.2).mono ?_
 rintro e w2 ⟨rfl, hb⟩
 have k2 := (k1.alloc _).below hb
 have m2 := (Blk.new w1 #[.int .i64 1, .int .i64 0, .int .u64 0, .string ⟨([] : List UInt8).toArray⟩] 25).below hb
 have c1 := m2.cell 1
 have f1 := m2.frozen 1
 have p1 := m2.setAt 1 (.int .i64 X)
 have p0 := k2.otherAt ne 1 (.int .i64 X)
 have pB := (step1 B1.out hb).setCell (p := ⟨w1.heap.size, 1, none⟩) le (.int .i64 X)
 obtain ⟨W3, hW3⟩ : ∃ W3, w2.setCell ⟨w1.heap.size, 1, none⟩ (.int .i64 X) = W3 := ⟨_, rfl⟩
 rw [hW3] at p0 p1 pB
 simp at c1
 have PB := zh pB
 clear hb k1 k2 m2 pB
 have d0 := p1.cell 0
 have d1 := p1.cell 1
 have d2 := p1.cell 2
 have d3 := p1.cell 3
 simp at d0 d1 d2 d3
 have P0 := zh p0
 have P1 := zh p1
 clear p0 p1
 go_wp2_with fail
 refine (check_is 1 X 0 0 [] _ u0 HC.out).mono ?_
 rintro e w4 ⟨rfl, hb⟩
 have BF := zh (step0 PB.out hb)
 have k4 := P0.out.below hb
 have m4 := P1.out.below hb
 clear hb
 have g0 := k4.cell 0
 have g1 := k4.cell 1
 have g2 := k4.cell 2
 have g3 := k4.cell 3
 have t0 := k4.frozen 0
 have t1 := k4.frozen 1
 have t2 := k4.frozen 2
 have t3 := k4.frozen 3
 simp at g0 g1 g2 g3
 have v0 := m4.cell 0
 have v1 := m4.cell 1
 have v2 := m4.cell 2
 have v3 := m4.cell 3
 simp at v0 v1 v2 v3
 clear k4 m4
 go_wp2
 have z := (((BF.out.setCell (p := ⟨w.heap.size, 0, none⟩) (Nat.le_refl _) (.int .i64 1)).setCell (p := ⟨w.heap.size, 1, none⟩) (Nat.le_refl _) (.int .i64 X)).setCell (p := ⟨w.heap.size, 2, none⟩) (Nat.le_refl _) (.int .u64 0)).setCell (p := ⟨w.heap.size, 3, none⟩) (Nat.le_refl _) (.string ⟨([] : List UInt8).toArray⟩)
 refine bodyPost_ret (v := .tuple #[.agg #[.int .i64 1, .int .i64 X, .int .u64 0, .string ⟨([] : List UInt8).toArray⟩], .string ⟨(R : List UInt8).toArray⟩, .int .i64 0]) ?_ rfl ⟨rfl, z⟩
 simp [results, Tryz.results123, go_sem, g0, g1, g2, g3]
theorem rv_1b (l T : List UInt8) (R : List UInt8) (X : Int) (C : Int) (w : World) (h0 : 1 ≤ l.length) (hK : (Kc.nm (l.take 1) : Int) = 1) (hT : l.drop 1 = T) (hs : 1 ≤ T.length) (hX : (Kc.nm (T.take 1) : Int) = X) (hR : T.drop 1 = R) (hw : wrap64 X = X) (hC : Vl.ck 1 X 0 [] = C) (hc : (C : Int) ≠ 0) :
  Calls Tryz.prog 123 #[.string ⟨l.toArray⟩] w fun e w' => e = .returned (.tuple #[.agg #[.int .i64 0, .int .i64 0, .int .u64 0, .string ⟨([] : List UInt8).toArray⟩], .string ⟨([] : List UInt8).toArray⟩, .int .i64 C]) ∧ Below w.heap.size w w' := by
 have H := zh (za h0 (za hK hT))
 have HS := zh (za hs (za hX hR))
 clear hs hX hR
 have HC := zh hC
 clear hC
 have e1 := bne_t hc
 have e2 := beq_f hc
 clear h0 hK hT
 go_enter Tryz.func123, Tryz.ntmps123
 go_wp2_with fail
 refine (rn_is l 1 1 1 T _ rfl (by decide) H.out.1 H.out.2.1 H.out.2.2).mono ?_
 rintro e w1 ⟨rfl, hb⟩
 have B1 := zh (old_1 hb)
 have k1 := (Blk.new w #[.int .i64 0, .int .i64 0, .int .u64 0, .string ⟨([] : List UInt8).toArray⟩] 25).below hb
 clear hb
 have hlt := k1.lt
 have ne : w.heap.size ≠ w1.heap.size := by omega
 have le : w.heap.size ≤ w1.heap.size := by omega
 clear hlt
 go_wp2_with fail
 refine (rn_is T 1 1 X R _ rfl (by decide) HS.out.1 HS.out.2.1 HS.out.2.2).mono ?_
 rintro e w2 ⟨rfl, hb⟩
 have k2 := (k1.alloc _).below hb
 have m2 := (Blk.new w1 #[.int .i64 1, .int .i64 0, .int .u64 0, .string ⟨([] : List UInt8).toArray⟩] 25).below hb
 have c1 := m2.cell 1
 have f1 := m2.frozen 1
 have p1 := m2.setAt 1 (.int .i64 X)
 have p0 := k2.otherAt ne 1 (.int .i64 X)
 have pB := (step1 B1.out hb).setCell (p := ⟨w1.heap.size, 1, none⟩) le (.int .i64 X)
 obtain ⟨W3, hW3⟩ : ∃ W3, w2.setCell ⟨w1.heap.size, 1, none⟩ (.int .i64 X) = W3 := ⟨_, rfl⟩
 rw [hW3] at p0 p1 pB
 simp at c1
 have PB := zh pB
 clear hb k1 k2 m2 pB
 have d0 := p1.cell 0
 have d1 := p1.cell 1
 have d2 := p1.cell 2
 have d3 := p1.cell 3
 simp at d0 d1 d2 d3
 have P0 := zh p0
 have P1 := zh p1
 clear p0 p1
 go_wp2_with fail
 refine (check_is 1 X 0 C [] _ u0 HC.out).mono ?_
 rintro e w4 ⟨rfl, hb⟩
 have BF := zh (step0 PB.out hb)
 have k4 := P0.out.below hb
 have m4 := P1.out.below hb
 clear hb
 have g0 := k4.cell 0
 have g1 := k4.cell 1
 have g2 := k4.cell 2
 have g3 := k4.cell 3
 have t0 := k4.frozen 0
 have t1 := k4.frozen 1
 have t2 := k4.frozen 2
 have t3 := k4.frozen 3
 simp at g0 g1 g2 g3
 clear k4 m4
 go_wp2
 have z := (((BF.out.setCell (p := ⟨w.heap.size, 0, none⟩) (Nat.le_refl _) (.int .i64 0)).setCell (p := ⟨w.heap.size, 1, none⟩) (Nat.le_refl _) (.int .i64 0)).setCell (p := ⟨w.heap.size, 2, none⟩) (Nat.le_refl _) (.int .u64 0)).setCell (p := ⟨w.heap.size, 3, none⟩) (Nat.le_refl _) (.string ⟨(([] : List UInt8) : List UInt8).toArray⟩)
 refine bodyPost_ret (v := .tuple #[.agg #[.int .i64 0, .int .i64 0, .int .u64 0, .string ⟨([] : List UInt8).toArray⟩], .string ⟨([] : List UInt8).toArray⟩, .int .i64 C]) ?_ rfl ⟨rfl, z⟩
 simp [results, Tryz.results123, go_sem, g0, g1, g2, g3]
theorem rv_2e (l T : List UInt8) (R : List UInt8) (X E : Int) (w : World) (h0 : 1 ≤ l.length) (hK : (Kc.nm (l.take 1) : Int) = 2) (hT : l.drop 1 = T) (hr : Pk.ri T = (X, R, E)) (hE : E ≠ 0) :
  Calls Tryz.prog 123 #[.string ⟨l.toArray⟩] w fun e w' => e = .returned (.tuple #[.agg #[.int .i64 0, .int .i64 0, .int .u64 0, .string ⟨([] : List UInt8).toArray⟩], .string ⟨([] : List UInt8).toArray⟩, .int .i64 E]) ∧ Below w.heap.size w w' := by
 have H := zh (za h0 (za hK hT))
 have HS := zh hr
 clear hr
 have e1 := bne_t hE
 have e2 := beq_f hE
 clear h0 hK hT
 go_enter Tryz.func123, Tryz.ntmps123
 go_wp2_with fail
 refine (rn_is l 1 1 2 T _ rfl (by decide) H.out.1 H.out.2.1 H.out.2.2).mono ?_
 rintro e w1 ⟨rfl, hb⟩
 have B1 := zh (old_1 hb)
 have k1 := (Blk.new w #[.int .i64 0, .int .i64 0, .int .u64 0, .string ⟨([] : List UInt8).toArray⟩] 25).below hb
 clear hb
 have hlt := k1.lt
 have ne : w.heap.size ≠ w1.heap.size := by omega
 have le : w.heap.size ≤ w1.heap.size := by omega
 clear hlt
 go_wp2_with fail
 refine (ri_is T R X E _ HS.out).mono ?_
 rintro e w2 ⟨rfl, hb⟩
 have k2 := (k1.alloc _).below hb
 have m2 := (Blk.new w1 #[.int .i64 2, .int .i64 0, .int .u64 0, .string ⟨([] : List UInt8).toArray⟩] 25).below hb
 have c1 := m2.cell 1
 have f1 := m2.frozen 1
 have p1 := m2.setAt 1 (.int .i64 X)
 have p0 := k2.otherAt ne 1 (.int .i64 X)
 have pB := (step1 B1.out hb).setCell (p := ⟨w1.heap.size, 1, none⟩) le (.int .i64 X)
 obtain ⟨W3, hW3⟩ : ∃ W3, w2.setCell ⟨w1.heap.size, 1, none⟩ (.int .i64 X) = W3 := ⟨_, rfl⟩
 rw [hW3] at p0 p1 pB
 simp at c1
 have PB := zh pB
 clear hb k1 k2 m2 pB
 have k4 := p0
 have BF := PB
 clear p0 p1
 have g0 := k4.cell 0
 have g1 := k4.cell 1
 have g2 := k4.cell 2
 have g3 := k4.cell 3
 have t0 := k4.frozen 0
 have t1 := k4.frozen 1
 have t2 := k4.frozen 2
 have t3 := k4.frozen 3
 simp at g0 g1 g2 g3
 clear k4
 go_wp2
 have z := (((BF.out.setCell (p := ⟨w.heap.size, 0, none⟩) (Nat.le_refl _) (.int .i64 0)).setCell (p := ⟨w.heap.size, 1, none⟩) (Nat.le_refl _) (.int .i64 0)).setCell (p := ⟨w.heap.size, 2, none⟩) (Nat.le_refl _) (.int .u64 0)).setCell (p := ⟨w.heap.size, 3, none⟩) (Nat.le_refl _) (.string ⟨(([] : List UInt8) : List UInt8).toArray⟩)
 refine bodyPost_ret (v := .tuple #[.agg #[.int .i64 0, .int .i64 0, .int .u64 0, .string ⟨([] : List UInt8).toArray⟩], .string ⟨([] : List UInt8).toArray⟩, .int .i64 E]) ?_ rfl ⟨rfl, z⟩
 simp [results, Tryz.results123, go_sem, g0, g1, g2, g3]
theorem rv_2 (l T : List UInt8) (R : List UInt8) (X : Int) (w : World) (h0 : 1 ≤ l.length) (hK : (Kc.nm (l.take 1) : Int) = 2) (hT : l.drop 1 = T) (hr : Pk.ri T = (X, R, 0)) (hC : Vl.ck 2 X 0 [] = 0) :
  Calls Tryz.prog 123 #[.string ⟨l.toArray⟩] w fun e w' => e = .returned (.tuple #[.agg #[.int .i64 2, .int .i64 X, .int .u64 0, .string ⟨([] : List UInt8).toArray⟩], .string ⟨(R : List UInt8).toArray⟩, .int .i64 0]) ∧ Below w.heap.size w w' := by
 have H := zh (za h0 (za hK hT))
 have HS := zh hr
 clear hr
 have HC := zh hC
 clear hC
 clear h0 hK hT
 go_enter Tryz.func123, Tryz.ntmps123
 go_wp2_with fail
 refine (rn_is l 1 1 2 T _ rfl (by decide) H.out.1 H.out.2.1 H.out.2.2).mono ?_
 rintro e w1 ⟨rfl, hb⟩
 have B1 := zh (old_1 hb)
 have k1 := (Blk.new w #[.int .i64 0, .int .i64 0, .int .u64 0, .string ⟨([] : List UInt8).toArray⟩] 25).below hb
 clear hb
 have hlt := k1.lt
 have ne : w.heap.size ≠ w1.heap.size := by omega
 have le : w.heap.size ≤ w1.heap.size := by omega
 clear hlt
 go_wp2_with fail
 refine (ri_is T R X 0 _ HS.out).mono ?_
 rintro e w2 ⟨rfl, hb⟩
 have k2 := (k1.alloc _).below hb
 have m2 := (Blk.new w1 #[.int .i64 2, .int .i64 0, .int .u64 0, .string ⟨([] : List UInt8).toArray⟩] 25).below hb
 have c1 := m2.cell 1
 have f1 := m2.frozen 1
 have p1 := m2.setAt 1 (.int .i64 X)
 have p0 := k2.otherAt ne 1 (.int .i64 X)
 have pB := (step1 B1.out hb).setCell (p := ⟨w1.heap.size, 1, none⟩) le (.int .i64 X)
 obtain ⟨W3, hW3⟩ : ∃ W3, w2.setCell ⟨w1.heap.size, 1, none⟩ (.int .i64 X) = W3 := ⟨_, rfl⟩
 rw [hW3] at p0 p1 pB
 simp at c1
 have PB := zh pB
 clear hb k1 k2 m2 pB
 have d0 := p1.cell 0
 have d1 := p1.cell 1
 have d2 := p1.cell 2
 have d3 := p1.cell 3
 simp at d0 d1 d2 d3
 have P0 := zh p0
 have P1 := zh p1
 clear p0 p1
 go_wp2_with fail
 refine (check_is 2 X 0 0 [] _ u0 HC.out).mono ?_
 rintro e w4 ⟨rfl, hb⟩
 have BF := zh (step0 PB.out hb)
 have k4 := P0.out.below hb
 have m4 := P1.out.below hb
 clear hb
 have g0 := k4.cell 0
 have g1 := k4.cell 1
 have g2 := k4.cell 2
 have g3 := k4.cell 3
 have t0 := k4.frozen 0
 have t1 := k4.frozen 1
 have t2 := k4.frozen 2
 have t3 := k4.frozen 3
 simp at g0 g1 g2 g3
 have v0 := m4.cell 0
 have v1 := m4.cell 1
 have v2 := m4.cell 2
 have v3 := m4.cell 3
 simp at v0 v1 v2 v3
 clear k4 m4
 go_wp2
 have z := (((BF.out.setCell (p := ⟨w.heap.size, 0, none⟩) (Nat.le_refl _) (.int .i64 2)).setCell (p := ⟨w.heap.size, 1, none⟩) (Nat.le_refl _) (.int .i64 X)).setCell (p := ⟨w.heap.size, 2, none⟩) (Nat.le_refl _) (.int .u64 0)).setCell (p := ⟨w.heap.size, 3, none⟩) (Nat.le_refl _) (.string ⟨([] : List UInt8).toArray⟩)
 refine bodyPost_ret (v := .tuple #[.agg #[.int .i64 2, .int .i64 X, .int .u64 0, .string ⟨([] : List UInt8).toArray⟩], .string ⟨(R : List UInt8).toArray⟩, .int .i64 0]) ?_ rfl ⟨rfl, z⟩
 simp [results, Tryz.results123, go_sem, g0, g1, g2, g3]
theorem rv_3s (l T : List UInt8)  (w : World) (h0 : 1 ≤ l.length) (hK : (Kc.nm (l.take 1) : Int) = 3) (hT : l.drop 1 = T) (hs : T.length < 8) :
  Calls Tryz.prog 123 #[.string ⟨l.toArray⟩] w fun e w' => e = .returned (.tuple #[.agg #[.int .i64 0, .int .i64 0, .int .u64 0, .string ⟨([] : List UInt8).toArray⟩], .string ⟨([] : List UInt8).toArray⟩, .int .i64 3]) ∧ Below w.heap.size w w' := by
 have H := zh (za h0 (za hK hT))
 have HS := zh hs
 clear hs
 clear h0 hK hT
 go_enter Tryz.func123, Tryz.ntmps123
 go_wp2_with fail
 refine (rn_is l 1 1 3 T _ rfl (by decide) H.out.1 H.out.2.1 H.out.2.2).mono ?_
 rintro e w1 ⟨rfl, hb⟩
 have B1 := zh (old_1 hb)
 have k1 := (Blk.new w #[.int .i64 0, .int .i64 0, .int .u64 0, .string ⟨([] : List UInt8).toArray⟩] 25).below hb
 clear hb
 have hlt := k1.lt
 have ne : w.heap.size ≠ w1.heap.size := by omega
 have le : w.heap.size ≤ w1.heap.size := by omega
 clear hlt
 go_wp2_with fail
 refine (rns T 8 8 _ rfl HS.out).mono ?_
 rintro e w2 ⟨rfl, hb⟩
 have k2 := (k1.alloc _).below hb
 have m2 := (Blk.new w1 #[.int .i64 3, .int .i64 0, .int .u64 0, .string ⟨([] : List UInt8).toArray⟩] 25).below hb
 have c1 := m2.cell 2
 have f1 := m2.frozen 2
 have p1 := m2.setAt 2 (.int .u64 0)
 have p0 := k2.otherAt ne 2 (.int .u64 0)
 have pB := (step1 B1.out hb).setCell (p := ⟨w1.heap.size, 2, none⟩) le (.int .u64 0)
 obtain ⟨W3, hW3⟩ : ∃ W3, w2.setCell ⟨w1.heap.size, 2, none⟩ (.int .u64 0) = W3 := ⟨_, rfl⟩
 rw [hW3] at p0 p1 pB
 simp at c1
 have PB := zh pB
 clear hb k1 k2 m2 pB
 have k4 := p0
 have BF := PB
 clear p0 p1
 have g0 := k4.cell 0
 have g1 := k4.cell 1
 have g2 := k4.cell 2
 have g3 := k4.cell 3
 have t0 := k4.frozen 0
 have t1 := k4.frozen 1
 have t2 := k4.frozen 2
 have t3 := k4.frozen 3
 simp at g0 g1 g2 g3
 clear k4
 go_wp2
 have z := (((BF.out.setCell (p := ⟨w.heap.size, 0, none⟩) (Nat.le_refl _) (.int .i64 0)).setCell (p := ⟨w.heap.size, 1, none⟩) (Nat.le_refl _) (.int .i64 0)).setCell (p := ⟨w.heap.size, 2, none⟩) (Nat.le_refl _) (.int .u64 0)).setCell (p := ⟨w.heap.size, 3, none⟩) (Nat.le_refl _) (.string ⟨(([] : List UInt8) : List UInt8).toArray⟩)
 refine bodyPost_ret (v := .tuple #[.agg #[.int .i64 0, .int .i64 0, .int .u64 0, .string ⟨([] : List UInt8).toArray⟩], .string ⟨([] : List UInt8).toArray⟩, .int .i64 3]) ?_ rfl ⟨rfl, z⟩
 simp [results, Tryz.results123, go_sem, g0, g1, g2, g3]
theorem rv_3 (l T : List UInt8) (R : List UInt8) (X : Int) (w : World) (h0 : 1 ≤ l.length) (hK : (Kc.nm (l.take 1) : Int) = 3) (hT : l.drop 1 = T) (hs : 8 ≤ T.length) (hX : (Kc.nm (T.take 8) : Int) = X) (hR : T.drop 8 = R) (hU : Rl.U X) (hC : Vl.ck 3 0 X [] = 0) :
  Calls Tryz.prog 123 #[.string ⟨l.toArray⟩] w fun e w' => e = .returned (.tuple #[.agg #[.int .i64 3, .int .i64 0, .int .u64 X, .string ⟨([] : List UInt8).toArray⟩], .string ⟨(R : List UInt8).toArray⟩, .int .i64 0]) ∧ Below w.heap.size w w' := by
 have H := zh (za h0 (za hK hT))
 have HS := zh (za hs (za hX hR))
 clear hs hX hR
 have HU := zh hU
 clear hU
 have HC := zh hC
 clear hC
 clear h0 hK hT
 go_enter Tryz.func123, Tryz.ntmps123
 go_wp2_with fail
 refine (rn_is l 1 1 3 T _ rfl (by decide) H.out.1 H.out.2.1 H.out.2.2).mono ?_
 rintro e w1 ⟨rfl, hb⟩
 have B1 := zh (old_1 hb)
 have k1 := (Blk.new w #[.int .i64 0, .int .i64 0, .int .u64 0, .string ⟨([] : List UInt8).toArray⟩] 25).below hb
 clear hb
 have hlt := k1.lt
 have ne : w.heap.size ≠ w1.heap.size := by omega
 have le : w.heap.size ≤ w1.heap.size := by omega
 clear hlt
 go_wp2_with fail
 refine (rn_is T 8 8 X R _ rfl (by decide) HS.out.1 HS.out.2.1 HS.out.2.2).mono ?_
 rintro e w2 ⟨rfl, hb⟩
 have k2 := (k1.alloc _).below hb
 have m2 := (Blk.new w1 #[.int .i64 3, .int .i64 0, .int .u64 0, .string ⟨([] : List UInt8).toArray⟩] 25).below hb
 have c1 := m2.cell 2
 have f1 := m2.frozen 2
 have p1 := m2.setAt 2 (.int .u64 X)
 have p0 := k2.otherAt ne 2 (.int .u64 X)
 have pB := (step1 B1.out hb).setCell (p := ⟨w1.heap.size, 2, none⟩) le (.int .u64 X)
 obtain ⟨W3, hW3⟩ : ∃ W3, w2.setCell ⟨w1.heap.size, 2, none⟩ (.int .u64 X) = W3 := ⟨_, rfl⟩
 rw [hW3] at p0 p1 pB
 simp at c1
 have PB := zh pB
 clear hb k1 k2 m2 pB
 have d0 := p1.cell 0
 have d1 := p1.cell 1
 have d2 := p1.cell 2
 have d3 := p1.cell 3
 simp at d0 d1 d2 d3
 have P0 := zh p0
 have P1 := zh p1
 clear p0 p1
 go_wp2_with fail
 refine (check_is 3 0 X 0 [] _ HU.out HC.out).mono ?_
 rintro e w4 ⟨rfl, hb⟩
 have BF := zh (step0 PB.out hb)
 have k4 := P0.out.below hb
 have m4 := P1.out.below hb
 clear hb
 have g0 := k4.cell 0
 have g1 := k4.cell 1
 have g2 := k4.cell 2
 have g3 := k4.cell 3
 have t0 := k4.frozen 0
 have t1 := k4.frozen 1
 have t2 := k4.frozen 2
 have t3 := k4.frozen 3
 simp at g0 g1 g2 g3
 have v0 := m4.cell 0
 have v1 := m4.cell 1
 have v2 := m4.cell 2
 have v3 := m4.cell 3
 simp at v0 v1 v2 v3
 clear k4 m4
 go_wp2
 have z := (((BF.out.setCell (p := ⟨w.heap.size, 0, none⟩) (Nat.le_refl _) (.int .i64 3)).setCell (p := ⟨w.heap.size, 1, none⟩) (Nat.le_refl _) (.int .i64 0)).setCell (p := ⟨w.heap.size, 2, none⟩) (Nat.le_refl _) (.int .u64 X)).setCell (p := ⟨w.heap.size, 3, none⟩) (Nat.le_refl _) (.string ⟨([] : List UInt8).toArray⟩)
 refine bodyPost_ret (v := .tuple #[.agg #[.int .i64 3, .int .i64 0, .int .u64 X, .string ⟨([] : List UInt8).toArray⟩], .string ⟨(R : List UInt8).toArray⟩, .int .i64 0]) ?_ rfl ⟨rfl, z⟩
 simp [results, Tryz.results123, go_sem, g0, g1, g2, g3]
theorem rv_3b (l T : List UInt8) (R : List UInt8) (X : Int) (C : Int) (w : World) (h0 : 1 ≤ l.length) (hK : (Kc.nm (l.take 1) : Int) = 3) (hT : l.drop 1 = T) (hs : 8 ≤ T.length) (hX : (Kc.nm (T.take 8) : Int) = X) (hR : T.drop 8 = R) (hU : Rl.U X) (hC : Vl.ck 3 0 X [] = C) (hc : (C : Int) ≠ 0) :
  Calls Tryz.prog 123 #[.string ⟨l.toArray⟩] w fun e w' => e = .returned (.tuple #[.agg #[.int .i64 0, .int .i64 0, .int .u64 0, .string ⟨([] : List UInt8).toArray⟩], .string ⟨([] : List UInt8).toArray⟩, .int .i64 C]) ∧ Below w.heap.size w w' := by
 have H := zh (za h0 (za hK hT))
 have HS := zh (za hs (za hX hR))
 clear hs hX hR
 have HU := zh hU
 clear hU
 have HC := zh hC
 clear hC
 have e1 := bne_t hc
 have e2 := beq_f hc
 clear h0 hK hT
 go_enter Tryz.func123, Tryz.ntmps123
 go_wp2_with fail
 refine (rn_is l 1 1 3 T _ rfl (by decide) H.out.1 H.out.2.1 H.out.2.2).mono ?_
 rintro e w1 ⟨rfl, hb⟩
 have B1 := zh (old_1 hb)
 have k1 := (Blk.new w #[.int .i64 0, .int .i64 0, .int .u64 0, .string ⟨([] : List UInt8).toArray⟩] 25).below hb
 clear hb
 have hlt := k1.lt
 have ne : w.heap.size ≠ w1.heap.size := by omega
 have le : w.heap.size ≤ w1.heap.size := by omega
 clear hlt
 go_wp2_with fail
 refine (rn_is T 8 8 X R _ rfl (by decide) HS.out.1 HS.out.2.1 HS.out.2.2).mono ?_
 rintro e w2 ⟨rfl, hb⟩
 have k2 := (k1.alloc _).below hb
 have m2 := (Blk.new w1 #[.int .i64 3, .int .i64 0, .int .u64 0, .string ⟨([] : List UInt8).toArray⟩] 25).below hb
 have c1 := m2.cell 2
 have f1 := m2.frozen 2
 have p1 := m2.setAt 2 (.int .u64 X)
 have p0 := k2.otherAt ne 2 (.int .u64 X)
 have pB := (step1 B1.out hb).setCell (p := ⟨w1.heap.size, 2, none⟩) le (.int .u64 X)
 obtain ⟨W3, hW3⟩ : ∃ W3, w2.setCell ⟨w1.heap.size, 2, none⟩ (.int .u64 X) = W3 := ⟨_, rfl⟩
 rw [hW3] at p0 p1 pB
 simp at c1
 have PB := zh pB
 clear hb k1 k2 m2 pB
 have d0 := p1.cell 0
 have d1 := p1.cell 1
 have d2 := p1.cell 2
 have d3 := p1.cell 3
 simp at d0 d1 d2 d3
 have P0 := zh p0
 have P1 := zh p1
 clear p0 p1
 go_wp2_with fail
 refine (check_is 3 0 X C [] _ HU.out HC.out).mono ?_
 rintro e w4 ⟨rfl, hb⟩
 have BF := zh (step0 PB.out hb)
 have k4 := P0.out.below hb
 have m4 := P1.out.below hb
 clear hb
 have g0 := k4.cell 0
 have g1 := k4.cell 1
 have g2 := k4.cell 2
 have g3 := k4.cell 3
 have t0 := k4.frozen 0
 have t1 := k4.frozen 1
 have t2 := k4.frozen 2
 have t3 := k4.frozen 3
 simp at g0 g1 g2 g3
 clear k4 m4
 go_wp2
 have z := (((BF.out.setCell (p := ⟨w.heap.size, 0, none⟩) (Nat.le_refl _) (.int .i64 0)).setCell (p := ⟨w.heap.size, 1, none⟩) (Nat.le_refl _) (.int .i64 0)).setCell (p := ⟨w.heap.size, 2, none⟩) (Nat.le_refl _) (.int .u64 0)).setCell (p := ⟨w.heap.size, 3, none⟩) (Nat.le_refl _) (.string ⟨(([] : List UInt8) : List UInt8).toArray⟩)
 refine bodyPost_ret (v := .tuple #[.agg #[.int .i64 0, .int .i64 0, .int .u64 0, .string ⟨([] : List UInt8).toArray⟩], .string ⟨([] : List UInt8).toArray⟩, .int .i64 C]) ?_ rfl ⟨rfl, z⟩
 simp [results, Tryz.results123, go_sem, g0, g1, g2, g3]
theorem rv_4e (l T : List UInt8) (S R : List UInt8) (E : Int) (w : World) (h0 : 1 ≤ l.length) (hK : (Kc.nm (l.take 1) : Int) = 4) (hT : l.drop 1 = T) (hl : T.length ≤ 1000000) (hr : Pk.rt T = (S, R, E)) (hE : E ≠ 0) :
  Calls Tryz.prog 123 #[.string ⟨l.toArray⟩] w fun e w' => e = .returned (.tuple #[.agg #[.int .i64 0, .int .i64 0, .int .u64 0, .string ⟨([] : List UInt8).toArray⟩], .string ⟨([] : List UInt8).toArray⟩, .int .i64 E]) ∧ Below w.heap.size w w' := by
 have H := zh (za h0 (za hK hT))
 have HS := zh (za hl hr)
 clear hl hr
 have e1 := bne_t hE
 have e2 := beq_f hE
 clear h0 hK hT
 go_enter Tryz.func123, Tryz.ntmps123
 go_wp2_with fail
 refine (rn_is l 1 1 4 T _ rfl (by decide) H.out.1 H.out.2.1 H.out.2.2).mono ?_
 rintro e w1 ⟨rfl, hb⟩
 have B1 := zh (old_1 hb)
 have k1 := (Blk.new w #[.int .i64 0, .int .i64 0, .int .u64 0, .string ⟨([] : List UInt8).toArray⟩] 25).below hb
 clear hb
 have hlt := k1.lt
 have ne : w.heap.size ≠ w1.heap.size := by omega
 have le : w.heap.size ≤ w1.heap.size := by omega
 clear hlt
 go_wp2_with fail
 refine (rt_is T S R E _ HS.out.1 HS.out.2).mono ?_
 rintro e w2 ⟨rfl, hb⟩
 have k2 := (k1.alloc _).below hb
 have m2 := (Blk.new w1 #[.int .i64 4, .int .i64 0, .int .u64 0, .string ⟨([] : List UInt8).toArray⟩] 25).below hb
 have c1 := m2.cell 3
 have f1 := m2.frozen 3
 have p1 := m2.setAt 3 (.string ⟨S.toArray⟩)
 have p0 := k2.otherAt ne 3 (.string ⟨S.toArray⟩)
 have pB := (step1 B1.out hb).setCell (p := ⟨w1.heap.size, 3, none⟩) le (.string ⟨S.toArray⟩)
 obtain ⟨W3, hW3⟩ : ∃ W3, w2.setCell ⟨w1.heap.size, 3, none⟩ (.string ⟨S.toArray⟩) = W3 := ⟨_, rfl⟩
 rw [hW3] at p0 p1 pB
 simp at c1
 have PB := zh pB
 clear hb k1 k2 m2 pB
 have k4 := p0
 have BF := PB
 clear p0 p1
 have g0 := k4.cell 0
 have g1 := k4.cell 1
 have g2 := k4.cell 2
 have g3 := k4.cell 3
 have t0 := k4.frozen 0
 have t1 := k4.frozen 1
 have t2 := k4.frozen 2
 have t3 := k4.frozen 3
 simp at g0 g1 g2 g3
 clear k4
 go_wp2
 have z := (((BF.out.setCell (p := ⟨w.heap.size, 0, none⟩) (Nat.le_refl _) (.int .i64 0)).setCell (p := ⟨w.heap.size, 1, none⟩) (Nat.le_refl _) (.int .i64 0)).setCell (p := ⟨w.heap.size, 2, none⟩) (Nat.le_refl _) (.int .u64 0)).setCell (p := ⟨w.heap.size, 3, none⟩) (Nat.le_refl _) (.string ⟨(([] : List UInt8) : List UInt8).toArray⟩)
 refine bodyPost_ret (v := .tuple #[.agg #[.int .i64 0, .int .i64 0, .int .u64 0, .string ⟨([] : List UInt8).toArray⟩], .string ⟨([] : List UInt8).toArray⟩, .int .i64 E]) ?_ rfl ⟨rfl, z⟩
 simp [results, Tryz.results123, go_sem, g0, g1, g2, g3]
theorem rv_4 (l T : List UInt8) (S R : List UInt8) (w : World) (h0 : 1 ≤ l.length) (hK : (Kc.nm (l.take 1) : Int) = 4) (hT : l.drop 1 = T) (hl : T.length ≤ 1000000) (hr : Pk.rt T = (S, R, 0)) (hC : Vl.ck 4 0 0 S = 0) :
  Calls Tryz.prog 123 #[.string ⟨l.toArray⟩] w fun e w' => e = .returned (.tuple #[.agg #[.int .i64 4, .int .i64 0, .int .u64 0, .string ⟨(S : List UInt8).toArray⟩], .string ⟨(R : List UInt8).toArray⟩, .int .i64 0]) ∧ Below w.heap.size w w' := by
 have H := zh (za h0 (za hK hT))
 have HS := zh (za hl hr)
 clear hl hr
 have HC := zh hC
 clear hC
 clear h0 hK hT
 go_enter Tryz.func123, Tryz.ntmps123
 go_wp2_with fail
 refine (rn_is l 1 1 4 T _ rfl (by decide) H.out.1 H.out.2.1 H.out.2.2).mono ?_
 rintro e w1 ⟨rfl, hb⟩
 have B1 := zh (old_1 hb)
 have k1 := (Blk.new w #[.int .i64 0, .int .i64 0, .int .u64 0, .string ⟨([] : List UInt8).toArray⟩] 25).below hb
 clear hb
 have hlt := k1.lt
 have ne : w.heap.size ≠ w1.heap.size := by omega
 have le : w.heap.size ≤ w1.heap.size := by omega
 clear hlt
 go_wp2_with fail
 refine (rt_is T S R 0 _ HS.out.1 HS.out.2).mono ?_
 rintro e w2 ⟨rfl, hb⟩
 have k2 := (k1.alloc _).below hb
 have m2 := (Blk.new w1 #[.int .i64 4, .int .i64 0, .int .u64 0, .string ⟨([] : List UInt8).toArray⟩] 25).below hb
 have c1 := m2.cell 3
 have f1 := m2.frozen 3
 have p1 := m2.setAt 3 (.string ⟨S.toArray⟩)
 have p0 := k2.otherAt ne 3 (.string ⟨S.toArray⟩)
 have pB := (step1 B1.out hb).setCell (p := ⟨w1.heap.size, 3, none⟩) le (.string ⟨S.toArray⟩)
 obtain ⟨W3, hW3⟩ : ∃ W3, w2.setCell ⟨w1.heap.size, 3, none⟩ (.string ⟨S.toArray⟩) = W3 := ⟨_, rfl⟩
 rw [hW3] at p0 p1 pB
 simp at c1
 have PB := zh pB
 clear hb k1 k2 m2 pB
 have d0 := p1.cell 0
 have d1 := p1.cell 1
 have d2 := p1.cell 2
 have d3 := p1.cell 3
 simp at d0 d1 d2 d3
 have P0 := zh p0
 have P1 := zh p1
 clear p0 p1
 go_wp2_with fail
 refine (check_is 4 0 0 0 S _ u0 HC.out).mono ?_
 rintro e w4 ⟨rfl, hb⟩
 have BF := zh (step0 PB.out hb)
 have k4 := P0.out.below hb
 have m4 := P1.out.below hb
 clear hb
 have g0 := k4.cell 0
 have g1 := k4.cell 1
 have g2 := k4.cell 2
 have g3 := k4.cell 3
 have t0 := k4.frozen 0
 have t1 := k4.frozen 1
 have t2 := k4.frozen 2
 have t3 := k4.frozen 3
 simp at g0 g1 g2 g3
 have v0 := m4.cell 0
 have v1 := m4.cell 1
 have v2 := m4.cell 2
 have v3 := m4.cell 3
 simp at v0 v1 v2 v3
 clear k4 m4
 go_wp2
 have z := (((BF.out.setCell (p := ⟨w.heap.size, 0, none⟩) (Nat.le_refl _) (.int .i64 4)).setCell (p := ⟨w.heap.size, 1, none⟩) (Nat.le_refl _) (.int .i64 0)).setCell (p := ⟨w.heap.size, 2, none⟩) (Nat.le_refl _) (.int .u64 0)).setCell (p := ⟨w.heap.size, 3, none⟩) (Nat.le_refl _) (.string ⟨(S : List UInt8).toArray⟩)
 refine bodyPost_ret (v := .tuple #[.agg #[.int .i64 4, .int .i64 0, .int .u64 0, .string ⟨(S : List UInt8).toArray⟩], .string ⟨(R : List UInt8).toArray⟩, .int .i64 0]) ?_ rfl ⟨rfl, z⟩
 simp [results, Tryz.results123, go_sem, g0, g1, g2, g3]
theorem rv_4b (l T : List UInt8) (S R : List UInt8) (C : Int) (w : World) (h0 : 1 ≤ l.length) (hK : (Kc.nm (l.take 1) : Int) = 4) (hT : l.drop 1 = T) (hl : T.length ≤ 1000000) (hr : Pk.rt T = (S, R, 0)) (hC : Vl.ck 4 0 0 S = C) (hc : (C : Int) ≠ 0) :
  Calls Tryz.prog 123 #[.string ⟨l.toArray⟩] w fun e w' => e = .returned (.tuple #[.agg #[.int .i64 0, .int .i64 0, .int .u64 0, .string ⟨([] : List UInt8).toArray⟩], .string ⟨([] : List UInt8).toArray⟩, .int .i64 C]) ∧ Below w.heap.size w w' := by
 have H := zh (za h0 (za hK hT))
 have HS := zh (za hl hr)
 clear hl hr
 have HC := zh hC
 clear hC
 have e1 := bne_t hc
 have e2 := beq_f hc
 clear h0 hK hT
 go_enter Tryz.func123, Tryz.ntmps123
 go_wp2_with fail
 refine (rn_is l 1 1 4 T _ rfl (by decide) H.out.1 H.out.2.1 H.out.2.2).mono ?_
 rintro e w1 ⟨rfl, hb⟩
 have B1 := zh (old_1 hb)
 have k1 := (Blk.new w #[.int .i64 0, .int .i64 0, .int .u64 0, .string ⟨([] : List UInt8).toArray⟩] 25).below hb
 clear hb
 have hlt := k1.lt
 have ne : w.heap.size ≠ w1.heap.size := by omega
 have le : w.heap.size ≤ w1.heap.size := by omega
 clear hlt
 go_wp2_with fail
 refine (rt_is T S R 0 _ HS.out.1 HS.out.2).mono ?_
 rintro e w2 ⟨rfl, hb⟩
 have k2 := (k1.alloc _).below hb
 have m2 := (Blk.new w1 #[.int .i64 4, .int .i64 0, .int .u64 0, .string ⟨([] : List UInt8).toArray⟩] 25).below hb
 have c1 := m2.cell 3
 have f1 := m2.frozen 3
 have p1 := m2.setAt 3 (.string ⟨S.toArray⟩)
 have p0 := k2.otherAt ne 3 (.string ⟨S.toArray⟩)
 have pB := (step1 B1.out hb).setCell (p := ⟨w1.heap.size, 3, none⟩) le (.string ⟨S.toArray⟩)
 obtain ⟨W3, hW3⟩ : ∃ W3, w2.setCell ⟨w1.heap.size, 3, none⟩ (.string ⟨S.toArray⟩) = W3 := ⟨_, rfl⟩
 rw [hW3] at p0 p1 pB
 simp at c1
 have PB := zh pB
 clear hb k1 k2 m2 pB
 have d0 := p1.cell 0
 have d1 := p1.cell 1
 have d2 := p1.cell 2
 have d3 := p1.cell 3
 simp at d0 d1 d2 d3
 have P0 := zh p0
 have P1 := zh p1
 clear p0 p1
 go_wp2_with fail
 refine (check_is 4 0 0 C S _ u0 HC.out).mono ?_
 rintro e w4 ⟨rfl, hb⟩
 have BF := zh (step0 PB.out hb)
 have k4 := P0.out.below hb
 have m4 := P1.out.below hb
 clear hb
 have g0 := k4.cell 0
 have g1 := k4.cell 1
 have g2 := k4.cell 2
 have g3 := k4.cell 3
 have t0 := k4.frozen 0
 have t1 := k4.frozen 1
 have t2 := k4.frozen 2
 have t3 := k4.frozen 3
 simp at g0 g1 g2 g3
 clear k4 m4
 go_wp2
 have z := (((BF.out.setCell (p := ⟨w.heap.size, 0, none⟩) (Nat.le_refl _) (.int .i64 0)).setCell (p := ⟨w.heap.size, 1, none⟩) (Nat.le_refl _) (.int .i64 0)).setCell (p := ⟨w.heap.size, 2, none⟩) (Nat.le_refl _) (.int .u64 0)).setCell (p := ⟨w.heap.size, 3, none⟩) (Nat.le_refl _) (.string ⟨(([] : List UInt8) : List UInt8).toArray⟩)
 refine bodyPost_ret (v := .tuple #[.agg #[.int .i64 0, .int .i64 0, .int .u64 0, .string ⟨([] : List UInt8).toArray⟩], .string ⟨([] : List UInt8).toArray⟩, .int .i64 C]) ?_ rfl ⟨rfl, z⟩
 simp [results, Tryz.results123, go_sem, g0, g1, g2, g3]
theorem rv_5e (l T : List UInt8) (S R : List UInt8) (E : Int) (w : World) (h0 : 1 ≤ l.length) (hK : (Kc.nm (l.take 1) : Int) = 5) (hT : l.drop 1 = T) (hl : T.length ≤ 1000000) (hr : Pk.rt T = (S, R, E)) (hE : E ≠ 0) :
  Calls Tryz.prog 123 #[.string ⟨l.toArray⟩] w fun e w' => e = .returned (.tuple #[.agg #[.int .i64 0, .int .i64 0, .int .u64 0, .string ⟨([] : List UInt8).toArray⟩], .string ⟨([] : List UInt8).toArray⟩, .int .i64 E]) ∧ Below w.heap.size w w' := by
 have H := zh (za h0 (za hK hT))
 have HS := zh (za hl hr)
 clear hl hr
 have e1 := bne_t hE
 have e2 := beq_f hE
 clear h0 hK hT
 go_enter Tryz.func123, Tryz.ntmps123
 go_wp2_with fail
 refine (rn_is l 1 1 5 T _ rfl (by decide) H.out.1 H.out.2.1 H.out.2.2).mono ?_
 rintro e w1 ⟨rfl, hb⟩
 have B1 := zh (old_1 hb)
 have k1 := (Blk.new w #[.int .i64 0, .int .i64 0, .int .u64 0, .string ⟨([] : List UInt8).toArray⟩] 25).below hb
 clear hb
 have hlt := k1.lt
 have ne : w.heap.size ≠ w1.heap.size := by omega
 have le : w.heap.size ≤ w1.heap.size := by omega
 clear hlt
 go_wp2_with fail
 refine (rt_is T S R E _ HS.out.1 HS.out.2).mono ?_
 rintro e w2 ⟨rfl, hb⟩
 have k2 := (k1.alloc _).below hb
 have m2 := (Blk.new w1 #[.int .i64 5, .int .i64 0, .int .u64 0, .string ⟨([] : List UInt8).toArray⟩] 25).below hb
 have c1 := m2.cell 3
 have f1 := m2.frozen 3
 have p1 := m2.setAt 3 (.string ⟨S.toArray⟩)
 have p0 := k2.otherAt ne 3 (.string ⟨S.toArray⟩)
 have pB := (step1 B1.out hb).setCell (p := ⟨w1.heap.size, 3, none⟩) le (.string ⟨S.toArray⟩)
 obtain ⟨W3, hW3⟩ : ∃ W3, w2.setCell ⟨w1.heap.size, 3, none⟩ (.string ⟨S.toArray⟩) = W3 := ⟨_, rfl⟩
 rw [hW3] at p0 p1 pB
 simp at c1
 have PB := zh pB
 clear hb k1 k2 m2 pB
 have k4 := p0
 have BF := PB
 clear p0 p1
 have g0 := k4.cell 0
 have g1 := k4.cell 1
 have g2 := k4.cell 2
 have g3 := k4.cell 3
 have t0 := k4.frozen 0
 have t1 := k4.frozen 1
 have t2 := k4.frozen 2
 have t3 := k4.frozen 3
 simp at g0 g1 g2 g3
 clear k4
 go_wp2
 have z := (((BF.out.setCell (p := ⟨w.heap.size, 0, none⟩) (Nat.le_refl _) (.int .i64 0)).setCell (p := ⟨w.heap.size, 1, none⟩) (Nat.le_refl _) (.int .i64 0)).setCell (p := ⟨w.heap.size, 2, none⟩) (Nat.le_refl _) (.int .u64 0)).setCell (p := ⟨w.heap.size, 3, none⟩) (Nat.le_refl _) (.string ⟨(([] : List UInt8) : List UInt8).toArray⟩)
 refine bodyPost_ret (v := .tuple #[.agg #[.int .i64 0, .int .i64 0, .int .u64 0, .string ⟨([] : List UInt8).toArray⟩], .string ⟨([] : List UInt8).toArray⟩, .int .i64 E]) ?_ rfl ⟨rfl, z⟩
 simp [results, Tryz.results123, go_sem, g0, g1, g2, g3]
theorem rv_5 (l T : List UInt8) (S R : List UInt8) (w : World) (h0 : 1 ≤ l.length) (hK : (Kc.nm (l.take 1) : Int) = 5) (hT : l.drop 1 = T) (hl : T.length ≤ 1000000) (hr : Pk.rt T = (S, R, 0)) (hC : Vl.ck 5 0 0 S = 0) :
  Calls Tryz.prog 123 #[.string ⟨l.toArray⟩] w fun e w' => e = .returned (.tuple #[.agg #[.int .i64 5, .int .i64 0, .int .u64 0, .string ⟨(S : List UInt8).toArray⟩], .string ⟨(R : List UInt8).toArray⟩, .int .i64 0]) ∧ Below w.heap.size w w' := by
 have H := zh (za h0 (za hK hT))
 have HS := zh (za hl hr)
 clear hl hr
 have HC := zh hC
 clear hC
 clear h0 hK hT
 go_enter Tryz.func123, Tryz.ntmps123
 go_wp2_with fail
 refine (rn_is l 1 1 5 T _ rfl (by decide) H.out.1 H.out.2.1 H.out.2.2).mono ?_
 rintro e w1 ⟨rfl, hb⟩
 have B1 := zh (old_1 hb)
 have k1 := (Blk.new w #[.int .i64 0, .int .i64 0, .int .u64 0, .string ⟨([] : List UInt8).toArray⟩] 25).below hb
 clear hb
 have hlt := k1.lt
 have ne : w.heap.size ≠ w1.heap.size := by omega
 have le : w.heap.size ≤ w1.heap.size := by omega
 clear hlt
 go_wp2_with fail
 refine (rt_is T S R 0 _ HS.out.1 HS.out.2).mono ?_
 rintro e w2 ⟨rfl, hb⟩
 have k2 := (k1.alloc _).below hb
 have m2 := (Blk.new w1 #[.int .i64 5, .int .i64 0, .int .u64 0, .string ⟨([] : List UInt8).toArray⟩] 25).below hb
 have c1 := m2.cell 3
 have f1 := m2.frozen 3
 have p1 := m2.setAt 3 (.string ⟨S.toArray⟩)
 have p0 := k2.otherAt ne 3 (.string ⟨S.toArray⟩)
 have pB := (step1 B1.out hb).setCell (p := ⟨w1.heap.size, 3, none⟩) le (.string ⟨S.toArray⟩)
 obtain ⟨W3, hW3⟩ : ∃ W3, w2.setCell ⟨w1.heap.size, 3, none⟩ (.string ⟨S.toArray⟩) = W3 := ⟨_, rfl⟩
 rw [hW3] at p0 p1 pB
 simp at c1
 have PB := zh pB
 clear hb k1 k2 m2 pB
 have d0 := p1.cell 0
 have d1 := p1.cell 1
 have d2 := p1.cell 2
 have d3 := p1.cell 3
 simp at d0 d1 d2 d3
 have P0 := zh p0
 have P1 := zh p1
 clear p0 p1
 go_wp2_with fail
 refine (check_is 5 0 0 0 S _ u0 HC.out).mono ?_
 rintro e w4 ⟨rfl, hb⟩
 have BF := zh (step0 PB.out hb)
 have k4 := P0.out.below hb
 have m4 := P1.out.below hb
 clear hb
 have g0 := k4.cell 0
 have g1 := k4.cell 1
 have g2 := k4.cell 2
 have g3 := k4.cell 3
 have t0 := k4.frozen 0
 have t1 := k4.frozen 1
 have t2 := k4.frozen 2
 have t3 := k4.frozen 3
 simp at g0 g1 g2 g3
 have v0 := m4.cell 0
 have v1 := m4.cell 1
 have v2 := m4.cell 2
 have v3 := m4.cell 3
 simp at v0 v1 v2 v3
 clear k4 m4
 go_wp2
 have z := (((BF.out.setCell (p := ⟨w.heap.size, 0, none⟩) (Nat.le_refl _) (.int .i64 5)).setCell (p := ⟨w.heap.size, 1, none⟩) (Nat.le_refl _) (.int .i64 0)).setCell (p := ⟨w.heap.size, 2, none⟩) (Nat.le_refl _) (.int .u64 0)).setCell (p := ⟨w.heap.size, 3, none⟩) (Nat.le_refl _) (.string ⟨(S : List UInt8).toArray⟩)
 refine bodyPost_ret (v := .tuple #[.agg #[.int .i64 5, .int .i64 0, .int .u64 0, .string ⟨(S : List UInt8).toArray⟩], .string ⟨(R : List UInt8).toArray⟩, .int .i64 0]) ?_ rfl ⟨rfl, z⟩
 simp [results, Tryz.results123, go_sem, g0, g1, g2, g3]
theorem rv_5b (l T : List UInt8) (S R : List UInt8) (C : Int) (w : World) (h0 : 1 ≤ l.length) (hK : (Kc.nm (l.take 1) : Int) = 5) (hT : l.drop 1 = T) (hl : T.length ≤ 1000000) (hr : Pk.rt T = (S, R, 0)) (hC : Vl.ck 5 0 0 S = C) (hc : (C : Int) ≠ 0) :
  Calls Tryz.prog 123 #[.string ⟨l.toArray⟩] w fun e w' => e = .returned (.tuple #[.agg #[.int .i64 0, .int .i64 0, .int .u64 0, .string ⟨([] : List UInt8).toArray⟩], .string ⟨([] : List UInt8).toArray⟩, .int .i64 C]) ∧ Below w.heap.size w w' := by
 have H := zh (za h0 (za hK hT))
 have HS := zh (za hl hr)
 clear hl hr
 have HC := zh hC
 clear hC
 have e1 := bne_t hc
 have e2 := beq_f hc
 clear h0 hK hT
 go_enter Tryz.func123, Tryz.ntmps123
 go_wp2_with fail
 refine (rn_is l 1 1 5 T _ rfl (by decide) H.out.1 H.out.2.1 H.out.2.2).mono ?_
 rintro e w1 ⟨rfl, hb⟩
 have B1 := zh (old_1 hb)
 have k1 := (Blk.new w #[.int .i64 0, .int .i64 0, .int .u64 0, .string ⟨([] : List UInt8).toArray⟩] 25).below hb
 clear hb
 have hlt := k1.lt
 have ne : w.heap.size ≠ w1.heap.size := by omega
 have le : w.heap.size ≤ w1.heap.size := by omega
 clear hlt
 go_wp2_with fail
 refine (rt_is T S R 0 _ HS.out.1 HS.out.2).mono ?_
 rintro e w2 ⟨rfl, hb⟩
 have k2 := (k1.alloc _).below hb
 have m2 := (Blk.new w1 #[.int .i64 5, .int .i64 0, .int .u64 0, .string ⟨([] : List UInt8).toArray⟩] 25).below hb
 have c1 := m2.cell 3
 have f1 := m2.frozen 3
 have p1 := m2.setAt 3 (.string ⟨S.toArray⟩)
 have p0 := k2.otherAt ne 3 (.string ⟨S.toArray⟩)
 have pB := (step1 B1.out hb).setCell (p := ⟨w1.heap.size, 3, none⟩) le (.string ⟨S.toArray⟩)
 obtain ⟨W3, hW3⟩ : ∃ W3, w2.setCell ⟨w1.heap.size, 3, none⟩ (.string ⟨S.toArray⟩) = W3 := ⟨_, rfl⟩
 rw [hW3] at p0 p1 pB
 simp at c1
 have PB := zh pB
 clear hb k1 k2 m2 pB
 have d0 := p1.cell 0
 have d1 := p1.cell 1
 have d2 := p1.cell 2
 have d3 := p1.cell 3
 simp at d0 d1 d2 d3
 have P0 := zh p0
 have P1 := zh p1
 clear p0 p1
 go_wp2_with fail
 refine (check_is 5 0 0 C S _ u0 HC.out).mono ?_
 rintro e w4 ⟨rfl, hb⟩
 have BF := zh (step0 PB.out hb)
 have k4 := P0.out.below hb
 have m4 := P1.out.below hb
 clear hb
 have g0 := k4.cell 0
 have g1 := k4.cell 1
 have g2 := k4.cell 2
 have g3 := k4.cell 3
 have t0 := k4.frozen 0
 have t1 := k4.frozen 1
 have t2 := k4.frozen 2
 have t3 := k4.frozen 3
 simp at g0 g1 g2 g3
 clear k4 m4
 go_wp2
 have z := (((BF.out.setCell (p := ⟨w.heap.size, 0, none⟩) (Nat.le_refl _) (.int .i64 0)).setCell (p := ⟨w.heap.size, 1, none⟩) (Nat.le_refl _) (.int .i64 0)).setCell (p := ⟨w.heap.size, 2, none⟩) (Nat.le_refl _) (.int .u64 0)).setCell (p := ⟨w.heap.size, 3, none⟩) (Nat.le_refl _) (.string ⟨(([] : List UInt8) : List UInt8).toArray⟩)
 refine bodyPost_ret (v := .tuple #[.agg #[.int .i64 0, .int .i64 0, .int .u64 0, .string ⟨([] : List UInt8).toArray⟩], .string ⟨([] : List UInt8).toArray⟩, .int .i64 C]) ?_ rfl ⟨rfl, z⟩
 simp [results, Tryz.results123, go_sem, g0, g1, g2, g3]
end Go.Proofs.YtmgdciihpjifgaaGreatDoor.Rk
