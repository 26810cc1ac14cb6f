/-
 What put answers of a value that is no bytes and no text: its bytes behind a row. Conditions: the bounds named in each theorem.
 What put answers of bytes and texts: the escaped ones behind a row. Conditions: the bounds named in each theorem.
 What put answers of any value that may be; what Put answers. Conditions: the bounds named in each theorem.
 What Row answers: the bytes of values, one behind the other, or the first error. Conditions: the bounds named in each theorem.
-/
import Derived.Test.YtmgdciihpjifgaaGreatDoorQrKcPutNum
import Derived.Test.YtmgdciihpjifgaaGreatDoorQrKcVals
import Derived.Test.YtmgdciihpjifgaaGreatDoorQrVlWorld
import Derived.Test.YtmgdciihpjifgaaGreatDoorQrBase
import Derived.Test.YtmgdciihpjifgaaGreatDoorQrKcPieces
set_option maxHeartbeats 2000000
namespace Go.Proofs.YtmgdciihpjifgaaGreatDoor
open Go.RowKit
theorem putNumber_x (base : Nat) (v : Value) (l : List UInt8) (x y : Int) (N k : Nat) (w : World) (hx : x = N) (hy : y = k) (hown : Ow w base v l) (hb : base ≤ w.heap.size) (hk : k ≤ 8) (hl : l.length ≤ 1000000) :
  Calls Tryz.prog 100 #[v, .int .u64 x, .int .i64 y] w fun e w' => ∃ v', e = .returned v' ∧ Ow w' base v' (l ++ Kc.bn k N) ∧ Below base w w' := by
 subst hx hy
 exact putNumber_is base v l N k w hown hb hk hl
theorem put_boxes (w : World) (v : Value) (k n b : Int) (s : List UInt8) :
  Blk ((w.alloc (.cells #[v] 102)).alloc (.cells #[.int .i64 k, .int .i64 n, .int .u64 b, .string ⟨s.toArray⟩] 25)) w.heap.size #[v] 102 ∧
  Blk ((w.alloc (.cells #[v] 102)).alloc (.cells #[.int .i64 k, .int .i64 n, .int .u64 b, .string ⟨s.toArray⟩] 25)) (w.heap.size + 1) #[.int .i64 k, .int .i64 n, .int .u64 b, .string ⟨s.toArray⟩] 25 ∧
  ((w.alloc (.cells #[v] 102)).alloc (.cells #[.int .i64 k, .int .i64 n, .int .u64 b, .string ⟨s.toArray⟩] 25)).heap.size = w.heap.size + 2 := by
 refine ⟨(Blk.new w _ _).alloc _, ?_, by simp⟩
 have := Blk.new (w.alloc (.cells #[v] 102)) #[.int .i64 k, .int .i64 n, .int .u64 b, .string ⟨s.toArray⟩] 25
 rwa [World.size_alloc] at this
theorem vbox {W : World} {B : Nat} {k n b : Int} {s : List UInt8} (h : Blk W B #[.int .i64 k, .int .i64 n, .int .u64 b, .string ⟨s.toArray⟩] 25) :
  W.cell? ⟨B, 0, none⟩ = some (.int .i64 k) ∧ W.cell? ⟨B, 1, none⟩ = some (.int .i64 n) ∧ W.cell? ⟨B, 2, none⟩ = some (.int .u64 b) ∧ W.cell? ⟨B, 3, none⟩ = some (.string ⟨s.toArray⟩) :=
 ⟨h.cell 0, h.cell 1, h.cell 2, h.cell 3⟩
theorem put_0 (base : Nat) (v0 : Value) (l : List UInt8) (n b : Int) (s : List UInt8) (w : World) (hown : Ow w base v0 l) (hb : base ≤ w.heap.size) (hl : l.length ≤ 100000) :
  Calls Tryz.prog 131 #[v0, .agg #[.int .i64 0, .int .i64 n, .int .u64 b, .string ⟨s.toArray⟩]] w fun e w' => ∃ v', e = .returned v' ∧ Ow w' base v' (l ++ pt 0 n b s) ∧ Below base w w' := by
 obtain ⟨a, m, c, rfl⟩ := hown.sl
 have hB := put_boxes w (.slice a m c) 0 n b s
 have hO := (hown.alloc (.cells #[.slice a m c] 102)).alloc (.cells #[.int .i64 0, .int .i64 n, .int .u64 b, .string ⟨s.toArray⟩] 25)
 have hL := ((Below.refl base w).alloc hb (.cells #[.slice a m c] 102)).alloc (by simp; omega) (.cells #[.int .i64 0, .int .i64 n, .int .u64 b, .string ⟨s.toArray⟩] 25)
 obtain ⟨W0, hW0⟩ : ∃ W0, (w.alloc (.cells #[.slice a m c] 102)).alloc (.cells #[.int .i64 0, .int .i64 n, .int .u64 b, .string ⟨s.toArray⟩] 25) = W0 := ⟨_, rfl⟩
 rw [hW0] at hB hO hL
 obtain ⟨hB0, hB1, hz⟩ := hB
 have c0 := hB0.boxed.cell
 have c1 := (vbox hB1).1
 have H := zh (za hO (za hb (za hl (za hL (za hB0 (za hB1 hz))))))
 clear hown hb hl hO hL hB0 hB1 hz
 go_enter Tryz.func131, Tryz.ntmps131
 go_wp2_with (at_builtin; refine app1g rfl _ _ rfl base (.slice a m c) l (UInt8.ofNat (0 : Int).toNat) _ W0 rfl rfl H.out.1 rfl (by have := H.out; omega) (by have := H.out; omega) ?_; intro v' w1 hown' hg; obtain ⟨g', cap', rfl⟩ := hown'.succ; obtain ⟨q1, q2, q3, q4, q5, q6⟩ := wrote (H.out.2.2.2.2.1.alloc _) (H.out.1.alloc _) (by have := H.out; simp; omega) H.out.2.1 hown' hg; have q7 := (q6 _ _ _ (by omega) (by decide) (H.out.2.2.2.2.2.1.alloc _)).2; have z1 := q1.boxed.cell; have z2 := q1.boxed.frozen; have q8 := (((Below.refl base W0).alloc (by have := H.out; omega) _).trans q4); obtain ⟨W2, hW2⟩ : ∃ W2, w1.setCell ⟨w.heap.size, 0, none⟩ (.slice (some ⟨g', 0, none⟩) (l.length + 1) cap') = W2 := ⟨_, rfl⟩; rw [hW2] at q2 q3 q7 q8; have z3 := q2.boxed.cell; obtain ⟨z4, z5, z6, z7⟩ := vbox q7; have G := zh (za q3 (H.out.2.2.2.1.trans q8)); clear hown' hg q1 q2 q3 q4 q5 q6 q7 q8; go_frame)
 go_ret
 exact ⟨_, rfl, G.out.1, G.out.2⟩
theorem put_1a (base : Nat) (v0 : Value) (l : List UInt8) (b : Int) (s : List UInt8) (w : World) (hown : Ow w base v0 l) (hb : base ≤ w.heap.size) (hl : l.length ≤ 100000) :
  Calls Tryz.prog 131 #[v0, .agg #[.int .i64 1, .int .i64 0, .int .u64 b, .string ⟨s.toArray⟩]] w fun e w' => ∃ v', e = .returned v' ∧ Ow w' base v' (l ++ pt 1 0 b s) ∧ Below base w w' := by
 obtain ⟨a, m, c, rfl⟩ := hown.sl
 have hB := put_boxes w (.slice a m c) 1 0 b s
 have hO := (hown.alloc (.cells #[.slice a m c] 102)).alloc (.cells #[.int .i64 1, .int .i64 0, .int .u64 b, .string ⟨s.toArray⟩] 25)
 have hL := ((Below.refl base w).alloc hb (.cells #[.slice a m c] 102)).alloc (by simp; omega) (.cells #[.int .i64 1, .int .i64 0, .int .u64 b, .string ⟨s.toArray⟩] 25)
 obtain ⟨W0, hW0⟩ : ∃ W0, (w.alloc (.cells #[.slice a m c] 102)).alloc (.cells #[.int .i64 1, .int .i64 0, .int .u64 b, .string ⟨s.toArray⟩] 25) = W0 := ⟨_, rfl⟩
 rw [hW0] at hB hO hL
 obtain ⟨hB0, hB1, hz⟩ := hB
 have c0 := hB0.boxed.cell
 have c1 := (vbox hB1).1
 have H := zh (za hO (za hb (za hl (za hL (za hB0 (za hB1 hz))))))
 clear hown hb hl hO hL hB0 hB1 hz
 go_enter Tryz.func131, Tryz.ntmps131
 go_wp2_with (at_builtin; refine app1g rfl _ _ rfl base (.slice a m c) l (UInt8.ofNat (1 : Int).toNat) _ W0 rfl rfl H.out.1 rfl (by have := H.out; omega) (by have := H.out; omega) ?_; intro v' w1 hown' hg; obtain ⟨g', cap', rfl⟩ := hown'.succ; obtain ⟨q1, q2, q3, q4, q5, q6⟩ := wrote (H.out.2.2.2.2.1.alloc _) (H.out.1.alloc _) (by have := H.out; simp; omega) H.out.2.1 hown' hg; have q7 := (q6 _ _ _ (by omega) (by decide) (H.out.2.2.2.2.2.1.alloc _)).2; have z1 := q1.boxed.cell; have z2 := q1.boxed.frozen; have q8 := (((Below.refl base W0).alloc (by have := H.out; omega) _).trans q4); obtain ⟨W2, hW2⟩ : ∃ W2, w1.setCell ⟨w.heap.size, 0, none⟩ (.slice (some ⟨g', 0, none⟩) (l.length + 1) cap') = W2 := ⟨_, rfl⟩; rw [hW2] at q2 q3 q7 q8; have z3 := q2.boxed.cell; obtain ⟨z4, z5, z6, z7⟩ := vbox q7; have G := zh (za q3 (H.out.2.2.2.1.trans q8)); clear hown' hg q1 q2 q3 q4 q5 q6 q7 q8; go_frame)
 refine (putNumber_x base _ (l ++ [_]) (0) 1 (0) 1 W2 rfl rfl G.out.1 (Nat.le_trans H.out.2.1 G.out.2.size) (by decide) (by have := H.out; simp; omega)).mono ?_
 rintro e w3 ⟨v3, rfl, hO3, hb3⟩
 have G3 := zh (za hO3 (G.out.2.trans hb3))
 clear hO3 hb3
 go_wp2
 go_ret
 exact ⟨_, rfl, by have := G3.out.1; rw [List.append_assoc] at this; exact this, G3.out.2⟩
theorem put_1b (base : Nat) (v0 : Value) (l : List UInt8) (b : Int) (s : List UInt8) (w : World) (hown : Ow w base v0 l) (hb : base ≤ w.heap.size) (hl : l.length ≤ 100000) :
  Calls Tryz.prog 131 #[v0, .agg #[.int .i64 1, .int .i64 1, .int .u64 b, .string ⟨s.toArray⟩]] w fun e w' => ∃ v', e = .returned v' ∧ Ow w' base v' (l ++ pt 1 1 b s) ∧ Below base w w' := by
 obtain ⟨a, m, c, rfl⟩ := hown.sl
 have hB := put_boxes w (.slice a m c) 1 1 b s
 have hO := (hown.alloc (.cells #[.slice a m c] 102)).alloc (.cells #[.int .i64 1, .int .i64 1, .int .u64 b, .string ⟨s.toArray⟩] 25)
 have hL := ((Below.refl base w).alloc hb (.cells #[.slice a m c] 102)).alloc (by simp; omega) (.cells #[.int .i64 1, .int .i64 1, .int .u64 b, .string ⟨s.toArray⟩] 25)
 obtain ⟨W0, hW0⟩ : ∃ W0, (w.alloc (.cells #[.slice a m c] 102)).alloc (.cells #[.int .i64 1, .int .i64 1, .int .u64 b, .string ⟨s.toArray⟩] 25) = W0 := ⟨_, rfl⟩
 rw [hW0] at hB hO hL
 obtain ⟨hB0, hB1, hz⟩ := hB
 have c0 := hB0.boxed.cell
 have c1 := (vbox hB1).1
 have H := zh (za hO (za hb (za hl (za hL (za hB0 (za hB1 hz))))))
 clear hown hb hl hO hL hB0 hB1 hz
 go_enter Tryz.func131, Tryz.ntmps131
 go_wp2_with (at_builtin; refine app1g rfl _ _ rfl base (.slice a m c) l (UInt8.ofNat (1 : Int).toNat) _ W0 rfl rfl H.out.1 rfl (by have := H.out; omega) (by have := H.out; omega) ?_; intro v' w1 hown' hg; obtain ⟨g', cap', rfl⟩ := hown'.succ; obtain ⟨q1, q2, q3, q4, q5, q6⟩ := wrote (H.out.2.2.2.2.1.alloc _) (H.out.1.alloc _) (by have := H.out; simp; omega) H.out.2.1 hown' hg; have q7 := (q6 _ _ _ (by omega) (by decide) (H.out.2.2.2.2.2.1.alloc _)).2; have z1 := q1.boxed.cell; have z2 := q1.boxed.frozen; have q8 := (((Below.refl base W0).alloc (by have := H.out; omega) _).trans q4); obtain ⟨W2, hW2⟩ : ∃ W2, w1.setCell ⟨w.heap.size, 0, none⟩ (.slice (some ⟨g', 0, none⟩) (l.length + 1) cap') = W2 := ⟨_, rfl⟩; rw [hW2] at q2 q3 q7 q8; have z3 := q2.boxed.cell; obtain ⟨z4, z5, z6, z7⟩ := vbox q7; have G := zh (za q3 (H.out.2.2.2.1.trans q8)); clear hown' hg q1 q2 q3 q4 q5 q6 q7 q8; go_frame)
 refine (putNumber_x base _ (l ++ [_]) (1) 1 (1) 1 W2 rfl rfl G.out.1 (Nat.le_trans H.out.2.1 G.out.2.size) (by decide) (by have := H.out; simp; omega)).mono ?_
 rintro e w3 ⟨v3, rfl, hO3, hb3⟩
 have G3 := zh (za hO3 (G.out.2.trans hb3))
 clear hO3 hb3
 go_wp2
 go_ret
 exact ⟨_, rfl, by have := G3.out.1; rw [List.append_assoc] at this; exact this, G3.out.2⟩
theorem xs_int (n : Int) (hn : -9223372036854775808 ≤ n ∧ n < 9223372036854775808) : bits BinOp.xor IntKind.u64 (IntKind.u64.wrap n) 9223372036854775808 = ((n + 9223372036854775808).toNat : Int) := by
 have e : IntKind.u64.wrap n = n % 18446744073709551616 := by simp [IntKind.wrap, IntKind.bits, IntKind.signed]
 have u : Rl.U (n % 18446744073709551616) := by unfold Rl.U; omega
 rw [e, Rl.xsign _ u]
 split <;> omega
theorem put_2 (base : Nat) (v0 : Value) (l : List UInt8) (n b : Int) (s : List UInt8) (w : World) (hown : Ow w base v0 l) (hb : base ≤ w.heap.size) (hl : l.length ≤ 100000) (hn : -9223372036854775808 ≤ n ∧ n < 9223372036854775808) :
  Calls Tryz.prog 131 #[v0, .agg #[.int .i64 2, .int .i64 n, .int .u64 b, .string ⟨s.toArray⟩]] w fun e w' => ∃ v', e = .returned v' ∧ Ow w' base v' (l ++ pt 2 n b s) ∧ Below base w w' := by
 obtain ⟨a, m, c, rfl⟩ := hown.sl
 have hB := put_boxes w (.slice a m c) 2 n b s
 have hO := (hown.alloc (.cells #[.slice a m c] 102)).alloc (.cells #[.int .i64 2, .int .i64 n, .int .u64 b, .string ⟨s.toArray⟩] 25)
 have hL := ((Below.refl base w).alloc hb (.cells #[.slice a m c] 102)).alloc (by simp; omega) (.cells #[.int .i64 2, .int .i64 n, .int .u64 b, .string ⟨s.toArray⟩] 25)
 obtain ⟨W0, hW0⟩ : ∃ W0, (w.alloc (.cells #[.slice a m c] 102)).alloc (.cells #[.int .i64 2, .int .i64 n, .int .u64 b, .string ⟨s.toArray⟩] 25) = W0 := ⟨_, rfl⟩
 rw [hW0] at hB hO hL
 obtain ⟨hB0, hB1, hz⟩ := hB
 have c0 := hB0.boxed.cell
 have c1 := (vbox hB1).1
 have H := zh (za hO (za hb (za hl (za hL (za hB0 (za hB1 hz))))))
 clear hown hb hl hO hL hB0 hB1 hz
 go_enter Tryz.func131, Tryz.ntmps131
 go_wp2_with (at_builtin; refine app1g rfl _ _ rfl base (.slice a m c) l (UInt8.ofNat (2 : Int).toNat) _ W0 rfl rfl H.out.1 rfl (by have := H.out; omega) (by have := H.out; omega) ?_; intro v' w1 hown' hg; obtain ⟨g', cap', rfl⟩ := hown'.succ; obtain ⟨q1, q2, q3, q4, q5, q6⟩ := wrote (H.out.2.2.2.2.1.alloc _) (H.out.1.alloc _) (by have := H.out; simp; omega) H.out.2.1 hown' hg; have q7 := (q6 _ _ _ (by omega) (by decide) (H.out.2.2.2.2.2.1.alloc _)).2; have z1 := q1.boxed.cell; have z2 := q1.boxed.frozen; have q8 := (((Below.refl base W0).alloc (by have := H.out; omega) _).trans q4); obtain ⟨W2, hW2⟩ : ∃ W2, w1.setCell ⟨w.heap.size, 0, none⟩ (.slice (some ⟨g', 0, none⟩) (l.length + 1) cap') = W2 := ⟨_, rfl⟩; rw [hW2] at q2 q3 q7 q8; have z3 := q2.boxed.cell; obtain ⟨z4, z5, z6, z7⟩ := vbox q7; have G := zh (za q3 (H.out.2.2.2.1.trans q8)); clear hown' hg q1 q2 q3 q4 q5 q6 q7 q8; go_frame)
 refine (putNumber_x base _ (l ++ [_]) (_) 8 ((n + 9223372036854775808).toNat) 8 W2 (xs_int n hn) rfl G.out.1 (Nat.le_trans H.out.2.1 G.out.2.size) (by decide) (by have := H.out; simp; omega)).mono ?_
 rintro e w3 ⟨v3, rfl, hO3, hb3⟩
 have G3 := zh (za hO3 (G.out.2.trans hb3))
 clear hO3 hb3
 go_wp2
 go_ret
 exact ⟨_, rfl, by have := G3.out.1; rw [List.append_assoc] at this; exact this, G3.out.2⟩
theorem put_3 (base : Nat) (v0 : Value) (l : List UInt8) (n b : Int) (s : List UInt8) (w : World) (hown : Ow w base v0 l) (hb : base ≤ w.heap.size) (hl : l.length ≤ 100000) (hU : Rl.U b) :
  Calls Tryz.prog 131 #[v0, .agg #[.int .i64 3, .int .i64 n, .int .u64 b, .string ⟨s.toArray⟩]] w fun e w' => ∃ v', e = .returned v' ∧ Ow w' base v' (l ++ pt 3 n b s) ∧ Below base w w' := by
 obtain ⟨a, m, c, rfl⟩ := hown.sl
 have hB := put_boxes w (.slice a m c) 3 n b s
 have hO := (hown.alloc (.cells #[.slice a m c] 102)).alloc (.cells #[.int .i64 3, .int .i64 n, .int .u64 b, .string ⟨s.toArray⟩] 25)
 have hL := ((Below.refl base w).alloc hb (.cells #[.slice a m c] 102)).alloc (by simp; omega) (.cells #[.int .i64 3, .int .i64 n, .int .u64 b, .string ⟨s.toArray⟩] 25)
 obtain ⟨W0, hW0⟩ : ∃ W0, (w.alloc (.cells #[.slice a m c] 102)).alloc (.cells #[.int .i64 3, .int .i64 n, .int .u64 b, .string ⟨s.toArray⟩] 25) = W0 := ⟨_, rfl⟩
 rw [hW0] at hB hO hL
 obtain ⟨hB0, hB1, hz⟩ := hB
 have c0 := hB0.boxed.cell
 have c1 := (vbox hB1).1
 have H := zh (za hO (za hb (za hl (za hL (za hB0 (za hB1 hz))))))
 clear hown hb hl hO hL hB0 hB1 hz
 go_enter Tryz.func131, Tryz.ntmps131
 go_wp2_with (at_builtin; refine app1g rfl _ _ rfl base (.slice a m c) l (UInt8.ofNat (3 : Int).toNat) _ W0 rfl rfl H.out.1 rfl (by have := H.out; omega) (by have := H.out; omega) ?_; intro v' w1 hown' hg; obtain ⟨g', cap', rfl⟩ := hown'.succ; obtain ⟨q1, q2, q3, q4, q5, q6⟩ := wrote (H.out.2.2.2.2.1.alloc _) (H.out.1.alloc _) (by have := H.out; simp; omega) H.out.2.1 hown' hg; have q7 := (q6 _ _ _ (by omega) (by decide) (H.out.2.2.2.2.2.1.alloc _)).2; have z1 := q1.boxed.cell; have z2 := q1.boxed.frozen; have q8 := (((Below.refl base W0).alloc (by have := H.out; omega) _).trans q4); obtain ⟨W2, hW2⟩ : ∃ W2, w1.setCell ⟨w.heap.size, 0, none⟩ (.slice (some ⟨g', 0, none⟩) (l.length + 1) cap') = W2 := ⟨_, rfl⟩; rw [hW2] at q2 q3 q7 q8; have z3 := q2.boxed.cell; obtain ⟨z4, z5, z6, z7⟩ := vbox q7; have G := zh (za q3 (H.out.2.2.2.1.trans q8)); clear hown' hg q1 q2 q3 q4 q5 q6 q7 q8; go_frame)
 have hmx : Tryz.prog.follows .mixedOrders = true := by kernel_rfl
 have hk0 := Rl.ky_U b hU
 have hk1 : Rl.ky b = ((Rl.ky b).toNat : Int) := by unfold Rl.U at hk0; omega
 have HK := zh hk1
 clear hk0 hk1
 go_region_with (first | (go_at_call 148; refine (key_any b _ hU).mono ?_; rintro e w' ⟨rfl, rfl⟩) | (go_at_call 100; refine (putNumber_x base _ (l ++ [_]) _ 8 (Rl.ky b).toNat 8 _ HK.out rfl (G.out.1.keep (below_drew1 (Below.refl _ _))) (Nat.le_trans H.out.2.1 G.out.2.size) (by decide) (by have := H.out; simp; omega)).mono ?_; rintro e w3 ⟨v3, rfl, hO3, hb3⟩; have G3 := zh (za hO3 ((below_drew1 G.out.2).trans hb3)); clear hO3 hb3))
 all_goals go_wp2
 all_goals go_ret
 all_goals exact ⟨_, rfl, by have := G3.out.1; rw [List.append_assoc] at this; exact this, G3.out.2⟩
end Go.Proofs.YtmgdciihpjifgaaGreatDoor
namespace Go.Proofs.YtmgdciihpjifgaaGreatDoor
open Go.RowKit Go.Shelf
attribute [local go_sem] Oper.semAt_some
def Mid (B Bn base : Nat) (l s : List UInt8) (w0 : World) (pre : List Sm) (W : World) : Prop :=
 (∃ v, Blk W B #[v] 102 ∧ Ow W base v (l ++ (pre.map (·.1)).flatten)) ∧ Boxed W Bn 9 (str s) ∧ Below base w0 W
theorem row_own {W W' : World} {row : Option Nat} {base : Nat} {v : Value} {l : List UInt8} (h : Ow W base v l) (hg : W.grownBy W' row) (hr : ∀ r, row = some r → ∃ o : Obj, W.heap[r]? = some o ∧ o.isCells = false) : Ow W' base v l := by
 refine World.ownsRow.kept h hg ?_
 rcases h.2 with ⟨rfl, _⟩ | ⟨g, cap, cur, rfl, _, hgb, _⟩
 ·exact .inl rfl
 ·refine .inr fun e' => ?_
  obtain ⟨o, ho, hc⟩ := hr g (by simpa [Value.ownBlock] using e'.symm)
  rw [hgb] at ho; cases ho; cases hc
theorem blk_own {W W' : World} {row : Option Nat} {B : Nat} {cs : Array Value} {t : TypeId} (h : Blk W B cs t) (hg : W.grownBy W' row) (hr : ∀ r, row = some r → ∃ o : Obj, W.heap[r]? = some o ∧ o.isCells = false) : Blk W' B cs t :=
 h.kept hg (fun e' => by obtain ⟨o, ho, hc⟩ := hr B e'.symm; rw [show W.heap[B]? = _ from h] at ho; cases ho; cases hc)
theorem mid_own (B Bn base n0 : Nat) (l s : List UInt8) (w0 : World) (hb : base ≤ n0) (h0 : base ≤ w0.heap.size) : OwnFrom n0 (Mid B Bn base l s w0) := by
 rintro pre W W' row ⟨⟨v, hv, hO⟩, hx, hB⟩ hg hr
 have hr' : ∀ r, row = some r → ∃ o : Obj, W.heap[r]? = some o ∧ o.isCells = false := fun r e => (hr r e).2
 exact ⟨⟨v, blk_own hv hg hr', row_own hO hg hr'⟩, blk_own hx hg hr', hB.grown hg (Nat.le_trans h0 hB.size) (fun k e => Nat.le_trans hb (hr k e).1)⟩
theorem flat_len (pre : List Sm) : (pre.map (·.1)).flatten.length ≤ 2 * pre.length := by
 induction pre with
 | nil => simp
 | cons x pre ih => have := x.2; simp at *; omega
theorem flat_pcs (s : List UInt8) : (pcs s).flatten = Kc.esc s := by
 unfold pcs Kc.esc
 induction s with
 | nil => rfl
 | cons x s ih => simp [Kc.es] at *; rw [ih]
set_option maxRecDepth 100000 in
theorem put_4 (base : Nat) (v0 : Value) (l : List UInt8) (n b : Int) (s : List UInt8) (w : World) (hown : Ow w base v0 l) (hb : base ≤ w.heap.size) (hl : l.length ≤ 100000) (hs : s.length ≤ 64) :
  Calls Tryz.prog 131 #[v0, .agg #[.int .i64 4, .int .i64 n, .int .u64 b, .string ⟨s.toArray⟩]] w fun e w' => ∃ v', e = .returned v' ∧ Ow w' base v' (l ++ pt 4 n b s) ∧ Below base w w' := by
 obtain ⟨a, m, c, rfl⟩ := hown.sl
 have hB := put_boxes w (.slice a m c) 4 n b s
 have hO := (hown.alloc (.cells #[.slice a m c] 102)).alloc (.cells #[.int .i64 4, .int .i64 n, .int .u64 b, .string ⟨s.toArray⟩] 25)
 have hL := ((Below.refl base w).alloc hb (.cells #[.slice a m c] 102)).alloc (by simp; omega) (.cells #[.int .i64 4, .int .i64 n, .int .u64 b, .string ⟨s.toArray⟩] 25)
 obtain ⟨W0, hW0⟩ : ∃ W0, (w.alloc (.cells #[.slice a m c] 102)).alloc (.cells #[.int .i64 4, .int .i64 n, .int .u64 b, .string ⟨s.toArray⟩] 25) = W0 := ⟨_, rfl⟩
 rw [hW0] at hB hO hL
 obtain ⟨hB0, hB1, hz⟩ := hB
 have c0 := hB0.boxed.cell
 have c1 := (vbox hB1).1
 have H := zh (za hO (za hb (za hl (za hL (za hB0 (za hB1 hz))))))
 have HS := zh hs
 clear hown hb hl hO hL hB0 hB1 hz hs
 refine callsIn_wide.1 (callsIn_of_wp_marks (F := Fence.wide) (n := 3) Tryz.func131 rfl trivial ?_ rfl)
 simp only [Tryz.ntmps131, List.size_toArray, List.length_cons, List.length_nil, Nat.reduceAdd, Nat.reduceSub, Array.replicate_succ, Array.replicate_zero, List.push_toArray, List.append_toArray, List.nil_append, List.cons_append]
 refine wpIn_wide.2 ?_
 go_wp2_with (first
  | (at_builtin; refine app1g rfl _ _ rfl base (.slice a m c) l (UInt8.ofNat (4 : Int).toNat) _ W0 rfl rfl H.out.1 rfl (by have := H.out; omega) (by have := H.out; omega) ?_; intro v' w1 hown' hg; obtain ⟨g', cap', rfl⟩ := hown'.succ; obtain ⟨q1, q2, q3, q4, q5, q6⟩ := wrote (H.out.2.2.2.2.1.alloc _) (H.out.1.alloc _) (by have := H.out; simp; omega) H.out.2.1 hown' hg; have q7 := (q6 _ _ _ (by omega) (by decide) (H.out.2.2.2.2.2.1.alloc _)).2; have z1 := q1.boxed.cell; have z2 := q1.boxed.frozen; have q8 := (((Below.refl base W0).alloc (by have := H.out; omega) _).trans q4); obtain ⟨W2, hW2⟩ : ∃ W2, w1.setCell ⟨w.heap.size, 0, none⟩ (.slice (some ⟨g', 0, none⟩) (l.length + 1) cap') = W2 := ⟨_, rfl⟩; rw [hW2] at q2 q3 q7 q8; have z3 := q2.boxed.cell; obtain ⟨z4, z5, z6, z7⟩ := vbox q7; have G := zh (za q3 (za (H.out.2.2.2.1.trans q8) q2)); clear hown' hg q1 q2 q3 q4 q5 q6 q7 q8; go_frame)
  | (go_at_call 149; refine (escaped_is s _).mono ?_; rintro e w' ⟨rfl, rfl⟩))
 have e0 := Blk.new W2 #[str s] 9
 have hs3 : (W2.alloc (.cells #[str s] 9)).heap.size = W2.heap.size + 1 := by simp
 have hz2 := G.out.2.1.size
 have hb0 := H.out.2.1
 have hI0 : Mid w.heap.size W2.heap.size base (l ++ [UInt8.ofNat (4 : Int).toNat]) s w [] (W2.alloc (.cells #[str s] 9)) :=
  ⟨⟨_, G.out.2.2.alloc _, by simpa using G.out.1.alloc _⟩, e0, G.out.2.1.alloc (by omega) _⟩
 obtain ⟨W3, hW3⟩ : ∃ W3, W2.alloc (.cells #[str s] 9) = W3 := ⟨_, rfl⟩
 rw [hW3] at e0 hs3 hI0 ⊢
 have E0 := zh (za e0 (za hs3 (za hI0 (za hz2 hb0))))
 clear e0 hs3 hI0 hz2 hb0 z1 z2 z3 z4 z5 z6 z7 hW2 hW3 hW0 c0 c1
 refine (wpIn_wide (n := 3)).1 ?_
 refine' wpIn_rangeFunc_ownG rfl (by decide) (gf := 159) (lb := #[.pointer (some ⟨W2.heap.size, 0, none⟩)]) rfl trivial (enters_of Tryz.func159 (by kernel_rfl) rfl)
  (esc_stops 2 W2.heap.size (by decide) s (by have := HS.out; omega) W3 E0.out.1) (fun h g e => g (h e)) (fun W j o o' hj hW _ _ hx => hx.kept (grownBy_putObj' W j o') (fun e => by have := E0.out.2.1; cases e; omega)) (Below.refl _ _) (fun _ => rfl)
  (Mid w.heap.size W2.heap.size base (l ++ [UInt8.ofNat (4 : Int).toNat]) s w) (fun _ _ _ => False)
  (mid_own _ _ _ _ _ _ _ (by have := E0.out; omega) E0.out.2.2.2.2) (fun _ _ _ _ _ hs _ _ => hs) E0.out.2.2.1 _ ?assign ?body ?done ?stop
 case assign =>
  intro l x W K hK
  gi_wp2
  exact hK
 case body =>
  rintro j pre x W ⟨⟨v, hv, hO⟩, hx, hB⟩ hlt
  obtain ⟨a5, m5, c5, rfl⟩ := hO.sl
  have y0 := hv.boxed.cell
  have hfl := flat_len pre
  have hx2 := x.2
  have M := zh (za hv (za hO (za hx (za hB (za hlt (za hfl hx2))))))
  clear hv hO hx hB hlt hfl hx2
  gi_wp2_with (gi_at_builtin; refine appSIn W rfl _ _ rfl base (.slice a5 m5 c5) (l ++ [UInt8.ofNat (4 : Int).toNat] ++ (pre.map (·.1)).flatten) x.1 rfl M.out.2.1 rfl (by have := M.out; have := H.out; have := HS.out; rw [List.length_append, List.length_append, List.length_singleton]; omega) (by have := M.out; omega) (by have := M.out.2.2.2.1.size; have := H.out; omega) ?_; intro v' w4 hown' hg; obtain ⟨a6, m6, c6, rfl⟩ := hown'.sl; obtain ⟨q1, q2, q3, q4, q5, q6⟩ := wrote M.out.1 M.out.2.1 (by have := M.out.2.2.2.1.size; have := H.out; omega) H.out.2.1 hown' hg; have q7 := (q6 _ _ _ (by have := G.out.2.2.lt; omega) (by decide) M.out.2.2.1).2; have z1 := q1.boxed.cell; have z2 := q1.boxed.frozen; have N := zh (za q2 (za q3 (za q4 (za q5 q7)))); clear hown' hg q1 q2 q3 q4 q5 q6 q7; go_frame)
  exact ⟨N.out.2.2.2.1.from _, fun _ => N.out.2.2.2.2, ⟨⟨_, N.out.1, by have := N.out.2.1; simpa using this⟩, N.out.2.2.2.2, M.out.2.2.2.1.trans N.out.2.2.1⟩⟩
 case done =>
  rintro D ys W hD hy ⟨⟨v, hv, hO⟩, hx, hB⟩ hK
  have y0 := hv.boxed.cell
  have hbW := Nat.le_trans H.out.2.1 hB.size
  have hbD : base ≤ D := by have := E0.out; omega
  have M := zh (za hO (za hB (za hbW (za hbD hy))))
  clear hv hO hx hB hbW hbD hy
  obtain ⟨a5, m5, c5, rfl⟩ := M.out.1.sl
  go_wp2
  refine ⟨by simp, .inl ⟨_, _, rfl, run_takeDeferred hK, ?_⟩⟩
  refine ⟨_, results_tmp rfl _ _ _, _, rfl, ?_, M.out.2.1.grown (grownBy_putObj' W D _) M.out.2.2.1 (fun k e => by cases e; exact M.out.2.2.2.1)⟩
  have h9 := row_own M.out.1 (grownBy_putObj' W D (.deferred none)) (fun r e => by cases e; exact ⟨_, hK, rfl⟩)
  rw [M.out.2.2.2.2, flat_pcs, List.append_assoc] at h9
  exact h9
 case stop =>
  rintro D c pre W _ _ h _
  exact h.elim
set_option maxRecDepth 100000 in
theorem put_5 (base : Nat) (v0 : Value) (l : List UInt8) (n b : Int) (s : List UInt8) (w : World) (hown : Ow w base v0 l) (hb : base ≤ w.heap.size) (hl : l.length ≤ 100000) (hs : s.length ≤ 64) :
  Calls Tryz.prog 131 #[v0, .agg #[.int .i64 5, .int .i64 n, .int .u64 b, .string ⟨s.toArray⟩]] w fun e w' => ∃ v', e = .returned v' ∧ Ow w' base v' (l ++ pt 5 n b s) ∧ Below base w w' := by
 obtain ⟨a, m, c, rfl⟩ := hown.sl
 have hB := put_boxes w (.slice a m c) 5 n b s
 have hO := (hown.alloc (.cells #[.slice a m c] 102)).alloc (.cells #[.int .i64 5, .int .i64 n, .int .u64 b, .string ⟨s.toArray⟩] 25)
 have hL := ((Below.refl base w).alloc hb (.cells #[.slice a m c] 102)).alloc (by simp; omega) (.cells #[.int .i64 5, .int .i64 n, .int .u64 b, .string ⟨s.toArray⟩] 25)
 obtain ⟨W0, hW0⟩ : ∃ W0, (w.alloc (.cells #[.slice a m c] 102)).alloc (.cells #[.int .i64 5, .int .i64 n, .int .u64 b, .string ⟨s.toArray⟩] 25) = W0 := ⟨_, rfl⟩
 rw [hW0] at hB hO hL
 obtain ⟨hB0, hB1, hz⟩ := hB
 have c0 := hB0.boxed.cell
 have c1 := (vbox hB1).1
 have H := zh (za hO (za hb (za hl (za hL (za hB0 (za hB1 hz))))))
 have HS := zh hs
 clear hown hb hl hO hL hB0 hB1 hz hs
 refine callsIn_wide.1 (callsIn_of_wp_marks (F := Fence.wide) (n := 3) Tryz.func131 rfl trivial ?_ rfl)
 simp only [Tryz.ntmps131, List.size_toArray, List.length_cons, List.length_nil, Nat.reduceAdd, Nat.reduceSub, Array.replicate_succ, Array.replicate_zero, List.push_toArray, List.append_toArray, List.nil_append, List.cons_append]
 refine wpIn_wide.2 ?_
 go_wp2_with (first
  | (at_builtin; refine app1g rfl _ _ rfl base (.slice a m c) l (UInt8.ofNat (5 : Int).toNat) _ W0 rfl rfl H.out.1 rfl (by have := H.out; omega) (by have := H.out; omega) ?_; intro v' w1 hown' hg; obtain ⟨g', cap', rfl⟩ := hown'.succ; obtain ⟨q1, q2, q3, q4, q5, q6⟩ := wrote (H.out.2.2.2.2.1.alloc _) (H.out.1.alloc _) (by have := H.out; simp; omega) H.out.2.1 hown' hg; have q7 := (q6 _ _ _ (by omega) (by decide) (H.out.2.2.2.2.2.1.alloc _)).2; have z1 := q1.boxed.cell; have z2 := q1.boxed.frozen; have q8 := (((Below.refl base W0).alloc (by have := H.out; omega) _).trans q4); obtain ⟨W2, hW2⟩ : ∃ W2, w1.setCell ⟨w.heap.size, 0, none⟩ (.slice (some ⟨g', 0, none⟩) (l.length + 1) cap') = W2 := ⟨_, rfl⟩; rw [hW2] at q2 q3 q7 q8; have z3 := q2.boxed.cell; obtain ⟨z4, z5, z6, z7⟩ := vbox q7; have G := zh (za q3 (za (H.out.2.2.2.1.trans q8) q2)); clear hown' hg q1 q2 q3 q4 q5 q6 q7 q8; go_frame)
  | (go_at_call 149; refine (escaped_is s _).mono ?_; rintro e w' ⟨rfl, rfl⟩))
 have e0 := Blk.new W2 #[str s] 9
 have hs3 : (W2.alloc (.cells #[str s] 9)).heap.size = W2.heap.size + 1 := by simp
 have hz2 := G.out.2.1.size
 have hb0 := H.out.2.1
 have hI0 : Mid w.heap.size W2.heap.size base (l ++ [UInt8.ofNat (5 : Int).toNat]) s w [] (W2.alloc (.cells #[str s] 9)) :=
  ⟨⟨_, G.out.2.2.alloc _, by simpa using G.out.1.alloc _⟩, e0, G.out.2.1.alloc (by omega) _⟩
 obtain ⟨W3, hW3⟩ : ∃ W3, W2.alloc (.cells #[str s] 9) = W3 := ⟨_, rfl⟩
 rw [hW3] at e0 hs3 hI0 ⊢
 have E0 := zh (za e0 (za hs3 (za hI0 (za hz2 hb0))))
 clear e0 hs3 hI0 hz2 hb0 z1 z2 z3 z4 z5 z6 z7 hW2 hW3 hW0 c0 c1
 refine (wpIn_wide (n := 3)).1 ?_
 refine' wpIn_rangeFunc_ownG rfl (by decide) (gf := 159) (lb := #[.pointer (some ⟨W2.heap.size, 0, none⟩)]) rfl trivial (enters_of Tryz.func159 (by kernel_rfl) rfl)
  (esc_stops 2 W2.heap.size (by decide) s (by have := HS.out; omega) W3 E0.out.1) (fun h g e => g (h e)) (fun W j o o' hj hW _ _ hx => hx.kept (grownBy_putObj' W j o') (fun e => by have := E0.out.2.1; cases e; omega)) (Below.refl _ _) (fun _ => rfl)
  (Mid w.heap.size W2.heap.size base (l ++ [UInt8.ofNat (5 : Int).toNat]) s w) (fun _ _ _ => False)
  (mid_own _ _ _ _ _ _ _ (by have := E0.out; omega) E0.out.2.2.2.2) (fun _ _ _ _ _ hs _ _ => hs) E0.out.2.2.1 _ ?assign ?body ?done ?stop
 case assign =>
  intro l x W K hK
  gi_wp2
  exact hK
 case body =>
  rintro j pre x W ⟨⟨v, hv, hO⟩, hx, hB⟩ hlt
  obtain ⟨a5, m5, c5, rfl⟩ := hO.sl
  have y0 := hv.boxed.cell
  have hfl := flat_len pre
  have hx2 := x.2
  have M := zh (za hv (za hO (za hx (za hB (za hlt (za hfl hx2))))))
  clear hv hO hx hB hlt hfl hx2
  gi_wp2_with (gi_at_builtin; refine appSIn W rfl _ _ rfl base (.slice a5 m5 c5) (l ++ [UInt8.ofNat (5 : Int).toNat] ++ (pre.map (·.1)).flatten) x.1 rfl M.out.2.1 rfl (by have := M.out; have := H.out; have := HS.out; rw [List.length_append, List.length_append, List.length_singleton]; omega) (by have := M.out; omega) (by have := M.out.2.2.2.1.size; have := H.out; omega) ?_; intro v' w4 hown' hg; obtain ⟨a6, m6, c6, rfl⟩ := hown'.sl; obtain ⟨q1, q2, q3, q4, q5, q6⟩ := wrote M.out.1 M.out.2.1 (by have := M.out.2.2.2.1.size; have := H.out; omega) H.out.2.1 hown' hg; have q7 := (q6 _ _ _ (by have := G.out.2.2.lt; omega) (by decide) M.out.2.2.1).2; have z1 := q1.boxed.cell; have z2 := q1.boxed.frozen; have N := zh (za q2 (za q3 (za q4 (za q5 q7)))); clear hown' hg q1 q2 q3 q4 q5 q6 q7; go_frame)
  exact ⟨N.out.2.2.2.1.from _, fun _ => N.out.2.2.2.2, ⟨⟨_, N.out.1, by have := N.out.2.1; simpa using this⟩, N.out.2.2.2.2, M.out.2.2.2.1.trans N.out.2.2.1⟩⟩
 case done =>
  rintro D ys W hD hy ⟨⟨v, hv, hO⟩, hx, hB⟩ hK
  have y0 := hv.boxed.cell
  have hbW := Nat.le_trans H.out.2.1 hB.size
  have hbD : base ≤ D := by have := E0.out; omega
  have M := zh (za hO (za hB (za hbW (za hbD hy))))
  clear hv hO hx hB hbW hbD hy
  obtain ⟨a5, m5, c5, rfl⟩ := M.out.1.sl
  go_wp2
  refine ⟨by simp, .inl ⟨_, _, rfl, run_takeDeferred hK, ?_⟩⟩
  refine ⟨_, results_tmp rfl _ _ _, _, rfl, ?_, M.out.2.1.grown (grownBy_putObj' W D _) M.out.2.2.1 (fun k e => by cases e; exact M.out.2.2.2.1)⟩
  have h9 := row_own M.out.1 (grownBy_putObj' W D (.deferred none)) (fun r e => by cases e; exact ⟨_, hK, rfl⟩)
  rw [M.out.2.2.2.2, flat_pcs, List.append_assoc] at h9
  exact h9
 case stop =>
  rintro D c pre W _ _ h _
  exact h.elim
end Go.Proofs.YtmgdciihpjifgaaGreatDoor
namespace Go.Proofs.YtmgdciihpjifgaaGreatDoor
open Go.RowKit
theorem put_is (base : Nat) (v0 : Value) (l : List UInt8) (k n b : Int) (s : List UInt8) (w : World) (hown : Ow w base v0 l) (hb : base ≤ w.heap.size) (hl : l.length ≤ 100000) (h : Vl.ck k n b s = 0) (hU : Rl.U b) (hn : -9223372036854775808 ≤ n ∧ n < 9223372036854775808) :
  Calls Tryz.prog 131 #[v0, .agg #[.int .i64 k, .int .i64 n, .int .u64 b, .string ⟨s.toArray⟩]] w fun e w' => ∃ v', e = .returned v' ∧ Ow w' base v' (l ++ pt k n b s) ∧ Below base w w' := by
 obtain ⟨k0, k5, hkn, hkb, hks, hk1, hcn, hsl⟩ := Vl.ck_ok h
 have c : k = 0 ∨ k = 1 ∨ k = 2 ∨ k = 3 ∨ k = 4 ∨ k = 5 := by omega
 rcases c with rfl | rfl | rfl | rfl | rfl | rfl
 ·exact put_0 base v0 l n b s w hown hb hl
 ·rcases hk1 rfl with rfl | rfl
  ·exact put_1a base v0 l b s w hown hb hl
  ·exact put_1b base v0 l b s w hown hb hl
 ·exact put_2 base v0 l n b s w hown hb hl hn
 ·exact put_3 base v0 l n b s w hown hb hl hU
 ·exact put_4 base v0 l n b s w hown hb hl hsl
 ·exact put_5 base v0 l n b s w hown hb hl hsl
theorem kput_ok (k n b : Int) (s : List UInt8) (w : World) (hU : Rl.U b) (hn : -9223372036854775808 ≤ n ∧ n < 9223372036854775808) (h : Vl.ck k n b s = 0) :
  Calls Tryz.prog 110 #[.agg #[.int .i64 k, .int .i64 n, .int .u64 b, .string ⟨s.toArray⟩]] w fun e w' => e = .returned (.tuple #[.string ⟨(pt k n b s).toArray⟩, .int .i64 0]) ∧ Below w.heap.size w w' := by
 have HC := zh (za h hn)
 clear h hn
 go_enter Tryz.func110, Tryz.ntmps110
 go_wp2_with fail
 refine (check_is k n b 0 s _ hU HC.out.1).mono ?_
 rintro e w1 ⟨rfl, hb⟩
 obtain ⟨_, c0, c1, c2, c3⟩ := boxes_1 hb
 have B1 := zh (old_1 hb)
 clear hb
 go_wp2_with fail
 refine (put_is w1.heap.size _ [] k n b s _ (ow_nil _ _) (Nat.le_refl _) (by decide) HC.out.1 hU HC.out.2).mono ?_
 rintro e w2 ⟨v2, rfl, hO, hb2⟩
 have cv := conv_own _ hO
 have B2 := zh (step0 B1.out hb2)
 clear hO hb2
 go_wp2
 go_ret2
 exact ⟨rfl, B2.out⟩
end Go.Proofs.YtmgdciihpjifgaaGreatDoor
namespace Go.Proofs.YtmgdciihpjifgaaGreatDoor
open Go.RowKit
def V.ck (x : V) : Int := Vl.ck x.k x.n x.b x.s
def V.pt (x : V) : List UInt8 := Go.Proofs.YtmgdciihpjifgaaGreatDoor.pt x.k x.n x.b x.s
def re : List V → Int
 | [] => 0
 | x :: xs => if x.ck = 0 then re xs else x.ck
def rb : List V → List UInt8
 | [] => []
 | x :: xs => x.pt ++ rb xs
theorem re_fine {xs : List V} (h : re xs = 0) : ∀ x ∈ xs, x.ck = 0 := by
 induction xs with
 | nil => simp
 | cons y xs ih =>
  rw [re] at h
  by_cases g : y.ck = 0
  ·rw [if_pos g] at h
   intro x hx
   rcases List.mem_cons.1 hx with rfl | e
   ·exact g
   ·exact ih h x e
  ·rw [if_neg g] at h; exact absurd h g
theorem re_of {xs : List V} (h : ∀ x ∈ xs, x.ck = 0) : re xs = 0 := by
 induction xs with
 | nil => rfl
 | cons y xs ih => rw [re, if_pos (h y (by simp))]; exact ih (fun x hx => h x (by simp [hx]))
theorem re_append {a : List V} (b : List V) (h : re a = 0) : re (a ++ b) = re b := by
 induction a with
 | nil => rfl
 | cons y a ih =>
  rw [re] at h
  by_cases g : y.ck = 0
  ·rw [if_pos g] at h; rw [List.cons_append, re, if_pos g, ih h]
  ·rw [if_neg g] at h; exact absurd h g
theorem rb_len {xs : List V} (h : ∀ x ∈ xs, x.ck = 0) : (rb xs).length ≤ 131 * xs.length := by
 induction xs with
 | nil => simp [rb]
 | cons y xs ih =>
  have h1 := ih (fun x hx => h x (by simp [hx]))
  have h2 := (pt_len (h y (by simp))).1
  simp [rb]
  unfold V.pt
  omega
theorem take_next (xs : List V) (j : Nat) (h : j < xs.length) : xs.take (j + 1) = xs.take j ++ [xs[j]] := List.take_succ_eq_append_getElem h
theorem re_next (xs : List V) (j : Nat) (h : j < xs.length) (h0 : re (xs.take j) = 0) (h1 : xs[j].ck = 0) : re (xs.take (j + 1)) = 0 := by
 rw [take_next xs j h, re_append _ h0, re, if_pos h1]; rfl
theorem re_stop (xs : List V) (j : Nat) (h : j < xs.length) (h0 : re (xs.take j) = 0) (h1 : xs[j].ck ≠ 0) : re xs = xs[j].ck := by
 conv => lhs; rw [← List.take_append_drop j xs]
 rw [re_append _ h0, List.drop_eq_getElem_cons h, re, if_neg h1]
def rt (xs : List V) : List UInt8 := if re xs = 0 then rb xs else []
end Go.Proofs.YtmgdciihpjifgaaGreatDoor
