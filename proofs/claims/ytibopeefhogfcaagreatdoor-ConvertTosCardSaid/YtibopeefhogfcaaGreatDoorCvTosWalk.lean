/-
  The walk of the law ConvertTos. Condition: the library's tables and variables hold what their initialisers lay; the bounds of the value's fields.
-/
import Derived.Test.YtibopeefhogfcaaGreatDoorCvRefTo
import Derived.Test.YtibopeefhogfcaaGreatDoorCvAwake
import Derived.Deep.RegionHeld3
import Derived.Deep.DrawnRows
namespace Go.Proofs.YtibopeefhogfcaaGreatDoor
open Go.RowKit

/-- What the boxes hold wherever only memory was made since. -/
theorem tos_at {w3 v : World} {gv ga : Nat} {k n b K N B : Int} {s S : List UInt8} (K0 : Blk w3 gv #[.int .i64 k, .int .i64 n, .int .u64 b, .string ⟨(s : List UInt8).toArray⟩] 24) (K1 : Blk w3 ga #[.int .i64 K, .int .i64 N, .int .u64 B, .string ⟨(S : List UInt8).toArray⟩] 24) (h : Below (w3.alloc (.cells #[.int .i64 K, .int .i64 N, .int .u64 B, .string ⟨(S : List UInt8).toArray⟩] 24)).heap.size (w3.alloc (.cells #[.int .i64 K, .int .i64 N, .int .u64 B, .string ⟨(S : List UInt8).toArray⟩] 24)) v) :
    Below (w3.alloc (.cells #[.int .i64 K, .int .i64 N, .int .u64 B, .string ⟨(S : List UInt8).toArray⟩] 24)).heap.size (w3.alloc (.cells #[.int .i64 K, .int .i64 N, .int .u64 B, .string ⟨(S : List UInt8).toArray⟩] 24)) v ∧ v.cell? ⟨gv, 0, none⟩ = some (.int .i64 k) ∧ v.cell? ⟨ga, 0, none⟩ = some (.int .i64 K) ∧ v.cell? ⟨ga, 1, none⟩ = some (.int .i64 N) ∧ v.cell? ⟨ga, 2, none⟩ = some (.int .u64 B) ∧ v.cell? ⟨ga, 3, none⟩ = some (.string ⟨(S : List UInt8).toArray⟩) ∧ v.cell? ⟨w3.heap.size, 0, none⟩ = some (.int .i64 K) ∧ v.cell? ⟨w3.heap.size, 1, none⟩ = some (.int .i64 N) ∧ v.cell? ⟨w3.heap.size, 2, none⟩ = some (.int .u64 B) ∧ v.cell? ⟨w3.heap.size, 3, none⟩ = some (.string ⟨(S : List UInt8).toArray⟩) := by
  have q0 := (K0.alloc (.cells #[.int .i64 K, .int .i64 N, .int .u64 B, .string ⟨(S : List UInt8).toArray⟩] 24)).below h
  have q1 := (K1.alloc (.cells #[.int .i64 K, .int .i64 N, .int .u64 B, .string ⟨(S : List UInt8).toArray⟩] 24)).below h
  have q2 := (Blk.new w3 #[.int .i64 K, .int .i64 N, .int .u64 B, .string ⟨(S : List UInt8).toArray⟩] 24).below h
  exact ⟨h, (q0.cell 0).trans rfl, (q1.cell 0).trans rfl, (q1.cell 1).trans rfl, (q1.cell 2).trans rfl, (q1.cell 3).trans rfl, (q2.cell 0).trans rfl, (q2.cell 1).trans rfl, (q2.cell 2).trans rfl, (q2.cell 3).trans rfl⟩
theorem rcan_b (x y : Int) (r : Bool) (w : World) (h : Cv.can x y = r) :
    Calls Tryz.prog 10 #[.int .i64 x, .int .i64 y] w fun e w' => e = .returned (.bool r) ∧ Below w.heap.size w w' :=
  (rcan_is x y r w h).mono fun _ _ ⟨he, hw⟩ => ⟨he, hw ▸ Below.refl _ _⟩

set_option maxHeartbeats 4000000 in
set_option maxRecDepth 100000 in
theorem tos_long (k n b : Int) (s : List UInt8) (kd : Int) (w : World) (E : Env w) (hl : 2000 < s.length) :
    Calls Tryz.prog 3 #[.agg #[.int .i64 k, .int .i64 n, .int .u64 b, .string ⟨(s : List UInt8).toArray⟩], .int .i64 kd] w fun x w' => x = .returned (.bool true) ∧ Below w.heap.size w w' := by
  have F := Lib.hid hl
  clear hl
  go_enter Tryz.func3, Tryz.ntmps3
  go_wp2_with fail
  refine (few_0 k n b s _ F.out).mono ?_
  rintro x w1 ⟨rfl, hb⟩
  have A1 := Lib.hid (old_1 hb)
  have k0 := (Blk.new w #[.int .i64 k, .int .i64 n, .int .u64 b, .string ⟨(s : List UInt8).toArray⟩] 24).below hb
  have K0 := Lib.hid k0
  have c0_0 := k0.cell 0
  have c0_1 := k0.cell 1
  have c0_2 := k0.cell 2
  have c0_3 := k0.cell 3
  simp at c0_0 c0_1 c0_2 c0_3
  clear hb k0
  go_wp2_with fail
  refine (awake_any _ (E.below A1.out)).mono ?_
  rintro x w2 ⟨rfl, hb⟩
  have A2 := Lib.hid (step0 A1.out hb)
  clear c0_0 c0_1 c0_2 c0_3
  have k0 := K0.out.below hb
  clear K0
  have K0 := Lib.hid k0
  have c0_0 := k0.cell 0
  have c0_1 := k0.cell 1
  have c0_2 := k0.cell 2
  have c0_3 := k0.cell 3
  simp at c0_0 c0_1 c0_2 c0_3
  clear hb k0
  go_wp2
  go_ret
  exact ⟨rfl, A2.out⟩

set_option maxHeartbeats 4000000 in
set_option maxRecDepth 100000 in
theorem tos_all (k n b : Int) (s : List UInt8) (kd : Int) (K N B e : Int) (S : List UInt8) (c : Bool) (w : World) (E : Env w) (hl : s.length ≤ 2000) (hB : Rl.U b) (hI : Cv.I n) (hr : Cv.to k n b s kd = ⟨K, N, B, S, e⟩) (hc : Cv.can k kd = c) :
    Calls Tryz.prog 3 #[.agg #[.int .i64 k, .int .i64 n, .int .u64 b, .string ⟨(s : List UInt8).toArray⟩], .int .i64 kd] w fun x w' => x = .returned (.bool true) ∧ Below w.heap.size w w' := by
  have F := Lib.hid hl
  have H := Lib.hid (And.intro hB (And.intro hI hr))
  have Q := Lib.hid hc
  clear hl hB hI hr hc
  go_enter Tryz.func3, Tryz.ntmps3
  go_wp2_with fail
  refine (few_1 k n b s _ F.out).mono ?_
  rintro x w1 ⟨rfl, hb⟩
  have A1 := Lib.hid (old_1 hb)
  have k0 := (Blk.new w #[.int .i64 k, .int .i64 n, .int .u64 b, .string ⟨(s : List UInt8).toArray⟩] 24).below hb
  have K0 := Lib.hid k0
  have c0_0 := k0.cell 0
  have c0_1 := k0.cell 1
  have c0_2 := k0.cell 2
  have c0_3 := k0.cell 3
  simp at c0_0 c0_1 c0_2 c0_3
  clear hb k0
  go_wp2_with fail
  refine (to_l k n b s kd K N B e S _ (E.below A1.out) H.out.1 H.out.2.1 H.out.2.2).mono ?_
  rintro x w2 ⟨rfl, hb⟩
  have A2 := Lib.hid (step0 A1.out hb)
  clear c0_0 c0_1 c0_2 c0_3
  have k0 := K0.out.below hb
  clear K0
  have K0 := Lib.hid k0
  have c0_0 := k0.cell 0
  have c0_1 := k0.cell 1
  have c0_2 := k0.cell 2
  have c0_3 := k0.cell 3
  simp at c0_0 c0_1 c0_2 c0_3
  clear hb k0
  have p0_0 := fun o => cap1 c0_0 o
  have p0_1 := fun o => cap1 c0_1 o
  have p0_2 := fun o => cap1 c0_2 o
  have p0_3 := fun o => cap1 c0_3 o
  go_wp2_with fail
  refine (rto_l k n b s kd K N B e S _ H.out.1 H.out.2.1 H.out.2.2).mono ?_
  rintro x w3 ⟨rfl, hb⟩
  have A3 := Lib.hid (step1 A2.out hb)
  clear c0_0 p0_0 c0_1 p0_1 c0_2 p0_2 c0_3 p0_3
  have k0 := (K0.out.alloc _).below hb
  clear K0
  have K0 := Lib.hid k0
  have k1 := (Blk.new w2 #[.int .i64 K, .int .i64 N, .int .u64 B, .string ⟨(S : List UInt8).toArray⟩] 24).below hb
  have K1 := Lib.hid k1
  have c0_0 := k0.cell 0
  have c0_1 := k0.cell 1
  have c0_2 := k0.cell 2
  have c0_3 := k0.cell 3
  simp at c0_0 c0_1 c0_2 c0_3
  have c1_0 := k1.cell 0
  have c1_1 := k1.cell 1
  have c1_2 := k1.cell 2
  have c1_3 := k1.cell 3
  simp at c1_0 c1_1 c1_2 c1_3
  clear hb k0 k1
  go_wp2_with fail
  go_region_held3 (fun v => Below (w3.alloc (.cells #[.int .i64 K, .int .i64 N, .int .u64 B, .string ⟨(S : List UInt8).toArray⟩] 24)).heap.size (w3.alloc (.cells #[.int .i64 K, .int .i64 N, .int .u64 B, .string ⟨(S : List UInt8).toArray⟩] 24)) v ∧ v.cell? ⟨w.heap.size, 0, none⟩ = some (.int .i64 k) ∧ v.cell? ⟨w2.heap.size, 0, none⟩ = some (.int .i64 K) ∧ v.cell? ⟨w2.heap.size, 1, none⟩ = some (.int .i64 N) ∧ v.cell? ⟨w2.heap.size, 2, none⟩ = some (.int .u64 B) ∧ v.cell? ⟨w2.heap.size, 3, none⟩ = some (.string ⟨(S : List UInt8).toArray⟩) ∧ v.cell? ⟨w3.heap.size, 0, none⟩ = some (.int .i64 K) ∧ v.cell? ⟨w3.heap.size, 1, none⟩ = some (.int .i64 N) ∧ v.cell? ⟨w3.heap.size, 2, none⟩ = some (.int .u64 B) ∧ v.cell? ⟨w3.heap.size, 3, none⟩ = some (.string ⟨(S : List UInt8).toArray⟩)) (first | exact tos_at K0.out K1.out (Below.refl _ _).drew | exact tos_at K0.out K1.out (step0 ‹Below _ _ _ ∧ _›.1 hb))
    (first
    | (go_at_call 8; refine (rsame_is K N B S K N B S true _ (by unfold Vl.sm; simp)).mono ?_; rintro x v ⟨rfl, hb⟩)
    | (go_at_call 9; refine (can_is k kd c _ Q.out).mono ?_; rintro x v ⟨rfl, hb⟩)
    | (go_at_call 10; refine (rcan_b k kd c _ Q.out).mono ?_; rintro x v ⟨rfl, hb⟩)
    | (go_at_call 5; refine (awake_any _ (E.below (step1 A3.out ‹Below _ _ _ ∧ _›.1))).mono ?_; rintro x v ⟨rfl, hb⟩))
  go_wp2
  go_ret
  exact ⟨rfl, step1 A3.out ‹Below _ _ _ ∧ _›.1⟩

theorem convertTos_walk (k n b : Int) (s : List UInt8) (kd : Int) (w : World) (hB : Rl.U b) (hI : Cv.I n) (E : Env w) :
    Calls Tryz.prog 3 #[.agg #[.int .i64 k, .int .i64 n, .int .u64 b, .string ⟨(s : List UInt8).toArray⟩], .int .i64 kd] w fun x w' => x = .returned (.bool true) ∧ Below w.heap.size w w' := by
  by_cases hl : s.length ≤ 2000
  · exact tos_all k n b s kd _ _ _ _ _ _ w E hl hB hI rfl rfl
  · exact tos_long k n b s kd w E (by omega)

end Go.Proofs.YtibopeefhogfcaaGreatDoor
