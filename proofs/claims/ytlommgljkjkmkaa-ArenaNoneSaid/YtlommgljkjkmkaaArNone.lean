/-
  The walk of the law ArenaNone. No condition.
-/
import Derived.Test.YtlommgljkjkmkaaArAwake
namespace Go.Proofs.Ytlommgljkjkmkaa.Gn
open Go.RowKit
set_option linter.unusedVariables false

set_option maxHeartbeats 8000000 in
set_option maxRecDepth 100000 in
theorem arenaNone_walk (n s g : Int) (w : World) :
    Calls Try.prog 5 #[.int .i64 n, .agg #[.int .i64 s, .int .i64 g]] w fun e w' => e = .returned (.bool true) ∧ Below w.heap.size w w' := by
  go_enter Try.func5, Try.ntmps5
  go_wp2_with fail
  refine (take_nil n _).mono ?_
  rintro _ w1 ⟨rfl, hb⟩
  have r1 := (Blk.new w #[.int .i64 s, .int .i64 g] 33).below hb
  have B1 := Lib.hid (And.intro (step0 (below1 w _) hb) (And.intro (r1.alloc (.cells #[.int .i64 0, .int .i64 0] 33)) (Blk.new w1 #[.int .i64 0, .int .i64 0] 33)))
  have B1' := Lib.hid (B1.out.1.alloc B1.out.1.size (.cells #[.int .i64 0, .int .i64 0] 33))
  clear hb r1
  obtain ⟨b, hB⟩ : ∃ b, w1.heap.size = b := ⟨_, rfl⟩
  have K1 := Lib.hid (And.intro B1'.out B1.out.2)
  clear hB
  have x0 : (w1.alloc (.cells #[.int .i64 0, .int .i64 0] 33)).cell? ⟨w.heap.size, 0, none⟩ = some (.int .i64 s) := K1.out.2.1.cell 0
  have x1 : (w1.alloc (.cells #[.int .i64 0, .int .i64 0] 33)).cell? ⟨w.heap.size, 1, none⟩ = some (.int .i64 g) := K1.out.2.1.cell 1
  have y0 : (w1.alloc (.cells #[.int .i64 0, .int .i64 0] 33)).cell? ⟨w1.heap.size, 0, none⟩ = some (.int .i64 0) := K1.out.2.2.cell 0
  have y1 : (w1.alloc (.cells #[.int .i64 0, .int .i64 0] 33)).cell? ⟨w1.heap.size, 1, none⟩ = some (.int .i64 0) := K1.out.2.2.cell 1
  go_wp2_with fail
  refine (get_nil s g _).mono ?_
  rintro _ w2 ⟨rfl, hb⟩
  have K2 := Lib.hid (And.intro (step0 K1.out.1 hb) (And.intro (K1.out.2.1.below hb) (K1.out.2.2.below hb)))
  clear hb x0 x1 y0 y1
  have x0 : w2.cell? ⟨w.heap.size, 0, none⟩ = some (.int .i64 s) := K2.out.2.1.cell 0
  have x1 : w2.cell? ⟨w.heap.size, 1, none⟩ = some (.int .i64 g) := K2.out.2.1.cell 1
  have y0 : w2.cell? ⟨w1.heap.size, 0, none⟩ = some (.int .i64 0) := K2.out.2.2.cell 0
  have y1 : w2.cell? ⟨w1.heap.size, 1, none⟩ = some (.int .i64 0) := K2.out.2.2.cell 1
  go_wp2_with fail
  refine (set_nil s g n _).mono ?_
  rintro _ w3 ⟨rfl, hb⟩
  have K3 := Lib.hid (And.intro (step0 K2.out.1 hb) (And.intro (K2.out.2.1.below hb) (K2.out.2.2.below hb)))
  clear hb x0 x1 y0 y1
  have x0 : w3.cell? ⟨w.heap.size, 0, none⟩ = some (.int .i64 s) := K3.out.2.1.cell 0
  have x1 : w3.cell? ⟨w.heap.size, 1, none⟩ = some (.int .i64 g) := K3.out.2.1.cell 1
  have y0 : w3.cell? ⟨w1.heap.size, 0, none⟩ = some (.int .i64 0) := K3.out.2.2.cell 0
  have y1 : w3.cell? ⟨w1.heap.size, 1, none⟩ = some (.int .i64 0) := K3.out.2.2.cell 1
  go_wp2_with fail
  refine (free_nil s g _).mono ?_
  rintro _ w4 ⟨rfl, hb⟩
  have K4 := Lib.hid (And.intro (step0 K3.out.1 hb) (And.intro (K3.out.2.1.below hb) (K3.out.2.2.below hb)))
  clear hb x0 x1 y0 y1
  have x0 : w4.cell? ⟨w.heap.size, 0, none⟩ = some (.int .i64 s) := K4.out.2.1.cell 0
  have x1 : w4.cell? ⟨w.heap.size, 1, none⟩ = some (.int .i64 g) := K4.out.2.1.cell 1
  have y0 : w4.cell? ⟨w1.heap.size, 0, none⟩ = some (.int .i64 0) := K4.out.2.2.cell 0
  have y1 : w4.cell? ⟨w1.heap.size, 1, none⟩ = some (.int .i64 0) := K4.out.2.2.cell 1
  go_wp2_with fail
  refine (room_nil _).mono ?_
  rintro _ w5 ⟨rfl, hb⟩
  have K5 := Lib.hid (And.intro (step0 K4.out.1 hb) (And.intro (K4.out.2.1.below hb) (K4.out.2.2.below hb)))
  clear hb x0 x1 y0 y1
  have x0 : w5.cell? ⟨w.heap.size, 0, none⟩ = some (.int .i64 s) := K5.out.2.1.cell 0
  have x1 : w5.cell? ⟨w.heap.size, 1, none⟩ = some (.int .i64 g) := K5.out.2.1.cell 1
  have y0 : w5.cell? ⟨w1.heap.size, 0, none⟩ = some (.int .i64 0) := K5.out.2.2.cell 0
  have y1 : w5.cell? ⟨w1.heap.size, 1, none⟩ = some (.int .i64 0) := K5.out.2.2.cell 1
  go_wp2_with fail
  refine (live_nil _).mono ?_
  rintro _ w6 ⟨rfl, hb⟩
  have K6 := Lib.hid (And.intro (step0 K5.out.1 hb) (And.intro (K5.out.2.1.below hb) (K5.out.2.2.below hb)))
  clear hb x0 x1 y0 y1
  have x0 : w6.cell? ⟨w.heap.size, 0, none⟩ = some (.int .i64 s) := K6.out.2.1.cell 0
  have x1 : w6.cell? ⟨w.heap.size, 1, none⟩ = some (.int .i64 g) := K6.out.2.1.cell 1
  have y0 : w6.cell? ⟨w1.heap.size, 0, none⟩ = some (.int .i64 0) := K6.out.2.2.cell 0
  have y1 : w6.cell? ⟨w1.heap.size, 1, none⟩ = some (.int .i64 0) := K6.out.2.2.cell 1
  go_wp2_with fail
  refine (awake_any _).mono ?_
  rintro _ w7 ⟨rfl, hb⟩
  have K7 := Lib.hid (And.intro (step0 K6.out.1 hb) (And.intro (K6.out.2.1.below hb) (K6.out.2.2.below hb)))
  clear hb x0 x1 y0 y1
  go_wp2
  go_ret
  exact ⟨rfl, K7.out.1⟩

end Go.Proofs.Ytlommgljkjkmkaa.Gn
