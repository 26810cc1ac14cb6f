/-
  What the closures of package convert answer, by which a value of one kind becomes one of another. Condition: the library's tables and variables hold what their initialisers lay; the captured variables hold what is said.
-/
import Derived.Test.YtdonmbmahcjfbaaGreatDoorCvOf
import Derived.Deep.RegionHeld3
import Derived.Deep.QuietTactic
namespace Go.Proofs.YtdonmbmahcjfbaaGreatDoor.Km
open Go.RowKit

theorem cap2 {w : World} {q : Addr} {x : Value} (h : w.cell? q = some x) (o p : Obj) : ((w.alloc o).alloc p).cell? q = some x := keep0 h (below2s w o p)
/-- Two boxes behind a call that makes memory alone. -/
theorem two_boxes {w w1 : World} {c d : Array Value} {t u : TypeId} (hb : Below ((w.alloc (.cells c t)).alloc (.cells d u)).heap.size ((w.alloc (.cells c t)).alloc (.cells d u)) w1) :
    Blk w1 w.heap.size c t ∧ Blk w1 (w.heap.size + 1) d u ∧ Below w.heap.size w w1 :=
  ⟨((Blk.new w _ _).alloc _).below hb, (Blk.new' _ _ _ _ (by simp)).below hb, old_2 hb⟩
theorem cap2b {w w1 : World} {c d : Array Value} {t u : TypeId} {q : Addr} {x : Value} (h : w.cell? q = some x) (hb : Below ((w.alloc (.cells c t)).alloc (.cells d u)).heap.size ((w.alloc (.cells c t)).alloc (.cells d u)) w1) : w1.cell? q = some x := keep0 h (old_2 hb)

theorem two_drew {w w1 : World} {c d : Array Value} {t u : TypeId} (hb : Below ((w.alloc (.cells c t)).alloc (.cells d u)).drew.heap.size ((w.alloc (.cells c t)).alloc (.cells d u)).drew w1) : Below ((w.alloc (.cells c t)).alloc (.cells d u)).heap.size ((w.alloc (.cells c t)).alloc (.cells d u)) w1 := ⟨hb.os, hb.tape, hb.output, hb.size, hb.block⟩

set_option maxHeartbeats 400000 in
theorem way_same (k n b : Int) (s : List UInt8) (w : World) :
    Calls Tryz.prog 97 #[.agg #[.int .i64 k, .int .i64 n, .int .u64 b, .string ⟨(s : List UInt8).toArray⟩]] w fun e w' => e = .returned (.tuple #[.agg #[.int .i64 k, .int .i64 n, .int .u64 b, .string ⟨(s : List UInt8).toArray⟩], .int .i64 0]) ∧ Below w.heap.size w w' := by
  go_enter Tryz.func97, Tryz.ntmps97
  go_wp2
  refine bodyPost_ret (v := .tuple #[.agg #[.int .i64 k, .int .i64 n, .int .u64 b, .string ⟨(s : List UInt8).toArray⟩], .int .i64 0]) ?_ rfl ⟨rfl, below2s _ _ _⟩
  simp [results, Tryz.results97, go_sem]

set_option maxHeartbeats 400000 in
theorem num_int (k n b : Int) (s : List UInt8) (w : World) :
    Calls Tryz.prog 120 #[.agg #[.int .i64 k, .int .i64 n, .int .u64 b, .string ⟨(s : List UInt8).toArray⟩]] w fun e w' => e = .returned (.tuple #[.int .i64 n, .int .i64 0]) ∧ Below w.heap.size w w' := by
  go_enter Tryz.func120, Tryz.ntmps120
  go_wp2
  go_ret2
  exact ⟨rfl, below1 _ _⟩

set_option maxHeartbeats 400000 in
theorem num_real_t (k n b m : Int) (s : List UInt8) (w : World) (hb : Rl.U b) (E : Env w) (hm : Rl.ti b = m) (ho : Rl.to b = true) :
    Calls Tryz.prog 121 #[.agg #[.int .i64 k, .int .i64 n, .int .u64 b, .string ⟨(s : List UInt8).toArray⟩]] w fun e w' => e = .returned (.tuple #[.int .i64 m, .int .i64 0]) ∧ Below w.heap.size w w' := by
  have H := Lib.hid (And.intro hb (And.intro hm ho))
  clear hb hm ho
  go_enter Tryz.func121, Tryz.ntmps121
  go_wp2_with fail
  refine (toInt_is b m true _ H.out.1 (E.alloc _).tab H.out.2.1 H.out.2.2).mono ?_
  rintro e w' ⟨rfl, rfl⟩
  go_wp2
  go_ret2
  exact ⟨rfl, below1 _ _⟩
set_option maxHeartbeats 400000 in
theorem num_real_f (k n b : Int) (s : List UInt8) (w : World) (hb : Rl.U b) (E : Env w) (ho : Rl.to b = false) :
    Calls Tryz.prog 121 #[.agg #[.int .i64 k, .int .i64 n, .int .u64 b, .string ⟨(s : List UInt8).toArray⟩]] w fun e w' => e = .returned (.tuple #[.int .i64 0, .int .i64 6]) ∧ Below w.heap.size w w' := by
  have H := Lib.hid (And.intro hb ho)
  clear hb ho
  go_enter Tryz.func121, Tryz.ntmps121
  go_wp2_with fail
  refine (toInt_is b _ false _ H.out.1 (E.alloc _).tab rfl H.out.2).mono ?_
  rintro e w' ⟨rfl, rfl⟩
  go_wp2
  go_ret2
  exact ⟨rfl, below1 _ _⟩

set_option maxHeartbeats 400000 in
theorem num_bytes_t (k n b m : Int) (s : List UInt8) (w : World) (h8 : s.length = 8) (hm : Cv.i64 (Kc.nm s) = m) :
    Calls Tryz.prog 125 #[.agg #[.int .i64 k, .int .i64 n, .int .u64 b, .string ⟨(s : List UInt8).toArray⟩]] w fun e w' => e = .returned (.tuple #[.int .i64 m, .int .i64 0]) ∧ Below w.heap.size w w' := by
  have hm' : wrap64 (Kc.nm s : Int) = m := hm
  have H := Lib.hid h8
  clear h8 hm
  go_enter Tryz.func125, Tryz.ntmps125
  go_wp2_with fail
  refine (readEight_ok s _ _ H.out rfl).mono ?_
  rintro e w1 ⟨rfl, hb⟩
  have B := Lib.hid (old_1 hb)
  clear hb
  go_wp2
  go_ret2
  exact ⟨ret_i2 hm' rfl, B.out⟩
set_option maxHeartbeats 400000 in
theorem num_bytes_f (k n b : Int) (s : List UInt8) (w : World) (h8 : s.length ≠ 8) :
    Calls Tryz.prog 125 #[.agg #[.int .i64 k, .int .i64 n, .int .u64 b, .string ⟨(s : List UInt8).toArray⟩]] w fun e w' => e = .returned (.tuple #[.int .i64 0, .int .i64 6]) ∧ Below w.heap.size w w' := by
  have H := Lib.hid h8
  clear h8
  go_enter Tryz.func125, Tryz.ntmps125
  go_wp2_with fail
  refine (readEight_bad s _ H.out).mono ?_
  rintro e w1 ⟨rfl, hb⟩
  have B := Lib.hid (old_1 hb)
  clear hb
  go_wp2
  go_ret2
  exact ⟨rfl, B.out⟩

set_option maxHeartbeats 400000 in
theorem num_text_t (k n b m : Int) (s : List UInt8) (w : World) (hl : s.length ≤ 64) (E : Env w) (hm : Cv.num s = some m) :
    Calls Tryz.prog 130 #[.agg #[.int .i64 k, .int .i64 n, .int .u64 b, .string ⟨(s : List UInt8).toArray⟩]] w fun e w' => e = .returned (.tuple #[.int .i64 m, .int .i64 0]) ∧ Below w.heap.size w w' := by
  have H := Lib.hid (And.intro hl hm)
  clear hl hm
  go_enter Tryz.func130, Tryz.ntmps130
  go_wp2_with fail
  refine (number_some s m _ (by have := H.out.1; omega) H.out.2 (E.alloc _)).mono ?_
  rintro e w1 ⟨rfl, hb⟩
  have B := Lib.hid (old_1 hb)
  clear hb
  go_wp2
  go_ret2
  exact ⟨rfl, B.out⟩
set_option maxHeartbeats 400000 in
theorem num_text_f (k n b : Int) (s : List UInt8) (w : World) (hl : s.length ≤ 64) (E : Env w) (hm : Cv.num s = none) :
    Calls Tryz.prog 130 #[.agg #[.int .i64 k, .int .i64 n, .int .u64 b, .string ⟨(s : List UInt8).toArray⟩]] w fun e w' => e = .returned (.tuple #[.int .i64 0, .int .i64 7]) ∧ Below w.heap.size w w' := by
  have H := Lib.hid (And.intro hl hm)
  clear hl hm
  go_enter Tryz.func130, Tryz.ntmps130
  go_wp2_with fail
  refine (number_none s _ (by have := H.out.1; omega) H.out.2 (E.alloc _)).mono ?_
  rintro e w1 ⟨rfl, hb⟩
  have B := Lib.hid (old_1 hb)
  clear hb
  go_wp2
  go_ret2
  exact ⟨rfl, B.out⟩

set_option maxHeartbeats 1000000 in
theorem way_text_bytes (k n b kd : Int) (s : List UInt8) (g : Nat) (w : World) (cT : w.cell? ⟨g, 0, none⟩ = some (.int .i64 kd)) :
    Calls Tryz.prog 132 #[.agg #[.int .i64 k, .int .i64 n, .int .u64 b, .string ⟨(s : List UInt8).toArray⟩], .pointer (some ⟨g, 0, none⟩)] w fun e w' => e = .returned (.tuple #[.agg #[.int .i64 kd, .int .i64 0, .int .u64 0, .string ⟨(s : List UInt8).toArray⟩], .int .i64 0]) ∧ Below w.heap.size w w' := by
  have c2 := fun o p => cap2 cT o p
  clear cT
  go_enter Tryz.func132, Tryz.ntmps132
  go_wp2
  refine bodyPost_ret (v := .tuple #[.agg #[.int .i64 kd, .int .i64 0, .int .u64 0, .string ⟨(s : List UInt8).toArray⟩], .int .i64 0]) ?_ rfl ⟨rfl, (below2s _ _ _)⟩
  simp [results, Tryz.results132, go_sem]

set_option maxHeartbeats 1000000 in
theorem way_bytes_text_t (k n b kd : Int) (s : List UInt8) (g : Nat) (w : World) (cT : w.cell? ⟨g, 0, none⟩ = some (.int .i64 kd)) (hl : s.length ≤ 64) (hv : Vl.vd s = true) :
    Calls Tryz.prog 128 #[.agg #[.int .i64 k, .int .i64 n, .int .u64 b, .string ⟨(s : List UInt8).toArray⟩], .pointer (some ⟨g, 0, none⟩)] w fun e w' => e = .returned (.tuple #[.agg #[.int .i64 kd, .int .i64 0, .int .u64 0, .string ⟨(s : List UInt8).toArray⟩], .int .i64 0]) ∧ Below w.heap.size w w' := by
  have c2 := fun o p => cap2 cT o p
  have H := Lib.hid (And.intro hl hv)
  clear cT hl hv
  go_enter Tryz.func128, Tryz.ntmps128
  go_wp2_with fail
  refine (valid_is s true _ (by unfold maxLen; have := H.out.1; omega) H.out.2).mono ?_
  rintro e w' ⟨rfl, rfl⟩
  go_wp2
  refine bodyPost_ret (v := .tuple #[.agg #[.int .i64 kd, .int .i64 0, .int .u64 0, .string ⟨(s : List UInt8).toArray⟩], .int .i64 0]) ?_ rfl ⟨rfl, (below2s _ _ _)⟩
  simp [results, Tryz.results128, go_sem]

set_option maxHeartbeats 1000000 in
theorem way_bytes_text_f (k n b kd : Int) (s : List UInt8) (g : Nat) (w : World) (cT : w.cell? ⟨g, 0, none⟩ = some (.int .i64 kd)) (hl : s.length ≤ 64) (hv : Vl.vd s = false) :
    Calls Tryz.prog 128 #[.agg #[.int .i64 k, .int .i64 n, .int .u64 b, .string ⟨(s : List UInt8).toArray⟩], .pointer (some ⟨g, 0, none⟩)] w fun e w' => e = .returned (.tuple #[.agg #[.int .i64 0, .int .i64 0, .int .u64 0, .string ⟨([] : List UInt8).toArray⟩], .int .i64 7]) ∧ Below w.heap.size w w' := by
  have c2 := fun o p => cap2 cT o p
  have H := Lib.hid (And.intro hl hv)
  clear cT hl hv
  go_enter Tryz.func128, Tryz.ntmps128
  go_wp2_with fail
  refine (valid_is s false _ (by unfold maxLen; have := H.out.1; omega) H.out.2).mono ?_
  rintro e w' ⟨rfl, rfl⟩
  go_wp2
  refine bodyPost_ret (v := .tuple #[.agg #[.int .i64 0, .int .i64 0, .int .u64 0, .string ⟨([] : List UInt8).toArray⟩], .int .i64 7]) ?_ rfl ⟨rfl, (below2s _ _ _)⟩
  simp [results, Tryz.results128, go_sem]

theorem ix_0 (w : World) : (Instr.index 178 (.agg #[.string ⟨#[102, 97, 108, 115, 101]⟩, .string ⟨#[116, 114, 117, 101]⟩]) (.int .i64 0)).run Tryz.prog w = .ok (.string ⟨#[102, 97, 108, 115, 101]⟩) w := by
  have u := Tryz.underlying178
  have a5 := Tryz.isAgg9
  have z5 := Tryz.sizeOf9
  simp [Instr.index, run_underlying u, asIntOf, go_sem, z5, a5]
theorem ix_1 (w : World) : (Instr.index 178 (.agg #[.string ⟨#[102, 97, 108, 115, 101]⟩, .string ⟨#[116, 114, 117, 101]⟩]) (.int .i64 1)).run Tryz.prog w = .ok (.string ⟨#[116, 114, 117, 101]⟩) w := by
  have u := Tryz.underlying178
  have a5 := Tryz.isAgg9
  have z5 := Tryz.sizeOf9
  simp [Instr.index, run_underlying u, asIntOf, go_sem, z5, a5]

set_option maxHeartbeats 1000000 in
theorem way_text_bool_f (k n b kd : Int) (g : Nat) (w : World) (cT : w.cell? ⟨g, 0, none⟩ = some (.int .i64 kd)) (E : Env w) :
    Calls Tryz.prog 129 #[.agg #[.int .i64 k, .int .i64 n, .int .u64 b, .string ⟨([102, 97, 108, 115, 101] : List UInt8).toArray⟩], .pointer (some ⟨g, 0, none⟩)] w fun e w' => e = .returned (.tuple #[.agg #[.int .i64 kd, .int .i64 0, .int .u64 0, .string ⟨([] : List UInt8).toArray⟩], .int .i64 0]) ∧ Below w.heap.size w w' := by
  have c2 := fun o p => cap2 cT o p
  have d0 := fun o p => cap2 E.fal o p
  have d1 := fun o p => cap2 E.tru o p
  have I0 := ix_0
  have I1 := ix_1
  clear cT E
  go_enter Tryz.func129, Tryz.ntmps129
  go_wp2
  refine wp_loop_rounds 3 ?_
  rw [rounds_succ]
  go_wp2
  refine bodyPost_ret (v := .tuple #[.agg #[.int .i64 kd, .int .i64 0, .int .u64 0, .string ⟨([] : List UInt8).toArray⟩], .int .i64 0]) ?_ rfl ⟨rfl, (below2s _ _ _)⟩
  simp [results, Tryz.results129, go_sem]

set_option maxHeartbeats 1000000 in
theorem way_text_bool_t (k n b kd : Int) (g : Nat) (w : World) (cT : w.cell? ⟨g, 0, none⟩ = some (.int .i64 kd)) (E : Env w) :
    Calls Tryz.prog 129 #[.agg #[.int .i64 k, .int .i64 n, .int .u64 b, .string ⟨([116, 114, 117, 101] : List UInt8).toArray⟩], .pointer (some ⟨g, 0, none⟩)] w fun e w' => e = .returned (.tuple #[.agg #[.int .i64 kd, .int .i64 1, .int .u64 0, .string ⟨([] : List UInt8).toArray⟩], .int .i64 0]) ∧ Below w.heap.size w w' := by
  have c2 := fun o p => cap2 cT o p
  have d0 := fun o p => cap2 E.fal o p
  have d1 := fun o p => cap2 E.tru o p
  have I0 := ix_0
  have I1 := ix_1
  clear cT E
  go_enter Tryz.func129, Tryz.ntmps129
  go_wp2
  refine wp_loop_rounds 3 ?_
  rw [rounds_succ]
  go_wp2
  rw [rounds_succ]
  go_wp2
  refine bodyPost_ret (v := .tuple #[.agg #[.int .i64 kd, .int .i64 1, .int .u64 0, .string ⟨([] : List UInt8).toArray⟩], .int .i64 0]) ?_ rfl ⟨rfl, (below2s _ _ _)⟩
  simp [results, Tryz.results129, go_sem]

set_option maxHeartbeats 1000000 in
theorem way_text_bool_x (k n b kd : Int) (s : List UInt8) (g : Nat) (w : World) (cT : w.cell? ⟨g, 0, none⟩ = some (.int .i64 kd)) (E : Env w) (n1 : s ≠ [102, 97, 108, 115, 101]) (n2 : s ≠ [116, 114, 117, 101]) :
    Calls Tryz.prog 129 #[.agg #[.int .i64 k, .int .i64 n, .int .u64 b, .string ⟨(s : List UInt8).toArray⟩], .pointer (some ⟨g, 0, none⟩)] w fun e w' => e = .returned (.tuple #[.agg #[.int .i64 0, .int .i64 0, .int .u64 0, .string ⟨([] : List UInt8).toArray⟩], .int .i64 7]) ∧ Below w.heap.size w w' := by
  have c2 := fun o p => cap2 cT o p
  have d0 := fun o p => cap2 E.fal o p
  have d1 := fun o p => cap2 E.tru o p
  have I0 := ix_0
  have I1 := ix_1
  clear cT E
  have m1 : (s == [102, 97, 108, 115, 101]) = false := by rw [beq_eq_false_iff_ne]; exact n1
  have m2 : (s == [116, 114, 117, 101]) = false := by rw [beq_eq_false_iff_ne]; exact n2
  go_enter Tryz.func129, Tryz.ntmps129
  go_wp2
  refine wp_loop_rounds 3 ?_
  rw [rounds_succ]
  go_wp2
  rw [rounds_succ]
  go_wp2
  rw [rounds_succ]
  go_wp2
  refine bodyPost_ret (v := .tuple #[.agg #[.int .i64 0, .int .i64 0, .int .u64 0, .string ⟨([] : List UInt8).toArray⟩], .int .i64 7]) ?_ rfl ⟨rfl, (below2s _ _ _)⟩
  simp [results, Tryz.results129, go_sem]

set_option maxHeartbeats 1000000 in
theorem way_bool_text_0 (k b kd : Int) (s : List UInt8) (g : Nat) (w : World) (cT : w.cell? ⟨g, 0, none⟩ = some (.int .i64 kd)) (E : Env w) :
    Calls Tryz.prog 118 #[.agg #[.int .i64 k, .int .i64 0, .int .u64 b, .string ⟨(s : List UInt8).toArray⟩], .pointer (some ⟨g, 0, none⟩)] w fun e w' => e = .returned (.tuple #[.agg #[.int .i64 kd, .int .i64 0, .int .u64 0, .string ⟨([102, 97, 108, 115, 101] : List UInt8).toArray⟩], .int .i64 0]) ∧ Below w.heap.size w w' := by
  have c2 := fun o p => cap2 cT o p
  have d0 := fun o p => cap2 E.fal o p
  have d1 := fun o p => cap2 E.tru o p
  clear cT E
  go_enter Tryz.func118, Tryz.ntmps118
  go_wp2_with fail
  go_region
  go_wp2
  refine bodyPost_ret (v := .tuple #[.agg #[.int .i64 kd, .int .i64 0, .int .u64 0, .string ⟨([102, 97, 108, 115, 101] : List UInt8).toArray⟩], .int .i64 0]) ?_ rfl ⟨rfl, ?_⟩
  · simp [results, Tryz.results118, go_sem]
  · first | exact below2s _ _ _ | exact below_drewV _ (below2s _ _ _) | exact below_drew1 (below2s _ _ _)

set_option maxHeartbeats 1000000 in
theorem way_bool_text_1 (k b kd : Int) (s : List UInt8) (g : Nat) (w : World) (cT : w.cell? ⟨g, 0, none⟩ = some (.int .i64 kd)) (E : Env w) :
    Calls Tryz.prog 118 #[.agg #[.int .i64 k, .int .i64 1, .int .u64 b, .string ⟨(s : List UInt8).toArray⟩], .pointer (some ⟨g, 0, none⟩)] w fun e w' => e = .returned (.tuple #[.agg #[.int .i64 kd, .int .i64 0, .int .u64 0, .string ⟨([116, 114, 117, 101] : List UInt8).toArray⟩], .int .i64 0]) ∧ Below w.heap.size w w' := by
  have c2 := fun o p => cap2 cT o p
  have d0 := fun o p => cap2 E.fal o p
  have d1 := fun o p => cap2 E.tru o p
  clear cT E
  go_enter Tryz.func118, Tryz.ntmps118
  go_wp2_with fail
  go_region
  go_wp2
  refine bodyPost_ret (v := .tuple #[.agg #[.int .i64 kd, .int .i64 0, .int .u64 0, .string ⟨([116, 114, 117, 101] : List UInt8).toArray⟩], .int .i64 0]) ?_ rfl ⟨rfl, ?_⟩
  · simp [results, Tryz.results118, go_sem]
  · first | exact below2s _ _ _ | exact below_drewV _ (below2s _ _ _) | exact below_drew1 (below2s _ _ _)

set_option maxHeartbeats 1000000 in
theorem way_real_bytes (k n b kd : Int) (s S : List UInt8) (g : Nat) (w : World) (cT : w.cell? ⟨g, 0, none⟩ = some (.int .i64 kd)) (hb : Rl.U b) (hS : Kc.bn 8 b.toNat = S) :
    Calls Tryz.prog 123 #[.agg #[.int .i64 k, .int .i64 n, .int .u64 b, .string ⟨(s : List UInt8).toArray⟩], .pointer (some ⟨g, 0, none⟩)] w fun e w' => e = .returned (.tuple #[.agg #[.int .i64 kd, .int .i64 0, .int .u64 0, .string ⟨(S : List UInt8).toArray⟩], .int .i64 0]) ∧ Below w.heap.size w w' := by
  have c2 := fun o p => cap2 cT o p
  have C := Lib.hid cT
  have H := Lib.hid (And.intro hb hS)
  clear cT hb hS
  go_enter Tryz.func123, Tryz.ntmps123
  go_wp2_with fail
  go_region_with (go_at_call 124; refine (eight7 b b.toNat _ (by have := H.out.1; unfold Rl.U at this; omega)).mono ?_; rintro e w1 ⟨rfl, hb⟩; rw [H.out.2]; replace hb := two_drew hb; have cT := cap2b C.out hb; obtain ⟨q0, q1, qB⟩ := two_boxes hb; have g0 := q1.cell 0; have g1 := q1.cell 1; have g2 := q1.cell 2; have g3 := q1.cell 3; have t0 := q1.frozen 0; have t1 := q1.frozen 1; have t2 := q1.frozen 2; have t3 := q1.frozen 3; simp at g0 g1 g2 g3; have BF := Lib.hid qB; clear hb q0 q1 qB c2)
  all_goals go_wp2
  all_goals
    refine bodyPost_ret (v := .tuple #[.agg #[.int .i64 kd, .int .i64 0, .int .u64 0, .string ⟨(S : List UInt8).toArray⟩], .int .i64 0]) ?_ rfl ⟨rfl, ?_⟩
  all_goals first
    | (simp [results, Tryz.results123, go_sem, g0, g1, g2, g3]; done)
    | exact put4 BF.out (Nat.le_succ _) _ _ _ _
    | exact below_drew1 (put4 BF.out (Nat.le_succ _) _ _ _ _)
    | exact below_drewV _ (put4 BF.out (Nat.le_succ _) _ _ _ _)

set_option maxHeartbeats 1000000 in
theorem way_bytes_real_t (k n b kd B : Int) (s : List UInt8) (g : Nat) (w : World) (cT : w.cell? ⟨g, 0, none⟩ = some (.int .i64 kd)) (h8 : s.length = 8) (hB : Rl.cn (Kc.nm s) = B) :
    Calls Tryz.prog 127 #[.agg #[.int .i64 k, .int .i64 n, .int .u64 b, .string ⟨(s : List UInt8).toArray⟩], .pointer (some ⟨g, 0, none⟩)] w fun e w' => e = .returned (.tuple #[.agg #[.int .i64 kd, .int .i64 0, .int .u64 B, .string ⟨([] : List UInt8).toArray⟩], .int .i64 0]) ∧ Below w.heap.size w w' := by
  have hU : Rl.U (Kc.nm s : Int) := by have h1 := Kc.nm_lt s; rw [h8] at h1; have e : (256 : Nat) ^ 8 = 18446744073709551616 := by decide
                                       unfold Rl.U; omega
  have C := Lib.hid cT
  have H := Lib.hid (And.intro h8 (And.intro hB hU))
  clear cT h8 hB hU
  go_enter Tryz.func127, Tryz.ntmps127
  go_wp2_with fail
  refine (readEight_ok s _ _ H.out.1 rfl).mono ?_
  rintro e w1 ⟨rfl, hb⟩
  have cT := cap2b C.out hb
  obtain ⟨q0, q1, qB⟩ := two_boxes hb
  have g0 := q1.cell 0
  have g1 := q1.cell 1
  have g2 := q1.cell 2
  have g3 := q1.cell 3
  have t0 := q1.frozen 0
  have t1 := q1.frozen 1
  have t2 := q1.frozen 2
  have t3 := q1.frozen 3
  simp at g0 g1 g2 g3
  have BF := Lib.hid qB
  clear hb q0 q1 qB
  go_wp2_with fail
  go_region_with (go_at_call 92; refine (canon_is _ B _ H.out.2.2 H.out.2.1).mono ?_; rintro e w' ⟨rfl, rfl⟩)
  all_goals go_wp2
  all_goals
    refine bodyPost_ret (v := .tuple #[.agg #[.int .i64 kd, .int .i64 0, .int .u64 B, .string ⟨([] : List UInt8).toArray⟩], .int .i64 0]) ?_ rfl ⟨rfl, ?_⟩
  all_goals first
    | (simp [results, Tryz.results127, go_sem, g0, g1, g2, g3]; done)
    | exact put4 BF.out (Nat.le_succ _) _ _ _ _
    | exact below_drew1 (put4 BF.out (Nat.le_succ _) _ _ _ _)
    | exact below_drewV _ (put4 BF.out (Nat.le_succ _) _ _ _ _)

set_option maxHeartbeats 1000000 in
theorem way_bytes_real_f (k n b : Int) (s : List UInt8) (g : Nat) (w : World) (h8 : s.length ≠ 8) :
    Calls Tryz.prog 127 #[.agg #[.int .i64 k, .int .i64 n, .int .u64 b, .string ⟨(s : List UInt8).toArray⟩], .pointer (some ⟨g, 0, none⟩)] w fun e w' => e = .returned (.tuple #[.agg #[.int .i64 0, .int .i64 0, .int .u64 0, .string ⟨([] : List UInt8).toArray⟩], .int .i64 6]) ∧ Below w.heap.size w w' := by
  have H := Lib.hid h8
  clear h8
  go_enter Tryz.func127, Tryz.ntmps127
  go_wp2_with fail
  refine (readEight_bad s _ H.out).mono ?_
  rintro e w1 ⟨rfl, hb⟩
  obtain ⟨q0, q1, qB⟩ := two_boxes hb
  have g0 := q1.cell 0
  have g1 := q1.cell 1
  have g2 := q1.cell 2
  have g3 := q1.cell 3
  have t0 := q1.frozen 0
  have t1 := q1.frozen 1
  have t2 := q1.frozen 2
  have t3 := q1.frozen 3
  simp at g0 g1 g2 g3
  have BF := Lib.hid qB
  clear hb q0 q1 qB
  go_wp2
  refine bodyPost_ret (v := .tuple #[.agg #[.int .i64 0, .int .i64 0, .int .u64 0, .string ⟨([] : List UInt8).toArray⟩], .int .i64 6]) ?_ rfl ⟨rfl, put4 BF.out (Nat.le_succ _) _ _ _ _⟩
  simp [results, Tryz.results127, go_sem, g0, g1, g2, g3]

end Go.Proofs.YtdonmbmahcjfbaaGreatDoor.Km
