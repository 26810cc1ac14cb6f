/-
  What between tells: the way from one kind to another, or that there is none; and what Can answers. No condition.
-/
import Derived.Test.YtdonmbmahcjfbaaGreatDoorCvBy
namespace Go.Proofs.YtdonmbmahcjfbaaGreatDoor.Km
open Go.RowKit

theorem mf (fn : Fn) (first cap : Array Value) (w : World) : (Instr.makeFunc fn first cap).run Tryz.prog w = .ok (.func fn first cap) w := rfl
theorem below3s (w : World) (o p q : Obj) : Below w.heap.size w (((w.alloc o).alloc p).alloc q) := (below2s w o p).alloc (below2s w o p).size q
theorem newcell (w : World) (x : Value) (t : TypeId) : (w.alloc (.cells #[x] t)).cell? ⟨w.heap.size, 0, none⟩ = some x := by
  rw [(Blk.new w #[x] t).cell 0]; rfl
theorem newcell' (w : World) (g : Nat) (x : Value) (t : TypeId) (h : w.heap.size = g) : (w.alloc (.cells #[x] t)).cell? ⟨g, 0, none⟩ = some x := h ▸ newcell w x t

theorem fn_eq1 (d : Nat) (fn : Fn) (first cap : Array Value) (w : World) : (Op.equalIn (d + 1) 128 (.func fn first cap) .nilFunc).run Tryz.prog w = .ok false w := by
  simp [Op.equalIn, run_underlying Tryz.underlying128]
theorem nil_eq1 (d : Nat) (w : World) : (Op.equalIn (d + 1) 128 .nilFunc .nilFunc).run Tryz.prog w = .ok true w := by
  simp [Op.equalIn, run_underlying Tryz.underlying128]
theorem fn_eq (fn : Fn) (first cap : Array Value) (w : World) : (Op.equalIn 10000 128 (.func fn first cap) .nilFunc).run Tryz.prog w = .ok false w := fn_eq1 9999 fn first cap w
theorem nil_eq (w : World) : (Op.equalIn 10000 128 .nilFunc .nilFunc).run Tryz.prog w = .ok true w := nil_eq1 9999 w
theorem fn_eql (fn : Fn) (first cap : Array Value) (w : World) : (binOp .eql 128 (.func fn first cap) .nilFunc).run Tryz.prog w = .ok (.bool false) w := by
  simp only [binOp]
  simp [Op.equal, Op.maxDepth, fn_eq]
theorem nil_eql (w : World) : (binOp .eql 128 .nilFunc .nilFunc).run Tryz.prog w = .ok (.bool true) w := by
  simp only [binOp]
  simp [Op.equal, Op.maxDepth, nil_eq]
set_option maxHeartbeats 400000 in
theorem inTable_t (k : Int) (w : World) (h0 : 1 ≤ k) (h1 : k ≤ 5) :
    Calls Tryz.prog 70 #[.int .i64 k] w fun e w' => e = .returned (.bool true) ∧ w = w' := by
  go_enter Tryz.func70, Tryz.ntmps70
  go_wp2
  go_ret
  exact ⟨rfl, rfl⟩
set_option maxHeartbeats 400000 in
theorem inTable_f (k : Int) (w : World) (h : k < 1 ∨ 5 < k) :
    Calls Tryz.prog 70 #[.int .i64 k] w fun e w' => e = .returned (.bool false) ∧ w = w' := by
  by_cases h0 : k < 1
  · have d1 : decide ((1 : Int) ≤ k) = false := by rw [decide_eq_false_iff_not]; omega
    clear h h0
    go_enter Tryz.func70, Tryz.ntmps70
    go_wp2
    go_ret
    exact ⟨rfl, rfl⟩
  · have d1 : decide ((1 : Int) ≤ k) = true := by rw [decide_eq_true_eq]; omega
    have d2 : decide (k ≤ (5 : Int)) = false := by rw [decide_eq_false_iff_not]; omega
    clear h h0
    go_enter Tryz.func70, Tryz.ntmps70
    go_wp2
    go_ret
    exact ⟨rfl, rfl⟩

set_option maxHeartbeats 400000 in
theorem bt_same (a : Int) (w : World) (h0 : 1 ≤ a) (h1 : a ≤ 5) :
    Calls Tryz.prog 71 #[.int .i64 a, .int .i64 a] w fun e w' => e = .returned (.func (.func 97) #[] #[]) ∧ w = w' := by
  have H := Lib.hid (And.intro h0 h1)
  clear h0 h1
  go_enter Tryz.func71, Tryz.ntmps71
  go_wp2_with fail
  refine (inTable_t a _ H.out.1 H.out.2).mono ?_
  rintro e w' ⟨rfl, rfl⟩
  go_wp2_with fail
  refine (inTable_t a _ H.out.1 H.out.2).mono ?_
  rintro e w' ⟨rfl, rfl⟩
  go_wp2
  go_ret
  exact ⟨rfl, rfl⟩

set_option maxHeartbeats 1000000 in
theorem bt_1_5 (w : World) :
    Calls Tryz.prog 71 #[.int .i64 1, .int .i64 5] w fun e w' => ∃ g, e = .returned (.func (.func 118) #[] #[.pointer (some ⟨g, 0, none⟩)]) ∧ w'.cell? ⟨g, 0, none⟩ = some (.int .i64 5) ∧ Below w.heap.size w w' := by
  have hmf := mf
  go_enter Tryz.func71, Tryz.ntmps71
  go_wp2
  go_ret
  exact ⟨_, rfl, newcell _ _ _, below1 _ _⟩

set_option maxHeartbeats 1000000 in
theorem bt_3_4 (w : World) :
    Calls Tryz.prog 71 #[.int .i64 3, .int .i64 4] w fun e w' => ∃ g, e = .returned (.func (.func 123) #[] #[.pointer (some ⟨g, 0, none⟩)]) ∧ w'.cell? ⟨g, 0, none⟩ = some (.int .i64 4) ∧ Below w.heap.size w w' := by
  have hmf := mf
  go_enter Tryz.func71, Tryz.ntmps71
  go_wp2
  go_ret
  exact ⟨_, rfl, newcell _ _ _, below1 _ _⟩

set_option maxHeartbeats 1000000 in
theorem bt_4_3 (w : World) :
    Calls Tryz.prog 71 #[.int .i64 4, .int .i64 3] w fun e w' => ∃ g, e = .returned (.func (.func 127) #[] #[.pointer (some ⟨g, 0, none⟩)]) ∧ w'.cell? ⟨g, 0, none⟩ = some (.int .i64 3) ∧ Below w.heap.size w w' := by
  have hmf := mf
  go_enter Tryz.func71, Tryz.ntmps71
  go_wp2
  go_ret
  exact ⟨_, rfl, newcell _ _ _, below1 _ _⟩

set_option maxHeartbeats 1000000 in
theorem bt_4_5 (w : World) :
    Calls Tryz.prog 71 #[.int .i64 4, .int .i64 5] w fun e w' => ∃ g, e = .returned (.func (.func 128) #[] #[.pointer (some ⟨g, 0, none⟩)]) ∧ w'.cell? ⟨g, 0, none⟩ = some (.int .i64 5) ∧ Below w.heap.size w w' := by
  have hmf := mf
  go_enter Tryz.func71, Tryz.ntmps71
  go_wp2
  go_ret
  exact ⟨_, rfl, newcell _ _ _, below1 _ _⟩

set_option maxHeartbeats 1000000 in
theorem bt_5_1 (w : World) :
    Calls Tryz.prog 71 #[.int .i64 5, .int .i64 1] w fun e w' => ∃ g, e = .returned (.func (.func 129) #[] #[.pointer (some ⟨g, 0, none⟩)]) ∧ w'.cell? ⟨g, 0, none⟩ = some (.int .i64 1) ∧ Below w.heap.size w w' := by
  have hmf := mf
  go_enter Tryz.func71, Tryz.ntmps71
  go_wp2
  go_ret
  exact ⟨_, rfl, newcell _ _ _, below1 _ _⟩

set_option maxHeartbeats 1000000 in
theorem bt_5_4 (w : World) :
    Calls Tryz.prog 71 #[.int .i64 5, .int .i64 4] w fun e w' => ∃ g, e = .returned (.func (.func 132) #[] #[.pointer (some ⟨g, 0, none⟩)]) ∧ w'.cell? ⟨g, 0, none⟩ = some (.int .i64 4) ∧ Below w.heap.size w w' := by
  have hmf := mf
  go_enter Tryz.func71, Tryz.ntmps71
  go_wp2
  go_ret
  exact ⟨_, rfl, newcell _ _ _, below1 _ _⟩

set_option maxHeartbeats 1000000 in
theorem bt_1_2 (w : World) :
    Calls Tryz.prog 71 #[.int .i64 1, .int .i64 2] w fun e w' => ∃ gn gt, e = .returned (.func (.func 139) #[] #[.pointer (some ⟨gn, 0, none⟩), .pointer (some ⟨gt, 0, none⟩)]) ∧ w'.cell? ⟨gn, 0, none⟩ = some (.func (.func 120) #[] #[]) ∧ w'.cell? ⟨gt, 0, none⟩ = some (.int .i64 2) ∧ Below w.heap.size w w' := by
  have hmf := mf
  go_enter Tryz.func71, Tryz.ntmps71
  go_wp2
  go_ret
  exact ⟨_, _, rfl, newcell' _ _ _ _ (by simp), keep0 (newcell' _ _ _ _ (by simp)) (below1 _ _), below3s _ _ _ _⟩

set_option maxHeartbeats 1000000 in
theorem bt_1_3 (w : World) :
    Calls Tryz.prog 71 #[.int .i64 1, .int .i64 3] w fun e w' => ∃ gn gt, e = .returned (.func (.func 139) #[] #[.pointer (some ⟨gn, 0, none⟩), .pointer (some ⟨gt, 0, none⟩)]) ∧ w'.cell? ⟨gn, 0, none⟩ = some (.func (.func 120) #[] #[]) ∧ w'.cell? ⟨gt, 0, none⟩ = some (.int .i64 3) ∧ Below w.heap.size w w' := by
  have hmf := mf
  go_enter Tryz.func71, Tryz.ntmps71
  go_wp2
  go_ret
  exact ⟨_, _, rfl, newcell' _ _ _ _ (by simp), keep0 (newcell' _ _ _ _ (by simp)) (below1 _ _), below3s _ _ _ _⟩

set_option maxHeartbeats 1000000 in
theorem bt_2_1 (w : World) :
    Calls Tryz.prog 71 #[.int .i64 2, .int .i64 1] w fun e w' => ∃ gn gt, e = .returned (.func (.func 139) #[] #[.pointer (some ⟨gn, 0, none⟩), .pointer (some ⟨gt, 0, none⟩)]) ∧ w'.cell? ⟨gn, 0, none⟩ = some (.func (.func 120) #[] #[]) ∧ w'.cell? ⟨gt, 0, none⟩ = some (.int .i64 1) ∧ Below w.heap.size w w' := by
  have hmf := mf
  go_enter Tryz.func71, Tryz.ntmps71
  go_wp2
  go_ret
  exact ⟨_, _, rfl, newcell' _ _ _ _ (by simp), keep0 (newcell _ _ _) (below1 _ _), below2s _ _ _⟩

set_option maxHeartbeats 1000000 in
theorem bt_2_3 (w : World) :
    Calls Tryz.prog 71 #[.int .i64 2, .int .i64 3] w fun e w' => ∃ gn gt, e = .returned (.func (.func 139) #[] #[.pointer (some ⟨gn, 0, none⟩), .pointer (some ⟨gt, 0, none⟩)]) ∧ w'.cell? ⟨gn, 0, none⟩ = some (.func (.func 120) #[] #[]) ∧ w'.cell? ⟨gt, 0, none⟩ = some (.int .i64 3) ∧ Below w.heap.size w w' := by
  have hmf := mf
  go_enter Tryz.func71, Tryz.ntmps71
  go_wp2
  go_ret
  exact ⟨_, _, rfl, newcell' _ _ _ _ (by simp), keep0 (newcell _ _ _) (below1 _ _), below2s _ _ _⟩

set_option maxHeartbeats 1000000 in
theorem bt_2_4 (w : World) :
    Calls Tryz.prog 71 #[.int .i64 2, .int .i64 4] w fun e w' => ∃ gn gt, e = .returned (.func (.func 139) #[] #[.pointer (some ⟨gn, 0, none⟩), .pointer (some ⟨gt, 0, none⟩)]) ∧ w'.cell? ⟨gn, 0, none⟩ = some (.func (.func 120) #[] #[]) ∧ w'.cell? ⟨gt, 0, none⟩ = some (.int .i64 4) ∧ Below w.heap.size w w' := by
  have hmf := mf
  go_enter Tryz.func71, Tryz.ntmps71
  go_wp2
  go_ret
  exact ⟨_, _, rfl, newcell' _ _ _ _ (by simp), keep0 (newcell _ _ _) (below1 _ _), below2s _ _ _⟩

set_option maxHeartbeats 1000000 in
theorem bt_2_5 (w : World) :
    Calls Tryz.prog 71 #[.int .i64 2, .int .i64 5] w fun e w' => ∃ gn gt, e = .returned (.func (.func 139) #[] #[.pointer (some ⟨gn, 0, none⟩), .pointer (some ⟨gt, 0, none⟩)]) ∧ w'.cell? ⟨gn, 0, none⟩ = some (.func (.func 120) #[] #[]) ∧ w'.cell? ⟨gt, 0, none⟩ = some (.int .i64 5) ∧ Below w.heap.size w w' := by
  have hmf := mf
  go_enter Tryz.func71, Tryz.ntmps71
  go_wp2
  go_ret
  exact ⟨_, _, rfl, newcell' _ _ _ _ (by simp), keep0 (newcell _ _ _) (below1 _ _), below2s _ _ _⟩

set_option maxHeartbeats 1000000 in
theorem bt_3_1 (w : World) :
    Calls Tryz.prog 71 #[.int .i64 3, .int .i64 1] w fun e w' => ∃ gn gt, e = .returned (.func (.func 139) #[] #[.pointer (some ⟨gn, 0, none⟩), .pointer (some ⟨gt, 0, none⟩)]) ∧ w'.cell? ⟨gn, 0, none⟩ = some (.func (.func 121) #[] #[]) ∧ w'.cell? ⟨gt, 0, none⟩ = some (.int .i64 1) ∧ Below w.heap.size w w' := by
  have hmf := mf
  go_enter Tryz.func71, Tryz.ntmps71
  go_wp2
  go_ret
  exact ⟨_, _, rfl, newcell' _ _ _ _ (by simp), keep0 (newcell' _ _ _ _ (by simp)) (below1 _ _), below3s _ _ _ _⟩

set_option maxHeartbeats 1000000 in
theorem bt_3_2 (w : World) :
    Calls Tryz.prog 71 #[.int .i64 3, .int .i64 2] w fun e w' => ∃ gn gt, e = .returned (.func (.func 139) #[] #[.pointer (some ⟨gn, 0, none⟩), .pointer (some ⟨gt, 0, none⟩)]) ∧ w'.cell? ⟨gn, 0, none⟩ = some (.func (.func 121) #[] #[]) ∧ w'.cell? ⟨gt, 0, none⟩ = some (.int .i64 2) ∧ Below w.heap.size w w' := by
  have hmf := mf
  go_enter Tryz.func71, Tryz.ntmps71
  go_wp2
  go_ret
  exact ⟨_, _, rfl, newcell' _ _ _ _ (by simp), keep0 (newcell' _ _ _ _ (by simp)) (below1 _ _), below3s _ _ _ _⟩

set_option maxHeartbeats 1000000 in
theorem bt_4_2 (w : World) :
    Calls Tryz.prog 71 #[.int .i64 4, .int .i64 2] w fun e w' => ∃ gn gt, e = .returned (.func (.func 139) #[] #[.pointer (some ⟨gn, 0, none⟩), .pointer (some ⟨gt, 0, none⟩)]) ∧ w'.cell? ⟨gn, 0, none⟩ = some (.func (.func 125) #[] #[]) ∧ w'.cell? ⟨gt, 0, none⟩ = some (.int .i64 2) ∧ Below w.heap.size w w' := by
  have hmf := mf
  go_enter Tryz.func71, Tryz.ntmps71
  go_wp2
  go_ret
  exact ⟨_, _, rfl, newcell' _ _ _ _ (by simp), keep0 (newcell' _ _ _ _ (by simp)) (below1 _ _), below3s _ _ _ _⟩

set_option maxHeartbeats 1000000 in
theorem bt_5_2 (w : World) :
    Calls Tryz.prog 71 #[.int .i64 5, .int .i64 2] w fun e w' => ∃ gn gt, e = .returned (.func (.func 139) #[] #[.pointer (some ⟨gn, 0, none⟩), .pointer (some ⟨gt, 0, none⟩)]) ∧ w'.cell? ⟨gn, 0, none⟩ = some (.func (.func 130) #[] #[]) ∧ w'.cell? ⟨gt, 0, none⟩ = some (.int .i64 2) ∧ Below w.heap.size w w' := by
  have hmf := mf
  go_enter Tryz.func71, Tryz.ntmps71
  go_wp2
  go_ret
  exact ⟨_, _, rfl, newcell' _ _ _ _ (by simp), keep0 (newcell' _ _ _ _ (by simp)) (below1 _ _), below3s _ _ _ _⟩

set_option maxHeartbeats 1000000 in
theorem bt_1_4 (w : World) :
    Calls Tryz.prog 71 #[.int .i64 1, .int .i64 4] w fun e w' => e = .returned .nilFunc ∧ Below w.heap.size w w' := by
  have hmf := mf
  go_enter Tryz.func71, Tryz.ntmps71
  go_wp2
  go_ret
  exact ⟨rfl, below1 _ _⟩

set_option maxHeartbeats 1000000 in
theorem bt_3_5 (w : World) :
    Calls Tryz.prog 71 #[.int .i64 3, .int .i64 5] w fun e w' => e = .returned .nilFunc ∧ Below w.heap.size w w' := by
  have hmf := mf
  go_enter Tryz.func71, Tryz.ntmps71
  go_wp2
  go_ret
  exact ⟨rfl, below1 _ _⟩

set_option maxHeartbeats 1000000 in
theorem bt_4_1 (w : World) :
    Calls Tryz.prog 71 #[.int .i64 4, .int .i64 1] w fun e w' => e = .returned .nilFunc ∧ Below w.heap.size w w' := by
  have hmf := mf
  go_enter Tryz.func71, Tryz.ntmps71
  go_wp2
  go_ret
  exact ⟨rfl, below1 _ _⟩

set_option maxHeartbeats 1000000 in
theorem bt_5_3 (w : World) :
    Calls Tryz.prog 71 #[.int .i64 5, .int .i64 3] w fun e w' => e = .returned .nilFunc ∧ Below w.heap.size w w' := by
  have hmf := mf
  go_enter Tryz.func71, Tryz.ntmps71
  go_wp2
  go_ret
  exact ⟨rfl, below1 _ _⟩

end Go.Proofs.YtdonmbmahcjfbaaGreatDoor.Km
