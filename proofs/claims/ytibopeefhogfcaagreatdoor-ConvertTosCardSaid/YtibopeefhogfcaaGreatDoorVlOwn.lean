/-
  What own answers: a value with those fields alone that its kind has.
-/
import Derived.Test.YtibopeefhogfcaaGreatDoorVlLeaf
namespace Go.Proofs.YtibopeefhogfcaaGreatDoor
open Go.RowKit

/-- The fields that a kind has. -/
def on (k n : Int) : Int := if k = 1 ∨ k = 2 then n else 0
def ob (k b : Int) : Int := if k = 3 then b else 0
def os (k : Int) (s : List UInt8) : List UInt8 := if k = 4 ∨ k = 5 then s else []

theorem below2v (w : World) (o p : Obj) : Below w.heap.size w ((w.alloc o).alloc p) :=
  have b := (Below.refl _ w).alloc (Nat.le_refl _) o
  b.alloc b.size p

set_option maxHeartbeats 1000000 in
theorem own_0 (n b : Int) (s : List UInt8) (w : World) :
    Calls Tryz.prog 26 #[.agg #[.int .i64 0, .int .i64 n, .int .u64 b, .string ⟨s.toArray⟩]] w fun e w' => e = .returned (.agg #[.int .i64 0, .int .i64 0, .int .u64 0, .string ⟨([] : List UInt8).toArray⟩]) ∧ Below w.heap.size w w' := by
  go_enter Tryz.func26, Tryz.ntmps26
  go_wp2
  exact bodyPost_ret (v := .agg #[.int .i64 0, .int .i64 0, .int .u64 0, .string ⟨([] : List UInt8).toArray⟩]) (by simp [results, Tryz.results26, go_sem]) rfl ⟨rfl, below2v _ _ _⟩

set_option maxHeartbeats 1000000 in
theorem own_1 (n b : Int) (s : List UInt8) (w : World) :
    Calls Tryz.prog 26 #[.agg #[.int .i64 1, .int .i64 n, .int .u64 b, .string ⟨s.toArray⟩]] w fun e w' => e = .returned (.agg #[.int .i64 1, .int .i64 n, .int .u64 0, .string ⟨([] : List UInt8).toArray⟩]) ∧ Below w.heap.size w w' := by
  go_enter Tryz.func26, Tryz.ntmps26
  go_wp2
  exact bodyPost_ret (v := .agg #[.int .i64 1, .int .i64 n, .int .u64 0, .string ⟨([] : List UInt8).toArray⟩]) (by simp [results, Tryz.results26, go_sem]) rfl ⟨rfl, below2v _ _ _⟩

set_option maxHeartbeats 1000000 in
theorem own_2 (n b : Int) (s : List UInt8) (w : World) :
    Calls Tryz.prog 26 #[.agg #[.int .i64 2, .int .i64 n, .int .u64 b, .string ⟨s.toArray⟩]] w fun e w' => e = .returned (.agg #[.int .i64 2, .int .i64 n, .int .u64 0, .string ⟨([] : List UInt8).toArray⟩]) ∧ Below w.heap.size w w' := by
  go_enter Tryz.func26, Tryz.ntmps26
  go_wp2
  exact bodyPost_ret (v := .agg #[.int .i64 2, .int .i64 n, .int .u64 0, .string ⟨([] : List UInt8).toArray⟩]) (by simp [results, Tryz.results26, go_sem]) rfl ⟨rfl, below2v _ _ _⟩

set_option maxHeartbeats 1000000 in
theorem own_3 (n b : Int) (s : List UInt8) (w : World) :
    Calls Tryz.prog 26 #[.agg #[.int .i64 3, .int .i64 n, .int .u64 b, .string ⟨s.toArray⟩]] w fun e w' => e = .returned (.agg #[.int .i64 3, .int .i64 0, .int .u64 b, .string ⟨([] : List UInt8).toArray⟩]) ∧ Below w.heap.size w w' := by
  go_enter Tryz.func26, Tryz.ntmps26
  go_wp2
  exact bodyPost_ret (v := .agg #[.int .i64 3, .int .i64 0, .int .u64 b, .string ⟨([] : List UInt8).toArray⟩]) (by simp [results, Tryz.results26, go_sem]) rfl ⟨rfl, below2v _ _ _⟩

set_option maxHeartbeats 1000000 in
theorem own_4 (n b : Int) (s : List UInt8) (w : World) :
    Calls Tryz.prog 26 #[.agg #[.int .i64 4, .int .i64 n, .int .u64 b, .string ⟨s.toArray⟩]] w fun e w' => e = .returned (.agg #[.int .i64 4, .int .i64 0, .int .u64 0, .string ⟨(s : List UInt8).toArray⟩]) ∧ Below w.heap.size w w' := by
  go_enter Tryz.func26, Tryz.ntmps26
  go_wp2
  exact bodyPost_ret (v := .agg #[.int .i64 4, .int .i64 0, .int .u64 0, .string ⟨(s : List UInt8).toArray⟩]) (by simp [results, Tryz.results26, go_sem]) rfl ⟨rfl, below2v _ _ _⟩

set_option maxHeartbeats 1000000 in
theorem own_5 (n b : Int) (s : List UInt8) (w : World) :
    Calls Tryz.prog 26 #[.agg #[.int .i64 5, .int .i64 n, .int .u64 b, .string ⟨s.toArray⟩]] w fun e w' => e = .returned (.agg #[.int .i64 5, .int .i64 0, .int .u64 0, .string ⟨(s : List UInt8).toArray⟩]) ∧ Below w.heap.size w w' := by
  go_enter Tryz.func26, Tryz.ntmps26
  go_wp2
  exact bodyPost_ret (v := .agg #[.int .i64 5, .int .i64 0, .int .u64 0, .string ⟨(s : List UInt8).toArray⟩]) (by simp [results, Tryz.results26, go_sem]) rfl ⟨rfl, below2v _ _ _⟩

theorem own_any (k n b : Int) (s : List UInt8) (w : World) (h0 : 0 ≤ k) (h1 : k ≤ 5) :
    Calls Tryz.prog 26 #[.agg #[.int .i64 k, .int .i64 n, .int .u64 b, .string ⟨s.toArray⟩]] w fun e w' => e = .returned (.agg #[.int .i64 k, .int .i64 (on k n), .int .u64 (ob k b), .string ⟨(os k s).toArray⟩]) ∧ Below w.heap.size w w' := by
  have c : k = 0 ∨ k = 1 ∨ k = 2 ∨ k = 3 ∨ k = 4 ∨ k = 5 := by omega
  rcases c with rfl | rfl | rfl | rfl | rfl | rfl
  · exact own_0 n b s w
  · exact own_1 n b s w
  · exact own_2 n b s w
  · exact own_3 n b s w
  · exact own_4 n b s w
  · exact own_5 n b s w

end Go.Proofs.YtibopeefhogfcaaGreatDoor
