/-
  What Few of chapter 4 answers; what boxes hold where only memory was made since.
-/
import Derived.Test.YtibopeefhogfcaaGreatDoorVlSame
import Derived.Test.YtibopeefhogfcaaGreatDoorVlCheck
namespace Go.Proofs.YtibopeefhogfcaaGreatDoor
open Go.RowKit

theorem step1 {w a v : World} {o : Obj} (h : Below w.heap.size w a) (g : Below (a.alloc o).heap.size (a.alloc o) v) : Below w.heap.size w v := (h.alloc h.size o).trans (g.mono (h.alloc h.size o).size)
theorem step0 {w a v : World} (h : Below w.heap.size w a) (g : Below a.heap.size a v) : Below w.heap.size w v := h.trans (g.mono h.size)
theorem cell_lt {w : World} {p : Addr} {x : Value} (h : w.cell? p = some x) : p.block < w.heap.size := by
  rcases Nat.lt_or_ge p.block w.heap.size with e | e
  · exact e
  · exfalso
    unfold World.cell? at h
    simp [Array.getElem?_eq_none e] at h
theorem keep0 {a v : World} {p : Addr} {x : Value} (c : a.cell? p = some x) (h : Below a.heap.size a v) : v.cell? p = some x := (h.cell (cell_lt c)).trans c
theorem keep1 {a v : World} {o : Obj} {p : Addr} {x : Value} (c : a.cell? p = some x) (h : Below (a.alloc o).heap.size (a.alloc o) v) : v.cell? p = some x :=
  keep0 (keep0 c (below1 a o)) h
theorem fresh {v : World} {g : Nat} {k n b : Int} {s : List UInt8} (hg : v.heap.size = g) :
    (v.alloc (Obj.cells #[.int .i64 k, .int .i64 n, .int .u64 b, .string ⟨(s : List UInt8).toArray⟩] 24)).cell? ⟨g, 0, none⟩ = some (.int .i64 k) ∧ (v.alloc (Obj.cells #[.int .i64 k, .int .i64 n, .int .u64 b, .string ⟨(s : List UInt8).toArray⟩] 24)).cell? ⟨g, 1, none⟩ = some (.int .i64 n) ∧ (v.alloc (Obj.cells #[.int .i64 k, .int .i64 n, .int .u64 b, .string ⟨(s : List UInt8).toArray⟩] 24)).cell? ⟨g, 2, none⟩ = some (.int .u64 b) ∧ (v.alloc (Obj.cells #[.int .i64 k, .int .i64 n, .int .u64 b, .string ⟨(s : List UInt8).toArray⟩] 24)).cell? ⟨g, 3, none⟩ = some (.string ⟨(s : List UInt8).toArray⟩) := by subst hg; simp

/-- What the boxes hold wherever only memory was made since. -/
theorem boxes_1 {w v : World} {k n b : Int} {s : List UInt8} (h : Below (w.alloc (Obj.cells #[.int .i64 k, .int .i64 n, .int .u64 b, .string ⟨(s : List UInt8).toArray⟩] 24)).heap.size (w.alloc (Obj.cells #[.int .i64 k, .int .i64 n, .int .u64 b, .string ⟨(s : List UInt8).toArray⟩] 24)) v) :
    Below (w.alloc (Obj.cells #[.int .i64 k, .int .i64 n, .int .u64 b, .string ⟨(s : List UInt8).toArray⟩] 24)).heap.size (w.alloc (Obj.cells #[.int .i64 k, .int .i64 n, .int .u64 b, .string ⟨(s : List UInt8).toArray⟩] 24)) v ∧ v.cell? ⟨w.heap.size, 0, none⟩ = some (.int .i64 k) ∧ v.cell? ⟨w.heap.size, 1, none⟩ = some (.int .i64 n) ∧ v.cell? ⟨w.heap.size, 2, none⟩ = some (.int .u64 b) ∧ v.cell? ⟨w.heap.size, 3, none⟩ = some (.string ⟨(s : List UInt8).toArray⟩) :=
  ⟨h, keep0 ((fresh rfl).1) h, keep0 ((fresh rfl).2.1) h, keep0 ((fresh rfl).2.2.1) h, keep0 ((fresh rfl).2.2.2) h⟩
theorem old_1 {w v : World} {o0 : Obj} (h : Below (w.alloc o0).heap.size (w.alloc o0) v) : Below w.heap.size w v := step1 (Below.refl _ w) h

/-- What the boxes hold wherever only memory was made since. -/
theorem boxes_2 {w v : World} {k n b k' n' b' : Int} {s s' : List UInt8} (h : Below ((w.alloc (Obj.cells #[.int .i64 k, .int .i64 n, .int .u64 b, .string ⟨(s : List UInt8).toArray⟩] 24)).alloc (Obj.cells #[.int .i64 k', .int .i64 n', .int .u64 b', .string ⟨(s' : List UInt8).toArray⟩] 24)).heap.size ((w.alloc (Obj.cells #[.int .i64 k, .int .i64 n, .int .u64 b, .string ⟨(s : List UInt8).toArray⟩] 24)).alloc (Obj.cells #[.int .i64 k', .int .i64 n', .int .u64 b', .string ⟨(s' : List UInt8).toArray⟩] 24)) v) :
    Below ((w.alloc (Obj.cells #[.int .i64 k, .int .i64 n, .int .u64 b, .string ⟨(s : List UInt8).toArray⟩] 24)).alloc (Obj.cells #[.int .i64 k', .int .i64 n', .int .u64 b', .string ⟨(s' : List UInt8).toArray⟩] 24)).heap.size ((w.alloc (Obj.cells #[.int .i64 k, .int .i64 n, .int .u64 b, .string ⟨(s : List UInt8).toArray⟩] 24)).alloc (Obj.cells #[.int .i64 k', .int .i64 n', .int .u64 b', .string ⟨(s' : List UInt8).toArray⟩] 24)) v ∧ v.cell? ⟨w.heap.size, 0, none⟩ = some (.int .i64 k) ∧ v.cell? ⟨w.heap.size, 1, none⟩ = some (.int .i64 n) ∧ v.cell? ⟨w.heap.size, 2, none⟩ = some (.int .u64 b) ∧ v.cell? ⟨w.heap.size, 3, none⟩ = some (.string ⟨(s : List UInt8).toArray⟩) ∧ v.cell? ⟨w.heap.size + 1, 0, none⟩ = some (.int .i64 k') ∧ v.cell? ⟨w.heap.size + 1, 1, none⟩ = some (.int .i64 n') ∧ v.cell? ⟨w.heap.size + 1, 2, none⟩ = some (.int .u64 b') ∧ v.cell? ⟨w.heap.size + 1, 3, none⟩ = some (.string ⟨(s' : List UInt8).toArray⟩) :=
  ⟨h, keep0 (keep0 ((fresh rfl).1) (below1 _ _)) h, keep0 (keep0 ((fresh rfl).2.1) (below1 _ _)) h, keep0 (keep0 ((fresh rfl).2.2.1) (below1 _ _)) h, keep0 (keep0 ((fresh rfl).2.2.2) (below1 _ _)) h, keep0 ((fresh (by simp)).1) h, keep0 ((fresh (by simp)).2.1) h, keep0 ((fresh (by simp)).2.2.1) h, keep0 ((fresh (by simp)).2.2.2) h⟩
theorem old_2 {w v : World} {o0 o1 : Obj} (h : Below ((w.alloc o0).alloc o1).heap.size ((w.alloc o0).alloc o1) v) : Below w.heap.size w v := step1 (below1 w o0) h

/-- What the boxes hold wherever only memory was made since. -/
theorem boxes_3 {w v : World} {k n b k' n' b' k'' n'' b'' : Int} {s s' s'' : List UInt8} (h : Below (((w.alloc (Obj.cells #[.int .i64 k, .int .i64 n, .int .u64 b, .string ⟨(s : List UInt8).toArray⟩] 24)).alloc (Obj.cells #[.int .i64 k', .int .i64 n', .int .u64 b', .string ⟨(s' : List UInt8).toArray⟩] 24)).alloc (Obj.cells #[.int .i64 k'', .int .i64 n'', .int .u64 b'', .string ⟨(s'' : List UInt8).toArray⟩] 24)).heap.size (((w.alloc (Obj.cells #[.int .i64 k, .int .i64 n, .int .u64 b, .string ⟨(s : List UInt8).toArray⟩] 24)).alloc (Obj.cells #[.int .i64 k', .int .i64 n', .int .u64 b', .string ⟨(s' : List UInt8).toArray⟩] 24)).alloc (Obj.cells #[.int .i64 k'', .int .i64 n'', .int .u64 b'', .string ⟨(s'' : List UInt8).toArray⟩] 24)) v) :
    Below (((w.alloc (Obj.cells #[.int .i64 k, .int .i64 n, .int .u64 b, .string ⟨(s : List UInt8).toArray⟩] 24)).alloc (Obj.cells #[.int .i64 k', .int .i64 n', .int .u64 b', .string ⟨(s' : List UInt8).toArray⟩] 24)).alloc (Obj.cells #[.int .i64 k'', .int .i64 n'', .int .u64 b'', .string ⟨(s'' : List UInt8).toArray⟩] 24)).heap.size (((w.alloc (Obj.cells #[.int .i64 k, .int .i64 n, .int .u64 b, .string ⟨(s : List UInt8).toArray⟩] 24)).alloc (Obj.cells #[.int .i64 k', .int .i64 n', .int .u64 b', .string ⟨(s' : List UInt8).toArray⟩] 24)).alloc (Obj.cells #[.int .i64 k'', .int .i64 n'', .int .u64 b'', .string ⟨(s'' : List UInt8).toArray⟩] 24)) v ∧ v.cell? ⟨w.heap.size, 0, none⟩ = some (.int .i64 k) ∧ v.cell? ⟨w.heap.size, 1, none⟩ = some (.int .i64 n) ∧ v.cell? ⟨w.heap.size, 2, none⟩ = some (.int .u64 b) ∧ v.cell? ⟨w.heap.size, 3, none⟩ = some (.string ⟨(s : List UInt8).toArray⟩) ∧ v.cell? ⟨w.heap.size + 1, 0, none⟩ = some (.int .i64 k') ∧ v.cell? ⟨w.heap.size + 1, 1, none⟩ = some (.int .i64 n') ∧ v.cell? ⟨w.heap.size + 1, 2, none⟩ = some (.int .u64 b') ∧ v.cell? ⟨w.heap.size + 1, 3, none⟩ = some (.string ⟨(s' : List UInt8).toArray⟩) ∧ v.cell? ⟨w.heap.size + 2, 0, none⟩ = some (.int .i64 k'') ∧ v.cell? ⟨w.heap.size + 2, 1, none⟩ = some (.int .i64 n'') ∧ v.cell? ⟨w.heap.size + 2, 2, none⟩ = some (.int .u64 b'') ∧ v.cell? ⟨w.heap.size + 2, 3, none⟩ = some (.string ⟨(s'' : List UInt8).toArray⟩) :=
  ⟨h, keep0 (keep0 (keep0 ((fresh rfl).1) (below1 _ _)) (below1 _ _)) h, keep0 (keep0 (keep0 ((fresh rfl).2.1) (below1 _ _)) (below1 _ _)) h, keep0 (keep0 (keep0 ((fresh rfl).2.2.1) (below1 _ _)) (below1 _ _)) h, keep0 (keep0 (keep0 ((fresh rfl).2.2.2) (below1 _ _)) (below1 _ _)) h, keep0 (keep0 ((fresh (by simp)).1) (below1 _ _)) h, keep0 (keep0 ((fresh (by simp)).2.1) (below1 _ _)) h, keep0 (keep0 ((fresh (by simp)).2.2.1) (below1 _ _)) h, keep0 (keep0 ((fresh (by simp)).2.2.2) (below1 _ _)) h, keep0 ((fresh (by simp)).1) h, keep0 ((fresh (by simp)).2.1) h, keep0 ((fresh (by simp)).2.2.1) h, keep0 ((fresh (by simp)).2.2.2) h⟩
theorem old_3 {w v : World} {o0 o1 o2 : Obj} (h : Below (((w.alloc o0).alloc o1).alloc o2).heap.size (((w.alloc o0).alloc o1).alloc o2) v) : Below w.heap.size w v := step1 (below2s w o0 o1) h

set_option maxHeartbeats 1000000 in
theorem few_1 (k n b : Int) (s : List UInt8) (w : World) (h : s.length ≤ 2000) :
    Calls Tryz.prog 4 #[.agg #[.int .i64 k, .int .i64 n, .int .u64 b, .string ⟨(s : List UInt8).toArray⟩]] w fun e w' => e = .returned (.int .i64 1) ∧ Below w.heap.size w w' := by
  have l1 : decide ((2000 : Int) < (s.length : Int)) = false := by rw [decide_eq_false_iff_not]; omega
  clear h
  go_enter Tryz.func4, Tryz.ntmps4
  go_wp2
  go_ret
  exact ⟨rfl, below1 _ _⟩
set_option maxHeartbeats 1000000 in
theorem few_0 (k n b : Int) (s : List UInt8) (w : World) (h : 2000 < s.length) :
    Calls Tryz.prog 4 #[.agg #[.int .i64 k, .int .i64 n, .int .u64 b, .string ⟨(s : List UInt8).toArray⟩]] w fun e w' => e = .returned (.int .i64 0) ∧ Below w.heap.size w w' := by
  have l1 : (2000 : Int) < (s.length : Int) := by omega
  clear h
  go_enter Tryz.func4, Tryz.ntmps4
  go_wp2
  go_ret
  exact ⟨rfl, below1 _ _⟩

end Go.Proofs.YtibopeefhogfcaaGreatDoor
