/-
  What awake and Few answer; what boxes hold where only memory was made since. Condition of awake: the table of names holds what its initialiser lays.
-/
import Derived.Test.YtcgienhkonhgcaaDoorVlKinds
import Derived.Test.YtcgienhkonhgcaaDoorVlCmp
namespace Go.Proofs.YtcgienhkonhgcaaDoor
open Go.RowKit

theorem step1 {w a v : World} {o : Obj} (h : Below w.heap.size w a) (g : Below (a.alloc o).heap.size (a.alloc o) v) : Below w.heap.size w v := (h.alloc h.size o).trans (g.mono (h.alloc h.size o).size)
theorem step0 {w a v : World} (h : Below w.heap.size w a) (g : Below a.heap.size a v) : Below w.heap.size w v := h.trans (g.mono h.size)
theorem cell_lt {w : World} {p : Addr} {x : Value} (h : w.cell? p = some x) : p.block < w.heap.size := by
  rcases Nat.lt_or_ge p.block w.heap.size with e | e
  · exact e
  · exfalso
    unfold World.cell? at h
    simp [Array.getElem?_eq_none e] at h
theorem keep0 {a v : World} {p : Addr} {x : Value} (c : a.cell? p = some x) (h : Below a.heap.size a v) : v.cell? p = some x := (h.cell (cell_lt c)).trans c
theorem keep1 {a v : World} {o : Obj} {p : Addr} {x : Value} (c : a.cell? p = some x) (h : Below (a.alloc o).heap.size (a.alloc o) v) : v.cell? p = some x :=
  keep0 (keep0 c (below1 a o)) h
theorem fresh {v : World} {g : Nat} {k n b : Int} {s : List UInt8} (hg : v.heap.size = g) :
    (v.alloc (Obj.cells #[.int .i64 k, .int .i64 n, .int .u64 b, .string ⟨(s : List UInt8).toArray⟩] 24)).cell? ⟨g, 0, none⟩ = some (.int .i64 k) ∧ (v.alloc (Obj.cells #[.int .i64 k, .int .i64 n, .int .u64 b, .string ⟨(s : List UInt8).toArray⟩] 24)).cell? ⟨g, 1, none⟩ = some (.int .i64 n) ∧ (v.alloc (Obj.cells #[.int .i64 k, .int .i64 n, .int .u64 b, .string ⟨(s : List UInt8).toArray⟩] 24)).cell? ⟨g, 2, none⟩ = some (.int .u64 b) ∧ (v.alloc (Obj.cells #[.int .i64 k, .int .i64 n, .int .u64 b, .string ⟨(s : List UInt8).toArray⟩] 24)).cell? ⟨g, 3, none⟩ = some (.string ⟨(s : List UInt8).toArray⟩) := by subst hg; simp

/-- What the boxes hold wherever only memory was made since. -/
theorem boxes_1 {w v : World} {k n b : Int} {s : List UInt8} (h : Below (w.alloc (Obj.cells #[.int .i64 k, .int .i64 n, .int .u64 b, .string ⟨(s : List UInt8).toArray⟩] 24)).heap.size (w.alloc (Obj.cells #[.int .i64 k, .int .i64 n, .int .u64 b, .string ⟨(s : List UInt8).toArray⟩] 24)) v) :
    Below (w.alloc (Obj.cells #[.int .i64 k, .int .i64 n, .int .u64 b, .string ⟨(s : List UInt8).toArray⟩] 24)).heap.size (w.alloc (Obj.cells #[.int .i64 k, .int .i64 n, .int .u64 b, .string ⟨(s : List UInt8).toArray⟩] 24)) v ∧ v.cell? ⟨w.heap.size, 0, none⟩ = some (.int .i64 k) ∧ v.cell? ⟨w.heap.size, 1, none⟩ = some (.int .i64 n) ∧ v.cell? ⟨w.heap.size, 2, none⟩ = some (.int .u64 b) ∧ v.cell? ⟨w.heap.size, 3, none⟩ = some (.string ⟨(s : List UInt8).toArray⟩) :=
  ⟨h, keep0 ((fresh rfl).1) h, keep0 ((fresh rfl).2.1) h, keep0 ((fresh rfl).2.2.1) h, keep0 ((fresh rfl).2.2.2) h⟩
theorem old_1 {w v : World} {o0 : Obj} (h : Below (w.alloc o0).heap.size (w.alloc o0) v) : Below w.heap.size w v := step1 (Below.refl _ w) h

/-- What the boxes hold wherever only memory was made since. -/
theorem boxes_2 {w v : World} {k n b k' n' b' : Int} {s s' : List UInt8} (h : Below ((w.alloc (Obj.cells #[.int .i64 k, .int .i64 n, .int .u64 b, .string ⟨(s : List UInt8).toArray⟩] 24)).alloc (Obj.cells #[.int .i64 k', .int .i64 n', .int .u64 b', .string ⟨(s' : List UInt8).toArray⟩] 24)).heap.size ((w.alloc (Obj.cells #[.int .i64 k, .int .i64 n, .int .u64 b, .string ⟨(s : List UInt8).toArray⟩] 24)).alloc (Obj.cells #[.int .i64 k', .int .i64 n', .int .u64 b', .string ⟨(s' : List UInt8).toArray⟩] 24)) v) :
    Below ((w.alloc (Obj.cells #[.int .i64 k, .int .i64 n, .int .u64 b, .string ⟨(s : List UInt8).toArray⟩] 24)).alloc (Obj.cells #[.int .i64 k', .int .i64 n', .int .u64 b', .string ⟨(s' : List UInt8).toArray⟩] 24)).heap.size ((w.alloc (Obj.cells #[.int .i64 k, .int .i64 n, .int .u64 b, .string ⟨(s : List UInt8).toArray⟩] 24)).alloc (Obj.cells #[.int .i64 k', .int .i64 n', .int .u64 b', .string ⟨(s' : List UInt8).toArray⟩] 24)) v ∧ v.cell? ⟨w.heap.size, 0, none⟩ = some (.int .i64 k) ∧ v.cell? ⟨w.heap.size, 1, none⟩ = some (.int .i64 n) ∧ v.cell? ⟨w.heap.size, 2, none⟩ = some (.int .u64 b) ∧ v.cell? ⟨w.heap.size, 3, none⟩ = some (.string ⟨(s : List UInt8).toArray⟩) ∧ v.cell? ⟨w.heap.size + 1, 0, none⟩ = some (.int .i64 k') ∧ v.cell? ⟨w.heap.size + 1, 1, none⟩ = some (.int .i64 n') ∧ v.cell? ⟨w.heap.size + 1, 2, none⟩ = some (.int .u64 b') ∧ v.cell? ⟨w.heap.size + 1, 3, none⟩ = some (.string ⟨(s' : List UInt8).toArray⟩) :=
  ⟨h, keep0 (keep0 ((fresh rfl).1) (below1 _ _)) h, keep0 (keep0 ((fresh rfl).2.1) (below1 _ _)) h, keep0 (keep0 ((fresh rfl).2.2.1) (below1 _ _)) h, keep0 (keep0 ((fresh rfl).2.2.2) (below1 _ _)) h, keep0 ((fresh (by simp)).1) h, keep0 ((fresh (by simp)).2.1) h, keep0 ((fresh (by simp)).2.2.1) h, keep0 ((fresh (by simp)).2.2.2) h⟩
theorem old_2 {w v : World} {o0 o1 : Obj} (h : Below ((w.alloc o0).alloc o1).heap.size ((w.alloc o0).alloc o1) v) : Below w.heap.size w v := step1 (below1 w o0) h

/-- What the boxes hold wherever only memory was made since. -/
theorem boxes_3 {w v : World} {k n b k' n' b' k'' n'' b'' : Int} {s s' s'' : List UInt8} (h : Below (((w.alloc (Obj.cells #[.int .i64 k, .int .i64 n, .int .u64 b, .string ⟨(s : List UInt8).toArray⟩] 24)).alloc (Obj.cells #[.int .i64 k', .int .i64 n', .int .u64 b', .string ⟨(s' : List UInt8).toArray⟩] 24)).alloc (Obj.cells #[.int .i64 k'', .int .i64 n'', .int .u64 b'', .string ⟨(s'' : List UInt8).toArray⟩] 24)).heap.size (((w.alloc (Obj.cells #[.int .i64 k, .int .i64 n, .int .u64 b, .string ⟨(s : List UInt8).toArray⟩] 24)).alloc (Obj.cells #[.int .i64 k', .int .i64 n', .int .u64 b', .string ⟨(s' : List UInt8).toArray⟩] 24)).alloc (Obj.cells #[.int .i64 k'', .int .i64 n'', .int .u64 b'', .string ⟨(s'' : List UInt8).toArray⟩] 24)) v) :
    Below (((w.alloc (Obj.cells #[.int .i64 k, .int .i64 n, .int .u64 b, .string ⟨(s : List UInt8).toArray⟩] 24)).alloc (Obj.cells #[.int .i64 k', .int .i64 n', .int .u64 b', .string ⟨(s' : List UInt8).toArray⟩] 24)).alloc (Obj.cells #[.int .i64 k'', .int .i64 n'', .int .u64 b'', .string ⟨(s'' : List UInt8).toArray⟩] 24)).heap.size (((w.alloc (Obj.cells #[.int .i64 k, .int .i64 n, .int .u64 b, .string ⟨(s : List UInt8).toArray⟩] 24)).alloc (Obj.cells #[.int .i64 k', .int .i64 n', .int .u64 b', .string ⟨(s' : List UInt8).toArray⟩] 24)).alloc (Obj.cells #[.int .i64 k'', .int .i64 n'', .int .u64 b'', .string ⟨(s'' : List UInt8).toArray⟩] 24)) v ∧ v.cell? ⟨w.heap.size, 0, none⟩ = some (.int .i64 k) ∧ v.cell? ⟨w.heap.size, 1, none⟩ = some (.int .i64 n) ∧ v.cell? ⟨w.heap.size, 2, none⟩ = some (.int .u64 b) ∧ v.cell? ⟨w.heap.size, 3, none⟩ = some (.string ⟨(s : List UInt8).toArray⟩) ∧ v.cell? ⟨w.heap.size + 1, 0, none⟩ = some (.int .i64 k') ∧ v.cell? ⟨w.heap.size + 1, 1, none⟩ = some (.int .i64 n') ∧ v.cell? ⟨w.heap.size + 1, 2, none⟩ = some (.int .u64 b') ∧ v.cell? ⟨w.heap.size + 1, 3, none⟩ = some (.string ⟨(s' : List UInt8).toArray⟩) ∧ v.cell? ⟨w.heap.size + 2, 0, none⟩ = some (.int .i64 k'') ∧ v.cell? ⟨w.heap.size + 2, 1, none⟩ = some (.int .i64 n'') ∧ v.cell? ⟨w.heap.size + 2, 2, none⟩ = some (.int .u64 b'') ∧ v.cell? ⟨w.heap.size + 2, 3, none⟩ = some (.string ⟨(s'' : List UInt8).toArray⟩) :=
  ⟨h, keep0 (keep0 (keep0 ((fresh rfl).1) (below1 _ _)) (below1 _ _)) h, keep0 (keep0 (keep0 ((fresh rfl).2.1) (below1 _ _)) (below1 _ _)) h, keep0 (keep0 (keep0 ((fresh rfl).2.2.1) (below1 _ _)) (below1 _ _)) h, keep0 (keep0 (keep0 ((fresh rfl).2.2.2) (below1 _ _)) (below1 _ _)) h, keep0 (keep0 ((fresh (by simp)).1) (below1 _ _)) h, keep0 (keep0 ((fresh (by simp)).2.1) (below1 _ _)) h, keep0 (keep0 ((fresh (by simp)).2.2.1) (below1 _ _)) h, keep0 (keep0 ((fresh (by simp)).2.2.2) (below1 _ _)) h, keep0 ((fresh (by simp)).1) h, keep0 ((fresh (by simp)).2.1) h, keep0 ((fresh (by simp)).2.2.1) h, keep0 ((fresh (by simp)).2.2.2) h⟩
theorem old_3 {w v : World} {o0 o1 o2 : Obj} (h : Below (((w.alloc o0).alloc o1).alloc o2).heap.size (((w.alloc o0).alloc o1).alloc o2) v) : Below w.heap.size w v := step1 (below2s w o0 o1) h

set_option maxHeartbeats 1000000 in
theorem few_1 (k n b : Int) (s : List UInt8) (w : World) (h : s.length ≤ 2000) :
    Calls Tryd.prog 7 #[.agg #[.int .i64 k, .int .i64 n, .int .u64 b, .string ⟨(s : List UInt8).toArray⟩]] w fun e w' => e = .returned (.int .i64 1) ∧ Below w.heap.size w w' := by
  have l1 : decide ((2000 : Int) < (s.length : Int)) = false := by rw [decide_eq_false_iff_not]; omega
  clear h
  go_enter Tryd.func7, Tryd.ntmps7
  go_wp2
  go_ret
  exact ⟨rfl, below1 _ _⟩
set_option maxHeartbeats 1000000 in
theorem few_0 (k n b : Int) (s : List UInt8) (w : World) (h : 2000 < s.length) :
    Calls Tryd.prog 7 #[.agg #[.int .i64 k, .int .i64 n, .int .u64 b, .string ⟨(s : List UInt8).toArray⟩]] w fun e w' => e = .returned (.int .i64 0) ∧ Below w.heap.size w w' := by
  have l1 : (2000 : Int) < (s.length : Int) := by omega
  clear h
  go_enter Tryd.func7, Tryd.ntmps7
  go_wp2
  go_ret
  exact ⟨rfl, below1 _ _⟩

set_option maxHeartbeats 2000000 in
theorem awake_any (w : World) (hT : Tab w) :
    Calls Tryd.prog 10 #[] w fun e w' => e = .returned (.bool true) ∧ Below w.heap.size w w' := by
  have T0 := Lib.hid hT
  clear hT
  go_enter Tryd.func10, Tryd.ntmps10
  go_wp2_with fail
  refine (zero_t 5 _ (by decide) (by decide)).mono ?_
  rintro e w1 ⟨rfl, hb⟩
  have A1 := Lib.hid hb
  clear hb
  go_wp2_with fail
  refine (zero_f 6 _ (by decide)).mono ?_
  rintro e w2 ⟨rfl, hb⟩
  have A2 := Lib.hid (step1 A1.out hb)
  have C2 := Lib.hid (keep0 (p := ⟨w1.heap.size, 0, none⟩) (x := .int .i64 5) (by simp) hb)
  clear hb
  go_wp2_with fail
  refine (vcmp_is 1 0 0 [] 2 0 0 [] (-1) _ ⟨by decide, by decide⟩ ⟨by decide, by decide⟩ (by decide)).mono ?_
  rintro e w3 ⟨rfl, hb⟩
  have A3 := Lib.hid (step1 A2.out hb)
  have C3 := Lib.hid (keep1 C2.out hb)
  clear hb C2
  go_wp2_with fail
  refine (check_is 5 0 0 7 [255] _ ⟨by decide, by decide⟩ (by decide)).mono ?_
  rintro e w4 ⟨rfl, hb⟩
  have A4 := Lib.hid (step0 A3.out hb)
  have c4 := keep0 C3.out hb
  have T4 := Lib.hid (T0.out.below A4.out)
  clear hb C3
  go_wp2_with fail
  refine (name_is 3 [114, 101, 97, 108] _ T4.out (by decide)).mono ?_
  rintro e w' ⟨rfl, rfl⟩
  go_wp2_with fail
  refine (kind_is [98, 121, 116, 101, 115] 4 _ T4.out (by decide)).mono ?_
  rintro e w' ⟨rfl, rfl⟩
  go_wp2_with fail
  refine (kind_is [120] (-1) _ T4.out (by decide)).mono ?_
  rintro e w' ⟨rfl, rfl⟩
  go_wp2_with fail
  refine (check_is 3 0 18444492273895866368 4 [] _ ⟨by decide, by decide⟩ (by decide)).mono ?_
  rintro e w5 ⟨rfl, hb⟩
  have A5 := Lib.hid (step0 A4.out hb)
  clear hb
  go_wp2_with fail
  refine (check_is 1 2 0 6 [] _ ⟨by decide, by decide⟩ (by decide)).mono ?_
  rintro e w6 ⟨rfl, hb⟩
  have A6 := Lib.hid (step0 A5.out hb)
  clear hb
  go_wp2
  go_ret
  exact ⟨rfl, A6.out⟩

end Go.Proofs.YtcgienhkonhgcaaDoor
