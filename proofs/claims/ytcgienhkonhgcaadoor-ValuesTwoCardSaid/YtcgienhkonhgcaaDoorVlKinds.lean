/-
  What Zero, Name and Kind answer, the program's and the document's. Condition of the program's Name and Kind: its table of names holds what its initialiser lays.
-/
import Derived.Test.YtcgienhkonhgcaaDoorVlCheck
namespace Go.Proofs.YtcgienhkonhgcaaDoor
open Go.RowKit

/-- The names, and back. -/
def nm (k : Int) : List UInt8 := if k = 0 then [110, 117, 108, 108] else if k = 1 then [98, 111, 111, 108] else if k = 2 then [105, 110, 116] else if k = 3 then [114, 101, 97, 108] else if k = 4 then [98, 121, 116, 101, 115] else if k = 5 then [116, 101, 120, 116] else []
def km (s : List UInt8) : Int := if s = [110, 117, 108, 108] then 0 else if s = [98, 111, 111, 108] then 1 else if s = [105, 110, 116] then 2 else if s = [114, 101, 97, 108] then 3 else if s = [98, 121, 116, 101, 115] then 4 else if s = [116, 101, 120, 116] then 5 else -1

/-- The table of names lies in its variable. -/
def Tab (w : World) : Prop := w.cell? ⟨0, 0, none⟩ = some (.string ⟨([110, 117, 108, 108] : List UInt8).toArray⟩) ∧ w.cell? ⟨0, 1, none⟩ = some (.string ⟨([98, 111, 111, 108] : List UInt8).toArray⟩) ∧ w.cell? ⟨0, 2, none⟩ = some (.string ⟨([105, 110, 116] : List UInt8).toArray⟩) ∧ w.cell? ⟨0, 3, none⟩ = some (.string ⟨([114, 101, 97, 108] : List UInt8).toArray⟩) ∧ w.cell? ⟨0, 4, none⟩ = some (.string ⟨([98, 121, 116, 101, 115] : List UInt8).toArray⟩) ∧ w.cell? ⟨0, 5, none⟩ = some (.string ⟨([116, 101, 120, 116] : List UInt8).toArray⟩)
theorem Tab.pos {w : World} (h : Tab w) : 0 < w.heap.size := by
  have := h.1
  rcases Nat.lt_or_ge 0 w.heap.size with e | e
  · exact e
  · exfalso
    unfold World.cell? at this
    simp [Array.getElem?_eq_none e] at this
theorem Tab.below {w w' : World} (h : Tab w) (b : Below w.heap.size w w') : Tab w' := by
  have p := h.pos
  unfold Tab
  rw [b.cell (p := ⟨0, 0, none⟩) p, b.cell (p := ⟨0, 1, none⟩) p, b.cell (p := ⟨0, 2, none⟩) p, b.cell (p := ⟨0, 3, none⟩) p, b.cell (p := ⟨0, 4, none⟩) p, b.cell (p := ⟨0, 5, none⟩) p]
  exact h

set_option maxHeartbeats 1000000 in
theorem zero_t (k : Int) (w : World) (h0 : 0 ≤ k) (h1 : k ≤ 5) :
    Calls Tryd.prog 15 #[.int .i64 k] w fun e w' => e = .returned (.tuple #[.agg #[.int .i64 k, .int .i64 0, .int .u64 0, .string ⟨#[]⟩], .int .i64 0]) ∧ Below w.heap.size w w' := by
  have H := Lib.hid (And.intro h0 h1)
  clear h0 h1
  go_enter Tryd.func15, Tryd.ntmps15
  go_wp2_with fail
  refine (isKind_t k _ H.out.1 H.out.2).mono ?_
  rintro e w'' ⟨rfl, rfl⟩
  go_wp2
  exact bodyPost_ret (v := .tuple #[.agg #[.int .i64 k, .int .i64 0, .int .u64 0, .string ⟨#[]⟩], .int .i64 0]) (by simp [results, Tryd.results15, go_sem]) rfl ⟨rfl, below1 _ _⟩

set_option maxHeartbeats 1000000 in
theorem zero_f (k : Int) (w : World) (h : k < 0 ∨ 5 < k) :
    Calls Tryd.prog 15 #[.int .i64 k] w fun e w' => e = .returned (.tuple #[.agg #[.int .i64 0, .int .i64 0, .int .u64 0, .string ⟨#[]⟩], .int .i64 5]) ∧ Below w.heap.size w w' := by
  have H := Lib.hid h
  clear h
  go_enter Tryd.func15, Tryd.ntmps15
  go_wp2_with fail
  refine (isKind_f k _ H.out).mono ?_
  rintro e w'' ⟨rfl, rfl⟩
  go_wp2
  exact bodyPost_ret (v := .tuple #[.agg #[.int .i64 0, .int .i64 0, .int .u64 0, .string ⟨#[]⟩], .int .i64 5]) (by simp [results, Tryd.results15, go_sem]) rfl ⟨rfl, below1 _ _⟩

set_option maxHeartbeats 1000000 in
theorem rzero_t (k : Int) (w : World) (h0 : 0 ≤ k) (h1 : k ≤ 5) :
    Calls Tryd.prog 16 #[.int .i64 k] w fun e w' => e = .returned (.tuple #[.agg #[.int .i64 k, .int .i64 0, .int .u64 0, .string ⟨#[]⟩], .int .i64 0]) ∧ Below w.heap.size w w' := by
  have d0 : decide (k < 0) = false := by rw [decide_eq_false_iff_not]; omega
  have d1 : decide (5 < k) = false := by rw [decide_eq_false_iff_not]; omega
  clear h0 h1
  go_enter Tryd.func16, Tryd.ntmps16

  go_wp2
  exact bodyPost_ret (v := .tuple #[.agg #[.int .i64 k, .int .i64 0, .int .u64 0, .string ⟨#[]⟩], .int .i64 0]) (by simp [results, Tryd.results16, go_sem]) rfl ⟨rfl, below1 _ _⟩

set_option maxHeartbeats 1000000 in
theorem rzero_lo (k : Int) (w : World) (h : k < 0) :
    Calls Tryd.prog 16 #[.int .i64 k] w fun e w' => e = .returned (.tuple #[.agg #[.int .i64 0, .int .i64 0, .int .u64 0, .string ⟨#[]⟩], .int .i64 5]) ∧ Below w.heap.size w w' := by
  have d0 : decide (k < 0) = true := by rw [decide_eq_true_eq]; exact h
  clear h
  go_enter Tryd.func16, Tryd.ntmps16

  go_wp2
  exact bodyPost_ret (v := .tuple #[.agg #[.int .i64 0, .int .i64 0, .int .u64 0, .string ⟨#[]⟩], .int .i64 5]) (by simp [results, Tryd.results16, go_sem]) rfl ⟨rfl, below1 _ _⟩

set_option maxHeartbeats 1000000 in
theorem rzero_hi (k : Int) (w : World) (h : 5 < k) :
    Calls Tryd.prog 16 #[.int .i64 k] w fun e w' => e = .returned (.tuple #[.agg #[.int .i64 0, .int .i64 0, .int .u64 0, .string ⟨#[]⟩], .int .i64 5]) ∧ Below w.heap.size w w' := by
  have d0 : decide (k < 0) = false := by rw [decide_eq_false_iff_not]; omega
  have d1 : decide (5 < k) = true := by rw [decide_eq_true_eq]; exact h
  clear h
  go_enter Tryd.func16, Tryd.ntmps16

  go_wp2
  exact bodyPost_ret (v := .tuple #[.agg #[.int .i64 0, .int .i64 0, .int .u64 0, .string ⟨#[]⟩], .int .i64 5]) (by simp [results, Tryd.results16, go_sem]) rfl ⟨rfl, below1 _ _⟩

set_option maxHeartbeats 1000000 in
theorem name_0 (w : World) (hT : Tab w) :
    Calls Tryd.prog 17 #[.int .i64 0] w fun e w' => e = .returned (.string ⟨([110, 117, 108, 108] : List UInt8).toArray⟩) ∧ w = w' := by
  obtain ⟨c0, c1, c2, c3, c4, c5⟩ := hT
  clear c1 c2 c3 c4 c5
  go_enter Tryd.func17, Tryd.ntmps17
  go_wp2_with fail
  refine (isKind_t 0 _ (by decide) (by decide)).mono ?_
  rintro e w'' ⟨rfl, rfl⟩
  go_wp2
  go_ret
  exact ⟨rfl, rfl⟩

set_option maxHeartbeats 1000000 in
theorem rname_0 (w : World) :
    Calls Tryd.prog 18 #[.int .i64 0] w fun e w' => e = .returned (.string ⟨([110, 117, 108, 108] : List UInt8).toArray⟩) ∧ w = w' := by
  go_enter Tryd.func18, Tryd.ntmps18
  go_wp2
  go_ret
  exact ⟨rfl, rfl⟩

set_option maxHeartbeats 1000000 in
theorem name_1 (w : World) (hT : Tab w) :
    Calls Tryd.prog 17 #[.int .i64 1] w fun e w' => e = .returned (.string ⟨([98, 111, 111, 108] : List UInt8).toArray⟩) ∧ w = w' := by
  obtain ⟨c0, c1, c2, c3, c4, c5⟩ := hT
  clear c0 c2 c3 c4 c5
  go_enter Tryd.func17, Tryd.ntmps17
  go_wp2_with fail
  refine (isKind_t 1 _ (by decide) (by decide)).mono ?_
  rintro e w'' ⟨rfl, rfl⟩
  go_wp2
  go_ret
  exact ⟨rfl, rfl⟩

set_option maxHeartbeats 1000000 in
theorem rname_1 (w : World) :
    Calls Tryd.prog 18 #[.int .i64 1] w fun e w' => e = .returned (.string ⟨([98, 111, 111, 108] : List UInt8).toArray⟩) ∧ w = w' := by
  go_enter Tryd.func18, Tryd.ntmps18
  go_wp2
  go_ret
  exact ⟨rfl, rfl⟩

set_option maxHeartbeats 1000000 in
theorem name_2 (w : World) (hT : Tab w) :
    Calls Tryd.prog 17 #[.int .i64 2] w fun e w' => e = .returned (.string ⟨([105, 110, 116] : List UInt8).toArray⟩) ∧ w = w' := by
  obtain ⟨c0, c1, c2, c3, c4, c5⟩ := hT
  clear c0 c1 c3 c4 c5
  go_enter Tryd.func17, Tryd.ntmps17
  go_wp2_with fail
  refine (isKind_t 2 _ (by decide) (by decide)).mono ?_
  rintro e w'' ⟨rfl, rfl⟩
  go_wp2
  go_ret
  exact ⟨rfl, rfl⟩

set_option maxHeartbeats 1000000 in
theorem rname_2 (w : World) :
    Calls Tryd.prog 18 #[.int .i64 2] w fun e w' => e = .returned (.string ⟨([105, 110, 116] : List UInt8).toArray⟩) ∧ w = w' := by
  go_enter Tryd.func18, Tryd.ntmps18
  go_wp2
  go_ret
  exact ⟨rfl, rfl⟩

set_option maxHeartbeats 1000000 in
theorem name_3 (w : World) (hT : Tab w) :
    Calls Tryd.prog 17 #[.int .i64 3] w fun e w' => e = .returned (.string ⟨([114, 101, 97, 108] : List UInt8).toArray⟩) ∧ w = w' := by
  obtain ⟨c0, c1, c2, c3, c4, c5⟩ := hT
  clear c0 c1 c2 c4 c5
  go_enter Tryd.func17, Tryd.ntmps17
  go_wp2_with fail
  refine (isKind_t 3 _ (by decide) (by decide)).mono ?_
  rintro e w'' ⟨rfl, rfl⟩
  go_wp2
  go_ret
  exact ⟨rfl, rfl⟩

set_option maxHeartbeats 1000000 in
theorem rname_3 (w : World) :
    Calls Tryd.prog 18 #[.int .i64 3] w fun e w' => e = .returned (.string ⟨([114, 101, 97, 108] : List UInt8).toArray⟩) ∧ w = w' := by
  go_enter Tryd.func18, Tryd.ntmps18
  go_wp2
  go_ret
  exact ⟨rfl, rfl⟩

set_option maxHeartbeats 1000000 in
theorem name_4 (w : World) (hT : Tab w) :
    Calls Tryd.prog 17 #[.int .i64 4] w fun e w' => e = .returned (.string ⟨([98, 121, 116, 101, 115] : List UInt8).toArray⟩) ∧ w = w' := by
  obtain ⟨c0, c1, c2, c3, c4, c5⟩ := hT
  clear c0 c1 c2 c3 c5
  go_enter Tryd.func17, Tryd.ntmps17
  go_wp2_with fail
  refine (isKind_t 4 _ (by decide) (by decide)).mono ?_
  rintro e w'' ⟨rfl, rfl⟩
  go_wp2
  go_ret
  exact ⟨rfl, rfl⟩

set_option maxHeartbeats 1000000 in
theorem rname_4 (w : World) :
    Calls Tryd.prog 18 #[.int .i64 4] w fun e w' => e = .returned (.string ⟨([98, 121, 116, 101, 115] : List UInt8).toArray⟩) ∧ w = w' := by
  go_enter Tryd.func18, Tryd.ntmps18
  go_wp2
  go_ret
  exact ⟨rfl, rfl⟩

set_option maxHeartbeats 1000000 in
theorem name_5 (w : World) (hT : Tab w) :
    Calls Tryd.prog 17 #[.int .i64 5] w fun e w' => e = .returned (.string ⟨([116, 101, 120, 116] : List UInt8).toArray⟩) ∧ w = w' := by
  obtain ⟨c0, c1, c2, c3, c4, c5⟩ := hT
  clear c0 c1 c2 c3 c4
  go_enter Tryd.func17, Tryd.ntmps17
  go_wp2_with fail
  refine (isKind_t 5 _ (by decide) (by decide)).mono ?_
  rintro e w'' ⟨rfl, rfl⟩
  go_wp2
  go_ret
  exact ⟨rfl, rfl⟩

set_option maxHeartbeats 1000000 in
theorem rname_5 (w : World) :
    Calls Tryd.prog 18 #[.int .i64 5] w fun e w' => e = .returned (.string ⟨([116, 101, 120, 116] : List UInt8).toArray⟩) ∧ w = w' := by
  go_enter Tryd.func18, Tryd.ntmps18
  go_wp2
  go_ret
  exact ⟨rfl, rfl⟩

theorem name_none (k : Int) (w : World) (h : k < 0 ∨ 5 < k) :
    Calls Tryd.prog 17 #[.int .i64 k] w fun e w' => e = .returned (.string ⟨#[]⟩) ∧ w = w' := by
  have H := Lib.hid h
  clear h
  go_enter Tryd.func17, Tryd.ntmps17
  go_wp2_with fail
  refine (isKind_f k _ H.out).mono ?_
  rintro e w'' ⟨rfl, rfl⟩
  go_wp2
  go_ret
  exact ⟨rfl, rfl⟩

set_option maxHeartbeats 1000000 in
theorem rname_none (k : Int) (w : World) (h : k < 0 ∨ 5 < k) :
    Calls Tryd.prog 18 #[.int .i64 k] w fun e w' => e = .returned (.string ⟨#[]⟩) ∧ w = w' := by
  have d0 : (k == 0) = false := beq_f (by omega)
  have d1 : (k == 1) = false := beq_f (by omega)
  have d2 : (k == 2) = false := beq_f (by omega)
  have d3 : (k == 3) = false := beq_f (by omega)
  have d4 : (k == 4) = false := beq_f (by omega)
  have d5 : (k == 5) = false := beq_f (by omega)
  clear h
  go_enter Tryd.func18, Tryd.ntmps18
  go_wp2
  go_ret
  exact ⟨rfl, rfl⟩

theorem name_is (k : Int) (r : List UInt8) (w : World) (hT : Tab w) (h : nm k = r) :
    Calls Tryd.prog 17 #[.int .i64 k] w fun e w' => e = .returned (.string ⟨r.toArray⟩) ∧ w = w' := by
  subst h
  by_cases c : k < 0 ∨ 5 < k
  · rw [show nm k = [] from by unfold nm; (repeat rw [if_neg (by omega)])]
    exact name_none k w c
  · have c : k = 0 ∨ k = 1 ∨ k = 2 ∨ k = 3 ∨ k = 4 ∨ k = 5 := by omega
    rcases c with rfl | rfl | rfl | rfl | rfl | rfl
    · exact name_0 w hT
    · exact name_1 w hT
    · exact name_2 w hT
    · exact name_3 w hT
    · exact name_4 w hT
    · exact name_5 w hT

theorem rname_is (k : Int) (r : List UInt8) (w : World) (h : nm k = r) :
    Calls Tryd.prog 18 #[.int .i64 k] w fun e w' => e = .returned (.string ⟨r.toArray⟩) ∧ w = w' := by
  subst h
  by_cases c : k < 0 ∨ 5 < k
  · rw [show nm k = [] from by unfold nm; (repeat rw [if_neg (by omega)])]
    exact rname_none k w c
  · have c : k = 0 ∨ k = 1 ∨ k = 2 ∨ k = 3 ∨ k = 4 ∨ k = 5 := by omega
    rcases c with rfl | rfl | rfl | rfl | rfl | rfl
    · exact rname_0 w
    · exact rname_1 w
    · exact rname_2 w
    · exact rname_3 w
    · exact rname_4 w
    · exact rname_5 w

theorem ix_0 (w : World) : (Instr.index 49 (.agg #[.string ⟨([110, 117, 108, 108] : List UInt8).toArray⟩, .string ⟨([98, 111, 111, 108] : List UInt8).toArray⟩, .string ⟨([105, 110, 116] : List UInt8).toArray⟩, .string ⟨([114, 101, 97, 108] : List UInt8).toArray⟩, .string ⟨([98, 121, 116, 101, 115] : List UInt8).toArray⟩, .string ⟨([116, 101, 120, 116] : List UInt8).toArray⟩]) (.int .i64 0)).run Tryd.prog w = .ok (.string ⟨([110, 117, 108, 108] : List UInt8).toArray⟩) w := by
  have u := Tryd.underlying49
  have a5 := Tryd.isAgg9
  have z5 := Tryd.sizeOf9
  simp [Instr.index, run_underlying u, asIntOf, go_sem, z5, a5]

theorem ix_1 (w : World) : (Instr.index 49 (.agg #[.string ⟨([110, 117, 108, 108] : List UInt8).toArray⟩, .string ⟨([98, 111, 111, 108] : List UInt8).toArray⟩, .string ⟨([105, 110, 116] : List UInt8).toArray⟩, .string ⟨([114, 101, 97, 108] : List UInt8).toArray⟩, .string ⟨([98, 121, 116, 101, 115] : List UInt8).toArray⟩, .string ⟨([116, 101, 120, 116] : List UInt8).toArray⟩]) (.int .i64 1)).run Tryd.prog w = .ok (.string ⟨([98, 111, 111, 108] : List UInt8).toArray⟩) w := by
  have u := Tryd.underlying49
  have a5 := Tryd.isAgg9
  have z5 := Tryd.sizeOf9
  simp [Instr.index, run_underlying u, asIntOf, go_sem, z5, a5]

theorem ix_2 (w : World) : (Instr.index 49 (.agg #[.string ⟨([110, 117, 108, 108] : List UInt8).toArray⟩, .string ⟨([98, 111, 111, 108] : List UInt8).toArray⟩, .string ⟨([105, 110, 116] : List UInt8).toArray⟩, .string ⟨([114, 101, 97, 108] : List UInt8).toArray⟩, .string ⟨([98, 121, 116, 101, 115] : List UInt8).toArray⟩, .string ⟨([116, 101, 120, 116] : List UInt8).toArray⟩]) (.int .i64 2)).run Tryd.prog w = .ok (.string ⟨([105, 110, 116] : List UInt8).toArray⟩) w := by
  have u := Tryd.underlying49
  have a5 := Tryd.isAgg9
  have z5 := Tryd.sizeOf9
  simp [Instr.index, run_underlying u, asIntOf, go_sem, z5, a5]

theorem ix_3 (w : World) : (Instr.index 49 (.agg #[.string ⟨([110, 117, 108, 108] : List UInt8).toArray⟩, .string ⟨([98, 111, 111, 108] : List UInt8).toArray⟩, .string ⟨([105, 110, 116] : List UInt8).toArray⟩, .string ⟨([114, 101, 97, 108] : List UInt8).toArray⟩, .string ⟨([98, 121, 116, 101, 115] : List UInt8).toArray⟩, .string ⟨([116, 101, 120, 116] : List UInt8).toArray⟩]) (.int .i64 3)).run Tryd.prog w = .ok (.string ⟨([114, 101, 97, 108] : List UInt8).toArray⟩) w := by
  have u := Tryd.underlying49
  have a5 := Tryd.isAgg9
  have z5 := Tryd.sizeOf9
  simp [Instr.index, run_underlying u, asIntOf, go_sem, z5, a5]

theorem ix_4 (w : World) : (Instr.index 49 (.agg #[.string ⟨([110, 117, 108, 108] : List UInt8).toArray⟩, .string ⟨([98, 111, 111, 108] : List UInt8).toArray⟩, .string ⟨([105, 110, 116] : List UInt8).toArray⟩, .string ⟨([114, 101, 97, 108] : List UInt8).toArray⟩, .string ⟨([98, 121, 116, 101, 115] : List UInt8).toArray⟩, .string ⟨([116, 101, 120, 116] : List UInt8).toArray⟩]) (.int .i64 4)).run Tryd.prog w = .ok (.string ⟨([98, 121, 116, 101, 115] : List UInt8).toArray⟩) w := by
  have u := Tryd.underlying49
  have a5 := Tryd.isAgg9
  have z5 := Tryd.sizeOf9
  simp [Instr.index, run_underlying u, asIntOf, go_sem, z5, a5]

theorem ix_5 (w : World) : (Instr.index 49 (.agg #[.string ⟨([110, 117, 108, 108] : List UInt8).toArray⟩, .string ⟨([98, 111, 111, 108] : List UInt8).toArray⟩, .string ⟨([105, 110, 116] : List UInt8).toArray⟩, .string ⟨([114, 101, 97, 108] : List UInt8).toArray⟩, .string ⟨([98, 121, 116, 101, 115] : List UInt8).toArray⟩, .string ⟨([116, 101, 120, 116] : List UInt8).toArray⟩]) (.int .i64 5)).run Tryd.prog w = .ok (.string ⟨([116, 101, 120, 116] : List UInt8).toArray⟩) w := by
  have u := Tryd.underlying49
  have a5 := Tryd.isAgg9
  have z5 := Tryd.sizeOf9
  simp [Instr.index, run_underlying u, asIntOf, go_sem, z5, a5]

set_option maxHeartbeats 4000000 in
theorem kind_0 (w : World) (hT : Tab w) :
    Calls Tryd.prog 19 #[.string ⟨([110, 117, 108, 108] : List UInt8).toArray⟩] w fun e w' => e = .returned (.int .i64 0) ∧ w = w' := by
  obtain ⟨c0, c1, c2, c3, c4, c5⟩ := hT
  have I0 := ix_0
  have I1 := ix_1
  have I2 := ix_2
  have I3 := ix_3
  have I4 := ix_4
  have I5 := ix_5
  go_enter Tryd.func19, Tryd.ntmps19
  go_wp2
  refine wp_loop_rounds 7 ?_
  rw [rounds_succ]
  go_wp2
  go_ret
  exact ⟨rfl, rfl⟩

set_option maxHeartbeats 4000000 in
theorem kind_1 (w : World) (hT : Tab w) :
    Calls Tryd.prog 19 #[.string ⟨([98, 111, 111, 108] : List UInt8).toArray⟩] w fun e w' => e = .returned (.int .i64 1) ∧ w = w' := by
  obtain ⟨c0, c1, c2, c3, c4, c5⟩ := hT
  have I0 := ix_0
  have I1 := ix_1
  have I2 := ix_2
  have I3 := ix_3
  have I4 := ix_4
  have I5 := ix_5
  go_enter Tryd.func19, Tryd.ntmps19
  go_wp2
  refine wp_loop_rounds 7 ?_
  rw [rounds_succ]
  go_wp2
  rw [rounds_succ]
  go_wp2
  go_ret
  exact ⟨rfl, rfl⟩

set_option maxHeartbeats 4000000 in
theorem kind_2 (w : World) (hT : Tab w) :
    Calls Tryd.prog 19 #[.string ⟨([105, 110, 116] : List UInt8).toArray⟩] w fun e w' => e = .returned (.int .i64 2) ∧ w = w' := by
  obtain ⟨c0, c1, c2, c3, c4, c5⟩ := hT
  have I0 := ix_0
  have I1 := ix_1
  have I2 := ix_2
  have I3 := ix_3
  have I4 := ix_4
  have I5 := ix_5
  go_enter Tryd.func19, Tryd.ntmps19
  go_wp2
  refine wp_loop_rounds 7 ?_
  rw [rounds_succ]
  go_wp2
  rw [rounds_succ]
  go_wp2
  rw [rounds_succ]
  go_wp2
  go_ret
  exact ⟨rfl, rfl⟩

set_option maxHeartbeats 4000000 in
theorem kind_3 (w : World) (hT : Tab w) :
    Calls Tryd.prog 19 #[.string ⟨([114, 101, 97, 108] : List UInt8).toArray⟩] w fun e w' => e = .returned (.int .i64 3) ∧ w = w' := by
  obtain ⟨c0, c1, c2, c3, c4, c5⟩ := hT
  have I0 := ix_0
  have I1 := ix_1
  have I2 := ix_2
  have I3 := ix_3
  have I4 := ix_4
  have I5 := ix_5
  go_enter Tryd.func19, Tryd.ntmps19
  go_wp2
  refine wp_loop_rounds 7 ?_
  rw [rounds_succ]
  go_wp2
  rw [rounds_succ]
  go_wp2
  rw [rounds_succ]
  go_wp2
  rw [rounds_succ]
  go_wp2
  go_ret
  exact ⟨rfl, rfl⟩

set_option maxHeartbeats 4000000 in
theorem kind_4 (w : World) (hT : Tab w) :
    Calls Tryd.prog 19 #[.string ⟨([98, 121, 116, 101, 115] : List UInt8).toArray⟩] w fun e w' => e = .returned (.int .i64 4) ∧ w = w' := by
  obtain ⟨c0, c1, c2, c3, c4, c5⟩ := hT
  have I0 := ix_0
  have I1 := ix_1
  have I2 := ix_2
  have I3 := ix_3
  have I4 := ix_4
  have I5 := ix_5
  go_enter Tryd.func19, Tryd.ntmps19
  go_wp2
  refine wp_loop_rounds 7 ?_
  rw [rounds_succ]
  go_wp2
  rw [rounds_succ]
  go_wp2
  rw [rounds_succ]
  go_wp2
  rw [rounds_succ]
  go_wp2
  rw [rounds_succ]
  go_wp2
  go_ret
  exact ⟨rfl, rfl⟩

set_option maxHeartbeats 4000000 in
theorem kind_5 (w : World) (hT : Tab w) :
    Calls Tryd.prog 19 #[.string ⟨([116, 101, 120, 116] : List UInt8).toArray⟩] w fun e w' => e = .returned (.int .i64 5) ∧ w = w' := by
  obtain ⟨c0, c1, c2, c3, c4, c5⟩ := hT
  have I0 := ix_0
  have I1 := ix_1
  have I2 := ix_2
  have I3 := ix_3
  have I4 := ix_4
  have I5 := ix_5
  go_enter Tryd.func19, Tryd.ntmps19
  go_wp2
  refine wp_loop_rounds 7 ?_
  rw [rounds_succ]
  go_wp2
  rw [rounds_succ]
  go_wp2
  rw [rounds_succ]
  go_wp2
  rw [rounds_succ]
  go_wp2
  rw [rounds_succ]
  go_wp2
  rw [rounds_succ]
  go_wp2
  go_ret
  exact ⟨rfl, rfl⟩

set_option maxHeartbeats 4000000 in
theorem kind_none (s : List UInt8) (w : World) (hT : Tab w) (h0 : ¬ s = [110, 117, 108, 108]) (h1 : ¬ s = [98, 111, 111, 108]) (h2 : ¬ s = [105, 110, 116]) (h3 : ¬ s = [114, 101, 97, 108]) (h4 : ¬ s = [98, 121, 116, 101, 115]) (h5 : ¬ s = [116, 101, 120, 116]) :
    Calls Tryd.prog 19 #[.string ⟨s.toArray⟩] w fun e w' => e = .returned (.int .i64 (-1)) ∧ w = w' := by
  have s0 : (s == [110, 117, 108, 108]) = false := by rw [beq_eq_false_iff_ne]; exact h0
  have t0 : ¬ [110, 117, 108, 108] = s := fun e => h0 e.symm
  have u0 : ([110, 117, 108, 108] == s) = false := by rw [beq_eq_false_iff_ne]; exact t0
  have s1 : (s == [98, 111, 111, 108]) = false := by rw [beq_eq_false_iff_ne]; exact h1
  have t1 : ¬ [98, 111, 111, 108] = s := fun e => h1 e.symm
  have u1 : ([98, 111, 111, 108] == s) = false := by rw [beq_eq_false_iff_ne]; exact t1
  have s2 : (s == [105, 110, 116]) = false := by rw [beq_eq_false_iff_ne]; exact h2
  have t2 : ¬ [105, 110, 116] = s := fun e => h2 e.symm
  have u2 : ([105, 110, 116] == s) = false := by rw [beq_eq_false_iff_ne]; exact t2
  have s3 : (s == [114, 101, 97, 108]) = false := by rw [beq_eq_false_iff_ne]; exact h3
  have t3 : ¬ [114, 101, 97, 108] = s := fun e => h3 e.symm
  have u3 : ([114, 101, 97, 108] == s) = false := by rw [beq_eq_false_iff_ne]; exact t3
  have s4 : (s == [98, 121, 116, 101, 115]) = false := by rw [beq_eq_false_iff_ne]; exact h4
  have t4 : ¬ [98, 121, 116, 101, 115] = s := fun e => h4 e.symm
  have u4 : ([98, 121, 116, 101, 115] == s) = false := by rw [beq_eq_false_iff_ne]; exact t4
  have s5 : (s == [116, 101, 120, 116]) = false := by rw [beq_eq_false_iff_ne]; exact h5
  have t5 : ¬ [116, 101, 120, 116] = s := fun e => h5 e.symm
  have u5 : ([116, 101, 120, 116] == s) = false := by rw [beq_eq_false_iff_ne]; exact t5
  obtain ⟨c0, c1, c2, c3, c4, c5⟩ := hT
  have I0 := ix_0
  have I1 := ix_1
  have I2 := ix_2
  have I3 := ix_3
  have I4 := ix_4
  have I5 := ix_5
  go_enter Tryd.func19, Tryd.ntmps19
  go_wp2
  refine wp_loop_rounds 7 ?_
  rw [rounds_succ]
  go_wp2
  rw [rounds_succ]
  go_wp2
  rw [rounds_succ]
  go_wp2
  rw [rounds_succ]
  go_wp2
  rw [rounds_succ]
  go_wp2
  rw [rounds_succ]
  go_wp2
  rw [rounds_succ]
  go_wp2
  go_ret
  exact ⟨rfl, rfl⟩

set_option maxHeartbeats 4000000 in
theorem rkind_0 (w : World) :
    Calls Tryd.prog 20 #[.string ⟨([110, 117, 108, 108] : List UInt8).toArray⟩] w fun e w' => e = .returned (.int .i64 0) ∧ w = w' := by
  go_enter Tryd.func20, Tryd.ntmps20
  go_wp2
  refine wp_loop_rounds 7 ?_
  rw [rounds_succ]
  go_wp2_with fail
  refine (rname_0 _).mono ?_
  rintro e w'' ⟨rfl, rfl⟩
  go_wp2
  go_ret
  exact ⟨rfl, rfl⟩

set_option maxHeartbeats 4000000 in
theorem rkind_1 (w : World) :
    Calls Tryd.prog 20 #[.string ⟨([98, 111, 111, 108] : List UInt8).toArray⟩] w fun e w' => e = .returned (.int .i64 1) ∧ w = w' := by
  go_enter Tryd.func20, Tryd.ntmps20
  go_wp2
  refine wp_loop_rounds 7 ?_
  rw [rounds_succ]
  go_wp2_with fail
  refine (rname_0 _).mono ?_
  rintro e w'' ⟨rfl, rfl⟩
  go_wp2
  rw [rounds_succ]
  go_wp2_with fail
  refine (rname_1 _).mono ?_
  rintro e w'' ⟨rfl, rfl⟩
  go_wp2
  go_ret
  exact ⟨rfl, rfl⟩

set_option maxHeartbeats 4000000 in
theorem rkind_2 (w : World) :
    Calls Tryd.prog 20 #[.string ⟨([105, 110, 116] : List UInt8).toArray⟩] w fun e w' => e = .returned (.int .i64 2) ∧ w = w' := by
  go_enter Tryd.func20, Tryd.ntmps20
  go_wp2
  refine wp_loop_rounds 7 ?_
  rw [rounds_succ]
  go_wp2_with fail
  refine (rname_0 _).mono ?_
  rintro e w'' ⟨rfl, rfl⟩
  go_wp2
  rw [rounds_succ]
  go_wp2_with fail
  refine (rname_1 _).mono ?_
  rintro e w'' ⟨rfl, rfl⟩
  go_wp2
  rw [rounds_succ]
  go_wp2_with fail
  refine (rname_2 _).mono ?_
  rintro e w'' ⟨rfl, rfl⟩
  go_wp2
  go_ret
  exact ⟨rfl, rfl⟩

set_option maxHeartbeats 4000000 in
theorem rkind_3 (w : World) :
    Calls Tryd.prog 20 #[.string ⟨([114, 101, 97, 108] : List UInt8).toArray⟩] w fun e w' => e = .returned (.int .i64 3) ∧ w = w' := by
  go_enter Tryd.func20, Tryd.ntmps20
  go_wp2
  refine wp_loop_rounds 7 ?_
  rw [rounds_succ]
  go_wp2_with fail
  refine (rname_0 _).mono ?_
  rintro e w'' ⟨rfl, rfl⟩
  go_wp2
  rw [rounds_succ]
  go_wp2_with fail
  refine (rname_1 _).mono ?_
  rintro e w'' ⟨rfl, rfl⟩
  go_wp2
  rw [rounds_succ]
  go_wp2_with fail
  refine (rname_2 _).mono ?_
  rintro e w'' ⟨rfl, rfl⟩
  go_wp2
  rw [rounds_succ]
  go_wp2_with fail
  refine (rname_3 _).mono ?_
  rintro e w'' ⟨rfl, rfl⟩
  go_wp2
  go_ret
  exact ⟨rfl, rfl⟩

set_option maxHeartbeats 4000000 in
theorem rkind_4 (w : World) :
    Calls Tryd.prog 20 #[.string ⟨([98, 121, 116, 101, 115] : List UInt8).toArray⟩] w fun e w' => e = .returned (.int .i64 4) ∧ w = w' := by
  go_enter Tryd.func20, Tryd.ntmps20
  go_wp2
  refine wp_loop_rounds 7 ?_
  rw [rounds_succ]
  go_wp2_with fail
  refine (rname_0 _).mono ?_
  rintro e w'' ⟨rfl, rfl⟩
  go_wp2
  rw [rounds_succ]
  go_wp2_with fail
  refine (rname_1 _).mono ?_
  rintro e w'' ⟨rfl, rfl⟩
  go_wp2
  rw [rounds_succ]
  go_wp2_with fail
  refine (rname_2 _).mono ?_
  rintro e w'' ⟨rfl, rfl⟩
  go_wp2
  rw [rounds_succ]
  go_wp2_with fail
  refine (rname_3 _).mono ?_
  rintro e w'' ⟨rfl, rfl⟩
  go_wp2
  rw [rounds_succ]
  go_wp2_with fail
  refine (rname_4 _).mono ?_
  rintro e w'' ⟨rfl, rfl⟩
  go_wp2
  go_ret
  exact ⟨rfl, rfl⟩

set_option maxHeartbeats 4000000 in
theorem rkind_5 (w : World) :
    Calls Tryd.prog 20 #[.string ⟨([116, 101, 120, 116] : List UInt8).toArray⟩] w fun e w' => e = .returned (.int .i64 5) ∧ w = w' := by
  go_enter Tryd.func20, Tryd.ntmps20
  go_wp2
  refine wp_loop_rounds 7 ?_
  rw [rounds_succ]
  go_wp2_with fail
  refine (rname_0 _).mono ?_
  rintro e w'' ⟨rfl, rfl⟩
  go_wp2
  rw [rounds_succ]
  go_wp2_with fail
  refine (rname_1 _).mono ?_
  rintro e w'' ⟨rfl, rfl⟩
  go_wp2
  rw [rounds_succ]
  go_wp2_with fail
  refine (rname_2 _).mono ?_
  rintro e w'' ⟨rfl, rfl⟩
  go_wp2
  rw [rounds_succ]
  go_wp2_with fail
  refine (rname_3 _).mono ?_
  rintro e w'' ⟨rfl, rfl⟩
  go_wp2
  rw [rounds_succ]
  go_wp2_with fail
  refine (rname_4 _).mono ?_
  rintro e w'' ⟨rfl, rfl⟩
  go_wp2
  rw [rounds_succ]
  go_wp2_with fail
  refine (rname_5 _).mono ?_
  rintro e w'' ⟨rfl, rfl⟩
  go_wp2
  go_ret
  exact ⟨rfl, rfl⟩

set_option maxHeartbeats 4000000 in
theorem rkind_none (s : List UInt8) (w : World) (h0 : ¬ s = [110, 117, 108, 108]) (h1 : ¬ s = [98, 111, 111, 108]) (h2 : ¬ s = [105, 110, 116]) (h3 : ¬ s = [114, 101, 97, 108]) (h4 : ¬ s = [98, 121, 116, 101, 115]) (h5 : ¬ s = [116, 101, 120, 116]) :
    Calls Tryd.prog 20 #[.string ⟨s.toArray⟩] w fun e w' => e = .returned (.int .i64 (-1)) ∧ w = w' := by
  have s0 : (s == [110, 117, 108, 108]) = false := by rw [beq_eq_false_iff_ne]; exact h0
  have t0 : ¬ [110, 117, 108, 108] = s := fun e => h0 e.symm
  have u0 : ([110, 117, 108, 108] == s) = false := by rw [beq_eq_false_iff_ne]; exact t0
  have s1 : (s == [98, 111, 111, 108]) = false := by rw [beq_eq_false_iff_ne]; exact h1
  have t1 : ¬ [98, 111, 111, 108] = s := fun e => h1 e.symm
  have u1 : ([98, 111, 111, 108] == s) = false := by rw [beq_eq_false_iff_ne]; exact t1
  have s2 : (s == [105, 110, 116]) = false := by rw [beq_eq_false_iff_ne]; exact h2
  have t2 : ¬ [105, 110, 116] = s := fun e => h2 e.symm
  have u2 : ([105, 110, 116] == s) = false := by rw [beq_eq_false_iff_ne]; exact t2
  have s3 : (s == [114, 101, 97, 108]) = false := by rw [beq_eq_false_iff_ne]; exact h3
  have t3 : ¬ [114, 101, 97, 108] = s := fun e => h3 e.symm
  have u3 : ([114, 101, 97, 108] == s) = false := by rw [beq_eq_false_iff_ne]; exact t3
  have s4 : (s == [98, 121, 116, 101, 115]) = false := by rw [beq_eq_false_iff_ne]; exact h4
  have t4 : ¬ [98, 121, 116, 101, 115] = s := fun e => h4 e.symm
  have u4 : ([98, 121, 116, 101, 115] == s) = false := by rw [beq_eq_false_iff_ne]; exact t4
  have s5 : (s == [116, 101, 120, 116]) = false := by rw [beq_eq_false_iff_ne]; exact h5
  have t5 : ¬ [116, 101, 120, 116] = s := fun e => h5 e.symm
  have u5 : ([116, 101, 120, 116] == s) = false := by rw [beq_eq_false_iff_ne]; exact t5
  go_enter Tryd.func20, Tryd.ntmps20
  go_wp2
  refine wp_loop_rounds 7 ?_
  rw [rounds_succ]
  go_wp2_with fail
  refine (rname_0 _).mono ?_
  rintro e w'' ⟨rfl, rfl⟩
  go_wp2
  rw [rounds_succ]
  go_wp2_with fail
  refine (rname_1 _).mono ?_
  rintro e w'' ⟨rfl, rfl⟩
  go_wp2
  rw [rounds_succ]
  go_wp2_with fail
  refine (rname_2 _).mono ?_
  rintro e w'' ⟨rfl, rfl⟩
  go_wp2
  rw [rounds_succ]
  go_wp2_with fail
  refine (rname_3 _).mono ?_
  rintro e w'' ⟨rfl, rfl⟩
  go_wp2
  rw [rounds_succ]
  go_wp2_with fail
  refine (rname_4 _).mono ?_
  rintro e w'' ⟨rfl, rfl⟩
  go_wp2
  rw [rounds_succ]
  go_wp2_with fail
  refine (rname_5 _).mono ?_
  rintro e w'' ⟨rfl, rfl⟩
  go_wp2
  rw [rounds_succ]
  go_wp2
  go_ret
  exact ⟨rfl, rfl⟩

theorem kind_is (s : List UInt8) (r : Int) (w : World) (hT : Tab w) (h : km s = r) :
    Calls Tryd.prog 19 #[.string ⟨s.toArray⟩] w fun e w' => e = .returned (.int .i64 r) ∧ w = w' := by
  subst h
  by_cases h0 : s = [110, 117, 108, 108]
  · subst h0; exact kind_0 w hT
  by_cases h1 : s = [98, 111, 111, 108]
  · subst h1; exact kind_1 w hT
  by_cases h2 : s = [105, 110, 116]
  · subst h2; exact kind_2 w hT
  by_cases h3 : s = [114, 101, 97, 108]
  · subst h3; exact kind_3 w hT
  by_cases h4 : s = [98, 121, 116, 101, 115]
  · subst h4; exact kind_4 w hT
  by_cases h5 : s = [116, 101, 120, 116]
  · subst h5; exact kind_5 w hT
  rw [show km s = -1 from by unfold km; rw [if_neg h0, if_neg h1, if_neg h2, if_neg h3, if_neg h4, if_neg h5]]
  exact kind_none s w hT h0 h1 h2 h3 h4 h5

theorem rkind_is (s : List UInt8) (r : Int) (w : World) (h : km s = r) :
    Calls Tryd.prog 20 #[.string ⟨s.toArray⟩] w fun e w' => e = .returned (.int .i64 r) ∧ w = w' := by
  subst h
  by_cases h0 : s = [110, 117, 108, 108]
  · subst h0; exact rkind_0 w
  by_cases h1 : s = [98, 111, 111, 108]
  · subst h1; exact rkind_1 w
  by_cases h2 : s = [105, 110, 116]
  · subst h2; exact rkind_2 w
  by_cases h3 : s = [114, 101, 97, 108]
  · subst h3; exact rkind_3 w
  by_cases h4 : s = [98, 121, 116, 101, 115]
  · subst h4; exact rkind_4 w
  by_cases h5 : s = [116, 101, 120, 116]
  · subst h5; exact rkind_5 w
  rw [show km s = -1 from by unfold km; rw [if_neg h0, if_neg h1, if_neg h2, if_neg h3, if_neg h4, if_neg h5]]
  exact rkind_none s w h0 h1 h2 h3 h4 h5

theorem km_nm (k : Int) (h : nm k ≠ []) : km (nm k) = k := by
  have c : k = 0 ∨ k = 1 ∨ k = 2 ∨ k = 3 ∨ k = 4 ∨ k = 5 := by
    refine Decidable.byContradiction fun g => h ?_
    unfold nm
    repeat rw [if_neg (by omega)]
  rcases c with rfl | rfl | rfl | rfl | rfl | rfl <;> decide

end Go.Proofs.YtcgienhkonhgcaaDoor
