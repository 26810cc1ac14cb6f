/-
  The walk of law SheetRanges. Condition: the library's variable errors.errorType holds the handle of the type error.
-/
import Derived.Test.YtfgakoldedpfoaaDoorShRRange
import Derived.Test.YtfgakoldedpfoaaDoorShAwake
import Derived.Test.YtfgakoldedpfoaaDoorShFew
namespace Go.Proofs.YtfgakoldedpfoaaDoor
open Go.RowKit
set_option linter.unusedVariables false
set_option linter.unusedSimpArgs false

theorem Blk.c3 {W : World} {B : Nat} {u0 u1 u2 : Value} {t : TypeId} (h : Blk W B #[u0, u1, u2] t) :
    W.cell? ⟨B, 0, none⟩ = some u0 ∧ W.cell? ⟨B, 1, none⟩ = some u1 ∧ W.cell? ⟨B, 2, none⟩ = some u2 := ⟨h.cell 0, h.cell 1, h.cell 2⟩
/-- Rows of a range: as many as lines at most, each a line's. -/
theorem rgl_small {ls : List L} {lo hi : Nm.S} {most : Int} : (rgl ls lo hi most).length ≤ ls.length ∧ ∀ r ∈ rgl ls lo hi most, ∃ l ∈ ls, l.r = r := by
  unfold rgl
  constructor
  · rw [List.length_take, List.length_map]
    have := List.length_filter_le (inr lo hi) ls
    omega
  · intro r hr
    obtain ⟨l, hl, e⟩ := List.mem_map.1 (List.mem_of_mem_take hr)
    exact ⟨l, (List.mem_filter.1 hl).1, e⟩
set_option maxRecDepth 1000000 in
set_option maxHeartbeats 8000000 in
theorem sheetRanges_n1 (nm : Nm.S) (ks : Int) (cs : List C) (zs : List LV) (kl kh : Nm.S) (most : Int) (ao lo : Option Addr) (cap lc : Nat) (w : World) (hg : Env w) (hT : At3 w ⟨nm, ks, cs⟩ ao cap) (hL : LS w zs lo lc) (hf : ¬ Sf ⟨nm, ks, cs⟩ zs) :
    Calls Tryd.prog 3 #[.agg #[.string ⟨nm.toArray⟩, .int .i64 ks, .slice ao cs.length cap, .slice lo zs.length lc], .agg #[.string ⟨kl.toArray⟩, .string ⟨kh.toArray⟩, .int .i64 most]] w fun e w' => e = .returned (.bool true) ∧ Below w.heap.size w w' := by
  have HG := Lib.hid hg
  have H := Lib.hid (And.intro hT hL)
  clear hg hT hL
  have F := Lib.hid hf
  clear hf
  obtain ⟨W1, hW1⟩ : ∃ W1, (w.alloc (.cells #[.string ⟨nm.toArray⟩, .int .i64 ks, .slice ao cs.length cap, .slice lo zs.length lc] 27)).alloc (.cells #[.string ⟨kl.toArray⟩, .string ⟨kh.toArray⟩, .int .i64 most] 29) = W1 := ⟨_, rfl⟩
  have p0 : Blk W1 w.heap.size #[.string ⟨nm.toArray⟩, .int .i64 ks, .slice ao cs.length cap, .slice lo zs.length lc] 27 := hW1 ▸ (Blk.new w _ _).alloc _
  have p1 : Blk W1 (w.heap.size + 1) #[.string ⟨kl.toArray⟩, .string ⟨kh.toArray⟩, .int .i64 most] 29 := by have := Blk.new (w.alloc (.cells #[.string ⟨nm.toArray⟩, .int .i64 ks, .slice ao cs.length cap, .slice lo zs.length lc] 27)) #[.string ⟨kl.toArray⟩, .string ⟨kh.toArray⟩, .int .i64 most] 29; rw [hW1] at this; simpa using this
  have C0 := Lib.hid (And.intro (hW1 ▸ below2s w _ _ : Below w.heap.size w W1) (And.intro p0 p1))
  clear p0 p1
  obtain ⟨⟨c0, c1, c2, c3⟩, _⟩ := C0.out.2.1.s4
  obtain ⟨e0, e1, e2⟩ := C0.out.2.2.c3
  go_enter Tryd.func3, Tryd.ntmps3
  go_wp2_with fail
  refine (sfew_no nm ks cs zs ao lo cap lc _ (H.out.1.1.below C0.out.1) (H.out.2.below C0.out.1) F.out).mono ?_
  rintro e w1 ⟨rfl, hb⟩
  have C1 := Lib.hid (And.intro (step0 C0.out.1 hb) (And.intro (C0.out.2.1.below hb) (C0.out.2.2.below hb)))
  clear hb c0 c1 c2 c3 e0 e1 e2 hW1
  obtain ⟨⟨c0, c1, c2, c3⟩, _⟩ := C1.out.2.1.s4
  obtain ⟨e0, e1, e2⟩ := C1.out.2.2.c3
  go_wp2_with fail
  refine (awake_s _ (HG.out.keep C1.out.1)).mono ?_
  rintro e w2 ⟨rfl, hb⟩
  have C2 := Lib.hid (And.intro (step0 C1.out.1 hb) (And.intro (C1.out.2.1.below hb) (C1.out.2.2.below hb)))
  clear hb c0 c1 c2 c3 e0 e1 e2
  obtain ⟨⟨c0, c1, c2, c3⟩, _⟩ := C2.out.2.1.s4
  obtain ⟨e0, e1, e2⟩ := C2.out.2.2.c3
  go_wp2
  go_ret
  exact ⟨rfl, C2.out.1⟩

set_option maxRecDepth 1000000 in
set_option maxHeartbeats 8000000 in
theorem sheetRanges_n2 (nm : Nm.S) (ks : Int) (cs : List C) (zs : List LV) (kl kh : Nm.S) (most : Int) (ao lo : Option Addr) (cap lc : Nat) (w : World) (hg : Env w) (hT : At3 w ⟨nm, ks, cs⟩ ao cap) (hL : LS w zs lo lc) (hf : Sf ⟨nm, ks, cs⟩ zs) (hr : ¬ Ris (lls zs)) :
    Calls Tryd.prog 3 #[.agg #[.string ⟨nm.toArray⟩, .int .i64 ks, .slice ao cs.length cap, .slice lo zs.length lc], .agg #[.string ⟨kl.toArray⟩, .string ⟨kh.toArray⟩, .int .i64 most]] w fun e w' => e = .returned (.bool true) ∧ Below w.heap.size w w' := by
  have HG := Lib.hid hg
  have H := Lib.hid (And.intro hT hL)
  clear hg hT hL
  have F := Lib.hid (And.intro hf hr)
  clear hf hr
  obtain ⟨W1, hW1⟩ : ∃ W1, (w.alloc (.cells #[.string ⟨nm.toArray⟩, .int .i64 ks, .slice ao cs.length cap, .slice lo zs.length lc] 27)).alloc (.cells #[.string ⟨kl.toArray⟩, .string ⟨kh.toArray⟩, .int .i64 most] 29) = W1 := ⟨_, rfl⟩
  have p0 : Blk W1 w.heap.size #[.string ⟨nm.toArray⟩, .int .i64 ks, .slice ao cs.length cap, .slice lo zs.length lc] 27 := hW1 ▸ (Blk.new w _ _).alloc _
  have p1 : Blk W1 (w.heap.size + 1) #[.string ⟨kl.toArray⟩, .string ⟨kh.toArray⟩, .int .i64 most] 29 := by have := Blk.new (w.alloc (.cells #[.string ⟨nm.toArray⟩, .int .i64 ks, .slice ao cs.length cap, .slice lo zs.length lc] 27)) #[.string ⟨kl.toArray⟩, .string ⟨kh.toArray⟩, .int .i64 most] 29; rw [hW1] at this; simpa using this
  have C0 := Lib.hid (And.intro (hW1 ▸ below2s w _ _ : Below w.heap.size w W1) (And.intro p0 p1))
  clear p0 p1
  obtain ⟨⟨c0, c1, c2, c3⟩, _⟩ := C0.out.2.1.s4
  obtain ⟨e0, e1, e2⟩ := C0.out.2.2.c3
  go_enter Tryd.func3, Tryd.ntmps3
  go_wp2_with fail
  refine (sfew_yes nm ks cs zs ao lo cap lc _ (H.out.1.1.below C0.out.1) (H.out.2.below C0.out.1) F.out.1).mono ?_
  rintro e w1 ⟨rfl, hb⟩
  have C1 := Lib.hid (And.intro (step0 C0.out.1 hb) (And.intro (C0.out.2.1.below hb) (C0.out.2.2.below hb)))
  clear hb c0 c1 c2 c3 e0 e1 e2 hW1
  obtain ⟨⟨c0, c1, c2, c3⟩, _⟩ := C1.out.2.1.s4
  obtain ⟨e0, e1, e2⟩ := C1.out.2.2.c3
  go_wp2_with fail
  refine (rises_no nm ks cs zs ao lo cap lc _ (H.out.2.1.below C1.out.1) (by have := F.out.1.2.1; omega) F.out.2).mono ?_
  rintro e w2 ⟨rfl, hb⟩
  have C2 := Lib.hid (And.intro (step0 C1.out.1 hb) (And.intro (C1.out.2.1.below hb) (C1.out.2.2.below hb)))
  clear hb c0 c1 c2 c3 e0 e1 e2
  obtain ⟨⟨c0, c1, c2, c3⟩, _⟩ := C2.out.2.1.s4
  obtain ⟨e0, e1, e2⟩ := C2.out.2.2.c3
  go_wp2_with fail
  refine (awake_s _ (HG.out.keep C2.out.1)).mono ?_
  rintro e w3 ⟨rfl, hb⟩
  have C3 := Lib.hid (And.intro (step0 C2.out.1 hb) (And.intro (C2.out.2.1.below hb) (C2.out.2.2.below hb)))
  clear hb c0 c1 c2 c3 e0 e1 e2
  obtain ⟨⟨c0, c1, c2, c3⟩, _⟩ := C3.out.2.1.s4
  obtain ⟨e0, e1, e2⟩ := C3.out.2.2.c3
  go_wp2
  go_ret
  exact ⟨rfl, C3.out.1⟩

set_option maxRecDepth 1000000 in
set_option maxHeartbeats 8000000 in
theorem sheetRanges_n3 (nm : Nm.S) (ks : Int) (cs : List C) (zs : List LV) (kl kh : Nm.S) (most : Int) (ao lo : Option Addr) (cap lc : Nat) (w : World) (hg : Env w) (hT : At3 w ⟨nm, ks, cs⟩ ao cap) (hL : LS w zs lo lc) (hf : Sf ⟨nm, ks, cs⟩ zs) (hr : Ris (lls zs)) (hk : (2000 : Int) < (kl.length : Int)) :
    Calls Tryd.prog 3 #[.agg #[.string ⟨nm.toArray⟩, .int .i64 ks, .slice ao cs.length cap, .slice lo zs.length lc], .agg #[.string ⟨kl.toArray⟩, .string ⟨kh.toArray⟩, .int .i64 most]] w fun e w' => e = .returned (.bool true) ∧ Below w.heap.size w w' := by
  have HG := Lib.hid hg
  have H := Lib.hid (And.intro hT hL)
  clear hg hT hL
  have F := Lib.hid (And.intro hf hr)
  clear hf hr
  obtain ⟨W1, hW1⟩ : ∃ W1, (w.alloc (.cells #[.string ⟨nm.toArray⟩, .int .i64 ks, .slice ao cs.length cap, .slice lo zs.length lc] 27)).alloc (.cells #[.string ⟨kl.toArray⟩, .string ⟨kh.toArray⟩, .int .i64 most] 29) = W1 := ⟨_, rfl⟩
  have p0 : Blk W1 w.heap.size #[.string ⟨nm.toArray⟩, .int .i64 ks, .slice ao cs.length cap, .slice lo zs.length lc] 27 := hW1 ▸ (Blk.new w _ _).alloc _
  have p1 : Blk W1 (w.heap.size + 1) #[.string ⟨kl.toArray⟩, .string ⟨kh.toArray⟩, .int .i64 most] 29 := by have := Blk.new (w.alloc (.cells #[.string ⟨nm.toArray⟩, .int .i64 ks, .slice ao cs.length cap, .slice lo zs.length lc] 27)) #[.string ⟨kl.toArray⟩, .string ⟨kh.toArray⟩, .int .i64 most] 29; rw [hW1] at this; simpa using this
  have C0 := Lib.hid (And.intro (hW1 ▸ below2s w _ _ : Below w.heap.size w W1) (And.intro p0 p1))
  clear p0 p1
  obtain ⟨⟨c0, c1, c2, c3⟩, _⟩ := C0.out.2.1.s4
  obtain ⟨e0, e1, e2⟩ := C0.out.2.2.c3
  go_enter Tryd.func3, Tryd.ntmps3
  go_wp2_with fail
  refine (sfew_yes nm ks cs zs ao lo cap lc _ (H.out.1.1.below C0.out.1) (H.out.2.below C0.out.1) F.out.1).mono ?_
  rintro e w1 ⟨rfl, hb⟩
  have C1 := Lib.hid (And.intro (step0 C0.out.1 hb) (And.intro (C0.out.2.1.below hb) (C0.out.2.2.below hb)))
  clear hb c0 c1 c2 c3 e0 e1 e2 hW1
  obtain ⟨⟨c0, c1, c2, c3⟩, _⟩ := C1.out.2.1.s4
  obtain ⟨e0, e1, e2⟩ := C1.out.2.2.c3
  go_wp2_with fail
  refine (rises_yes nm ks cs zs ao lo cap lc _ (H.out.2.1.below C1.out.1) (by have := F.out.1.2.1; omega) F.out.2).mono ?_
  rintro e w2 ⟨rfl, hb⟩
  have C2 := Lib.hid (And.intro (step0 C1.out.1 hb) (And.intro (C1.out.2.1.below hb) (C1.out.2.2.below hb)))
  clear hb c0 c1 c2 c3 e0 e1 e2
  obtain ⟨⟨c0, c1, c2, c3⟩, _⟩ := C2.out.2.1.s4
  obtain ⟨e0, e1, e2⟩ := C2.out.2.2.c3
  go_wp2_with fail
  refine (awake_s _ (HG.out.keep C2.out.1)).mono ?_
  rintro e w3 ⟨rfl, hb⟩
  have C3 := Lib.hid (And.intro (step0 C2.out.1 hb) (And.intro (C2.out.2.1.below hb) (C2.out.2.2.below hb)))
  clear hb c0 c1 c2 c3 e0 e1 e2
  obtain ⟨⟨c0, c1, c2, c3⟩, _⟩ := C3.out.2.1.s4
  obtain ⟨e0, e1, e2⟩ := C3.out.2.2.c3
  go_wp2
  go_ret
  exact ⟨rfl, C3.out.1⟩

set_option maxRecDepth 1000000 in
set_option maxHeartbeats 8000000 in
theorem sheetRanges_n4 (nm : Nm.S) (ks : Int) (cs : List C) (zs : List LV) (kl kh : Nm.S) (most : Int) (ao lo : Option Addr) (cap lc : Nat) (w : World) (hg : Env w) (hT : At3 w ⟨nm, ks, cs⟩ ao cap) (hL : LS w zs lo lc) (hf : Sf ⟨nm, ks, cs⟩ zs) (hr : Ris (lls zs)) (hk : kl.length ≤ 2000) (hk2 : (2000 : Int) < (kh.length : Int)) :
    Calls Tryd.prog 3 #[.agg #[.string ⟨nm.toArray⟩, .int .i64 ks, .slice ao cs.length cap, .slice lo zs.length lc], .agg #[.string ⟨kl.toArray⟩, .string ⟨kh.toArray⟩, .int .i64 most]] w fun e w' => e = .returned (.bool true) ∧ Below w.heap.size w w' := by
  have HG := Lib.hid hg
  have H := Lib.hid (And.intro hT hL)
  clear hg hT hL
  have hkl : decide ((2000 : Int) < (kl.length : Int)) = false := by rw [decide_eq_false_iff_not]; omega
  have F := Lib.hid (And.intro hf hr)
  clear hf hr hk
  obtain ⟨W1, hW1⟩ : ∃ W1, (w.alloc (.cells #[.string ⟨nm.toArray⟩, .int .i64 ks, .slice ao cs.length cap, .slice lo zs.length lc] 27)).alloc (.cells #[.string ⟨kl.toArray⟩, .string ⟨kh.toArray⟩, .int .i64 most] 29) = W1 := ⟨_, rfl⟩
  have p0 : Blk W1 w.heap.size #[.string ⟨nm.toArray⟩, .int .i64 ks, .slice ao cs.length cap, .slice lo zs.length lc] 27 := hW1 ▸ (Blk.new w _ _).alloc _
  have p1 : Blk W1 (w.heap.size + 1) #[.string ⟨kl.toArray⟩, .string ⟨kh.toArray⟩, .int .i64 most] 29 := by have := Blk.new (w.alloc (.cells #[.string ⟨nm.toArray⟩, .int .i64 ks, .slice ao cs.length cap, .slice lo zs.length lc] 27)) #[.string ⟨kl.toArray⟩, .string ⟨kh.toArray⟩, .int .i64 most] 29; rw [hW1] at this; simpa using this
  have C0 := Lib.hid (And.intro (hW1 ▸ below2s w _ _ : Below w.heap.size w W1) (And.intro p0 p1))
  clear p0 p1
  obtain ⟨⟨c0, c1, c2, c3⟩, _⟩ := C0.out.2.1.s4
  obtain ⟨e0, e1, e2⟩ := C0.out.2.2.c3
  go_enter Tryd.func3, Tryd.ntmps3
  go_wp2_with fail
  refine (sfew_yes nm ks cs zs ao lo cap lc _ (H.out.1.1.below C0.out.1) (H.out.2.below C0.out.1) F.out.1).mono ?_
  rintro e w1 ⟨rfl, hb⟩
  have C1 := Lib.hid (And.intro (step0 C0.out.1 hb) (And.intro (C0.out.2.1.below hb) (C0.out.2.2.below hb)))
  clear hb c0 c1 c2 c3 e0 e1 e2 hW1
  obtain ⟨⟨c0, c1, c2, c3⟩, _⟩ := C1.out.2.1.s4
  obtain ⟨e0, e1, e2⟩ := C1.out.2.2.c3
  go_wp2_with fail
  refine (rises_yes nm ks cs zs ao lo cap lc _ (H.out.2.1.below C1.out.1) (by have := F.out.1.2.1; omega) F.out.2).mono ?_
  rintro e w2 ⟨rfl, hb⟩
  have C2 := Lib.hid (And.intro (step0 C1.out.1 hb) (And.intro (C1.out.2.1.below hb) (C1.out.2.2.below hb)))
  clear hb c0 c1 c2 c3 e0 e1 e2
  obtain ⟨⟨c0, c1, c2, c3⟩, _⟩ := C2.out.2.1.s4
  obtain ⟨e0, e1, e2⟩ := C2.out.2.2.c3
  go_wp2_with fail
  refine (awake_s _ (HG.out.keep C2.out.1)).mono ?_
  rintro e w3 ⟨rfl, hb⟩
  have C3 := Lib.hid (And.intro (step0 C2.out.1 hb) (And.intro (C2.out.2.1.below hb) (C2.out.2.2.below hb)))
  clear hb c0 c1 c2 c3 e0 e1 e2
  obtain ⟨⟨c0, c1, c2, c3⟩, _⟩ := C3.out.2.1.s4
  obtain ⟨e0, e1, e2⟩ := C3.out.2.2.c3
  go_wp2
  go_ret
  exact ⟨rfl, C3.out.1⟩

set_option maxRecDepth 1000000 in
set_option maxHeartbeats 8000000 in
theorem sheetRanges_main_h (nm : Nm.S) (ks : Int) (cs : List C) (zs : List LV) (kl kh : Nm.S) (most : Int) (ao lo : Option Addr) (cap lc : Nat) (w : World) (hg : Env w) (hT : At3 w ⟨nm, ks, cs⟩ ao cap) (hL : LS w zs lo lc) (hf : Sf ⟨nm, ks, cs⟩ zs) (hr : Ris (lls zs)) (hk : kl.length ≤ 2000) (hk2 : kh.length ≤ 2000) (hne : kh ≠ []) :
    Calls Tryd.prog 3 #[.agg #[.string ⟨nm.toArray⟩, .int .i64 ks, .slice ao cs.length cap, .slice lo zs.length lc], .agg #[.string ⟨kl.toArray⟩, .string ⟨kh.toArray⟩, .int .i64 most]] w fun e w' => e = .returned (.bool true) ∧ Below w.heap.size w w' := by
  have HG := Lib.hid hg
  have H := Lib.hid (And.intro hT hL)
  clear hg hT hL
  have hkl : decide ((2000 : Int) < (kl.length : Int)) = false := by rw [decide_eq_false_iff_not]; omega
  have hkh : decide ((2000 : Int) < (kh.length : Int)) = false := by rw [decide_eq_false_iff_not]; omega
  have F := Lib.hid (And.intro hf (And.intro hr hne))
  clear hf hr hk hk2 hne
  obtain ⟨W1, hW1⟩ : ∃ W1, (w.alloc (.cells #[.string ⟨nm.toArray⟩, .int .i64 ks, .slice ao cs.length cap, .slice lo zs.length lc] 27)).alloc (.cells #[.string ⟨kl.toArray⟩, .string ⟨kh.toArray⟩, .int .i64 most] 29) = W1 := ⟨_, rfl⟩
  have p0 : Blk W1 w.heap.size #[.string ⟨nm.toArray⟩, .int .i64 ks, .slice ao cs.length cap, .slice lo zs.length lc] 27 := hW1 ▸ (Blk.new w _ _).alloc _
  have p1 : Blk W1 (w.heap.size + 1) #[.string ⟨kl.toArray⟩, .string ⟨kh.toArray⟩, .int .i64 most] 29 := by have := Blk.new (w.alloc (.cells #[.string ⟨nm.toArray⟩, .int .i64 ks, .slice ao cs.length cap, .slice lo zs.length lc] 27)) #[.string ⟨kl.toArray⟩, .string ⟨kh.toArray⟩, .int .i64 most] 29; rw [hW1] at this; simpa using this
  have C0 := Lib.hid (And.intro (hW1 ▸ below2s w _ _ : Below w.heap.size w W1) (And.intro p0 p1))
  clear p0 p1
  obtain ⟨⟨c0, c1, c2, c3⟩, _⟩ := C0.out.2.1.s4
  obtain ⟨e0, e1, e2⟩ := C0.out.2.2.c3
  go_enter Tryd.func3, Tryd.ntmps3
  go_wp2_with fail
  refine (sfew_yes nm ks cs zs ao lo cap lc _ (H.out.1.1.below C0.out.1) (H.out.2.below C0.out.1) F.out.1).mono ?_
  rintro e w1 ⟨rfl, hb⟩
  have C1 := Lib.hid (And.intro (step0 C0.out.1 hb) (And.intro (C0.out.2.1.below hb) (C0.out.2.2.below hb)))
  clear hb c0 c1 c2 c3 e0 e1 e2 hW1
  obtain ⟨⟨c0, c1, c2, c3⟩, _⟩ := C1.out.2.1.s4
  obtain ⟨e0, e1, e2⟩ := C1.out.2.2.c3
  go_wp2_with fail
  refine (rises_yes nm ks cs zs ao lo cap lc _ (H.out.2.1.below C1.out.1) (by have := F.out.1.2.1; omega) F.out.2.1).mono ?_
  rintro e w2 ⟨rfl, hb⟩
  have C2 := Lib.hid (And.intro (step0 C1.out.1 hb) (And.intro (C1.out.2.1.below hb) (C1.out.2.2.below hb)))
  clear hb c0 c1 c2 c3 e0 e1 e2
  obtain ⟨⟨c0, c1, c2, c3⟩, _⟩ := C2.out.2.1.s4
  obtain ⟨e0, e1, e2⟩ := C2.out.2.2.c3
  go_wp2_with fail
  clear c0 c1 c2 c3 e0 e1 e2
  refine wp_region_held_drew (S := fun v => Below w.heap.size w v ∧ Blk v w.heap.size #[.string ⟨nm.toArray⟩, .int .i64 ks, .slice ao cs.length cap, .slice lo zs.length lc] 27 ∧ Blk v (w.heap.size + 1) #[.string ⟨kl.toArray⟩, .string ⟨kh.toArray⟩, .int .i64 most] 29) (by kernel_rfl) ⟨C2.out.1.drew, C2.out.2.1, C2.out.2.2⟩ (fun hH0 => ?_)
  refine wpAnyH_take (i := 0) (oi := _) (v := .agg #[.string ⟨nm.toArray⟩, .int .i64 ks, .slice ao cs.length cap, .slice lo zs.length lc]) rfl (by kernel_rfl) (by kernel_rfl) (by kernel_rfl) (fun _ _ _ h => h) (Or.inl ⟨by rfl, by intro v hv; obtain ⟨⟨c0, c1, c2, c3⟩, _⟩ := hv.2.1.s4; obtain ⟨e0, e1, e2⟩ := hv.2.2.c3; clear hv; go_simp⟩) hH0 ?_
  try simp only [Act.put, List.getElem_toArray, List.getElem_cons_succ, List.getElem_cons_zero, List.setIfInBounds_toArray, List.set_cons_zero, List.set_cons_succ]
  refine wpAnyH_take (i := 1) (oi := _) (v := .pointer (some ⟨w.heap.size + 1, 0, none⟩)) rfl (by kernel_rfl) (by kernel_rfl) (by kernel_rfl) (fun _ _ _ h => h) (Or.inl ⟨by rfl, by intro v hv; obtain ⟨⟨c0, c1, c2, c3⟩, _⟩ := hv.2.1.s4; obtain ⟨e0, e1, e2⟩ := hv.2.2.c3; clear hv; go_simp⟩) hH0 ?_
  try simp only [Act.put, List.getElem_toArray, List.getElem_cons_succ, List.getElem_cons_zero, List.setIfInBounds_toArray, List.set_cons_zero, List.set_cons_succ]
  refine wpAnyH_take (i := 2) (oi := _) (v := .string ⟨kl.toArray⟩) rfl (by kernel_rfl) (by kernel_rfl) (by kernel_rfl) (fun _ _ _ h => h) (Or.inl ⟨by rfl, by intro v hv; obtain ⟨⟨c0, c1, c2, c3⟩, _⟩ := hv.2.1.s4; obtain ⟨e0, e1, e2⟩ := hv.2.2.c3; clear hv; go_simp⟩) hH0 ?_
  try simp only [Act.put, List.getElem_toArray, List.getElem_cons_succ, List.getElem_cons_zero, List.setIfInBounds_toArray, List.set_cons_zero, List.set_cons_succ]
  refine wpAnyH_take (i := 3) (oi := _) (v := .pointer (some ⟨w.heap.size + 1, 1, none⟩)) rfl (by kernel_rfl) (by kernel_rfl) (by kernel_rfl) (fun _ _ _ h => h) (Or.inl ⟨by rfl, by intro v hv; obtain ⟨⟨c0, c1, c2, c3⟩, _⟩ := hv.2.1.s4; obtain ⟨e0, e1, e2⟩ := hv.2.2.c3; clear hv; go_simp⟩) hH0 ?_
  try simp only [Act.put, List.getElem_toArray, List.getElem_cons_succ, List.getElem_cons_zero, List.setIfInBounds_toArray, List.set_cons_zero, List.set_cons_succ]
  refine wpAnyH_take (i := 4) (oi := _) (v := .string ⟨kh.toArray⟩) rfl (by kernel_rfl) (by kernel_rfl) (by kernel_rfl) (fun _ _ _ h => h) (Or.inl ⟨by rfl, by intro v hv; obtain ⟨⟨c0, c1, c2, c3⟩, _⟩ := hv.2.1.s4; obtain ⟨e0, e1, e2⟩ := hv.2.2.c3; clear hv; go_simp⟩) hH0 ?_
  try simp only [Act.put, List.getElem_toArray, List.getElem_cons_succ, List.getElem_cons_zero, List.setIfInBounds_toArray, List.set_cons_zero, List.set_cons_succ]
  refine wpAnyH_take (i := 5) (oi := _) (v := .pointer (some ⟨w.heap.size + 1, 2, none⟩)) rfl (by kernel_rfl) (by kernel_rfl) (by kernel_rfl) (fun _ _ _ h => h) (Or.inl ⟨by rfl, by intro v hv; obtain ⟨⟨c0, c1, c2, c3⟩, _⟩ := hv.2.1.s4; obtain ⟨e0, e1, e2⟩ := hv.2.2.c3; clear hv; go_simp⟩) hH0 ?_
  try simp only [Act.put, List.getElem_toArray, List.getElem_cons_succ, List.getElem_cons_zero, List.setIfInBounds_toArray, List.set_cons_zero, List.set_cons_succ]
  refine wpAnyH_take (i := 6) (oi := _) (v := .int .i64 most) rfl (by kernel_rfl) (by kernel_rfl) (by kernel_rfl) (fun _ _ _ h => h) (Or.inl ⟨by rfl, by intro v hv; obtain ⟨⟨c0, c1, c2, c3⟩, _⟩ := hv.2.1.s4; obtain ⟨e0, e1, e2⟩ := hv.2.2.c3; clear hv; go_simp⟩) hH0 ?_
  try simp only [Act.put, List.getElem_toArray, List.getElem_cons_succ, List.getElem_cons_zero, List.setIfInBounds_toArray, List.set_cons_zero, List.set_cons_succ]
  refine wpAnyH_take (i := 8) (oi := _) (v := .agg #[.string ⟨nm.toArray⟩, .int .i64 ks, .slice ao cs.length cap, .slice lo zs.length lc]) rfl (by kernel_rfl) (by kernel_rfl) (by kernel_rfl) (fun _ _ _ h => h) (Or.inl ⟨by rfl, by intro v hv; obtain ⟨⟨c0, c1, c2, c3⟩, _⟩ := hv.2.1.s4; obtain ⟨e0, e1, e2⟩ := hv.2.2.c3; clear hv; go_simp⟩) hH0 ?_
  try simp only [Act.put, List.getElem_toArray, List.getElem_cons_succ, List.getElem_cons_zero, List.setIfInBounds_toArray, List.set_cons_zero, List.set_cons_succ]
  refine wpAnyH_take (i := 9) (oi := _) (v := .pointer (some ⟨w.heap.size + 1, 0, none⟩)) rfl (by kernel_rfl) (by kernel_rfl) (by kernel_rfl) (fun _ _ _ h => h) (Or.inl ⟨by rfl, by intro v hv; obtain ⟨⟨c0, c1, c2, c3⟩, _⟩ := hv.2.1.s4; obtain ⟨e0, e1, e2⟩ := hv.2.2.c3; clear hv; go_simp⟩) hH0 ?_
  try simp only [Act.put, List.getElem_toArray, List.getElem_cons_succ, List.getElem_cons_zero, List.setIfInBounds_toArray, List.set_cons_zero, List.set_cons_succ]
  refine wpAnyH_take (i := 10) (oi := _) (v := .string ⟨kl.toArray⟩) rfl (by kernel_rfl) (by kernel_rfl) (by kernel_rfl) (fun _ _ _ h => h) (Or.inl ⟨by rfl, by intro v hv; obtain ⟨⟨c0, c1, c2, c3⟩, _⟩ := hv.2.1.s4; obtain ⟨e0, e1, e2⟩ := hv.2.2.c3; clear hv; go_simp⟩) hH0 ?_
  try simp only [Act.put, List.getElem_toArray, List.getElem_cons_succ, List.getElem_cons_zero, List.setIfInBounds_toArray, List.set_cons_zero, List.set_cons_succ]
  refine wpAnyH_take (i := 11) (oi := _) (v := .pointer (some ⟨w.heap.size + 1, 1, none⟩)) rfl (by kernel_rfl) (by kernel_rfl) (by kernel_rfl) (fun _ _ _ h => h) (Or.inl ⟨by rfl, by intro v hv; obtain ⟨⟨c0, c1, c2, c3⟩, _⟩ := hv.2.1.s4; obtain ⟨e0, e1, e2⟩ := hv.2.2.c3; clear hv; go_simp⟩) hH0 ?_
  try simp only [Act.put, List.getElem_toArray, List.getElem_cons_succ, List.getElem_cons_zero, List.setIfInBounds_toArray, List.set_cons_zero, List.set_cons_succ]
  refine wpAnyH_take (i := 12) (oi := _) (v := .string ⟨kh.toArray⟩) rfl (by kernel_rfl) (by kernel_rfl) (by kernel_rfl) (fun _ _ _ h => h) (Or.inl ⟨by rfl, by intro v hv; obtain ⟨⟨c0, c1, c2, c3⟩, _⟩ := hv.2.1.s4; obtain ⟨e0, e1, e2⟩ := hv.2.2.c3; clear hv; go_simp⟩) hH0 ?_
  try simp only [Act.put, List.getElem_toArray, List.getElem_cons_succ, List.getElem_cons_zero, List.setIfInBounds_toArray, List.set_cons_zero, List.set_cons_succ]
  refine wpAnyH_take (i := 13) (oi := _) (v := .pointer (some ⟨w.heap.size + 1, 2, none⟩)) rfl (by kernel_rfl) (by kernel_rfl) (by kernel_rfl) (fun _ _ _ h => h) (Or.inl ⟨by rfl, by intro v hv; obtain ⟨⟨c0, c1, c2, c3⟩, _⟩ := hv.2.1.s4; obtain ⟨e0, e1, e2⟩ := hv.2.2.c3; clear hv; go_simp⟩) hH0 ?_
  try simp only [Act.put, List.getElem_toArray, List.getElem_cons_succ, List.getElem_cons_zero, List.setIfInBounds_toArray, List.set_cons_zero, List.set_cons_succ]
  refine wpAnyH_take (i := 14) (oi := _) (v := .int .i64 most) rfl (by kernel_rfl) (by kernel_rfl) (by kernel_rfl) (fun _ _ _ h => h) (Or.inl ⟨by rfl, by intro v hv; obtain ⟨⟨c0, c1, c2, c3⟩, _⟩ := hv.2.1.s4; obtain ⟨e0, e1, e2⟩ := hv.2.2.c3; clear hv; go_simp⟩) hH0 ?_
  try simp only [Act.put, List.getElem_toArray, List.getElem_cons_succ, List.getElem_cons_zero, List.setIfInBounds_toArray, List.set_cons_zero, List.set_cons_succ]
  refine wpAnyH_ready (rs := [7]) (by kernel_rfl) (by simp) ?_
  refine AllReadyH.cons (o := _) rfl (fun K' hK => ?_) AllReadyH.nil
  go_simp
  refine (range_h nm ks cs zs ao lo cap lc kl kh most _ (H.out.2.below C2.out.1.drew) (by have := F.out.1.2.1; omega) (fun z hz => (F.out.1.2.2 z hz).2.1) F.out.2.1 F.out.2.2).mono ?_
  rintro e w3 ⟨⟨o3, k3, y3, rfl, q1, q2, q3⟩, hb⟩
  have C3 := Lib.hid (And.intro (step0 C2.out.1.drew hb) (And.intro (Blk.below C2.out.2.1.drw hb) (Blk.below C2.out.2.2.drw hb)))
  have Y3 := Lib.hid (And.intro q1 (And.intro q2 q3))
  clear hb q1 q2 q3
  go_wp2_with fail
  refine hK.out _ _ ⟨C3.out.1, C3.out.2.1, C3.out.2.2⟩ (fun hH1 => ?_)
  clear hK K' hH0
  try simp only [Act.put, List.getElem_toArray, List.getElem_cons_succ, List.getElem_cons_zero, List.setIfInBounds_toArray, List.set_cons_zero, List.set_cons_succ]
  refine wpAnyH_ready (rs := [15]) (by kernel_rfl) (by simp) ?_
  refine AllReadyH.cons (o := _) rfl (fun K' hK => ?_) AllReadyH.nil
  go_simp
  refine (rrange_h nm ks cs zs ao lo cap lc kl kh most _ (H.out.2.below C3.out.1) (by have := F.out.1.2.1; omega) F.out.2.2).mono ?_
  rintro e w4 ⟨⟨o4, k4, y4, rfl, q1, q2, q3⟩, hb⟩
  have C4 := Lib.hid (And.intro (step0 C3.out.1 hb) (And.intro (C3.out.2.1.below hb) (C3.out.2.2.below hb)))
  have Y4 := Lib.hid (And.intro (Y3.out.1.below hb) (And.intro (Y3.out.2.1.below hb) (And.intro q1 (And.intro q2 q3))))
  clear hb q1 q2 q3
  go_wp2_with fail
  refine hK.out _ _ ⟨C4.out.1, C4.out.2.1, C4.out.2.2⟩ (fun hH2 => ?_)
  clear hK K' hH1
  try simp only [Act.put, List.getElem_toArray, List.getElem_cons_succ, List.getElem_cons_zero, List.setIfInBounds_toArray, List.set_cons_zero, List.set_cons_succ]
  refine wpAnyH_ready (rs := [16]) (by kernel_rfl) (by simp) ?_
  refine AllReadyH.cons (o := _) rfl (fun K' hK => ?_) AllReadyH.nil
  go_simp
  refine (all_same y3 y4 o3 o4 k3 k4 _ ?_ Y4.out.1 Y4.out.2.2.1 Y4.out.2.1 Y4.out.2.2.2.1 ?_ (Y3.out.2.2.trans Y4.out.2.2.2.2.symm)).mono ?_
  · have e := congrArg List.length Y3.out.2.2
    have := (rgl_small (ls := lls zs) (lo := kl) (hi := kh) (most := most)).1
    rw [← e, lls_len] at this
    simp only [rxs, List.length_map] at this
    have := F.out.1.2.1
    omega
  · intro x hx
    have hm : x.xs ∈ rxs y3 := List.mem_map_of_mem hx
    rw [Y3.out.2.2] at hm
    obtain ⟨l, hl, e⟩ := (rgl_small (ls := lls zs) (lo := kl) (hi := kh) (most := most)).2 _ hm
    obtain ⟨z, hz, rfl⟩ := List.mem_map.1 hl
    have := (F.out.1.2.2 z hz).2.1
    rw [← e]
    show z.xs.length ≤ 1000000
    omega
  rintro e w5 ⟨rfl, hb⟩
  have C5 := Lib.hid (And.intro (step0 C4.out.1 hb) (And.intro (C4.out.2.1.below hb) (C4.out.2.2.below hb)))
  clear hb
  go_wp2_with fail
  refine hK.out _ _ ⟨C5.out.1, C5.out.2.1, C5.out.2.2⟩ (fun hH3 => ?_)
  clear hK K' hH2
  try simp only [Act.put, List.getElem_toArray, List.getElem_cons_succ, List.getElem_cons_zero, List.setIfInBounds_toArray, List.set_cons_zero, List.set_cons_succ]
  refine wpAnyH_take (i := 17) (oi := _) (v := .bool true) rfl (by kernel_rfl) (by kernel_rfl) (by kernel_rfl) (fun _ _ _ h => h) (Or.inl ⟨by rfl, by intro v hv; go_simp⟩) hH3 ?_
  try simp only [Act.put, List.getElem_toArray, List.getElem_cons_succ, List.getElem_cons_zero, List.setIfInBounds_toArray, List.set_cons_zero, List.set_cons_succ]
  refine wpAnyH_ready (rs := [18]) (by kernel_rfl) (by simp) ?_
  refine AllReadyH.cons (o := _) rfl (fun K' hK => ?_) AllReadyH.nil
  go_simp
  refine (awake_s _ (HG.out.keep C5.out.1)).mono ?_
  rintro e w6 ⟨rfl, hb⟩
  have C6 := Lib.hid (And.intro (step0 C5.out.1 hb) (And.intro (C5.out.2.1.below hb) (C5.out.2.2.below hb)))
  clear hb
  go_wp2_with fail
  refine hK.out _ _ ⟨C6.out.1, C6.out.2.1, C6.out.2.2⟩ (fun hH4 => ?_)
  clear hK K' hH3
  try simp only [Act.put, List.getElem_toArray, List.getElem_cons_succ, List.getElem_cons_zero, List.setIfInBounds_toArray, List.set_cons_zero, List.set_cons_succ]
  refine wpAnyH_take (i := 19) (oi := _) (v := .bool true) rfl (by kernel_rfl) (by kernel_rfl) (by kernel_rfl) (fun _ _ _ h => h) (Or.inl ⟨by rfl, by intro v hv; go_simp⟩) hH4 ?_
  try simp only [Act.put, List.getElem_toArray, List.getElem_cons_succ, List.getElem_cons_zero, List.setIfInBounds_toArray, List.set_cons_zero, List.set_cons_succ]
  refine wpAnyH_take (i := 20) (oi := _) (v := .bool true) rfl (by kernel_rfl) (by kernel_rfl) (by kernel_rfl) (fun _ _ _ h => h) (Or.inl ⟨by rfl, by intro v hv; go_simp⟩) hH4 ?_
  try simp only [Act.put, List.getElem_toArray, List.getElem_cons_succ, List.getElem_cons_zero, List.setIfInBounds_toArray, List.set_cons_zero, List.set_cons_succ]
  refine wpAnyH_done (by kernel_rfl) ?_ _
  clear hH4
  go_wp2
  go_ret
  exact ⟨rfl, C6.out.1⟩

set_option maxRecDepth 1000000 in
set_option maxHeartbeats 8000000 in
theorem sheetRanges_main_e (nm : Nm.S) (ks : Int) (cs : List C) (zs : List LV) (kl : Nm.S) (most : Int) (ao lo : Option Addr) (cap lc : Nat) (w : World) (hg : Env w) (hT : At3 w ⟨nm, ks, cs⟩ ao cap) (hL : LS w zs lo lc) (hf : Sf ⟨nm, ks, cs⟩ zs) (hr : Ris (lls zs)) (hk : kl.length ≤ 2000) :
    Calls Tryd.prog 3 #[.agg #[.string ⟨nm.toArray⟩, .int .i64 ks, .slice ao cs.length cap, .slice lo zs.length lc], .agg #[.string ⟨kl.toArray⟩, .string ⟨#[]⟩, .int .i64 most]] w fun e w' => e = .returned (.bool true) ∧ Below w.heap.size w w' := by
  have HG := Lib.hid hg
  have H := Lib.hid (And.intro hT hL)
  clear hg hT hL
  have hkl : decide ((2000 : Int) < (kl.length : Int)) = false := by rw [decide_eq_false_iff_not]; omega
  have F := Lib.hid (And.intro hf (And.intro hr trivial))
  clear hf hr hk
  obtain ⟨W1, hW1⟩ : ∃ W1, (w.alloc (.cells #[.string ⟨nm.toArray⟩, .int .i64 ks, .slice ao cs.length cap, .slice lo zs.length lc] 27)).alloc (.cells #[.string ⟨kl.toArray⟩, .string ⟨#[]⟩, .int .i64 most] 29) = W1 := ⟨_, rfl⟩
  have p0 : Blk W1 w.heap.size #[.string ⟨nm.toArray⟩, .int .i64 ks, .slice ao cs.length cap, .slice lo zs.length lc] 27 := hW1 ▸ (Blk.new w _ _).alloc _
  have p1 : Blk W1 (w.heap.size + 1) #[.string ⟨kl.toArray⟩, .string ⟨#[]⟩, .int .i64 most] 29 := by have := Blk.new (w.alloc (.cells #[.string ⟨nm.toArray⟩, .int .i64 ks, .slice ao cs.length cap, .slice lo zs.length lc] 27)) #[.string ⟨kl.toArray⟩, .string ⟨#[]⟩, .int .i64 most] 29; rw [hW1] at this; simpa using this
  have C0 := Lib.hid (And.intro (hW1 ▸ below2s w _ _ : Below w.heap.size w W1) (And.intro p0 p1))
  clear p0 p1
  obtain ⟨⟨c0, c1, c2, c3⟩, _⟩ := C0.out.2.1.s4
  obtain ⟨e0, e1, e2⟩ := C0.out.2.2.c3
  go_enter Tryd.func3, Tryd.ntmps3
  go_wp2_with fail
  refine (sfew_yes nm ks cs zs ao lo cap lc _ (H.out.1.1.below C0.out.1) (H.out.2.below C0.out.1) F.out.1).mono ?_
  rintro e w1 ⟨rfl, hb⟩
  have C1 := Lib.hid (And.intro (step0 C0.out.1 hb) (And.intro (C0.out.2.1.below hb) (C0.out.2.2.below hb)))
  clear hb c0 c1 c2 c3 e0 e1 e2 hW1
  obtain ⟨⟨c0, c1, c2, c3⟩, _⟩ := C1.out.2.1.s4
  obtain ⟨e0, e1, e2⟩ := C1.out.2.2.c3
  go_wp2_with fail
  refine (rises_yes nm ks cs zs ao lo cap lc _ (H.out.2.1.below C1.out.1) (by have := F.out.1.2.1; omega) F.out.2.1).mono ?_
  rintro e w2 ⟨rfl, hb⟩
  have C2 := Lib.hid (And.intro (step0 C1.out.1 hb) (And.intro (C1.out.2.1.below hb) (C1.out.2.2.below hb)))
  clear hb c0 c1 c2 c3 e0 e1 e2
  obtain ⟨⟨c0, c1, c2, c3⟩, _⟩ := C2.out.2.1.s4
  obtain ⟨e0, e1, e2⟩ := C2.out.2.2.c3
  go_wp2_with fail
  clear c0 c1 c2 c3 e0 e1 e2
  refine wp_region_held_drew (S := fun v => Below w.heap.size w v ∧ Blk v w.heap.size #[.string ⟨nm.toArray⟩, .int .i64 ks, .slice ao cs.length cap, .slice lo zs.length lc] 27 ∧ Blk v (w.heap.size + 1) #[.string ⟨kl.toArray⟩, .string ⟨#[]⟩, .int .i64 most] 29) (by kernel_rfl) ⟨C2.out.1.drew, C2.out.2.1, C2.out.2.2⟩ (fun hH0 => ?_)
  refine wpAnyH_take (i := 0) (oi := _) (v := .agg #[.string ⟨nm.toArray⟩, .int .i64 ks, .slice ao cs.length cap, .slice lo zs.length lc]) rfl (by kernel_rfl) (by kernel_rfl) (by kernel_rfl) (fun _ _ _ h => h) (Or.inl ⟨by rfl, by intro v hv; obtain ⟨⟨c0, c1, c2, c3⟩, _⟩ := hv.2.1.s4; obtain ⟨e0, e1, e2⟩ := hv.2.2.c3; clear hv; go_simp⟩) hH0 ?_
  try simp only [Act.put, List.getElem_toArray, List.getElem_cons_succ, List.getElem_cons_zero, List.setIfInBounds_toArray, List.set_cons_zero, List.set_cons_succ]
  refine wpAnyH_take (i := 1) (oi := _) (v := .pointer (some ⟨w.heap.size + 1, 0, none⟩)) rfl (by kernel_rfl) (by kernel_rfl) (by kernel_rfl) (fun _ _ _ h => h) (Or.inl ⟨by rfl, by intro v hv; obtain ⟨⟨c0, c1, c2, c3⟩, _⟩ := hv.2.1.s4; obtain ⟨e0, e1, e2⟩ := hv.2.2.c3; clear hv; go_simp⟩) hH0 ?_
  try simp only [Act.put, List.getElem_toArray, List.getElem_cons_succ, List.getElem_cons_zero, List.setIfInBounds_toArray, List.set_cons_zero, List.set_cons_succ]
  refine wpAnyH_take (i := 2) (oi := _) (v := .string ⟨kl.toArray⟩) rfl (by kernel_rfl) (by kernel_rfl) (by kernel_rfl) (fun _ _ _ h => h) (Or.inl ⟨by rfl, by intro v hv; obtain ⟨⟨c0, c1, c2, c3⟩, _⟩ := hv.2.1.s4; obtain ⟨e0, e1, e2⟩ := hv.2.2.c3; clear hv; go_simp⟩) hH0 ?_
  try simp only [Act.put, List.getElem_toArray, List.getElem_cons_succ, List.getElem_cons_zero, List.setIfInBounds_toArray, List.set_cons_zero, List.set_cons_succ]
  refine wpAnyH_take (i := 3) (oi := _) (v := .pointer (some ⟨w.heap.size + 1, 1, none⟩)) rfl (by kernel_rfl) (by kernel_rfl) (by kernel_rfl) (fun _ _ _ h => h) (Or.inl ⟨by rfl, by intro v hv; obtain ⟨⟨c0, c1, c2, c3⟩, _⟩ := hv.2.1.s4; obtain ⟨e0, e1, e2⟩ := hv.2.2.c3; clear hv; go_simp⟩) hH0 ?_
  try simp only [Act.put, List.getElem_toArray, List.getElem_cons_succ, List.getElem_cons_zero, List.setIfInBounds_toArray, List.set_cons_zero, List.set_cons_succ]
  refine wpAnyH_take (i := 4) (oi := _) (v := .string ⟨#[]⟩) rfl (by kernel_rfl) (by kernel_rfl) (by kernel_rfl) (fun _ _ _ h => h) (Or.inl ⟨by rfl, by intro v hv; obtain ⟨⟨c0, c1, c2, c3⟩, _⟩ := hv.2.1.s4; obtain ⟨e0, e1, e2⟩ := hv.2.2.c3; clear hv; go_simp⟩) hH0 ?_
  try simp only [Act.put, List.getElem_toArray, List.getElem_cons_succ, List.getElem_cons_zero, List.setIfInBounds_toArray, List.set_cons_zero, List.set_cons_succ]
  refine wpAnyH_take (i := 5) (oi := _) (v := .pointer (some ⟨w.heap.size + 1, 2, none⟩)) rfl (by kernel_rfl) (by kernel_rfl) (by kernel_rfl) (fun _ _ _ h => h) (Or.inl ⟨by rfl, by intro v hv; obtain ⟨⟨c0, c1, c2, c3⟩, _⟩ := hv.2.1.s4; obtain ⟨e0, e1, e2⟩ := hv.2.2.c3; clear hv; go_simp⟩) hH0 ?_
  try simp only [Act.put, List.getElem_toArray, List.getElem_cons_succ, List.getElem_cons_zero, List.setIfInBounds_toArray, List.set_cons_zero, List.set_cons_succ]
  refine wpAnyH_take (i := 6) (oi := _) (v := .int .i64 most) rfl (by kernel_rfl) (by kernel_rfl) (by kernel_rfl) (fun _ _ _ h => h) (Or.inl ⟨by rfl, by intro v hv; obtain ⟨⟨c0, c1, c2, c3⟩, _⟩ := hv.2.1.s4; obtain ⟨e0, e1, e2⟩ := hv.2.2.c3; clear hv; go_simp⟩) hH0 ?_
  try simp only [Act.put, List.getElem_toArray, List.getElem_cons_succ, List.getElem_cons_zero, List.setIfInBounds_toArray, List.set_cons_zero, List.set_cons_succ]
  refine wpAnyH_take (i := 8) (oi := _) (v := .agg #[.string ⟨nm.toArray⟩, .int .i64 ks, .slice ao cs.length cap, .slice lo zs.length lc]) rfl (by kernel_rfl) (by kernel_rfl) (by kernel_rfl) (fun _ _ _ h => h) (Or.inl ⟨by rfl, by intro v hv; obtain ⟨⟨c0, c1, c2, c3⟩, _⟩ := hv.2.1.s4; obtain ⟨e0, e1, e2⟩ := hv.2.2.c3; clear hv; go_simp⟩) hH0 ?_
  try simp only [Act.put, List.getElem_toArray, List.getElem_cons_succ, List.getElem_cons_zero, List.setIfInBounds_toArray, List.set_cons_zero, List.set_cons_succ]
  refine wpAnyH_take (i := 9) (oi := _) (v := .pointer (some ⟨w.heap.size + 1, 0, none⟩)) rfl (by kernel_rfl) (by kernel_rfl) (by kernel_rfl) (fun _ _ _ h => h) (Or.inl ⟨by rfl, by intro v hv; obtain ⟨⟨c0, c1, c2, c3⟩, _⟩ := hv.2.1.s4; obtain ⟨e0, e1, e2⟩ := hv.2.2.c3; clear hv; go_simp⟩) hH0 ?_
  try simp only [Act.put, List.getElem_toArray, List.getElem_cons_succ, List.getElem_cons_zero, List.setIfInBounds_toArray, List.set_cons_zero, List.set_cons_succ]
  refine wpAnyH_take (i := 10) (oi := _) (v := .string ⟨kl.toArray⟩) rfl (by kernel_rfl) (by kernel_rfl) (by kernel_rfl) (fun _ _ _ h => h) (Or.inl ⟨by rfl, by intro v hv; obtain ⟨⟨c0, c1, c2, c3⟩, _⟩ := hv.2.1.s4; obtain ⟨e0, e1, e2⟩ := hv.2.2.c3; clear hv; go_simp⟩) hH0 ?_
  try simp only [Act.put, List.getElem_toArray, List.getElem_cons_succ, List.getElem_cons_zero, List.setIfInBounds_toArray, List.set_cons_zero, List.set_cons_succ]
  refine wpAnyH_take (i := 11) (oi := _) (v := .pointer (some ⟨w.heap.size + 1, 1, none⟩)) rfl (by kernel_rfl) (by kernel_rfl) (by kernel_rfl) (fun _ _ _ h => h) (Or.inl ⟨by rfl, by intro v hv; obtain ⟨⟨c0, c1, c2, c3⟩, _⟩ := hv.2.1.s4; obtain ⟨e0, e1, e2⟩ := hv.2.2.c3; clear hv; go_simp⟩) hH0 ?_
  try simp only [Act.put, List.getElem_toArray, List.getElem_cons_succ, List.getElem_cons_zero, List.setIfInBounds_toArray, List.set_cons_zero, List.set_cons_succ]
  refine wpAnyH_take (i := 12) (oi := _) (v := .string ⟨#[]⟩) rfl (by kernel_rfl) (by kernel_rfl) (by kernel_rfl) (fun _ _ _ h => h) (Or.inl ⟨by rfl, by intro v hv; obtain ⟨⟨c0, c1, c2, c3⟩, _⟩ := hv.2.1.s4; obtain ⟨e0, e1, e2⟩ := hv.2.2.c3; clear hv; go_simp⟩) hH0 ?_
  try simp only [Act.put, List.getElem_toArray, List.getElem_cons_succ, List.getElem_cons_zero, List.setIfInBounds_toArray, List.set_cons_zero, List.set_cons_succ]
  refine wpAnyH_take (i := 13) (oi := _) (v := .pointer (some ⟨w.heap.size + 1, 2, none⟩)) rfl (by kernel_rfl) (by kernel_rfl) (by kernel_rfl) (fun _ _ _ h => h) (Or.inl ⟨by rfl, by intro v hv; obtain ⟨⟨c0, c1, c2, c3⟩, _⟩ := hv.2.1.s4; obtain ⟨e0, e1, e2⟩ := hv.2.2.c3; clear hv; go_simp⟩) hH0 ?_
  try simp only [Act.put, List.getElem_toArray, List.getElem_cons_succ, List.getElem_cons_zero, List.setIfInBounds_toArray, List.set_cons_zero, List.set_cons_succ]
  refine wpAnyH_take (i := 14) (oi := _) (v := .int .i64 most) rfl (by kernel_rfl) (by kernel_rfl) (by kernel_rfl) (fun _ _ _ h => h) (Or.inl ⟨by rfl, by intro v hv; obtain ⟨⟨c0, c1, c2, c3⟩, _⟩ := hv.2.1.s4; obtain ⟨e0, e1, e2⟩ := hv.2.2.c3; clear hv; go_simp⟩) hH0 ?_
  try simp only [Act.put, List.getElem_toArray, List.getElem_cons_succ, List.getElem_cons_zero, List.setIfInBounds_toArray, List.set_cons_zero, List.set_cons_succ]
  refine wpAnyH_ready (rs := [7]) (by kernel_rfl) (by simp) ?_
  refine AllReadyH.cons (o := _) rfl (fun K' hK => ?_) AllReadyH.nil
  go_simp
  refine (range_e nm ks cs zs ao lo cap lc kl most _ (H.out.2.below C2.out.1.drew) (by have := F.out.1.2.1; omega) (fun z hz => (F.out.1.2.2 z hz).2.1) F.out.2.1).mono ?_
  rintro e w3 ⟨⟨o3, k3, y3, rfl, q1, q2, q3⟩, hb⟩
  have C3 := Lib.hid (And.intro (step0 C2.out.1.drew hb) (And.intro (Blk.below C2.out.2.1.drw hb) (Blk.below C2.out.2.2.drw hb)))
  have Y3 := Lib.hid (And.intro q1 (And.intro q2 q3))
  clear hb q1 q2 q3
  go_wp2_with fail
  refine hK.out _ _ ⟨C3.out.1, C3.out.2.1, C3.out.2.2⟩ (fun hH1 => ?_)
  clear hK K' hH0
  try simp only [Act.put, List.getElem_toArray, List.getElem_cons_succ, List.getElem_cons_zero, List.setIfInBounds_toArray, List.set_cons_zero, List.set_cons_succ]
  refine wpAnyH_ready (rs := [15]) (by kernel_rfl) (by simp) ?_
  refine AllReadyH.cons (o := _) rfl (fun K' hK => ?_) AllReadyH.nil
  go_simp
  refine (rrange_e nm ks cs zs ao lo cap lc kl most _ (H.out.2.below C3.out.1) (by have := F.out.1.2.1; omega)).mono ?_
  rintro e w4 ⟨⟨o4, k4, y4, rfl, q1, q2, q3⟩, hb⟩
  have C4 := Lib.hid (And.intro (step0 C3.out.1 hb) (And.intro (C3.out.2.1.below hb) (C3.out.2.2.below hb)))
  have Y4 := Lib.hid (And.intro (Y3.out.1.below hb) (And.intro (Y3.out.2.1.below hb) (And.intro q1 (And.intro q2 q3))))
  clear hb q1 q2 q3
  go_wp2_with fail
  refine hK.out _ _ ⟨C4.out.1, C4.out.2.1, C4.out.2.2⟩ (fun hH2 => ?_)
  clear hK K' hH1
  try simp only [Act.put, List.getElem_toArray, List.getElem_cons_succ, List.getElem_cons_zero, List.setIfInBounds_toArray, List.set_cons_zero, List.set_cons_succ]
  refine wpAnyH_ready (rs := [16]) (by kernel_rfl) (by simp) ?_
  refine AllReadyH.cons (o := _) rfl (fun K' hK => ?_) AllReadyH.nil
  go_simp
  refine (all_same y3 y4 o3 o4 k3 k4 _ ?_ Y4.out.1 Y4.out.2.2.1 Y4.out.2.1 Y4.out.2.2.2.1 ?_ (Y3.out.2.2.trans Y4.out.2.2.2.2.symm)).mono ?_
  · have e := congrArg List.length Y3.out.2.2
    have := (rgl_small (ls := lls zs) (lo := kl) (hi := []) (most := most)).1
    rw [← e, lls_len] at this
    simp only [rxs, List.length_map] at this
    have := F.out.1.2.1
    omega
  · intro x hx
    have hm : x.xs ∈ rxs y3 := List.mem_map_of_mem hx
    rw [Y3.out.2.2] at hm
    obtain ⟨l, hl, e⟩ := (rgl_small (ls := lls zs) (lo := kl) (hi := []) (most := most)).2 _ hm
    obtain ⟨z, hz, rfl⟩ := List.mem_map.1 hl
    have := (F.out.1.2.2 z hz).2.1
    rw [← e]
    show z.xs.length ≤ 1000000
    omega
  rintro e w5 ⟨rfl, hb⟩
  have C5 := Lib.hid (And.intro (step0 C4.out.1 hb) (And.intro (C4.out.2.1.below hb) (C4.out.2.2.below hb)))
  clear hb
  go_wp2_with fail
  refine hK.out _ _ ⟨C5.out.1, C5.out.2.1, C5.out.2.2⟩ (fun hH3 => ?_)
  clear hK K' hH2
  try simp only [Act.put, List.getElem_toArray, List.getElem_cons_succ, List.getElem_cons_zero, List.setIfInBounds_toArray, List.set_cons_zero, List.set_cons_succ]
  refine wpAnyH_take (i := 17) (oi := _) (v := .bool true) rfl (by kernel_rfl) (by kernel_rfl) (by kernel_rfl) (fun _ _ _ h => h) (Or.inl ⟨by rfl, by intro v hv; go_simp⟩) hH3 ?_
  try simp only [Act.put, List.getElem_toArray, List.getElem_cons_succ, List.getElem_cons_zero, List.setIfInBounds_toArray, List.set_cons_zero, List.set_cons_succ]
  refine wpAnyH_ready (rs := [18]) (by kernel_rfl) (by simp) ?_
  refine AllReadyH.cons (o := _) rfl (fun K' hK => ?_) AllReadyH.nil
  go_simp
  refine (awake_s _ (HG.out.keep C5.out.1)).mono ?_
  rintro e w6 ⟨rfl, hb⟩
  have C6 := Lib.hid (And.intro (step0 C5.out.1 hb) (And.intro (C5.out.2.1.below hb) (C5.out.2.2.below hb)))
  clear hb
  go_wp2_with fail
  refine hK.out _ _ ⟨C6.out.1, C6.out.2.1, C6.out.2.2⟩ (fun hH4 => ?_)
  clear hK K' hH3
  try simp only [Act.put, List.getElem_toArray, List.getElem_cons_succ, List.getElem_cons_zero, List.setIfInBounds_toArray, List.set_cons_zero, List.set_cons_succ]
  refine wpAnyH_take (i := 19) (oi := _) (v := .bool true) rfl (by kernel_rfl) (by kernel_rfl) (by kernel_rfl) (fun _ _ _ h => h) (Or.inl ⟨by rfl, by intro v hv; go_simp⟩) hH4 ?_
  try simp only [Act.put, List.getElem_toArray, List.getElem_cons_succ, List.getElem_cons_zero, List.setIfInBounds_toArray, List.set_cons_zero, List.set_cons_succ]
  refine wpAnyH_take (i := 20) (oi := _) (v := .bool true) rfl (by kernel_rfl) (by kernel_rfl) (by kernel_rfl) (fun _ _ _ h => h) (Or.inl ⟨by rfl, by intro v hv; go_simp⟩) hH4 ?_
  try simp only [Act.put, List.getElem_toArray, List.getElem_cons_succ, List.getElem_cons_zero, List.setIfInBounds_toArray, List.set_cons_zero, List.set_cons_succ]
  refine wpAnyH_done (by kernel_rfl) ?_ _
  clear hH4
  go_wp2
  go_ret
  exact ⟨rfl, C6.out.1⟩


theorem sheetRanges_walk (nm : Nm.S) (ks : Int) (cs : List C) (zs : List LV) (kl kh : Nm.S) (most : Int) (ao lo : Option Addr) (cap lc : Nat) (w : World) (hg : Env w) (hT : At3 w ⟨nm, ks, cs⟩ ao cap) (hL : LS w zs lo lc) :
    Calls Tryd.prog 3 #[.agg #[.string ⟨nm.toArray⟩, .int .i64 ks, .slice ao cs.length cap, .slice lo zs.length lc], .agg #[.string ⟨kl.toArray⟩, .string ⟨kh.toArray⟩, .int .i64 most]] w fun e w' => e = .returned (.bool true) ∧ Below w.heap.size w w' := by
  by_cases hf : Sf ⟨nm, ks, cs⟩ zs
  case neg => exact sheetRanges_n1 nm ks cs zs kl kh most ao lo cap lc w hg hT hL hf
  by_cases hr : Ris (lls zs)
  case neg => exact sheetRanges_n2 nm ks cs zs kl kh most ao lo cap lc w hg hT hL hf hr
  by_cases hk : kl.length ≤ 2000
  case neg => exact sheetRanges_n3 nm ks cs zs kl kh most ao lo cap lc w hg hT hL hf hr (by omega)
  by_cases hk2 : kh.length ≤ 2000
  case neg => exact sheetRanges_n4 nm ks cs zs kl kh most ao lo cap lc w hg hT hL hf hr hk (by omega)
  by_cases hne : kh = []
  · subst hne
    exact sheetRanges_main_e nm ks cs zs kl most ao lo cap lc w hg hT hL hf hr hk
  · exact sheetRanges_main_h nm ks cs zs kl kh most ao lo cap lc w hg hT hL hf hr hk hk2 hne

end Go.Proofs.YtfgakoldedpfoaaDoor
