/-
  The walk of law SheetMerges. Condition: the library's variable errors.errorType holds the handle of the type error.
-/
import Derived.Test.YtfgakoldedpfoaaDoorShRMerge
import Derived.Test.YtfgakoldedpfoaaDoorShRef
import Derived.Test.YtfgakoldedpfoaaDoorShAwake
import Derived.Test.YtfgakoldedpfoaaDoorShFew
namespace Go.Proofs.YtfgakoldedpfoaaDoor
open Go.RowKit
set_option linter.unusedVariables false
set_option linter.unusedSimpArgs false
set_option maxRecDepth 1000000 in
set_option maxHeartbeats 8000000 in
theorem sheetMerges_n1 (nm : Nm.S) (ks : Int) (cs : List C) (za : List LV) (nm2 : Nm.S) (ks2 : Int) (cs2 : List C) (zb : List LV) (ao la bo lb : Option Addr) (cap ca cap2 cb : Nat) (w : World) (hg : Env w) (hT : At3 w ⟨nm, ks, cs⟩ ao cap) (hL : LS w za la ca) (hT2 : At3 w ⟨nm2, ks2, cs2⟩ bo cap2) (hL2 : LS w zb lb cb) (hf : ¬ Sf ⟨nm, ks, cs⟩ za) :
    Calls Tryd.prog 4 #[.agg #[.string ⟨nm.toArray⟩, .int .i64 ks, .slice ao cs.length cap, .slice la za.length ca], .agg #[.string ⟨nm2.toArray⟩, .int .i64 ks2, .slice bo cs2.length cap2, .slice lb zb.length cb]] w fun e w' => e = .returned (.bool true) ∧ Below w.heap.size w w' := by
  have HG := Lib.hid hg
  have H := Lib.hid (And.intro hT (And.intro hL (And.intro hT2 hL2)))
  clear hg hT hL hT2 hL2
  have F := Lib.hid hf
  clear hf
  obtain ⟨W1, hW1⟩ : ∃ W1, (w.alloc (.cells #[.string ⟨nm.toArray⟩, .int .i64 ks, .slice ao cs.length cap, .slice la za.length ca] 27)).alloc (.cells #[.string ⟨nm2.toArray⟩, .int .i64 ks2, .slice bo cs2.length cap2, .slice lb zb.length cb] 27) = W1 := ⟨_, rfl⟩
  have p0 : Blk W1 w.heap.size #[.string ⟨nm.toArray⟩, .int .i64 ks, .slice ao cs.length cap, .slice la za.length ca] 27 := hW1 ▸ (Blk.new w _ _).alloc _
  have p1 : Blk W1 (w.heap.size + 1) #[.string ⟨nm2.toArray⟩, .int .i64 ks2, .slice bo cs2.length cap2, .slice lb zb.length cb] 27 := by have := Blk.new (w.alloc (.cells #[.string ⟨nm.toArray⟩, .int .i64 ks, .slice ao cs.length cap, .slice la za.length ca] 27)) #[.string ⟨nm2.toArray⟩, .int .i64 ks2, .slice bo cs2.length cap2, .slice lb zb.length cb] 27; rw [hW1] at this; simpa using this
  have C0 := Lib.hid (And.intro (hW1 ▸ below2s w _ _ : Below w.heap.size w W1) (And.intro p0 p1))
  clear p0 p1
  obtain ⟨⟨c0, c1, c2, c3⟩, _⟩ := C0.out.2.1.s4
  obtain ⟨⟨e0, e1, e2, e3⟩, _⟩ := C0.out.2.2.s4
  go_enter Tryd.func4, Tryd.ntmps4
  go_wp2_with fail
  refine (sfew_no nm ks cs za ao la cap ca _ (H.out.1.1.below C0.out.1) (H.out.2.1.below C0.out.1) F.out).mono ?_
  rintro e w1 ⟨rfl, hb⟩
  have C1 := Lib.hid (And.intro (step0 C0.out.1 hb) (And.intro (C0.out.2.1.below hb) (C0.out.2.2.below hb)))
  clear hb c0 c1 c2 c3 e0 e1 e2 e3 hW1
  obtain ⟨⟨c0, c1, c2, c3⟩, _⟩ := C1.out.2.1.s4
  obtain ⟨⟨e0, e1, e2, e3⟩, _⟩ := C1.out.2.2.s4
  go_wp2_with fail
  refine (awake_s _ (HG.out.keep C1.out.1)).mono ?_
  rintro e w2 ⟨rfl, hb⟩
  have C2 := Lib.hid (And.intro (step0 C1.out.1 hb) (And.intro (C1.out.2.1.below hb) (C1.out.2.2.below hb)))
  clear hb c0 c1 c2 c3 e0 e1 e2 e3
  obtain ⟨⟨c0, c1, c2, c3⟩, _⟩ := C2.out.2.1.s4
  obtain ⟨⟨e0, e1, e2, e3⟩, _⟩ := C2.out.2.2.s4
  go_wp2
  go_ret
  exact ⟨rfl, C2.out.1⟩

set_option maxRecDepth 1000000 in
set_option maxHeartbeats 8000000 in
theorem sheetMerges_n2 (nm : Nm.S) (ks : Int) (cs : List C) (za : List LV) (nm2 : Nm.S) (ks2 : Int) (cs2 : List C) (zb : List LV) (ao la bo lb : Option Addr) (cap ca cap2 cb : Nat) (w : World) (hg : Env w) (hT : At3 w ⟨nm, ks, cs⟩ ao cap) (hL : LS w za la ca) (hT2 : At3 w ⟨nm2, ks2, cs2⟩ bo cap2) (hL2 : LS w zb lb cb) (hf : Sf ⟨nm, ks, cs⟩ za) (hf2 : ¬ Sf ⟨nm2, ks2, cs2⟩ zb) :
    Calls Tryd.prog 4 #[.agg #[.string ⟨nm.toArray⟩, .int .i64 ks, .slice ao cs.length cap, .slice la za.length ca], .agg #[.string ⟨nm2.toArray⟩, .int .i64 ks2, .slice bo cs2.length cap2, .slice lb zb.length cb]] w fun e w' => e = .returned (.bool true) ∧ Below w.heap.size w w' := by
  have HG := Lib.hid hg
  have H := Lib.hid (And.intro hT (And.intro hL (And.intro hT2 hL2)))
  clear hg hT hL hT2 hL2
  have F := Lib.hid (And.intro hf hf2)
  clear hf hf2
  obtain ⟨W1, hW1⟩ : ∃ W1, (w.alloc (.cells #[.string ⟨nm.toArray⟩, .int .i64 ks, .slice ao cs.length cap, .slice la za.length ca] 27)).alloc (.cells #[.string ⟨nm2.toArray⟩, .int .i64 ks2, .slice bo cs2.length cap2, .slice lb zb.length cb] 27) = W1 := ⟨_, rfl⟩
  have p0 : Blk W1 w.heap.size #[.string ⟨nm.toArray⟩, .int .i64 ks, .slice ao cs.length cap, .slice la za.length ca] 27 := hW1 ▸ (Blk.new w _ _).alloc _
  have p1 : Blk W1 (w.heap.size + 1) #[.string ⟨nm2.toArray⟩, .int .i64 ks2, .slice bo cs2.length cap2, .slice lb zb.length cb] 27 := by have := Blk.new (w.alloc (.cells #[.string ⟨nm.toArray⟩, .int .i64 ks, .slice ao cs.length cap, .slice la za.length ca] 27)) #[.string ⟨nm2.toArray⟩, .int .i64 ks2, .slice bo cs2.length cap2, .slice lb zb.length cb] 27; rw [hW1] at this; simpa using this
  have C0 := Lib.hid (And.intro (hW1 ▸ below2s w _ _ : Below w.heap.size w W1) (And.intro p0 p1))
  clear p0 p1
  obtain ⟨⟨c0, c1, c2, c3⟩, _⟩ := C0.out.2.1.s4
  obtain ⟨⟨e0, e1, e2, e3⟩, _⟩ := C0.out.2.2.s4
  go_enter Tryd.func4, Tryd.ntmps4
  go_wp2_with fail
  refine (sfew_yes nm ks cs za ao la cap ca _ (H.out.1.1.below C0.out.1) (H.out.2.1.below C0.out.1) F.out.1).mono ?_
  rintro e w1 ⟨rfl, hb⟩
  have C1 := Lib.hid (And.intro (step0 C0.out.1 hb) (And.intro (C0.out.2.1.below hb) (C0.out.2.2.below hb)))
  clear hb c0 c1 c2 c3 e0 e1 e2 e3 hW1
  obtain ⟨⟨c0, c1, c2, c3⟩, _⟩ := C1.out.2.1.s4
  obtain ⟨⟨e0, e1, e2, e3⟩, _⟩ := C1.out.2.2.s4
  go_wp2_with fail
  refine (sfew_no nm2 ks2 cs2 zb bo lb cap2 cb _ (H.out.2.2.1.1.below C1.out.1) (H.out.2.2.2.below C1.out.1) F.out.2).mono ?_
  rintro e w2 ⟨rfl, hb⟩
  have C2 := Lib.hid (And.intro (step0 C1.out.1 hb) (And.intro (C1.out.2.1.below hb) (C1.out.2.2.below hb)))
  clear hb c0 c1 c2 c3 e0 e1 e2 e3
  obtain ⟨⟨c0, c1, c2, c3⟩, _⟩ := C2.out.2.1.s4
  obtain ⟨⟨e0, e1, e2, e3⟩, _⟩ := C2.out.2.2.s4
  go_wp2_with fail
  refine (awake_s _ (HG.out.keep C2.out.1)).mono ?_
  rintro e w3 ⟨rfl, hb⟩
  have C3 := Lib.hid (And.intro (step0 C2.out.1 hb) (And.intro (C2.out.2.1.below hb) (C2.out.2.2.below hb)))
  clear hb c0 c1 c2 c3 e0 e1 e2 e3
  obtain ⟨⟨c0, c1, c2, c3⟩, _⟩ := C3.out.2.1.s4
  obtain ⟨⟨e0, e1, e2, e3⟩, _⟩ := C3.out.2.2.s4
  go_wp2
  go_ret
  exact ⟨rfl, C3.out.1⟩

set_option maxRecDepth 1000000 in
set_option maxHeartbeats 8000000 in
theorem sheetMerges_n3 (nm : Nm.S) (ks : Int) (cs : List C) (za : List LV) (nm2 : Nm.S) (ks2 : Int) (cs2 : List C) (zb : List LV) (ao la bo lb : Option Addr) (cap ca cap2 cb : Nat) (w : World) (hg : Env w) (hT : At3 w ⟨nm, ks, cs⟩ ao cap) (hL : LS w za la ca) (hT2 : At3 w ⟨nm2, ks2, cs2⟩ bo cap2) (hL2 : LS w zb lb cb) (hf : Sf ⟨nm, ks, cs⟩ za) (hf2 : Sf ⟨nm2, ks2, cs2⟩ zb) (hr : ¬ Ris (lls za)) :
    Calls Tryd.prog 4 #[.agg #[.string ⟨nm.toArray⟩, .int .i64 ks, .slice ao cs.length cap, .slice la za.length ca], .agg #[.string ⟨nm2.toArray⟩, .int .i64 ks2, .slice bo cs2.length cap2, .slice lb zb.length cb]] w fun e w' => e = .returned (.bool true) ∧ Below w.heap.size w w' := by
  have HG := Lib.hid hg
  have H := Lib.hid (And.intro hT (And.intro hL (And.intro hT2 hL2)))
  clear hg hT hL hT2 hL2
  have F := Lib.hid (And.intro hf (And.intro hf2 hr))
  clear hf hf2 hr
  obtain ⟨W1, hW1⟩ : ∃ W1, (w.alloc (.cells #[.string ⟨nm.toArray⟩, .int .i64 ks, .slice ao cs.length cap, .slice la za.length ca] 27)).alloc (.cells #[.string ⟨nm2.toArray⟩, .int .i64 ks2, .slice bo cs2.length cap2, .slice lb zb.length cb] 27) = W1 := ⟨_, rfl⟩
  have p0 : Blk W1 w.heap.size #[.string ⟨nm.toArray⟩, .int .i64 ks, .slice ao cs.length cap, .slice la za.length ca] 27 := hW1 ▸ (Blk.new w _ _).alloc _
  have p1 : Blk W1 (w.heap.size + 1) #[.string ⟨nm2.toArray⟩, .int .i64 ks2, .slice bo cs2.length cap2, .slice lb zb.length cb] 27 := by have := Blk.new (w.alloc (.cells #[.string ⟨nm.toArray⟩, .int .i64 ks, .slice ao cs.length cap, .slice la za.length ca] 27)) #[.string ⟨nm2.toArray⟩, .int .i64 ks2, .slice bo cs2.length cap2, .slice lb zb.length cb] 27; rw [hW1] at this; simpa using this
  have C0 := Lib.hid (And.intro (hW1 ▸ below2s w _ _ : Below w.heap.size w W1) (And.intro p0 p1))
  clear p0 p1
  obtain ⟨⟨c0, c1, c2, c3⟩, _⟩ := C0.out.2.1.s4
  obtain ⟨⟨e0, e1, e2, e3⟩, _⟩ := C0.out.2.2.s4
  go_enter Tryd.func4, Tryd.ntmps4
  go_wp2_with fail
  refine (sfew_yes nm ks cs za ao la cap ca _ (H.out.1.1.below C0.out.1) (H.out.2.1.below C0.out.1) F.out.1).mono ?_
  rintro e w1 ⟨rfl, hb⟩
  have C1 := Lib.hid (And.intro (step0 C0.out.1 hb) (And.intro (C0.out.2.1.below hb) (C0.out.2.2.below hb)))
  clear hb c0 c1 c2 c3 e0 e1 e2 e3 hW1
  obtain ⟨⟨c0, c1, c2, c3⟩, _⟩ := C1.out.2.1.s4
  obtain ⟨⟨e0, e1, e2, e3⟩, _⟩ := C1.out.2.2.s4
  go_wp2_with fail
  refine (sfew_yes nm2 ks2 cs2 zb bo lb cap2 cb _ (H.out.2.2.1.1.below C1.out.1) (H.out.2.2.2.below C1.out.1) F.out.2.1).mono ?_
  rintro e w2 ⟨rfl, hb⟩
  have C2 := Lib.hid (And.intro (step0 C1.out.1 hb) (And.intro (C1.out.2.1.below hb) (C1.out.2.2.below hb)))
  clear hb c0 c1 c2 c3 e0 e1 e2 e3
  obtain ⟨⟨c0, c1, c2, c3⟩, _⟩ := C2.out.2.1.s4
  obtain ⟨⟨e0, e1, e2, e3⟩, _⟩ := C2.out.2.2.s4
  go_wp2_with fail
  refine (rises_no nm ks cs za ao la cap ca _ (H.out.2.1.1.below C2.out.1) (by have := F.out.1.2.1; omega) F.out.2.2).mono ?_
  rintro e w3 ⟨rfl, hb⟩
  have C3 := Lib.hid (And.intro (step0 C2.out.1 hb) (And.intro (C2.out.2.1.below hb) (C2.out.2.2.below hb)))
  clear hb c0 c1 c2 c3 e0 e1 e2 e3
  obtain ⟨⟨c0, c1, c2, c3⟩, _⟩ := C3.out.2.1.s4
  obtain ⟨⟨e0, e1, e2, e3⟩, _⟩ := C3.out.2.2.s4
  go_wp2_with fail
  refine (awake_s _ (HG.out.keep C3.out.1)).mono ?_
  rintro e w4 ⟨rfl, hb⟩
  have C4 := Lib.hid (And.intro (step0 C3.out.1 hb) (And.intro (C3.out.2.1.below hb) (C3.out.2.2.below hb)))
  clear hb c0 c1 c2 c3 e0 e1 e2 e3
  obtain ⟨⟨c0, c1, c2, c3⟩, _⟩ := C4.out.2.1.s4
  obtain ⟨⟨e0, e1, e2, e3⟩, _⟩ := C4.out.2.2.s4
  go_wp2
  go_ret
  exact ⟨rfl, C4.out.1⟩

set_option maxRecDepth 1000000 in
set_option maxHeartbeats 8000000 in
theorem sheetMerges_n4 (nm : Nm.S) (ks : Int) (cs : List C) (za : List LV) (nm2 : Nm.S) (ks2 : Int) (cs2 : List C) (zb : List LV) (ao la bo lb : Option Addr) (cap ca cap2 cb : Nat) (w : World) (hg : Env w) (hT : At3 w ⟨nm, ks, cs⟩ ao cap) (hL : LS w za la ca) (hT2 : At3 w ⟨nm2, ks2, cs2⟩ bo cap2) (hL2 : LS w zb lb cb) (hf : Sf ⟨nm, ks, cs⟩ za) (hf2 : Sf ⟨nm2, ks2, cs2⟩ zb) (hr : Ris (lls za)) (hr2 : ¬ Ris (lls zb)) :
    Calls Tryd.prog 4 #[.agg #[.string ⟨nm.toArray⟩, .int .i64 ks, .slice ao cs.length cap, .slice la za.length ca], .agg #[.string ⟨nm2.toArray⟩, .int .i64 ks2, .slice bo cs2.length cap2, .slice lb zb.length cb]] w fun e w' => e = .returned (.bool true) ∧ Below w.heap.size w w' := by
  have HG := Lib.hid hg
  have H := Lib.hid (And.intro hT (And.intro hL (And.intro hT2 hL2)))
  clear hg hT hL hT2 hL2
  have F := Lib.hid (And.intro hf (And.intro hf2 (And.intro hr hr2)))
  clear hf hf2 hr hr2
  obtain ⟨W1, hW1⟩ : ∃ W1, (w.alloc (.cells #[.string ⟨nm.toArray⟩, .int .i64 ks, .slice ao cs.length cap, .slice la za.length ca] 27)).alloc (.cells #[.string ⟨nm2.toArray⟩, .int .i64 ks2, .slice bo cs2.length cap2, .slice lb zb.length cb] 27) = W1 := ⟨_, rfl⟩
  have p0 : Blk W1 w.heap.size #[.string ⟨nm.toArray⟩, .int .i64 ks, .slice ao cs.length cap, .slice la za.length ca] 27 := hW1 ▸ (Blk.new w _ _).alloc _
  have p1 : Blk W1 (w.heap.size + 1) #[.string ⟨nm2.toArray⟩, .int .i64 ks2, .slice bo cs2.length cap2, .slice lb zb.length cb] 27 := by have := Blk.new (w.alloc (.cells #[.string ⟨nm.toArray⟩, .int .i64 ks, .slice ao cs.length cap, .slice la za.length ca] 27)) #[.string ⟨nm2.toArray⟩, .int .i64 ks2, .slice bo cs2.length cap2, .slice lb zb.length cb] 27; rw [hW1] at this; simpa using this
  have C0 := Lib.hid (And.intro (hW1 ▸ below2s w _ _ : Below w.heap.size w W1) (And.intro p0 p1))
  clear p0 p1
  obtain ⟨⟨c0, c1, c2, c3⟩, _⟩ := C0.out.2.1.s4
  obtain ⟨⟨e0, e1, e2, e3⟩, _⟩ := C0.out.2.2.s4
  go_enter Tryd.func4, Tryd.ntmps4
  go_wp2_with fail
  refine (sfew_yes nm ks cs za ao la cap ca _ (H.out.1.1.below C0.out.1) (H.out.2.1.below C0.out.1) F.out.1).mono ?_
  rintro e w1 ⟨rfl, hb⟩
  have C1 := Lib.hid (And.intro (step0 C0.out.1 hb) (And.intro (C0.out.2.1.below hb) (C0.out.2.2.below hb)))
  clear hb c0 c1 c2 c3 e0 e1 e2 e3 hW1
  obtain ⟨⟨c0, c1, c2, c3⟩, _⟩ := C1.out.2.1.s4
  obtain ⟨⟨e0, e1, e2, e3⟩, _⟩ := C1.out.2.2.s4
  go_wp2_with fail
  refine (sfew_yes nm2 ks2 cs2 zb bo lb cap2 cb _ (H.out.2.2.1.1.below C1.out.1) (H.out.2.2.2.below C1.out.1) F.out.2.1).mono ?_
  rintro e w2 ⟨rfl, hb⟩
  have C2 := Lib.hid (And.intro (step0 C1.out.1 hb) (And.intro (C1.out.2.1.below hb) (C1.out.2.2.below hb)))
  clear hb c0 c1 c2 c3 e0 e1 e2 e3
  obtain ⟨⟨c0, c1, c2, c3⟩, _⟩ := C2.out.2.1.s4
  obtain ⟨⟨e0, e1, e2, e3⟩, _⟩ := C2.out.2.2.s4
  go_wp2_with fail
  refine (rises_yes nm ks cs za ao la cap ca _ (H.out.2.1.1.below C2.out.1) (by have := F.out.1.2.1; omega) F.out.2.2.1).mono ?_
  rintro e w3 ⟨rfl, hb⟩
  have C3 := Lib.hid (And.intro (step0 C2.out.1 hb) (And.intro (C2.out.2.1.below hb) (C2.out.2.2.below hb)))
  clear hb c0 c1 c2 c3 e0 e1 e2 e3
  obtain ⟨⟨c0, c1, c2, c3⟩, _⟩ := C3.out.2.1.s4
  obtain ⟨⟨e0, e1, e2, e3⟩, _⟩ := C3.out.2.2.s4
  go_wp2_with fail
  refine (rises_no nm2 ks2 cs2 zb bo lb cap2 cb _ (H.out.2.2.2.1.below C3.out.1) (by have := F.out.2.1.2.1; omega) F.out.2.2.2).mono ?_
  rintro e w4 ⟨rfl, hb⟩
  have C4 := Lib.hid (And.intro (step0 C3.out.1 hb) (And.intro (C3.out.2.1.below hb) (C3.out.2.2.below hb)))
  clear hb c0 c1 c2 c3 e0 e1 e2 e3
  obtain ⟨⟨c0, c1, c2, c3⟩, _⟩ := C4.out.2.1.s4
  obtain ⟨⟨e0, e1, e2, e3⟩, _⟩ := C4.out.2.2.s4
  go_wp2_with fail
  refine (awake_s _ (HG.out.keep C4.out.1)).mono ?_
  rintro e w5 ⟨rfl, hb⟩
  have C5 := Lib.hid (And.intro (step0 C4.out.1 hb) (And.intro (C4.out.2.1.below hb) (C4.out.2.2.below hb)))
  clear hb c0 c1 c2 c3 e0 e1 e2 e3
  obtain ⟨⟨c0, c1, c2, c3⟩, _⟩ := C5.out.2.1.s4
  obtain ⟨⟨e0, e1, e2, e3⟩, _⟩ := C5.out.2.2.s4
  go_wp2
  go_ret
  exact ⟨rfl, C5.out.1⟩

set_option maxRecDepth 1000000 in
set_option maxHeartbeats 8000000 in
theorem sheetMerges_main_ok (nm : Nm.S) (ks : Int) (cs : List C) (za : List LV) (nm2 : Nm.S) (ks2 : Int) (cs2 : List C) (zb : List LV) (ao la bo lb : Option Addr) (cap ca cap2 cb : Nat) (w : World) (hg : Env w) (hT : At3 w ⟨nm, ks, cs⟩ ao cap) (hL : LS w za la ca) (hT2 : At3 w ⟨nm2, ks2, cs2⟩ bo cap2) (hL2 : LS w zb lb cb) (hf : Sf ⟨nm, ks, cs⟩ za) (hf2 : Sf ⟨nm2, ks2, cs2⟩ zb) (hr : Ris (lls za)) (hr2 : Ris (lls zb)) (M : List L) (hM : mrg (lls za) (lls zb) = (M, 0)) :
    Calls Tryd.prog 4 #[.agg #[.string ⟨nm.toArray⟩, .int .i64 ks, .slice ao cs.length cap, .slice la za.length ca], .agg #[.string ⟨nm2.toArray⟩, .int .i64 ks2, .slice bo cs2.length cap2, .slice lb zb.length cb]] w fun e w' => e = .returned (.bool true) ∧ Below w.heap.size w w' := by
  have HG := Lib.hid hg
  have H := Lib.hid (And.intro hT (And.intro hL (And.intro hT2 hL2)))
  clear hg hT hL hT2 hL2
  have hsum : (M.length : Int) = (za.length : Int) + (zb.length : Int) := by
    rcases mrg_ok _ _ _ (Nat.le_refl _) hr hr2 with ⟨_, hp, _⟩ | ⟨h, _⟩
    · rw [hM] at hp
      have := hp.length_eq
      rw [List.length_append, lls_len, lls_len] at this
      show ((M : List L).length : Int) = _
      have h2 : M.length = za.length + zb.length := this
      omega
    · rw [hM] at h; cases h
  have P : M.length ≤ 100 ∧ (∀ l ∈ M, l.r.length ≤ 30) ∧ Ris M := by
    rcases mrg_ok _ _ _ (Nat.le_refl _) hr hr2 with ⟨_, hp, hq, _⟩ | ⟨h, _⟩
    · rw [hM] at hp hq
      refine ⟨by have := hf.2.1; have := hf2.2.1; omega, fun l hl => ?_, hq⟩
      rcases List.mem_append.1 (hp.mem_iff.1 hl) with h | h
      · obtain ⟨z, hz, rfl⟩ := List.mem_map.1 h
        exact (hf.2.2 z hz).2.1
      · obtain ⟨z, hz, rfl⟩ := List.mem_map.1 h
        exact (hf2.2.2 z hz).2.1
    · rw [hM] at h; cases h
  have hsa : za.length < 4611686018427387904 := by have := hf.2.1; omega
  have hsb : zb.length < 4611686018427387904 := by have := hf2.2.1; omega
  have hs1 : ((M.length : Int) == (za.length : Int) + (zb.length : Int)) = true := by rw [hsum]; simp
  have G := Lib.hid (And.intro hM (And.intro (show M.length ≤ 100 from P.1) (And.intro (show ∀ l ∈ M, l.r.length ≤ 30 from P.2.1) (show Ris M from P.2.2))))
  clear hM P hsum
  have F := Lib.hid (And.intro hf (And.intro hf2 (And.intro hr hr2)))
  clear hf hf2 hr hr2
  obtain ⟨W1, hW1⟩ : ∃ W1, (w.alloc (.cells #[.string ⟨nm.toArray⟩, .int .i64 ks, .slice ao cs.length cap, .slice la za.length ca] 27)).alloc (.cells #[.string ⟨nm2.toArray⟩, .int .i64 ks2, .slice bo cs2.length cap2, .slice lb zb.length cb] 27) = W1 := ⟨_, rfl⟩
  have p0 : Blk W1 w.heap.size #[.string ⟨nm.toArray⟩, .int .i64 ks, .slice ao cs.length cap, .slice la za.length ca] 27 := hW1 ▸ (Blk.new w _ _).alloc _
  have p1 : Blk W1 (w.heap.size + 1) #[.string ⟨nm2.toArray⟩, .int .i64 ks2, .slice bo cs2.length cap2, .slice lb zb.length cb] 27 := by have := Blk.new (w.alloc (.cells #[.string ⟨nm.toArray⟩, .int .i64 ks, .slice ao cs.length cap, .slice la za.length ca] 27)) #[.string ⟨nm2.toArray⟩, .int .i64 ks2, .slice bo cs2.length cap2, .slice lb zb.length cb] 27; rw [hW1] at this; simpa using this
  have C0 := Lib.hid (And.intro (hW1 ▸ below2s w _ _ : Below w.heap.size w W1) (And.intro p0 p1))
  clear p0 p1
  obtain ⟨⟨c0, c1, c2, c3⟩, _⟩ := C0.out.2.1.s4
  obtain ⟨⟨e0, e1, e2, e3⟩, _⟩ := C0.out.2.2.s4
  go_enter Tryd.func4, Tryd.ntmps4
  go_wp2_with fail
  refine (sfew_yes nm ks cs za ao la cap ca _ (H.out.1.1.below C0.out.1) (H.out.2.1.below C0.out.1) F.out.1).mono ?_
  rintro e w1 ⟨rfl, hb⟩
  have C1 := Lib.hid (And.intro (step0 C0.out.1 hb) (And.intro (C0.out.2.1.below hb) (C0.out.2.2.below hb)))
  clear hb c0 c1 c2 c3 e0 e1 e2 e3 hW1
  obtain ⟨⟨c0, c1, c2, c3⟩, _⟩ := C1.out.2.1.s4
  obtain ⟨⟨e0, e1, e2, e3⟩, _⟩ := C1.out.2.2.s4
  go_wp2_with fail
  refine (sfew_yes nm2 ks2 cs2 zb bo lb cap2 cb _ (H.out.2.2.1.1.below C1.out.1) (H.out.2.2.2.below C1.out.1) F.out.2.1).mono ?_
  rintro e w2 ⟨rfl, hb⟩
  have C2 := Lib.hid (And.intro (step0 C1.out.1 hb) (And.intro (C1.out.2.1.below hb) (C1.out.2.2.below hb)))
  clear hb c0 c1 c2 c3 e0 e1 e2 e3
  obtain ⟨⟨c0, c1, c2, c3⟩, _⟩ := C2.out.2.1.s4
  obtain ⟨⟨e0, e1, e2, e3⟩, _⟩ := C2.out.2.2.s4
  go_wp2_with fail
  refine (rises_yes nm ks cs za ao la cap ca _ (H.out.2.1.1.below C2.out.1) (by have := F.out.1.2.1; omega) F.out.2.2.1).mono ?_
  rintro e w3 ⟨rfl, hb⟩
  have C3 := Lib.hid (And.intro (step0 C2.out.1 hb) (And.intro (C2.out.2.1.below hb) (C2.out.2.2.below hb)))
  clear hb c0 c1 c2 c3 e0 e1 e2 e3
  obtain ⟨⟨c0, c1, c2, c3⟩, _⟩ := C3.out.2.1.s4
  obtain ⟨⟨e0, e1, e2, e3⟩, _⟩ := C3.out.2.2.s4
  go_wp2_with fail
  refine (rises_yes nm2 ks2 cs2 zb bo lb cap2 cb _ (H.out.2.2.2.1.below C3.out.1) (by have := F.out.2.1.2.1; omega) F.out.2.2.2).mono ?_
  rintro e w4 ⟨rfl, hb⟩
  have C4 := Lib.hid (And.intro (step0 C3.out.1 hb) (And.intro (C3.out.2.1.below hb) (C3.out.2.2.below hb)))
  clear hb c0 c1 c2 c3 e0 e1 e2 e3
  obtain ⟨⟨c0, c1, c2, c3⟩, _⟩ := C4.out.2.1.s4
  obtain ⟨⟨e0, e1, e2, e3⟩, _⟩ := C4.out.2.2.s4
  go_wp2_with fail
  refine (merge_is nm nm2 ks ks2 cs cs2 za zb ao bo la lb cap cap2 ca cb _ (H.out.2.1.below C4.out.1) (H.out.2.2.2.below C4.out.1) (by have := F.out.1.2.1; omega) (by have := F.out.2.1.2.1; omega) (fun z hz => (F.out.1.2.2 z hz).2.1) (fun z hz => (F.out.2.1.2.2 z hz).2.1) (M, 0) G.out.1).mono ?_
  rintro e w5 ⟨o5, k5, y5, rfl, q1, q2, hb⟩
  have C5 := Lib.hid (And.intro (step0 C4.out.1 hb) (And.intro (C4.out.2.1.below hb) (C4.out.2.2.below hb)))
  have Y5 := Lib.hid (And.intro q1 (show lls y5 = M from q2))
  clear q1 q2
  clear hb c0 c1 c2 c3 e0 e1 e2 e3
  obtain ⟨⟨c0, c1, c2, c3⟩, _⟩ := C5.out.2.1.s4
  obtain ⟨⟨e0, e1, e2, e3⟩, _⟩ := C5.out.2.2.s4
  go_wp2_with fail
  refine (rmerge_s nm nm2 ks ks2 cs cs2 za zb ao bo la lb cap cap2 ca cb _ (H.out.2.1.below C5.out.1) (H.out.2.2.2.below C5.out.1) (by have := F.out.1.2.1; omega) (by have := F.out.2.1.2.1; omega) (M, 0) G.out.1).mono ?_
  rintro e w6 ⟨o6, k6, y6, rfl, q1, q2, hb⟩
  have C6 := Lib.hid (And.intro (step0 C5.out.1 hb) (And.intro (C5.out.2.1.below hb) (C5.out.2.2.below hb)))
  have Y6 := Lib.hid (And.intro (Y5.out.1.below hb) (And.intro q1 (show lls y6 = M from q2)))
  clear q1 q2
  clear hb c0 c1 c2 c3 e0 e1 e2 e3
  obtain ⟨⟨c0, c1, c2, c3⟩, _⟩ := C6.out.2.1.s4
  obtain ⟨⟨e0, e1, e2, e3⟩, _⟩ := C6.out.2.2.s4
  have n5 : y5.length = M.length := by have h := congrArg List.length Y5.out.2; rw [lls_len] at h; exact h
  have n6 : y6.length = M.length := by have h := congrArg List.length Y6.out.2.2; rw [lls_len] at h; exact h
  rw [n5, n6]
  have N := Lib.hid (And.intro n5 n6)
  clear n5 n6
  go_wp2_with fail
  refine (sameLines_s y5 y6 M.length o5 o6 k5 k6 _ N.out.1 N.out.2 (by rw [N.out.1]; have := G.out.2.1; omega) Y6.out.1 Y6.out.2.1 (fun x hx => by
      have h := List.mem_map_of_mem (f := LV.l) hx
      have e : x.l ∈ M := by rw [← Y5.out.2]; exact h
      have := G.out.2.2.1 _ e
      show x.l.r.length ≤ 1000000
      omega) (Y5.out.2.trans Y6.out.2.2.symm)).mono ?_
  rintro e w7 ⟨rfl, hb⟩
  have C7 := Lib.hid (And.intro (step0 C6.out.1 hb) (And.intro (C6.out.2.1.below hb) (C6.out.2.2.below hb)))
  have Y7 := Lib.hid (Y6.out.1.below hb)
  clear hb c0 c1 c2 c3 e0 e1 e2 e3
  obtain ⟨⟨c0, c1, c2, c3⟩, _⟩ := C7.out.2.1.s4
  obtain ⟨⟨e0, e1, e2, e3⟩, _⟩ := C7.out.2.2.s4
  have hR := rises_yes [] 0 [] y5 none o5 0 k5 w7 Y7.out.1 (by rw [N.out.1]; have := G.out.2.1; omega) (by rw [Y5.out.2]; exact G.out.2.2.2)
  rw [N.out.1] at hR
  have RR := Lib.hid hR
  clear hR
  go_wp2_with fail
  refine (RR.out).mono ?_
  rintro e w8 ⟨rfl, hb⟩
  have C8 := Lib.hid (And.intro (step0 C7.out.1 hb) (And.intro (C7.out.2.1.below hb) (C7.out.2.2.below hb)))
  clear hb c0 c1 c2 c3 e0 e1 e2 e3
  obtain ⟨⟨c0, c1, c2, c3⟩, _⟩ := C8.out.2.1.s4
  obtain ⟨⟨e0, e1, e2, e3⟩, _⟩ := C8.out.2.2.s4
  go_wp2_with fail
  refine (awake_s _ (HG.out.keep C8.out.1)).mono ?_
  rintro e w9 ⟨rfl, hb⟩
  have C9 := Lib.hid (And.intro (step0 C8.out.1 hb) (And.intro (C8.out.2.1.below hb) (C8.out.2.2.below hb)))
  clear hb c0 c1 c2 c3 e0 e1 e2 e3
  obtain ⟨⟨c0, c1, c2, c3⟩, _⟩ := C9.out.2.1.s4
  obtain ⟨⟨e0, e1, e2, e3⟩, _⟩ := C9.out.2.2.s4
  go_wp2
  go_ret
  exact ⟨rfl, C9.out.1⟩

set_option maxRecDepth 1000000 in
set_option maxHeartbeats 8000000 in
theorem sheetMerges_main_no (nm : Nm.S) (ks : Int) (cs : List C) (za : List LV) (nm2 : Nm.S) (ks2 : Int) (cs2 : List C) (zb : List LV) (ao la bo lb : Option Addr) (cap ca cap2 cb : Nat) (w : World) (hg : Env w) (hT : At3 w ⟨nm, ks, cs⟩ ao cap) (hL : LS w za la ca) (hT2 : At3 w ⟨nm2, ks2, cs2⟩ bo cap2) (hL2 : LS w zb lb cb) (hf : Sf ⟨nm, ks, cs⟩ za) (hf2 : Sf ⟨nm2, ks2, cs2⟩ zb) (hr : Ris (lls za)) (hr2 : Ris (lls zb)) (M : List L) (hM : mrg (lls za) (lls zb) = (M, 15)) :
    Calls Tryd.prog 4 #[.agg #[.string ⟨nm.toArray⟩, .int .i64 ks, .slice ao cs.length cap, .slice la za.length ca], .agg #[.string ⟨nm2.toArray⟩, .int .i64 ks2, .slice bo cs2.length cap2, .slice lb zb.length cb]] w fun e w' => e = .returned (.bool true) ∧ Below w.heap.size w w' := by
  have HG := Lib.hid hg
  have H := Lib.hid (And.intro hT (And.intro hL (And.intro hT2 hL2)))
  clear hg hT hL hT2 hL2
  obtain rfl : M = [] := by
    rcases mrg_shape _ (lls za) (lls zb) (Nat.le_refl _) with h | h
    · rw [hM] at h; cases h
    · rw [hM] at h; cases h; rfl
  have P : ([] : List L).length ≤ 100 ∧ (∀ l ∈ ([] : List L), l.r.length ≤ 30) := ⟨by simp, fun l hl => by simp at hl⟩
  have G := Lib.hid (And.intro hM (And.intro (show ([] : List L).length ≤ 100 from P.1) (And.intro (show ∀ l ∈ ([] : List L), l.r.length ≤ 30 from P.2) trivial)))
  clear hM P
  have F := Lib.hid (And.intro hf (And.intro hf2 (And.intro hr hr2)))
  clear hf hf2 hr hr2
  obtain ⟨W1, hW1⟩ : ∃ W1, (w.alloc (.cells #[.string ⟨nm.toArray⟩, .int .i64 ks, .slice ao cs.length cap, .slice la za.length ca] 27)).alloc (.cells #[.string ⟨nm2.toArray⟩, .int .i64 ks2, .slice bo cs2.length cap2, .slice lb zb.length cb] 27) = W1 := ⟨_, rfl⟩
  have p0 : Blk W1 w.heap.size #[.string ⟨nm.toArray⟩, .int .i64 ks, .slice ao cs.length cap, .slice la za.length ca] 27 := hW1 ▸ (Blk.new w _ _).alloc _
  have p1 : Blk W1 (w.heap.size + 1) #[.string ⟨nm2.toArray⟩, .int .i64 ks2, .slice bo cs2.length cap2, .slice lb zb.length cb] 27 := by have := Blk.new (w.alloc (.cells #[.string ⟨nm.toArray⟩, .int .i64 ks, .slice ao cs.length cap, .slice la za.length ca] 27)) #[.string ⟨nm2.toArray⟩, .int .i64 ks2, .slice bo cs2.length cap2, .slice lb zb.length cb] 27; rw [hW1] at this; simpa using this
  have C0 := Lib.hid (And.intro (hW1 ▸ below2s w _ _ : Below w.heap.size w W1) (And.intro p0 p1))
  clear p0 p1
  obtain ⟨⟨c0, c1, c2, c3⟩, _⟩ := C0.out.2.1.s4
  obtain ⟨⟨e0, e1, e2, e3⟩, _⟩ := C0.out.2.2.s4
  go_enter Tryd.func4, Tryd.ntmps4
  go_wp2_with fail
  refine (sfew_yes nm ks cs za ao la cap ca _ (H.out.1.1.below C0.out.1) (H.out.2.1.below C0.out.1) F.out.1).mono ?_
  rintro e w1 ⟨rfl, hb⟩
  have C1 := Lib.hid (And.intro (step0 C0.out.1 hb) (And.intro (C0.out.2.1.below hb) (C0.out.2.2.below hb)))
  clear hb c0 c1 c2 c3 e0 e1 e2 e3 hW1
  obtain ⟨⟨c0, c1, c2, c3⟩, _⟩ := C1.out.2.1.s4
  obtain ⟨⟨e0, e1, e2, e3⟩, _⟩ := C1.out.2.2.s4
  go_wp2_with fail
  refine (sfew_yes nm2 ks2 cs2 zb bo lb cap2 cb _ (H.out.2.2.1.1.below C1.out.1) (H.out.2.2.2.below C1.out.1) F.out.2.1).mono ?_
  rintro e w2 ⟨rfl, hb⟩
  have C2 := Lib.hid (And.intro (step0 C1.out.1 hb) (And.intro (C1.out.2.1.below hb) (C1.out.2.2.below hb)))
  clear hb c0 c1 c2 c3 e0 e1 e2 e3
  obtain ⟨⟨c0, c1, c2, c3⟩, _⟩ := C2.out.2.1.s4
  obtain ⟨⟨e0, e1, e2, e3⟩, _⟩ := C2.out.2.2.s4
  go_wp2_with fail
  refine (rises_yes nm ks cs za ao la cap ca _ (H.out.2.1.1.below C2.out.1) (by have := F.out.1.2.1; omega) F.out.2.2.1).mono ?_
  rintro e w3 ⟨rfl, hb⟩
  have C3 := Lib.hid (And.intro (step0 C2.out.1 hb) (And.intro (C2.out.2.1.below hb) (C2.out.2.2.below hb)))
  clear hb c0 c1 c2 c3 e0 e1 e2 e3
  obtain ⟨⟨c0, c1, c2, c3⟩, _⟩ := C3.out.2.1.s4
  obtain ⟨⟨e0, e1, e2, e3⟩, _⟩ := C3.out.2.2.s4
  go_wp2_with fail
  refine (rises_yes nm2 ks2 cs2 zb bo lb cap2 cb _ (H.out.2.2.2.1.below C3.out.1) (by have := F.out.2.1.2.1; omega) F.out.2.2.2).mono ?_
  rintro e w4 ⟨rfl, hb⟩
  have C4 := Lib.hid (And.intro (step0 C3.out.1 hb) (And.intro (C3.out.2.1.below hb) (C3.out.2.2.below hb)))
  clear hb c0 c1 c2 c3 e0 e1 e2 e3
  obtain ⟨⟨c0, c1, c2, c3⟩, _⟩ := C4.out.2.1.s4
  obtain ⟨⟨e0, e1, e2, e3⟩, _⟩ := C4.out.2.2.s4
  go_wp2_with fail
  refine (merge_is nm nm2 ks ks2 cs cs2 za zb ao bo la lb cap cap2 ca cb _ (H.out.2.1.below C4.out.1) (H.out.2.2.2.below C4.out.1) (by have := F.out.1.2.1; omega) (by have := F.out.2.1.2.1; omega) (fun z hz => (F.out.1.2.2 z hz).2.1) (fun z hz => (F.out.2.1.2.2 z hz).2.1) ([], 15) G.out.1).mono ?_
  rintro e w5 ⟨o5, k5, y5, rfl, q1, q2, hb⟩
  have C5 := Lib.hid (And.intro (step0 C4.out.1 hb) (And.intro (C4.out.2.1.below hb) (C4.out.2.2.below hb)))
  have Y5 := Lib.hid (And.intro q1 (show lls y5 = ([] : List L) from q2))
  clear q1 q2
  clear hb c0 c1 c2 c3 e0 e1 e2 e3
  obtain ⟨⟨c0, c1, c2, c3⟩, _⟩ := C5.out.2.1.s4
  obtain ⟨⟨e0, e1, e2, e3⟩, _⟩ := C5.out.2.2.s4
  go_wp2_with fail
  refine (rmerge_s nm nm2 ks ks2 cs cs2 za zb ao bo la lb cap cap2 ca cb _ (H.out.2.1.below C5.out.1) (H.out.2.2.2.below C5.out.1) (by have := F.out.1.2.1; omega) (by have := F.out.2.1.2.1; omega) ([], 15) G.out.1).mono ?_
  rintro e w6 ⟨o6, k6, y6, rfl, q1, q2, hb⟩
  have C6 := Lib.hid (And.intro (step0 C5.out.1 hb) (And.intro (C5.out.2.1.below hb) (C5.out.2.2.below hb)))
  have Y6 := Lib.hid (And.intro (Y5.out.1.below hb) (And.intro q1 (show lls y6 = ([] : List L) from q2)))
  clear q1 q2
  clear hb c0 c1 c2 c3 e0 e1 e2 e3
  obtain ⟨⟨c0, c1, c2, c3⟩, _⟩ := C6.out.2.1.s4
  obtain ⟨⟨e0, e1, e2, e3⟩, _⟩ := C6.out.2.2.s4
  have n5 : y5.length = 0 := by have h := congrArg List.length Y5.out.2; rw [lls_len] at h; exact h
  have n6 : y6.length = 0 := by have h := congrArg List.length Y6.out.2.2; rw [lls_len] at h; exact h
  rw [n5, n6]
  have N := Lib.hid (And.intro n5 n6)
  clear n5 n6
  go_wp2_with fail
  refine (sameLines_s y5 y6 0 o5 o6 k5 k6 _ N.out.1 N.out.2 (by rw [N.out.1]; have := G.out.2.1; omega) Y6.out.1 Y6.out.2.1 (fun x hx => by
      have h := List.mem_map_of_mem (f := LV.l) hx
      have e : x.l ∈ ([] : List L) := by rw [← Y5.out.2]; exact h
      have := G.out.2.2.1 _ e
      show x.l.r.length ≤ 1000000
      omega) (Y5.out.2.trans Y6.out.2.2.symm)).mono ?_
  rintro e w7 ⟨rfl, hb⟩
  have C7 := Lib.hid (And.intro (step0 C6.out.1 hb) (And.intro (C6.out.2.1.below hb) (C6.out.2.2.below hb)))
  clear hb c0 c1 c2 c3 e0 e1 e2 e3
  obtain ⟨⟨c0, c1, c2, c3⟩, _⟩ := C7.out.2.1.s4
  obtain ⟨⟨e0, e1, e2, e3⟩, _⟩ := C7.out.2.2.s4
  go_wp2_with fail
  refine (awake_s _ (HG.out.keep C7.out.1)).mono ?_
  rintro e w8 ⟨rfl, hb⟩
  have C8 := Lib.hid (And.intro (step0 C7.out.1 hb) (And.intro (C7.out.2.1.below hb) (C7.out.2.2.below hb)))
  clear hb c0 c1 c2 c3 e0 e1 e2 e3
  obtain ⟨⟨c0, c1, c2, c3⟩, _⟩ := C8.out.2.1.s4
  obtain ⟨⟨e0, e1, e2, e3⟩, _⟩ := C8.out.2.2.s4
  go_wp2
  go_ret
  exact ⟨rfl, C8.out.1⟩


theorem sheetMerges_walk (nm : Nm.S) (ks : Int) (cs : List C) (za : List LV) (nm2 : Nm.S) (ks2 : Int) (cs2 : List C) (zb : List LV) (ao la bo lb : Option Addr) (cap ca cap2 cb : Nat) (w : World) (hg : Env w) (hT : At3 w ⟨nm, ks, cs⟩ ao cap) (hL : LS w za la ca) (hT2 : At3 w ⟨nm2, ks2, cs2⟩ bo cap2) (hL2 : LS w zb lb cb) :
    Calls Tryd.prog 4 #[.agg #[.string ⟨nm.toArray⟩, .int .i64 ks, .slice ao cs.length cap, .slice la za.length ca], .agg #[.string ⟨nm2.toArray⟩, .int .i64 ks2, .slice bo cs2.length cap2, .slice lb zb.length cb]] w fun e w' => e = .returned (.bool true) ∧ Below w.heap.size w w' := by
  by_cases hf : Sf ⟨nm, ks, cs⟩ za
  case neg => exact sheetMerges_n1 nm ks cs za nm2 ks2 cs2 zb ao la bo lb cap ca cap2 cb w hg hT hL hT2 hL2 hf
  by_cases hf2 : Sf ⟨nm2, ks2, cs2⟩ zb
  case neg => exact sheetMerges_n2 nm ks cs za nm2 ks2 cs2 zb ao la bo lb cap ca cap2 cb w hg hT hL hT2 hL2 hf hf2
  by_cases hr : Ris (lls za)
  case neg => exact sheetMerges_n3 nm ks cs za nm2 ks2 cs2 zb ao la bo lb cap ca cap2 cb w hg hT hL hT2 hL2 hf hf2 hr
  by_cases hr2 : Ris (lls zb)
  case neg => exact sheetMerges_n4 nm ks cs za nm2 ks2 cs2 zb ao la bo lb cap ca cap2 cb w hg hT hL hT2 hL2 hf hf2 hr hr2
  rcases mrg_shape _ (lls za) (lls zb) (Nat.le_refl _) with h | h
  · exact sheetMerges_main_ok nm ks cs za nm2 ks2 cs2 zb ao la bo lb cap ca cap2 cb w hg hT hL hT2 hL2 hf hf2 hr hr2 (mrg (lls za) (lls zb)).1 (by rw [← h])
  · exact sheetMerges_main_no nm ks cs za nm2 ks2 cs2 zb ao la bo lb cap ca cap2 cb w hg hT hL hT2 hL2 hf hf2 hr hr2 [] h

end Go.Proofs.YtfgakoldedpfoaaDoor
