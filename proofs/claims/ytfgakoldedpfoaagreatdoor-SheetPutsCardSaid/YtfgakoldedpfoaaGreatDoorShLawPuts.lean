/-
  The walk of law SheetPuts. Condition: the library's variable errors.errorType holds the handle of the type error.
-/
import Derived.Test.YtfgakoldedpfoaaGreatDoorShLaws
import Derived.Test.YtfgakoldedpfoaaGreatDoorShAwake
import Derived.Test.YtfgakoldedpfoaaGreatDoorShFew
namespace Go.Proofs.YtfgakoldedpfoaaGreatDoor
open Go.RowKit
set_option linter.unusedVariables false
set_option linter.unusedSimpArgs false

set_option maxRecDepth 1000000 in
set_option maxHeartbeats 8000000 in
theorem sheetPuts_n1 (nm : Nm.S) (ks : Int) (cs : List C) (zs : List LV) (xs : List V) (key : Nm.S) (ao lo ro : Option Addr) (cap lc rc : Nat) (w : World) (hg : Env w) (hT : At3 w ⟨nm, ks, cs⟩ ao cap) (hL : LS w zs lo lc) (hx : Sl w ro xs) (hok : ∀ x ∈ xs, x.ok) (hrc : xs.length ≤ rc) (hro : ro = none → rc = 0) (hf : ¬ Sf ⟨nm, ks, cs⟩ zs) :
    Calls Tryz.prog 4 #[.agg #[.string ⟨nm.toArray⟩, .int .i64 ks, .slice ao cs.length cap, .slice lo zs.length lc], .slice ro xs.length rc, .string ⟨key.toArray⟩] w fun e w' => e = .returned (.bool true) ∧ Below w.heap.size w w' := by
  have HG := Lib.hid hg
  have H := Lib.hid (And.intro hT (And.intro hL (And.intro hx (And.intro hok (And.intro hrc hro)))))
  clear hg hT hL hx hok hrc hro
  have F := Lib.hid hf
  clear hf
  go_enter Tryz.func4, Tryz.ntmps4
  go_wp2_with fail
  refine (sfew_no nm ks cs zs ao lo cap lc _ (H.out.1.1.below (below1 _ _)) (H.out.2.1.below (below1 _ _)) F.out).mono ?_
  rintro e w1 ⟨rfl, hb⟩
  have C1 := Lib.hid (Blk.sh hb)
  clear hb
  obtain ⟨⟨c0, c1, c2, c3⟩, _⟩ := C1.out.2.s4
  go_wp2_with fail
  refine (awake_s _ (HG.out.keep C1.out.1)).mono ?_
  rintro e w2 ⟨rfl, hb⟩
  have hbx : Below w1.heap.size w1 w2 := hb
  have C2 := Lib.hid (And.intro (step0 C1.out.1 hbx) (C1.out.2.below hbx))
  clear hb hbx c0 c1 c2 c3
  obtain ⟨⟨c0, c1, c2, c3⟩, _⟩ := C2.out.2.s4
  go_wp2
  go_ret
  exact ⟨rfl, C2.out.1⟩

set_option maxRecDepth 1000000 in
set_option maxHeartbeats 8000000 in
theorem sheetPuts_n2 (nm : Nm.S) (ks : Int) (cs : List C) (zs : List LV) (xs : List V) (key : Nm.S) (ao lo ro : Option Addr) (cap lc rc : Nat) (w : World) (hg : Env w) (hT : At3 w ⟨nm, ks, cs⟩ ao cap) (hL : LS w zs lo lc) (hx : Sl w ro xs) (hok : ∀ x ∈ xs, x.ok) (hrc : xs.length ≤ rc) (hro : ro = none → rc = 0) (hf : Sf ⟨nm, ks, cs⟩ zs) (hr : ¬ Ris (lls zs)) :
    Calls Tryz.prog 4 #[.agg #[.string ⟨nm.toArray⟩, .int .i64 ks, .slice ao cs.length cap, .slice lo zs.length lc], .slice ro xs.length rc, .string ⟨key.toArray⟩] w fun e w' => e = .returned (.bool true) ∧ Below w.heap.size w w' := by
  have HG := Lib.hid hg
  have H := Lib.hid (And.intro hT (And.intro hL (And.intro hx (And.intro hok (And.intro hrc hro)))))
  clear hg hT hL hx hok hrc hro
  have F := Lib.hid (And.intro hf hr)
  clear hf hr
  go_enter Tryz.func4, Tryz.ntmps4
  go_wp2_with fail
  refine (sfew_yes nm ks cs zs ao lo cap lc _ (H.out.1.1.below (below1 _ _)) (H.out.2.1.below (below1 _ _)) F.out.1).mono ?_
  rintro e w1 ⟨rfl, hb⟩
  have C1 := Lib.hid (Blk.sh hb)
  clear hb
  obtain ⟨⟨c0, c1, c2, c3⟩, _⟩ := C1.out.2.s4
  go_wp2_with fail
  refine (rises_no nm ks cs zs ao lo cap lc _ (H.out.2.1.1.below C1.out.1) (by have := F.out.1.2.1; omega) F.out.2).mono ?_
  rintro e w2 ⟨rfl, hb⟩
  have hbx : Below w1.heap.size w1 w2 := hb
  have C2 := Lib.hid (And.intro (step0 C1.out.1 hbx) (C1.out.2.below hbx))
  clear hb hbx c0 c1 c2 c3
  obtain ⟨⟨c0, c1, c2, c3⟩, _⟩ := C2.out.2.s4
  go_wp2_with fail
  refine (awake_s _ (HG.out.keep C2.out.1)).mono ?_
  rintro e w3 ⟨rfl, hb⟩
  have hbx : Below w2.heap.size w2 w3 := hb
  have C3 := Lib.hid (And.intro (step0 C2.out.1 hbx) (C2.out.2.below hbx))
  clear hb hbx c0 c1 c2 c3
  obtain ⟨⟨c0, c1, c2, c3⟩, _⟩ := C3.out.2.s4
  go_wp2
  go_ret
  exact ⟨rfl, C3.out.1⟩

set_option maxRecDepth 1000000 in
set_option maxHeartbeats 8000000 in
theorem sheetPuts_n3 (nm : Nm.S) (ks : Int) (cs : List C) (zs : List LV) (xs : List V) (key : Nm.S) (ao lo ro : Option Addr) (cap lc rc : Nat) (w : World) (hg : Env w) (hT : At3 w ⟨nm, ks, cs⟩ ao cap) (hL : LS w zs lo lc) (hx : Sl w ro xs) (hok : ∀ x ∈ xs, x.ok) (hrc : xs.length ≤ rc) (hro : ro = none → rc = 0) (hf : Sf ⟨nm, ks, cs⟩ zs) (hr : Ris (lls zs)) (hv : ¬ Vf xs) :
    Calls Tryz.prog 4 #[.agg #[.string ⟨nm.toArray⟩, .int .i64 ks, .slice ao cs.length cap, .slice lo zs.length lc], .slice ro xs.length rc, .string ⟨key.toArray⟩] w fun e w' => e = .returned (.bool true) ∧ Below w.heap.size w w' := by
  have HG := Lib.hid hg
  have H := Lib.hid (And.intro hT (And.intro hL (And.intro hx (And.intro hok (And.intro hrc hro)))))
  clear hg hT hL hx hok hrc hro
  have F := Lib.hid (And.intro hf (And.intro hr hv))
  clear hf hr hv
  go_enter Tryz.func4, Tryz.ntmps4
  go_wp2_with fail
  refine (sfew_yes nm ks cs zs ao lo cap lc _ (H.out.1.1.below (below1 _ _)) (H.out.2.1.below (below1 _ _)) F.out.1).mono ?_
  rintro e w1 ⟨rfl, hb⟩
  have C1 := Lib.hid (Blk.sh hb)
  clear hb
  obtain ⟨⟨c0, c1, c2, c3⟩, _⟩ := C1.out.2.s4
  go_wp2_with fail
  refine (rises_yes nm ks cs zs ao lo cap lc _ (H.out.2.1.1.below C1.out.1) (by have := F.out.1.2.1; omega) F.out.2.1).mono ?_
  rintro e w2 ⟨rfl, hb⟩
  have hbx : Below w1.heap.size w1 w2 := hb
  have C2 := Lib.hid (And.intro (step0 C1.out.1 hbx) (C1.out.2.below hbx))
  clear hb hbx c0 c1 c2 c3
  obtain ⟨⟨c0, c1, c2, c3⟩, _⟩ := C2.out.2.s4
  go_wp2_with fail
  refine (few_no xs ro rc _ (H.out.2.2.1.below C2.out.1) F.out.2.2).mono ?_
  rintro e w3 ⟨rfl, hb⟩
  have hbx : Below w2.heap.size w2 w3 := hb
  have C3 := Lib.hid (And.intro (step0 C2.out.1 hbx) (C2.out.2.below hbx))
  clear hb hbx c0 c1 c2 c3
  obtain ⟨⟨c0, c1, c2, c3⟩, _⟩ := C3.out.2.s4
  go_wp2_with fail
  refine (awake_s _ (HG.out.keep C3.out.1)).mono ?_
  rintro e w4 ⟨rfl, hb⟩
  have hbx : Below w3.heap.size w3 w4 := hb
  have C4 := Lib.hid (And.intro (step0 C3.out.1 hbx) (C3.out.2.below hbx))
  clear hb hbx c0 c1 c2 c3
  obtain ⟨⟨c0, c1, c2, c3⟩, _⟩ := C4.out.2.s4
  go_wp2
  go_ret
  exact ⟨rfl, C4.out.1⟩

set_option maxRecDepth 1000000 in
set_option maxHeartbeats 8000000 in
theorem sheetPuts_n4 (nm : Nm.S) (ks : Int) (cs : List C) (zs : List LV) (xs : List V) (key : Nm.S) (ao lo ro : Option Addr) (cap lc rc : Nat) (w : World) (hg : Env w) (hT : At3 w ⟨nm, ks, cs⟩ ao cap) (hL : LS w zs lo lc) (hx : Sl w ro xs) (hok : ∀ x ∈ xs, x.ok) (hrc : xs.length ≤ rc) (hro : ro = none → rc = 0) (hf : Sf ⟨nm, ks, cs⟩ zs) (hr : Ris (lls zs)) (hv : Vf xs) (hk : (2000 : Int) < (key.length : Int)) :
    Calls Tryz.prog 4 #[.agg #[.string ⟨nm.toArray⟩, .int .i64 ks, .slice ao cs.length cap, .slice lo zs.length lc], .slice ro xs.length rc, .string ⟨key.toArray⟩] w fun e w' => e = .returned (.bool true) ∧ Below w.heap.size w w' := by
  have HG := Lib.hid hg
  have H := Lib.hid (And.intro hT (And.intro hL (And.intro hx (And.intro hok (And.intro hrc hro)))))
  clear hg hT hL hx hok hrc hro
  have F := Lib.hid (And.intro hf (And.intro hr hv))
  clear hf hr hv
  go_enter Tryz.func4, Tryz.ntmps4
  go_wp2_with fail
  refine (sfew_yes nm ks cs zs ao lo cap lc _ (H.out.1.1.below (below1 _ _)) (H.out.2.1.below (below1 _ _)) F.out.1).mono ?_
  rintro e w1 ⟨rfl, hb⟩
  have C1 := Lib.hid (Blk.sh hb)
  clear hb
  obtain ⟨⟨c0, c1, c2, c3⟩, _⟩ := C1.out.2.s4
  go_wp2_with fail
  refine (rises_yes nm ks cs zs ao lo cap lc _ (H.out.2.1.1.below C1.out.1) (by have := F.out.1.2.1; omega) F.out.2.1).mono ?_
  rintro e w2 ⟨rfl, hb⟩
  have hbx : Below w1.heap.size w1 w2 := hb
  have C2 := Lib.hid (And.intro (step0 C1.out.1 hbx) (C1.out.2.below hbx))
  clear hb hbx c0 c1 c2 c3
  obtain ⟨⟨c0, c1, c2, c3⟩, _⟩ := C2.out.2.s4
  go_wp2_with fail
  refine (few_yes xs ro rc _ (H.out.2.2.1.below C2.out.1) F.out.2.2.1 F.out.2.2.2).mono ?_
  rintro e w3 ⟨rfl, hb⟩
  have hbx : Below w2.heap.size w2 w3 := hb
  have C3 := Lib.hid (And.intro (step0 C2.out.1 hbx) (C2.out.2.below hbx))
  clear hb hbx c0 c1 c2 c3
  obtain ⟨⟨c0, c1, c2, c3⟩, _⟩ := C3.out.2.s4
  go_wp2_with fail
  refine (awake_s _ (HG.out.keep C3.out.1)).mono ?_
  rintro e w4 ⟨rfl, hb⟩
  have hbx : Below w3.heap.size w3 w4 := hb
  have C4 := Lib.hid (And.intro (step0 C3.out.1 hbx) (C3.out.2.below hbx))
  clear hb hbx c0 c1 c2 c3
  obtain ⟨⟨c0, c1, c2, c3⟩, _⟩ := C4.out.2.s4
  go_wp2
  go_ret
  exact ⟨rfl, C4.out.1⟩

set_option maxRecDepth 1000000 in
set_option maxHeartbeats 8000000 in
theorem sheetPuts_main (nm : Nm.S) (ks : Int) (cs : List C) (zs : List LV) (xs : List V) (key : Nm.S) (ao lo ro : Option Addr) (cap lc rc : Nat) (w : World) (hg : Env w) (hT : At3 w ⟨nm, ks, cs⟩ ao cap) (hL : LS w zs lo lc) (hx : Sl w ro xs) (hok : ∀ x ∈ xs, x.ok) (hrc : xs.length ≤ rc) (hro : ro = none → rc = 0) (hf : Sf ⟨nm, ks, cs⟩ zs) (hr : Ris (lls zs)) (hv : Vf xs) (hk : key.length ≤ 2000) :
    Calls Tryz.prog 4 #[.agg #[.string ⟨nm.toArray⟩, .int .i64 ks, .slice ao cs.length cap, .slice lo zs.length lc], .slice ro xs.length rc, .string ⟨key.toArray⟩] w fun e w' => e = .returned (.bool true) ∧ Below w.heap.size w w' := by
  have HG := Lib.hid hg
  have H := Lib.hid (And.intro hT (And.intro hL (And.intro hx (And.intro hok (And.intro hrc hro)))))
  clear hg hT hL hx hok hrc hro
  have hkl : decide ((2000 : Int) < (key.length : Int)) = false := by rw [decide_eq_false_iff_not]; omega
  obtain ⟨⟨R, b, E⟩, hP⟩ : ∃ R, ppt ⟨nm, ks, cs⟩ (lls zs) xs = R := ⟨_, rfl⟩
  obtain ⟨d, hd⟩ : ∃ d, isk (lls zs) key = d := ⟨_, rfl⟩
  obtain ⟨I, hI⟩ : ∃ I, fnd (lls zs) key = I := ⟨_, rfl⟩
  have h30 : ∀ l ∈ lls zs, l.r.length ≤ 30 := fun l hl => by
    obtain ⟨z, hz, rfl⟩ := List.mem_map.1 hl
    exact (hf.2.2 z hz).2.1
  have hlen : (lls zs).length ≤ 100 := by rw [lls_len]; have := hf.2.1; omega
  have L := Lib.hid (And.intro (ppt_len _ _ _ hP hlen h30 hv.1) (dell_len (key := key) hlen h30))
  have G := Lib.hid (And.intro (show Smal cs zs from ⟨by have h1 : cs.length ≤ 20 := hf.1.1; omega, by have := hf.2.1; omega, fun z hz => (hf.2.2 z hz).2.1⟩) (And.intro hP (And.intro hd hI)))
  have F := Lib.hid (And.intro hf (And.intro hr (And.intro hv hk)))
  clear hf hr hv hk hP hd hI h30 hlen
  go_enter Tryz.func4, Tryz.ntmps4
  go_wp2_with fail
  refine (sfew_yes nm ks cs zs ao lo cap lc _ (H.out.1.1.below (below1 _ _)) (H.out.2.1.below (below1 _ _)) F.out.1).mono ?_
  rintro e w1 ⟨rfl, hb⟩
  have C1 := Lib.hid (Blk.sh hb)
  clear hb
  obtain ⟨⟨c0, c1, c2, c3⟩, _⟩ := C1.out.2.s4
  go_wp2_with fail
  refine (rises_yes nm ks cs zs ao lo cap lc _ (H.out.2.1.1.below C1.out.1) (by have := F.out.1.2.1; omega) F.out.2.1).mono ?_
  rintro e w2 ⟨rfl, hb⟩
  have hbx : Below w1.heap.size w1 w2 := hb
  have C2 := Lib.hid (And.intro (step0 C1.out.1 hbx) (C1.out.2.below hbx))
  clear hb hbx c0 c1 c2 c3
  obtain ⟨⟨c0, c1, c2, c3⟩, _⟩ := C2.out.2.s4
  go_wp2_with fail
  refine (few_yes xs ro rc _ (H.out.2.2.1.below C2.out.1) F.out.2.2.1.1 F.out.2.2.1.2).mono ?_
  rintro e w3 ⟨rfl, hb⟩
  have hbx : Below w2.heap.size w2 w3 := hb
  have C3 := Lib.hid (And.intro (step0 C2.out.1 hbx) (C2.out.2.below hbx))
  clear hb hbx c0 c1 c2 c3
  obtain ⟨⟨c0, c1, c2, c3⟩, _⟩ := C3.out.2.s4
  go_wp2_with fail
  refine (put_w nm ks cs zs ao lo cap lc xs ro rc _ (HG.out.keep C3.out.1) (H.out.1.keep C3.out.1) (H.out.2.1.below C3.out.1) G.out.1 (H.out.2.2.1.below C3.out.1) F.out.2.2.1.1 H.out.2.2.2.1 H.out.2.2.2.2.1 H.out.2.2.2.2.2 F.out.2.1 R b E G.out.2.1).mono ?_
  rintro e w4 ⟨v, rfl, hDV, hb⟩
  have hbx : Below w3.heap.size w3 w4 := hb
  have C4 := Lib.hid (And.intro (step0 C3.out.1 hbx) (C3.out.2.below hbx))
  obtain ⟨vo4, vc4, lo4, lc4, zs4, rfl, hq1, hq2, hq3⟩ := hDV
  have D4_4 := Lib.hid (And.intro hq1 (And.intro hq2 hq3))
  clear hq1 hq2 hq3
  clear hb hbx c0 c1 c2 c3
  obtain ⟨⟨c0, c1, c2, c3⟩, _⟩ := C4.out.2.s4
  have z0 := fun o => (C4.out.2.alloc o).s4.1.1
  have z1 := fun o => (C4.out.2.alloc o).s4.1.2.1
  have z2 := fun o => (C4.out.2.alloc o).s4.1.2.2.1
  have z3 := fun o => (C4.out.2.alloc o).s4.1.2.2.2
  go_wp2_with fail
  refine (rput_w nm ks cs zs ao lo cap lc xs ro rc _ (H.out.1.keep (step0 C4.out.1 (below1 w4 _))) (H.out.2.1.below (step0 C4.out.1 (below1 w4 _))) G.out.1 (H.out.2.2.1.below (step0 C4.out.1 (below1 w4 _))) F.out.2.2.1.1 H.out.2.2.2.1 H.out.2.2.2.2.1 H.out.2.2.2.2.2 F.out.2.1 R b E G.out.2.1).mono ?_
  rintro e w5 ⟨v, rfl, hDV, hb⟩
  have hbx : Below w4.heap.size w4 w5 := step0 (below1 w4 _) hb
  have S4_5 := Lib.hid hbx
  have C5 := Lib.hid (And.intro (step0 C4.out.1 hbx) (C4.out.2.below hbx))
  have M0_5 := Lib.hid ((Blk.new w4 #[.string ⟨nm.toArray⟩, .int .i64 ks, .slice vo4 cs.length vc4, .slice lo4 zs4.length lc4] 27).below hb)
  obtain ⟨vo5, vc5, lo5, lc5, zs5, rfl, hq1, hq2, hq3⟩ := hDV
  have D5_5 := Lib.hid (And.intro hq1 (And.intro hq2 hq3))
  clear hq1 hq2 hq3
  clear hb hbx c0 c1 c2 c3 z0 z1 z2 z3
  obtain ⟨⟨c0, c1, c2, c3⟩, _⟩ := C5.out.2.s4
  have z0 := fun o => (C5.out.2.alloc o).s4.1.1
  have z1 := fun o => (C5.out.2.alloc o).s4.1.2.1
  have z2 := fun o => (C5.out.2.alloc o).s4.1.2.2.1
  have z3 := fun o => (C5.out.2.alloc o).s4.1.2.2.2
  go_wp2_with fail
  refine (del_w nm ks cs zs ao lo cap lc key _ (H.out.1.keep (step0 C5.out.1 (below1 w5 _))) (H.out.2.1.below (step0 C5.out.1 (below1 w5 _))) G.out.1 F.out.2.1 d G.out.2.2.1).mono ?_
  rintro e w6 ⟨v, rfl, hDV, hb⟩
  have hbx : Below w5.heap.size w5 w6 := step0 (below1 w5 _) hb
  have S4_6 := Lib.hid (step0 S4_5.out hbx)
  have S5_6 := Lib.hid hbx
  have C6 := Lib.hid (And.intro (step0 C5.out.1 hbx) (C5.out.2.below hbx))
  have M0_6 := Lib.hid (M0_5.out.below hbx)
  have M1_6 := Lib.hid ((Blk.new w5 #[.string ⟨nm.toArray⟩, .int .i64 ks, .slice vo5 cs.length vc5, .slice lo5 zs5.length lc5] 27).below hb)
  obtain ⟨vo6, vc6, lo6, lc6, zs6, rfl, hq1, hq2, hq3⟩ := hDV
  have D6_6 := Lib.hid (And.intro hq1 (And.intro hq2 hq3))
  clear hq1 hq2 hq3
  clear hb hbx c0 c1 c2 c3 z0 z1 z2 z3
  obtain ⟨⟨c0, c1, c2, c3⟩, _⟩ := C6.out.2.s4
  have z0 := fun o => (C6.out.2.alloc o).s4.1.1
  have z1 := fun o => (C6.out.2.alloc o).s4.1.2.1
  have z2 := fun o => (C6.out.2.alloc o).s4.1.2.2.1
  have z3 := fun o => (C6.out.2.alloc o).s4.1.2.2.2
  go_wp2_with fail
  refine (rdel_w nm ks cs zs ao lo cap lc key _ (H.out.1.keep (step0 C6.out.1 (below1 w6 _))) (H.out.2.1.below (step0 C6.out.1 (below1 w6 _))) G.out.1 F.out.2.1 d G.out.2.2.1).mono ?_
  rintro e w7 ⟨v, rfl, hDV, hb⟩
  have hbx : Below w6.heap.size w6 w7 := step0 (below1 w6 _) hb
  have S4_7 := Lib.hid (step0 S4_6.out hbx)
  have S5_7 := Lib.hid (step0 S5_6.out hbx)
  have S6_7 := Lib.hid hbx
  have C7 := Lib.hid (And.intro (step0 C6.out.1 hbx) (C6.out.2.below hbx))
  have M0_7 := Lib.hid (M0_6.out.below hbx)
  have M1_7 := Lib.hid (M1_6.out.below hbx)
  have M2_7 := Lib.hid ((Blk.new w6 #[.string ⟨nm.toArray⟩, .int .i64 ks, .slice vo6 cs.length vc6, .slice lo6 zs6.length lc6] 27).below hb)
  obtain ⟨vo7, vc7, lo7, lc7, zs7, rfl, hq1, hq2, hq3⟩ := hDV
  have D7_7 := Lib.hid (And.intro hq1 (And.intro hq2 hq3))
  clear hq1 hq2 hq3
  clear hb hbx c0 c1 c2 c3 z0 z1 z2 z3
  obtain ⟨⟨c0, c1, c2, c3⟩, _⟩ := C7.out.2.s4
  have z0 := fun o => (C7.out.2.alloc o).s4.1.1
  have z1 := fun o => (C7.out.2.alloc o).s4.1.2.1
  have z2 := fun o => (C7.out.2.alloc o).s4.1.2.2.1
  have z3 := fun o => (C7.out.2.alloc o).s4.1.2.2.2
  go_wp2_with fail
  refine (find_s nm ks cs zs key ao lo cap _ lc _ rfl (H.out.2.1.1.below (step0 C7.out.1 (below1 w7 _))) (by have := F.out.1.2.1; omega) F.out.2.1 I d G.out.2.2.2 G.out.2.2.1).mono ?_
  rintro e w8 ⟨rfl, hb⟩
  have hbx : Below w7.heap.size w7 w8 := step0 (below1 w7 _) hb
  have S4_8 := Lib.hid (step0 S4_7.out hbx)
  have S5_8 := Lib.hid (step0 S5_7.out hbx)
  have S6_8 := Lib.hid (step0 S6_7.out hbx)
  have S7_8 := Lib.hid hbx
  have C8 := Lib.hid (And.intro (step0 C7.out.1 hbx) (C7.out.2.below hbx))
  have M0_8 := Lib.hid (M0_7.out.below hbx)
  have M1_8 := Lib.hid (M1_7.out.below hbx)
  have M2_8 := Lib.hid (M2_7.out.below hbx)
  have M3_8 := Lib.hid ((Blk.new w7 #[.string ⟨nm.toArray⟩, .int .i64 ks, .slice vo7 cs.length vc7, .slice lo7 zs7.length lc7] 27).below hb)
  clear hb hbx c0 c1 c2 c3 z0 z1 z2 z3
  obtain ⟨⟨c0, c1, c2, c3⟩, _⟩ := C8.out.2.s4
  go_wp2_with fail
  refine (rfind_s nm ks cs zs key ao lo cap _ lc _ rfl (H.out.2.1.1.below C8.out.1) (by have := F.out.1.2.1; omega) I d G.out.2.2.2 G.out.2.2.1).mono ?_
  rintro e w9 ⟨rfl, hb⟩
  have hbx : Below w8.heap.size w8 w9 := hb
  have S4_9 := Lib.hid (step0 S4_8.out hbx)
  have S5_9 := Lib.hid (step0 S5_8.out hbx)
  have S6_9 := Lib.hid (step0 S6_8.out hbx)
  have S7_9 := Lib.hid (step0 S7_8.out hbx)
  have C9 := Lib.hid (And.intro (step0 C8.out.1 hbx) (C8.out.2.below hbx))
  have M0_9 := Lib.hid (M0_8.out.below hbx)
  have M1_9 := Lib.hid (M1_8.out.below hbx)
  have M2_9 := Lib.hid (M2_8.out.below hbx)
  have M3_9 := Lib.hid (M3_8.out.below hbx)
  clear hb hbx c0 c1 c2 c3
  obtain ⟨⟨c0, c1, c2, c3⟩, _⟩ := C9.out.2.s4
  obtain ⟨⟨g0, g1, g2, g3⟩, _⟩ := M0_9.out.s4
  obtain ⟨⟨h0, h1, h2, h3⟩, _⟩ := M1_9.out.s4
  go_wp2_with fail
  refine (rsheet_s nm ks cs R _ _ _ ⟨vo4, vc4, lo4, lc4, zs4, rfl, D4_4.out.1.keep S4_9.out, D4_4.out.2.1.below S4_9.out, D4_4.out.2.2⟩ ⟨vo5, vc5, lo5, lc5, zs5, rfl, D5_5.out.1.keep S5_9.out, D5_5.out.2.1.below S5_9.out, D5_5.out.2.2⟩ G.out.1.1 L.out.1.1 L.out.1.2).mono ?_
  rintro e w10 ⟨rfl, hb⟩
  have hbx : Below w9.heap.size w9 w10 := hb
  have S4_10 := Lib.hid (step0 S4_9.out hbx)
  have S5_10 := Lib.hid (step0 S5_9.out hbx)
  have S6_10 := Lib.hid (step0 S6_9.out hbx)
  have S7_10 := Lib.hid (step0 S7_9.out hbx)
  have C10 := Lib.hid (And.intro (step0 C9.out.1 hbx) (C9.out.2.below hbx))
  have M0_10 := Lib.hid (M0_9.out.below hbx)
  have M1_10 := Lib.hid (M1_9.out.below hbx)
  have M2_10 := Lib.hid (M2_9.out.below hbx)
  have M3_10 := Lib.hid (M3_9.out.below hbx)
  clear g0 g1 g2 g3 h0 h1 h2 h3 hb hbx c0 c1 c2 c3
  obtain ⟨⟨c0, c1, c2, c3⟩, _⟩ := C10.out.2.s4
  obtain ⟨⟨g0, g1, g2, g3⟩, _⟩ := M2_10.out.s4
  obtain ⟨⟨h0, h1, h2, h3⟩, _⟩ := M3_10.out.s4
  go_wp2_with fail
  refine (rsheet_s nm ks cs (dell (lls zs) key) _ _ _ ⟨vo6, vc6, lo6, lc6, zs6, rfl, D6_6.out.1.keep S6_10.out, D6_6.out.2.1.below S6_10.out, D6_6.out.2.2⟩ ⟨vo7, vc7, lo7, lc7, zs7, rfl, D7_7.out.1.keep S7_10.out, D7_7.out.2.1.below S7_10.out, D7_7.out.2.2⟩ G.out.1.1 L.out.2.1 L.out.2.2).mono ?_
  rintro e w11 ⟨rfl, hb⟩
  have hbx : Below w10.heap.size w10 w11 := hb
  have C11 := Lib.hid (And.intro (step0 C10.out.1 hbx) (C10.out.2.below hbx))
  have M0_11 := Lib.hid (M0_10.out.below hbx)
  have M1_11 := Lib.hid (M1_10.out.below hbx)
  have M2_11 := Lib.hid (M2_10.out.below hbx)
  have M3_11 := Lib.hid (M3_10.out.below hbx)
  clear g0 g1 g2 g3 h0 h1 h2 h3 hb hbx c0 c1 c2 c3
  obtain ⟨⟨c0, c1, c2, c3⟩, _⟩ := C11.out.2.s4
  go_wp2_with fail
  refine (awake_s _ (HG.out.keep C11.out.1)).mono ?_
  rintro e w12 ⟨rfl, hb⟩
  have hbx : Below w11.heap.size w11 w12 := hb
  have C12 := Lib.hid (And.intro (step0 C11.out.1 hbx) (C11.out.2.below hbx))
  clear hb hbx c0 c1 c2 c3
  obtain ⟨⟨c0, c1, c2, c3⟩, _⟩ := C12.out.2.s4
  go_wp2
  go_ret
  exact ⟨rfl, C12.out.1⟩


theorem sheetPuts_walk (nm : Nm.S) (ks : Int) (cs : List C) (zs : List LV) (xs : List V) (key : Nm.S) (ao lo ro : Option Addr) (cap lc rc : Nat) (w : World) (hg : Env w) (hT : At3 w ⟨nm, ks, cs⟩ ao cap) (hL : LS w zs lo lc) (hx : Sl w ro xs) (hok : ∀ x ∈ xs, x.ok) (hrc : xs.length ≤ rc) (hro : ro = none → rc = 0) :
    Calls Tryz.prog 4 #[.agg #[.string ⟨nm.toArray⟩, .int .i64 ks, .slice ao cs.length cap, .slice lo zs.length lc], .slice ro xs.length rc, .string ⟨key.toArray⟩] w fun e w' => e = .returned (.bool true) ∧ Below w.heap.size w w' := by
  by_cases hf : Sf ⟨nm, ks, cs⟩ zs
  case neg => exact sheetPuts_n1 nm ks cs zs xs key ao lo ro cap lc rc w hg hT hL hx hok hrc hro hf
  by_cases hr : Ris (lls zs)
  case neg => exact sheetPuts_n2 nm ks cs zs xs key ao lo ro cap lc rc w hg hT hL hx hok hrc hro hf hr
  by_cases hv : Vf xs
  case neg => exact sheetPuts_n3 nm ks cs zs xs key ao lo ro cap lc rc w hg hT hL hx hok hrc hro hf hr hv
  by_cases hk : key.length ≤ 2000
  case neg => exact sheetPuts_n4 nm ks cs zs xs key ao lo ro cap lc rc w hg hT hL hx hok hrc hro hf hr hv (by omega)
  exact sheetPuts_main nm ks cs zs xs key ao lo ro cap lc rc w hg hT hL hx hok hrc hro hf hr hv hk

end Go.Proofs.YtfgakoldedpfoaaGreatDoor
