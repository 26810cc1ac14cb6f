/-
  The walk of law SheetBack. Condition: the library's variable errors.errorType holds the handle of the type error.
-/
import Derived.Test.YtfgakoldedpfoaaDoorShLaws
import Derived.Test.YtfgakoldedpfoaaDoorShAwake
import Derived.Test.YtfgakoldedpfoaaDoorShFew
namespace Go.Proofs.YtfgakoldedpfoaaDoor
open Go.RowKit
set_option linter.unusedVariables false
set_option linter.unusedSimpArgs false

set_option maxRecDepth 1000000 in
set_option maxHeartbeats 8000000 in
theorem sheetBack_n1 (nm : Nm.S) (ks : Int) (cs : List C) (zs : List LV) (xs : List V) (ao lo ro : Option Addr) (cap lc rc : Nat) (w : World) (hg : Env w) (hT : At3 w ⟨nm, ks, cs⟩ ao cap) (hL : LS w zs lo lc) (hx : Sl w ro xs) (hok : ∀ x ∈ xs, x.ok) (hrc : xs.length ≤ rc) (hro : ro = none → rc = 0) (hf : ¬ Sf ⟨nm, ks, cs⟩ zs) :
    Calls Tryd.prog 5 #[.agg #[.string ⟨nm.toArray⟩, .int .i64 ks, .slice ao cs.length cap, .slice lo zs.length lc], .slice ro xs.length rc] w fun e w' => e = .returned (.bool true) ∧ Below w.heap.size w w' := by
  have HG := Lib.hid hg
  have H := Lib.hid (And.intro hT (And.intro hL (And.intro hx (And.intro hok (And.intro hrc hro)))))
  clear hg hT hL hx hok hrc hro
  have F := Lib.hid hf
  clear hf
  go_enter Tryd.func5, Tryd.ntmps5
  go_wp2_with fail
  refine (sfew_no nm ks cs zs ao lo cap lc _ (H.out.1.1.below (below1 _ _)) (H.out.2.1.below (below1 _ _)) F.out).mono ?_
  rintro e w1 ⟨rfl, hb⟩
  have C1 := Lib.hid (Blk.sh hb)
  clear hb
  obtain ⟨⟨c0, c1, c2, c3⟩, _⟩ := C1.out.2.s4
  go_wp2_with fail
  refine (awake_s _ (HG.out.keep C1.out.1)).mono ?_
  rintro e w2 ⟨rfl, hb⟩
  have hbx : Below w1.heap.size w1 w2 := hb
  have C2 := Lib.hid (And.intro (step0 C1.out.1 hbx) (C1.out.2.below hbx))
  clear hb hbx c0 c1 c2 c3
  obtain ⟨⟨c0, c1, c2, c3⟩, _⟩ := C2.out.2.s4
  go_wp2
  go_ret
  exact ⟨rfl, C2.out.1⟩

set_option maxRecDepth 1000000 in
set_option maxHeartbeats 8000000 in
theorem sheetBack_n2 (nm : Nm.S) (ks : Int) (cs : List C) (zs : List LV) (xs : List V) (ao lo ro : Option Addr) (cap lc rc : Nat) (w : World) (hg : Env w) (hT : At3 w ⟨nm, ks, cs⟩ ao cap) (hL : LS w zs lo lc) (hx : Sl w ro xs) (hok : ∀ x ∈ xs, x.ok) (hrc : xs.length ≤ rc) (hro : ro = none → rc = 0) (hf : Sf ⟨nm, ks, cs⟩ zs) (E : Int) (hE : sck ⟨nm, ks, cs⟩ (lls zs) = E) (h0 : E ≠ 0) :
    Calls Tryd.prog 5 #[.agg #[.string ⟨nm.toArray⟩, .int .i64 ks, .slice ao cs.length cap, .slice lo zs.length lc], .slice ro xs.length rc] w fun e w' => e = .returned (.bool true) ∧ Below w.heap.size w w' := by
  have HG := Lib.hid hg
  have H := Lib.hid (And.intro hT (And.intro hL (And.intro hx (And.intro hok (And.intro hrc hro)))))
  clear hg hT hL hx hok hrc hro
  have n1 : (E == 0) = false := by simpa using h0
  have n2 : (E != 0) = true := by simpa using h0
  have F := Lib.hid (And.intro hf hE)
  clear hf hE h0
  go_enter Tryd.func5, Tryd.ntmps5
  go_wp2_with fail
  refine (sfew_yes nm ks cs zs ao lo cap lc _ (H.out.1.1.below (below1 _ _)) (H.out.2.1.below (below1 _ _)) F.out.1).mono ?_
  rintro e w1 ⟨rfl, hb⟩
  have C1 := Lib.hid (Blk.sh hb)
  clear hb
  obtain ⟨⟨c0, c1, c2, c3⟩, _⟩ := C1.out.2.s4
  go_wp2_with fail
  refine (scheck_is nm ks cs zs ao lo cap lc _ (HG.out.keep C1.out.1) (H.out.1.keep C1.out.1) (H.out.2.1.below C1.out.1) (by have := F.out.1.2.1; omega) (fun z hz => (F.out.1.2.2 z hz).2.1) E F.out.2).mono ?_
  rintro e w2 ⟨rfl, hb⟩
  have hbx : Below w1.heap.size w1 w2 := hb
  have C2 := Lib.hid (And.intro (step0 C1.out.1 hbx) (C1.out.2.below hbx))
  clear hb hbx c0 c1 c2 c3
  obtain ⟨⟨c0, c1, c2, c3⟩, _⟩ := C2.out.2.s4
  go_wp2_with fail
  refine (awake_s _ (HG.out.keep C2.out.1)).mono ?_
  rintro e w3 ⟨rfl, hb⟩
  have hbx : Below w2.heap.size w2 w3 := hb
  have C3 := Lib.hid (And.intro (step0 C2.out.1 hbx) (C2.out.2.below hbx))
  clear hb hbx c0 c1 c2 c3
  obtain ⟨⟨c0, c1, c2, c3⟩, _⟩ := C3.out.2.s4
  go_wp2
  go_ret
  exact ⟨rfl, C3.out.1⟩

set_option maxRecDepth 1000000 in
set_option maxHeartbeats 8000000 in
theorem sheetBack_n3 (nm : Nm.S) (ks : Int) (cs : List C) (zs : List LV) (xs : List V) (ao lo ro : Option Addr) (cap lc rc : Nat) (w : World) (hg : Env w) (hT : At3 w ⟨nm, ks, cs⟩ ao cap) (hL : LS w zs lo lc) (hx : Sl w ro xs) (hok : ∀ x ∈ xs, x.ok) (hrc : xs.length ≤ rc) (hro : ro = none → rc = 0) (hf : Sf ⟨nm, ks, cs⟩ zs) (hE : sck ⟨nm, ks, cs⟩ (lls zs) = 0) (hv : ¬ Vf xs) :
    Calls Tryd.prog 5 #[.agg #[.string ⟨nm.toArray⟩, .int .i64 ks, .slice ao cs.length cap, .slice lo zs.length lc], .slice ro xs.length rc] w fun e w' => e = .returned (.bool true) ∧ Below w.heap.size w w' := by
  have HG := Lib.hid hg
  have H := Lib.hid (And.intro hT (And.intro hL (And.intro hx (And.intro hok (And.intro hrc hro)))))
  clear hg hT hL hx hok hrc hro
  have F := Lib.hid (And.intro hf (And.intro hE hv))
  clear hf hE hv
  go_enter Tryd.func5, Tryd.ntmps5
  go_wp2_with fail
  refine (sfew_yes nm ks cs zs ao lo cap lc _ (H.out.1.1.below (below1 _ _)) (H.out.2.1.below (below1 _ _)) F.out.1).mono ?_
  rintro e w1 ⟨rfl, hb⟩
  have C1 := Lib.hid (Blk.sh hb)
  clear hb
  obtain ⟨⟨c0, c1, c2, c3⟩, _⟩ := C1.out.2.s4
  go_wp2_with fail
  refine (scheck_is nm ks cs zs ao lo cap lc _ (HG.out.keep C1.out.1) (H.out.1.keep C1.out.1) (H.out.2.1.below C1.out.1) (by have := F.out.1.2.1; omega) (fun z hz => (F.out.1.2.2 z hz).2.1) 0 F.out.2.1).mono ?_
  rintro e w2 ⟨rfl, hb⟩
  have hbx : Below w1.heap.size w1 w2 := hb
  have C2 := Lib.hid (And.intro (step0 C1.out.1 hbx) (C1.out.2.below hbx))
  clear hb hbx c0 c1 c2 c3
  obtain ⟨⟨c0, c1, c2, c3⟩, _⟩ := C2.out.2.s4
  go_wp2_with fail
  refine (few_no xs ro rc _ (H.out.2.2.1.below C2.out.1) F.out.2.2).mono ?_
  rintro e w3 ⟨rfl, hb⟩
  have hbx : Below w2.heap.size w2 w3 := hb
  have C3 := Lib.hid (And.intro (step0 C2.out.1 hbx) (C2.out.2.below hbx))
  clear hb hbx c0 c1 c2 c3
  obtain ⟨⟨c0, c1, c2, c3⟩, _⟩ := C3.out.2.s4
  go_wp2_with fail
  refine (awake_s _ (HG.out.keep C3.out.1)).mono ?_
  rintro e w4 ⟨rfl, hb⟩
  have hbx : Below w3.heap.size w3 w4 := hb
  have C4 := Lib.hid (And.intro (step0 C3.out.1 hbx) (C3.out.2.below hbx))
  clear hb hbx c0 c1 c2 c3
  obtain ⟨⟨c0, c1, c2, c3⟩, _⟩ := C4.out.2.s4
  go_wp2
  go_ret
  exact ⟨rfl, C4.out.1⟩

set_option maxRecDepth 1000000 in
set_option maxHeartbeats 8000000 in
theorem sheetBack_bad (nm : Nm.S) (ks : Int) (cs : List C) (zs : List LV) (xs : List V) (ao lo ro : Option Addr) (cap lc rc : Nat) (w : World) (hg : Env w) (hT : At3 w ⟨nm, ks, cs⟩ ao cap) (hL : LS w zs lo lc) (hx : Sl w ro xs) (hok : ∀ x ∈ xs, x.ok) (hrc : xs.length ≤ rc) (hro : ro = none → rc = 0) (hf : Sf ⟨nm, ks, cs⟩ zs) (hE : sck ⟨nm, ks, cs⟩ (lls zs) = 0) (hv : Vf xs) (E : Int) (hfit : T.fit ⟨nm, ks, cs⟩ xs = E) (h0 : E ≠ 0) :
    Calls Tryd.prog 5 #[.agg #[.string ⟨nm.toArray⟩, .int .i64 ks, .slice ao cs.length cap, .slice lo zs.length lc], .slice ro xs.length rc] w fun e w' => e = .returned (.bool true) ∧ Below w.heap.size w w' := by
  have HG := Lib.hid hg
  have H := Lib.hid (And.intro hT (And.intro hL (And.intro hx (And.intro hok (And.intro hrc hro)))))
  clear hg hT hL hx hok hrc hro
  have h30 : ∀ l ∈ lls zs, l.r.length ≤ 30 := fun l hl => by
    obtain ⟨z, hz, rfl⟩ := List.mem_map.1 hl
    exact (hf.2.2 z hz).2.1
  have hlen : (lls zs).length ≤ 40 := by rw [lls_len]; exact hf.2.1
  have hsm : Smal cs zs := ⟨by have h1 : cs.length ≤ 20 := hf.1.1; omega, by have := hf.2.1; omega, fun z hz => (hf.2.2 z hz).2.1⟩
  have n1 : (E == 0) = false := by simpa using h0
  have n2 : (E != 0) = true := by simpa using h0
  have hP : ppt ⟨nm, ks, cs⟩ (lls zs) xs = (lls zs, false, E) := by unfold ppt; rw [hfit, if_neg h0]
  have G := Lib.hid (And.intro hsm (And.intro (sck_ok hE).2.2 (And.intro hP h30)))
  have F := Lib.hid (And.intro hf (And.intro hE hv))
  clear hf hE hv h30 hlen hsm hP hfit h0
  go_enter Tryd.func5, Tryd.ntmps5
  go_wp2_with fail
  refine (sfew_yes nm ks cs zs ao lo cap lc _ (H.out.1.1.below (below1 _ _)) (H.out.2.1.below (below1 _ _)) F.out.1).mono ?_
  rintro e w1 ⟨rfl, hb⟩
  have C1 := Lib.hid (Blk.sh hb)
  clear hb
  obtain ⟨⟨c0, c1, c2, c3⟩, _⟩ := C1.out.2.s4
  go_wp2_with fail
  refine (scheck_is nm ks cs zs ao lo cap lc _ (HG.out.keep C1.out.1) (H.out.1.keep C1.out.1) (H.out.2.1.below C1.out.1) (by have := F.out.1.2.1; omega) (fun z hz => (F.out.1.2.2 z hz).2.1) 0 F.out.2.1).mono ?_
  rintro e w2 ⟨rfl, hb⟩
  have hbx : Below w1.heap.size w1 w2 := hb
  have C2 := Lib.hid (And.intro (step0 C1.out.1 hbx) (C1.out.2.below hbx))
  clear hb hbx c0 c1 c2 c3
  obtain ⟨⟨c0, c1, c2, c3⟩, _⟩ := C2.out.2.s4
  go_wp2_with fail
  refine (few_yes xs ro rc _ (H.out.2.2.1.below C2.out.1) F.out.2.2.1 F.out.2.2.2).mono ?_
  rintro e w3 ⟨rfl, hb⟩
  have hbx : Below w2.heap.size w2 w3 := hb
  have C3 := Lib.hid (And.intro (step0 C2.out.1 hbx) (C2.out.2.below hbx))
  clear hb hbx c0 c1 c2 c3
  obtain ⟨⟨c0, c1, c2, c3⟩, _⟩ := C3.out.2.s4
  go_wp2_with fail
  refine (put_w nm ks cs zs ao lo cap lc xs ro rc _ (HG.out.keep C3.out.1) (H.out.1.keep C3.out.1) (H.out.2.1.below C3.out.1) G.out.1 (H.out.2.2.1.below C3.out.1) F.out.2.2.1 H.out.2.2.2.1 H.out.2.2.2.2.1 H.out.2.2.2.2.2 G.out.2.1 (lls zs) false E G.out.2.2.1).mono ?_
  rintro e w4 ⟨v, rfl, hDV, hb⟩
  have hbx : Below w3.heap.size w3 w4 := hb
  have C4 := Lib.hid (And.intro (step0 C3.out.1 hbx) (C3.out.2.below hbx))
  obtain ⟨vo4, vc4, lo4, lc4, zs4, rfl, hq1, hq2, hq3⟩ := hDV
  have D4_4 := Lib.hid (And.intro hq1 (And.intro hq2 hq3))
  clear hq1 hq2 hq3
  clear hb hbx c0 c1 c2 c3
  obtain ⟨⟨c0, c1, c2, c3⟩, _⟩ := C4.out.2.s4
  have z0 := fun o => (C4.out.2.alloc o).s4.1.1
  have z1 := fun o => (C4.out.2.alloc o).s4.1.2.1
  have z2 := fun o => (C4.out.2.alloc o).s4.1.2.2.1
  have z3 := fun o => (C4.out.2.alloc o).s4.1.2.2.2
  have g0 := (Blk.new w4 #[.string ⟨nm.toArray⟩, .int .i64 ks, .slice vo4 cs.length vc4, .slice lo4 zs4.length lc4] 27).s4.1.1
  have g1 := (Blk.new w4 #[.string ⟨nm.toArray⟩, .int .i64 ks, .slice vo4 cs.length vc4, .slice lo4 zs4.length lc4] 27).s4.1.2.1
  have g2 := (Blk.new w4 #[.string ⟨nm.toArray⟩, .int .i64 ks, .slice vo4 cs.length vc4, .slice lo4 zs4.length lc4] 27).s4.1.2.2.1
  have g3 := (Blk.new w4 #[.string ⟨nm.toArray⟩, .int .i64 ks, .slice vo4 cs.length vc4, .slice lo4 zs4.length lc4] 27).s4.1.2.2.2
  have q4 := below1 w4 (.cells #[.string ⟨nm.toArray⟩, .int .i64 ks, .slice vo4 cs.length vc4, .slice lo4 zs4.length lc4] 27)
  go_wp2_with fail
  refine (rsheet_s nm ks cs (lls zs) _ _ _ ⟨ao, cap, lo, lc, zs, rfl, H.out.1.keep (step0 C4.out.1 q4), H.out.2.1.below (step0 C4.out.1 q4), rfl⟩ ⟨vo4, vc4, lo4, lc4, zs4, rfl, D4_4.out.1.keep q4, D4_4.out.2.1.below q4, D4_4.out.2.2⟩ G.out.1.1 (by rw [lls_len]; have := F.out.1.2.1; omega) (fun l hl => by have := G.out.2.2.2 l hl; omega)).mono ?_
  rintro e w5 ⟨rfl, hb⟩
  have hbx : Below w4.heap.size w4 w5 := step0 (below1 w4 _) hb
  have C5 := Lib.hid (And.intro (step0 C4.out.1 hbx) (C4.out.2.below hbx))
  have M0_5 := Lib.hid ((Blk.new w4 #[.string ⟨nm.toArray⟩, .int .i64 ks, .slice vo4 cs.length vc4, .slice lo4 zs4.length lc4] 27).below hb)
  clear g0 g1 g2 g3 q4
  clear hb hbx c0 c1 c2 c3 z0 z1 z2 z3
  obtain ⟨⟨c0, c1, c2, c3⟩, _⟩ := C5.out.2.s4
  go_wp2_with fail
  refine (awake_s _ (HG.out.keep C5.out.1)).mono ?_
  rintro e w6 ⟨rfl, hb⟩
  have hbx : Below w5.heap.size w5 w6 := hb
  have C6 := Lib.hid (And.intro (step0 C5.out.1 hbx) (C5.out.2.below hbx))
  have M0_6 := Lib.hid (M0_5.out.below hbx)
  clear hb hbx c0 c1 c2 c3
  obtain ⟨⟨c0, c1, c2, c3⟩, _⟩ := C6.out.2.s4
  go_wp2
  go_ret
  exact ⟨rfl, C6.out.1⟩

set_option maxRecDepth 1000000 in
set_option maxHeartbeats 8000000 in
theorem sheetBack_old (nm : Nm.S) (ks : Int) (cs : List C) (zs : List LV) (xs : List V) (ao lo ro : Option Addr) (cap lc rc : Nat) (w : World) (hg : Env w) (hT : At3 w ⟨nm, ks, cs⟩ ao cap) (hL : LS w zs lo lc) (hx : Sl w ro xs) (hok : ∀ x ∈ xs, x.ok) (hrc : xs.length ≤ rc) (hro : ro = none → rc = 0) (hf : Sf ⟨nm, ks, cs⟩ zs) (hE : sck ⟨nm, ks, cs⟩ (lls zs) = 0) (hv : Vf xs) (hfit : T.fit ⟨nm, ks, cs⟩ xs = 0) (key : Nm.S) (hkey : T.key ⟨nm, ks, cs⟩ xs = key) (hB : isk (lls zs) key = true) :
    Calls Tryd.prog 5 #[.agg #[.string ⟨nm.toArray⟩, .int .i64 ks, .slice ao cs.length cap, .slice lo zs.length lc], .slice ro xs.length rc] w fun e w' => e = .returned (.bool true) ∧ Below w.heap.size w w' := by
  have HG := Lib.hid hg
  have H := Lib.hid (And.intro hT (And.intro hL (And.intro hx (And.intro hok (And.intro hrc hro)))))
  clear hg hT hL hx hok hrc hro
  have h30 : ∀ l ∈ lls zs, l.r.length ≤ 30 := fun l hl => by
    obtain ⟨z, hz, rfl⟩ := List.mem_map.1 hl
    exact (hf.2.2 z hz).2.1
  have hlen : (lls zs).length ≤ 40 := by rw [lls_len]; exact hf.2.1
  have hsm : Smal cs zs := ⟨by have h1 : cs.length ≤ 20 := hf.1.1; omega, by have := hf.2.1; omega, fun z hz => (hf.2.2 z hz).2.1⟩
  have hP : ppt ⟨nm, ks, cs⟩ (lls zs) xs = (putl (lls zs) ⟨key, xs⟩, false, 0) := by unfold ppt; rw [hfit, if_pos rfl, hkey, hB]; rfl
  obtain ⟨I, hI⟩ : ∃ I, fnd (lls zs) key = I := ⟨_, rfl⟩
  have G := Lib.hid (And.intro hsm (And.intro (sck_ok hE).2.2 (And.intro hP (And.intro hfit (And.intro hkey (And.intro hI trivial))))))
  have F := Lib.hid (And.intro hf (And.intro hE hv))
  clear hf hE hv h30 hlen hsm hP hfit hkey hB hI
  go_enter Tryd.func5, Tryd.ntmps5
  go_wp2_with fail
  refine (sfew_yes nm ks cs zs ao lo cap lc _ (H.out.1.1.below (below1 _ _)) (H.out.2.1.below (below1 _ _)) F.out.1).mono ?_
  rintro e w1 ⟨rfl, hb⟩
  have C1 := Lib.hid (Blk.sh hb)
  clear hb
  obtain ⟨⟨c0, c1, c2, c3⟩, _⟩ := C1.out.2.s4
  go_wp2_with fail
  refine (scheck_is nm ks cs zs ao lo cap lc _ (HG.out.keep C1.out.1) (H.out.1.keep C1.out.1) (H.out.2.1.below C1.out.1) (by have := F.out.1.2.1; omega) (fun z hz => (F.out.1.2.2 z hz).2.1) 0 F.out.2.1).mono ?_
  rintro e w2 ⟨rfl, hb⟩
  have hbx : Below w1.heap.size w1 w2 := hb
  have C2 := Lib.hid (And.intro (step0 C1.out.1 hbx) (C1.out.2.below hbx))
  clear hb hbx c0 c1 c2 c3
  obtain ⟨⟨c0, c1, c2, c3⟩, _⟩ := C2.out.2.s4
  go_wp2_with fail
  refine (few_yes xs ro rc _ (H.out.2.2.1.below C2.out.1) F.out.2.2.1 F.out.2.2.2).mono ?_
  rintro e w3 ⟨rfl, hb⟩
  have hbx : Below w2.heap.size w2 w3 := hb
  have C3 := Lib.hid (And.intro (step0 C2.out.1 hbx) (C2.out.2.below hbx))
  clear hb hbx c0 c1 c2 c3
  obtain ⟨⟨c0, c1, c2, c3⟩, _⟩ := C3.out.2.s4
  go_wp2_with fail
  refine (put_w nm ks cs zs ao lo cap lc xs ro rc _ (HG.out.keep C3.out.1) (H.out.1.keep C3.out.1) (H.out.2.1.below C3.out.1) G.out.1 (H.out.2.2.1.below C3.out.1) F.out.2.2.1 H.out.2.2.2.1 H.out.2.2.2.2.1 H.out.2.2.2.2.2 G.out.2.1 (putl (lls zs) ⟨key, xs⟩) false 0 G.out.2.2.1).mono ?_
  rintro e w4 ⟨v, rfl, hDV, hb⟩
  have hbx : Below w3.heap.size w3 w4 := hb
  have C4 := Lib.hid (And.intro (step0 C3.out.1 hbx) (C3.out.2.below hbx))
  obtain ⟨vo4, vc4, lo4, lc4, zs4, rfl, hq1, hq2, hq3⟩ := hDV
  have D4_4 := Lib.hid (And.intro hq1 (And.intro hq2 hq3))
  clear hq1 hq2 hq3
  have Q := Lib.hid (show zs4.length ≤ 100 ∧ Ris (lls zs4) ∧ fnd (lls zs4) key = I ∧ isk (lls zs4) key = true ∧ (∀ z ∈ zs4, z.xs.length ≤ 30) ∧ sck ⟨nm, ks, cs⟩ (lls zs4) = 0 ∧ I < zs4.length ∧ ∀ z, zs4[I]? = some z → z.xs = xs from by
    have e := D4_4.out.2.2
    have P := Lib.hid (ppt_len ⟨nm, ks, cs⟩ (lls zs) xs G.out.2.2.1 (by rw [lls_len]; have := F.out.1.2.1; omega) (fun l hl => by
      obtain ⟨u, hu, rfl⟩ := List.mem_map.1 hl
      exact (F.out.1.2.2 u hu).2.1) F.out.2.2.1)
    have hp := put_at (lls zs) ⟨key, xs⟩
    have hIe : fnd (lls zs) key = I := G.out.2.2.2.2.2.1
    rw [show (⟨key, xs⟩ : L).k = key from rfl, hIe, ← e] at hp
    obtain ⟨hl, hq⟩ := List.getElem?_eq_some_iff.1 hp
    rw [lls_len] at hl
    refine ⟨?_, ?_, ?_, ?_, ?_, ?_, hl, ?_⟩
    · rw [← lls_len, e]
      unfold putl
      rw [List.length_append, List.length_take, List.length_cons, List.length_drop, lls_len]
      have := F.out.1.2.1
      omega
    · rw [e]; exact put_ris G.out.2.1 _
    · rw [e]; exact (fnd_put (ls := lls zs) ⟨key, xs⟩).trans hIe
    · rw [e]; exact isk_put (lls zs) ⟨key, xs⟩
    · intro z hz
      have h : z.l ∈ lls zs4 := List.mem_map_of_mem hz
      rw [e] at h
      rcases put_mem h with h | h
      · have := congrArg L.r h
        show z.l.r.length ≤ 30
        rw [this]; exact F.out.2.2.1
      · obtain ⟨u, hu, hul⟩ := List.mem_map.1 h
        show z.l.r.length ≤ 30
        rw [← hul]; exact (F.out.1.2.2 u hu).2.1
    · rw [e, ← G.out.2.2.2.2.1]; exact sck_put F.out.2.1 G.out.2.2.2.1
    · intro z hz
      rw [lls_at hl] at hq
      have hz' : zs4[I] = z := (List.getElem?_eq_some_iff.1 hz).2
      rw [hz'] at hq
      exact congrArg L.r hq)
  clear hb hbx c0 c1 c2 c3
  obtain ⟨⟨c0, c1, c2, c3⟩, _⟩ := C4.out.2.s4
  have z0 := fun o => (C4.out.2.alloc o).s4.1.1
  have z1 := fun o => (C4.out.2.alloc o).s4.1.2.1
  have z2 := fun o => (C4.out.2.alloc o).s4.1.2.2.1
  have z3 := fun o => (C4.out.2.alloc o).s4.1.2.2.2
  go_wp2_with fail
  refine (key_k nm ks cs xs key ao ro cap rc _ (H.out.1.keep (step0 C4.out.1 (below1 w4 _))) (H.out.2.2.1.below (step0 C4.out.1 (below1 w4 _))) F.out.2.2.1 H.out.2.2.2.1 (HG.out.keep (step0 C4.out.1 (below1 w4 _))) H.out.2.2.2.2.1 0 G.out.2.2.2.1 G.out.2.2.2.2.1).mono ?_
  rintro e w5 ⟨rfl, hb⟩
  have hbx : Below w4.heap.size w4 w5 := step0 (below1 w4 _) hb
  have S4_5 := Lib.hid hbx
  have C5 := Lib.hid (And.intro (step0 C4.out.1 hbx) (C4.out.2.below hbx))
  have M0_5 := Lib.hid ((Blk.new w4 #[.string ⟨nm.toArray⟩, .int .i64 ks, .slice vo4 cs.length vc4, .slice lo4 zs4.length lc4] 27).below hb)
  clear hb hbx c0 c1 c2 c3 z0 z1 z2 z3
  obtain ⟨⟨c0, c1, c2, c3⟩, _⟩ := C5.out.2.s4
  obtain ⟨⟨g0, g1, g2, g3⟩, _⟩ := M0_5.out.s4
  go_wp2_with fail
  refine (find_s nm ks cs zs4 key vo4 lo4 vc4 _ lc4 _ rfl (D4_4.out.2.1.1.below S4_5.out) (by have := Q.out.1; omega) Q.out.2.1 I true Q.out.2.2.1 Q.out.2.2.2.1).mono ?_
  rintro e w6 ⟨rfl, hb⟩
  have hbx : Below w5.heap.size w5 w6 := hb
  have S4_6 := Lib.hid (step0 S4_5.out hbx)
  have C6 := Lib.hid (And.intro (step0 C5.out.1 hbx) (C5.out.2.below hbx))
  have M0_6 := Lib.hid (M0_5.out.below hbx)
  clear g0 g1 g2 g3
  clear hb hbx c0 c1 c2 c3
  obtain ⟨⟨c0, c1, c2, c3⟩, _⟩ := C6.out.2.s4
  obtain ⟨⟨g0, g1, g2, g3⟩, _⟩ := M0_6.out.s4
  go_wp2_with fail
  refine (scheck_is nm ks cs zs4 vo4 lo4 vc4 lc4 _ (HG.out.keep C6.out.1) (D4_4.out.1.keep S4_6.out) (D4_4.out.2.1.below S4_6.out) Q.out.1 Q.out.2.2.2.2.1 0 Q.out.2.2.2.2.2.1).mono ?_
  rintro e w7 ⟨rfl, hb⟩
  have hbx : Below w6.heap.size w6 w7 := hb
  have S4_7 := Lib.hid (step0 S4_6.out hbx)
  have C7 := Lib.hid (And.intro (step0 C6.out.1 hbx) (C6.out.2.below hbx))
  have M0_7 := Lib.hid (M0_6.out.below hbx)
  clear g0 g1 g2 g3
  clear hb hbx c0 c1 c2 c3
  obtain ⟨⟨c0, c1, c2, c3⟩, _⟩ := C7.out.2.s4
  obtain ⟨⟨g0, g1, g2, g3⟩, _⟩ := M0_7.out.s4
  have hIl := Q.out.2.2.2.2.2.2.1
  have hz := Q.out.2.2.2.2.2.2.2
  obtain ⟨la, hla, y0, y1⟩ := (D4_4.out.2.1.1.below S4_7.out) I zs4[I] (List.getElem?_eq_getElem hIl)
  subst hla
  have hri := (D4_4.out.2.1.2.1.below S4_7.out).at hIl
  have hxx := hz zs4[I] (List.getElem?_eq_getElem hIl)
  obtain ⟨z, hzz⟩ : ∃ z, zs4[I] = z := ⟨_, rfl⟩
  rw [hzz] at y0 y1 hri hxx
  have i0 : (0 : Int) ≤ (I : Int) := by omega
  have i1 : (I : Int) < (zs4.length : Int) := by omega
  have i2 : ¬ (I : Int) < 0 := by omega
  have i3 : ¬ (zs4.length : Int) ≤ (I : Int) := by omega
  have i4 : decide ((I : Int) < 0) = false := by rw [decide_eq_false_iff_not]; exact i2
  have i5 : decide ((zs4.length : Int) ≤ (I : Int)) = false := by rw [decide_eq_false_iff_not]; exact i3
  have i6 : ¬ zs4.length ≤ I := by omega
  have i7 : decide (zs4.length ≤ I) = false := by rw [decide_eq_false_iff_not]; exact i6
  have X := Lib.hid (And.intro hri.1 hxx)
  clear hri hxx hz hzz
  go_wp2_with fail
  refine (same06 z.xs xs true z.ao ro z.cap rc _ (by rw [X.out.2]; have := F.out.2.2.1; omega) X.out.1 (H.out.2.2.1.below C7.out.1) (vls_true _ _ X.out.2)).mono ?_
  rintro e w8 ⟨rfl, hb⟩
  have hbx : Below w7.heap.size w7 w8 := hb
  have S4_8 := Lib.hid (step0 S4_7.out hbx)
  have C8 := Lib.hid (And.intro (step0 C7.out.1 hbx) (C7.out.2.below hbx))
  have M0_8 := Lib.hid (M0_7.out.below hbx)
  clear g0 g1 g2 g3 y0 y1
  clear hb hbx c0 c1 c2 c3
  obtain ⟨⟨c0, c1, c2, c3⟩, _⟩ := C8.out.2.s4
  obtain ⟨⟨g0, g1, g2, g3⟩, _⟩ := M0_8.out.s4
  go_wp2_with fail
  refine (del_w nm ks cs zs4 vo4 (some la) vc4 lc4 key _ (D4_4.out.1.keep S4_8.out) (D4_4.out.2.1.below S4_8.out) ⟨G.out.1.1, Q.out.1, Q.out.2.2.2.2.1⟩ Q.out.2.1 true Q.out.2.2.2.1).mono ?_
  rintro e w9 ⟨v, rfl, hDV, hb⟩
  have hbx : Below w8.heap.size w8 w9 := hb
  have S4_9 := Lib.hid (step0 S4_8.out hbx)
  have C9 := Lib.hid (And.intro (step0 C8.out.1 hbx) (C8.out.2.below hbx))
  have M0_9 := Lib.hid (M0_8.out.below hbx)
  obtain ⟨vo9, vc9, lo9, lc9, zs9, rfl, hq1, hq2, hq3⟩ := hDV
  have D9_9 := Lib.hid (And.intro hq1 (And.intro hq2 hq3))
  clear hq1 hq2 hq3 g0 g1 g2 g3 i0 i1 i2 i3 i4 i5 i6 i7 hIl
  clear hb hbx c0 c1 c2 c3
  obtain ⟨⟨c0, c1, c2, c3⟩, _⟩ := C9.out.2.s4
  have z0 := fun o => (C9.out.2.alloc o).s4.1.1
  have z1 := fun o => (C9.out.2.alloc o).s4.1.2.1
  have z2 := fun o => (C9.out.2.alloc o).s4.1.2.2.1
  have z3 := fun o => (C9.out.2.alloc o).s4.1.2.2.2
  go_wp2_with fail
  refine (awake_s _ (HG.out.keep (step0 C9.out.1 (below1 w9 _)))).mono ?_
  rintro e w10 ⟨rfl, hb⟩
  have Z := Lib.hid (step0 C9.out.1 (step0 (below1 w9 _) hb))
  clear hb
  go_wp2
  go_ret
  exact ⟨rfl, Z.out⟩

set_option maxRecDepth 1000000 in
set_option maxHeartbeats 8000000 in
theorem sheetBack_new (nm : Nm.S) (ks : Int) (cs : List C) (zs : List LV) (xs : List V) (ao lo ro : Option Addr) (cap lc rc : Nat) (w : World) (hg : Env w) (hT : At3 w ⟨nm, ks, cs⟩ ao cap) (hL : LS w zs lo lc) (hx : Sl w ro xs) (hok : ∀ x ∈ xs, x.ok) (hrc : xs.length ≤ rc) (hro : ro = none → rc = 0) (hf : Sf ⟨nm, ks, cs⟩ zs) (hE : sck ⟨nm, ks, cs⟩ (lls zs) = 0) (hv : Vf xs) (hfit : T.fit ⟨nm, ks, cs⟩ xs = 0) (key : Nm.S) (hkey : T.key ⟨nm, ks, cs⟩ xs = key) (hB : isk (lls zs) key = false) :
    Calls Tryd.prog 5 #[.agg #[.string ⟨nm.toArray⟩, .int .i64 ks, .slice ao cs.length cap, .slice lo zs.length lc], .slice ro xs.length rc] w fun e w' => e = .returned (.bool true) ∧ Below w.heap.size w w' := by
  have HG := Lib.hid hg
  have H := Lib.hid (And.intro hT (And.intro hL (And.intro hx (And.intro hok (And.intro hrc hro)))))
  clear hg hT hL hx hok hrc hro
  have h30 : ∀ l ∈ lls zs, l.r.length ≤ 30 := fun l hl => by
    obtain ⟨z, hz, rfl⟩ := List.mem_map.1 hl
    exact (hf.2.2 z hz).2.1
  have hlen : (lls zs).length ≤ 40 := by rw [lls_len]; exact hf.2.1
  have hsm : Smal cs zs := ⟨by have h1 : cs.length ≤ 20 := hf.1.1; omega, by have := hf.2.1; omega, fun z hz => (hf.2.2 z hz).2.1⟩
  have hP : ppt ⟨nm, ks, cs⟩ (lls zs) xs = (putl (lls zs) ⟨key, xs⟩, true, 0) := by unfold ppt; rw [hfit, if_pos rfl, hkey, hB]; rfl
  obtain ⟨I, hI⟩ : ∃ I, fnd (lls zs) key = I := ⟨_, rfl⟩
  have G := Lib.hid (And.intro hsm (And.intro (sck_ok hE).2.2 (And.intro hP (And.intro hfit (And.intro hkey (And.intro hI (del_put (ls := lls zs) (l := ⟨key, xs⟩) hB)))))))
  have F := Lib.hid (And.intro hf (And.intro hE hv))
  clear hf hE hv h30 hlen hsm hP hfit hkey hB hI
  go_enter Tryd.func5, Tryd.ntmps5
  go_wp2_with fail
  refine (sfew_yes nm ks cs zs ao lo cap lc _ (H.out.1.1.below (below1 _ _)) (H.out.2.1.below (below1 _ _)) F.out.1).mono ?_
  rintro e w1 ⟨rfl, hb⟩
  have C1 := Lib.hid (Blk.sh hb)
  clear hb
  obtain ⟨⟨c0, c1, c2, c3⟩, _⟩ := C1.out.2.s4
  go_wp2_with fail
  refine (scheck_is nm ks cs zs ao lo cap lc _ (HG.out.keep C1.out.1) (H.out.1.keep C1.out.1) (H.out.2.1.below C1.out.1) (by have := F.out.1.2.1; omega) (fun z hz => (F.out.1.2.2 z hz).2.1) 0 F.out.2.1).mono ?_
  rintro e w2 ⟨rfl, hb⟩
  have hbx : Below w1.heap.size w1 w2 := hb
  have C2 := Lib.hid (And.intro (step0 C1.out.1 hbx) (C1.out.2.below hbx))
  clear hb hbx c0 c1 c2 c3
  obtain ⟨⟨c0, c1, c2, c3⟩, _⟩ := C2.out.2.s4
  go_wp2_with fail
  refine (few_yes xs ro rc _ (H.out.2.2.1.below C2.out.1) F.out.2.2.1 F.out.2.2.2).mono ?_
  rintro e w3 ⟨rfl, hb⟩
  have hbx : Below w2.heap.size w2 w3 := hb
  have C3 := Lib.hid (And.intro (step0 C2.out.1 hbx) (C2.out.2.below hbx))
  clear hb hbx c0 c1 c2 c3
  obtain ⟨⟨c0, c1, c2, c3⟩, _⟩ := C3.out.2.s4
  go_wp2_with fail
  refine (put_w nm ks cs zs ao lo cap lc xs ro rc _ (HG.out.keep C3.out.1) (H.out.1.keep C3.out.1) (H.out.2.1.below C3.out.1) G.out.1 (H.out.2.2.1.below C3.out.1) F.out.2.2.1 H.out.2.2.2.1 H.out.2.2.2.2.1 H.out.2.2.2.2.2 G.out.2.1 (putl (lls zs) ⟨key, xs⟩) true 0 G.out.2.2.1).mono ?_
  rintro e w4 ⟨v, rfl, hDV, hb⟩
  have hbx : Below w3.heap.size w3 w4 := hb
  have C4 := Lib.hid (And.intro (step0 C3.out.1 hbx) (C3.out.2.below hbx))
  obtain ⟨vo4, vc4, lo4, lc4, zs4, rfl, hq1, hq2, hq3⟩ := hDV
  have D4_4 := Lib.hid (And.intro hq1 (And.intro hq2 hq3))
  clear hq1 hq2 hq3
  have Q := Lib.hid (show zs4.length ≤ 100 ∧ Ris (lls zs4) ∧ fnd (lls zs4) key = I ∧ isk (lls zs4) key = true ∧ (∀ z ∈ zs4, z.xs.length ≤ 30) ∧ sck ⟨nm, ks, cs⟩ (lls zs4) = 0 ∧ I < zs4.length ∧ ∀ z, zs4[I]? = some z → z.xs = xs from by
    have e := D4_4.out.2.2
    have P := Lib.hid (ppt_len ⟨nm, ks, cs⟩ (lls zs) xs G.out.2.2.1 (by rw [lls_len]; have := F.out.1.2.1; omega) (fun l hl => by
      obtain ⟨u, hu, rfl⟩ := List.mem_map.1 hl
      exact (F.out.1.2.2 u hu).2.1) F.out.2.2.1)
    have hp := put_at (lls zs) ⟨key, xs⟩
    have hIe : fnd (lls zs) key = I := G.out.2.2.2.2.2.1
    rw [show (⟨key, xs⟩ : L).k = key from rfl, hIe, ← e] at hp
    obtain ⟨hl, hq⟩ := List.getElem?_eq_some_iff.1 hp
    rw [lls_len] at hl
    refine ⟨?_, ?_, ?_, ?_, ?_, ?_, hl, ?_⟩
    · rw [← lls_len, e]
      unfold putl
      rw [List.length_append, List.length_take, List.length_cons, List.length_drop, lls_len]
      have := F.out.1.2.1
      omega
    · rw [e]; exact put_ris G.out.2.1 _
    · rw [e]; exact (fnd_put (ls := lls zs) ⟨key, xs⟩).trans hIe
    · rw [e]; exact isk_put (lls zs) ⟨key, xs⟩
    · intro z hz
      have h : z.l ∈ lls zs4 := List.mem_map_of_mem hz
      rw [e] at h
      rcases put_mem h with h | h
      · have := congrArg L.r h
        show z.l.r.length ≤ 30
        rw [this]; exact F.out.2.2.1
      · obtain ⟨u, hu, hul⟩ := List.mem_map.1 h
        show z.l.r.length ≤ 30
        rw [← hul]; exact (F.out.1.2.2 u hu).2.1
    · rw [e, ← G.out.2.2.2.2.1]; exact sck_put F.out.2.1 G.out.2.2.2.1
    · intro z hz
      rw [lls_at hl] at hq
      have hz' : zs4[I] = z := (List.getElem?_eq_some_iff.1 hz).2
      rw [hz'] at hq
      exact congrArg L.r hq)
  clear hb hbx c0 c1 c2 c3
  obtain ⟨⟨c0, c1, c2, c3⟩, _⟩ := C4.out.2.s4
  have z0 := fun o => (C4.out.2.alloc o).s4.1.1
  have z1 := fun o => (C4.out.2.alloc o).s4.1.2.1
  have z2 := fun o => (C4.out.2.alloc o).s4.1.2.2.1
  have z3 := fun o => (C4.out.2.alloc o).s4.1.2.2.2
  go_wp2_with fail
  refine (key_k nm ks cs xs key ao ro cap rc _ (H.out.1.keep (step0 C4.out.1 (below1 w4 _))) (H.out.2.2.1.below (step0 C4.out.1 (below1 w4 _))) F.out.2.2.1 H.out.2.2.2.1 (HG.out.keep (step0 C4.out.1 (below1 w4 _))) H.out.2.2.2.2.1 0 G.out.2.2.2.1 G.out.2.2.2.2.1).mono ?_
  rintro e w5 ⟨rfl, hb⟩
  have hbx : Below w4.heap.size w4 w5 := step0 (below1 w4 _) hb
  have S4_5 := Lib.hid hbx
  have C5 := Lib.hid (And.intro (step0 C4.out.1 hbx) (C4.out.2.below hbx))
  have M0_5 := Lib.hid ((Blk.new w4 #[.string ⟨nm.toArray⟩, .int .i64 ks, .slice vo4 cs.length vc4, .slice lo4 zs4.length lc4] 27).below hb)
  clear hb hbx c0 c1 c2 c3 z0 z1 z2 z3
  obtain ⟨⟨c0, c1, c2, c3⟩, _⟩ := C5.out.2.s4
  obtain ⟨⟨g0, g1, g2, g3⟩, _⟩ := M0_5.out.s4
  go_wp2_with fail
  refine (find_s nm ks cs zs4 key vo4 lo4 vc4 _ lc4 _ rfl (D4_4.out.2.1.1.below S4_5.out) (by have := Q.out.1; omega) Q.out.2.1 I true Q.out.2.2.1 Q.out.2.2.2.1).mono ?_
  rintro e w6 ⟨rfl, hb⟩
  have hbx : Below w5.heap.size w5 w6 := hb
  have S4_6 := Lib.hid (step0 S4_5.out hbx)
  have C6 := Lib.hid (And.intro (step0 C5.out.1 hbx) (C5.out.2.below hbx))
  have M0_6 := Lib.hid (M0_5.out.below hbx)
  clear g0 g1 g2 g3
  clear hb hbx c0 c1 c2 c3
  obtain ⟨⟨c0, c1, c2, c3⟩, _⟩ := C6.out.2.s4
  obtain ⟨⟨g0, g1, g2, g3⟩, _⟩ := M0_6.out.s4
  go_wp2_with fail
  refine (scheck_is nm ks cs zs4 vo4 lo4 vc4 lc4 _ (HG.out.keep C6.out.1) (D4_4.out.1.keep S4_6.out) (D4_4.out.2.1.below S4_6.out) Q.out.1 Q.out.2.2.2.2.1 0 Q.out.2.2.2.2.2.1).mono ?_
  rintro e w7 ⟨rfl, hb⟩
  have hbx : Below w6.heap.size w6 w7 := hb
  have S4_7 := Lib.hid (step0 S4_6.out hbx)
  have C7 := Lib.hid (And.intro (step0 C6.out.1 hbx) (C6.out.2.below hbx))
  have M0_7 := Lib.hid (M0_6.out.below hbx)
  clear g0 g1 g2 g3
  clear hb hbx c0 c1 c2 c3
  obtain ⟨⟨c0, c1, c2, c3⟩, _⟩ := C7.out.2.s4
  obtain ⟨⟨g0, g1, g2, g3⟩, _⟩ := M0_7.out.s4
  have hIl := Q.out.2.2.2.2.2.2.1
  have hz := Q.out.2.2.2.2.2.2.2
  obtain ⟨la, hla, y0, y1⟩ := (D4_4.out.2.1.1.below S4_7.out) I zs4[I] (List.getElem?_eq_getElem hIl)
  subst hla
  have hri := (D4_4.out.2.1.2.1.below S4_7.out).at hIl
  have hxx := hz zs4[I] (List.getElem?_eq_getElem hIl)
  obtain ⟨z, hzz⟩ : ∃ z, zs4[I] = z := ⟨_, rfl⟩
  rw [hzz] at y0 y1 hri hxx
  have i0 : (0 : Int) ≤ (I : Int) := by omega
  have i1 : (I : Int) < (zs4.length : Int) := by omega
  have i2 : ¬ (I : Int) < 0 := by omega
  have i3 : ¬ (zs4.length : Int) ≤ (I : Int) := by omega
  have i4 : decide ((I : Int) < 0) = false := by rw [decide_eq_false_iff_not]; exact i2
  have i5 : decide ((zs4.length : Int) ≤ (I : Int)) = false := by rw [decide_eq_false_iff_not]; exact i3
  have i6 : ¬ zs4.length ≤ I := by omega
  have i7 : decide (zs4.length ≤ I) = false := by rw [decide_eq_false_iff_not]; exact i6
  have X := Lib.hid (And.intro hri.1 hxx)
  clear hri hxx hz hzz
  go_wp2_with fail
  refine (same06 z.xs xs true z.ao ro z.cap rc _ (by rw [X.out.2]; have := F.out.2.2.1; omega) X.out.1 (H.out.2.2.1.below C7.out.1) (vls_true _ _ X.out.2)).mono ?_
  rintro e w8 ⟨rfl, hb⟩
  have hbx : Below w7.heap.size w7 w8 := hb
  have S4_8 := Lib.hid (step0 S4_7.out hbx)
  have C8 := Lib.hid (And.intro (step0 C7.out.1 hbx) (C7.out.2.below hbx))
  have M0_8 := Lib.hid (M0_7.out.below hbx)
  clear g0 g1 g2 g3 y0 y1
  clear hb hbx c0 c1 c2 c3
  obtain ⟨⟨c0, c1, c2, c3⟩, _⟩ := C8.out.2.s4
  obtain ⟨⟨g0, g1, g2, g3⟩, _⟩ := M0_8.out.s4
  go_wp2_with fail
  refine (del_w nm ks cs zs4 vo4 (some la) vc4 lc4 key _ (D4_4.out.1.keep S4_8.out) (D4_4.out.2.1.below S4_8.out) ⟨G.out.1.1, Q.out.1, Q.out.2.2.2.2.1⟩ Q.out.2.1 true Q.out.2.2.2.1).mono ?_
  rintro e w9 ⟨v, rfl, hDV, hb⟩
  have hbx : Below w8.heap.size w8 w9 := hb
  have S4_9 := Lib.hid (step0 S4_8.out hbx)
  have C9 := Lib.hid (And.intro (step0 C8.out.1 hbx) (C8.out.2.below hbx))
  have M0_9 := Lib.hid (M0_8.out.below hbx)
  obtain ⟨vo9, vc9, lo9, lc9, zs9, rfl, hq1, hq2, hq3⟩ := hDV
  have D9_9 := Lib.hid (And.intro hq1 (And.intro hq2 hq3))
  clear hq1 hq2 hq3 g0 g1 g2 g3 i0 i1 i2 i3 i4 i5 i6 i7 hIl
  clear hb hbx c0 c1 c2 c3
  obtain ⟨⟨c0, c1, c2, c3⟩, _⟩ := C9.out.2.s4
  have z0 := fun o => (C9.out.2.alloc o).s4.1.1
  have z1 := fun o => (C9.out.2.alloc o).s4.1.2.1
  have z2 := fun o => (C9.out.2.alloc o).s4.1.2.2.1
  have z3 := fun o => (C9.out.2.alloc o).s4.1.2.2.2
  have g0 := (Blk.new w9 #[.string ⟨nm.toArray⟩, .int .i64 ks, .slice vo9 cs.length vc9, .slice lo9 zs9.length lc9] 27).s4.1.1
  have g1 := (Blk.new w9 #[.string ⟨nm.toArray⟩, .int .i64 ks, .slice vo9 cs.length vc9, .slice lo9 zs9.length lc9] 27).s4.1.2.1
  have g2 := (Blk.new w9 #[.string ⟨nm.toArray⟩, .int .i64 ks, .slice vo9 cs.length vc9, .slice lo9 zs9.length lc9] 27).s4.1.2.2.1
  have g3 := (Blk.new w9 #[.string ⟨nm.toArray⟩, .int .i64 ks, .slice vo9 cs.length vc9, .slice lo9 zs9.length lc9] 27).s4.1.2.2.2
  have q4 := below1 w9 (.cells #[.string ⟨nm.toArray⟩, .int .i64 ks, .slice vo9 cs.length vc9, .slice lo9 zs9.length lc9] 27)
  go_wp2_with fail
  refine (rsheet_s nm ks cs (lls zs) _ _ _ ⟨ao, cap, lo, lc, zs, rfl, H.out.1.keep (step0 C9.out.1 q4), H.out.2.1.below (step0 C9.out.1 q4), rfl⟩ ⟨vo9, vc9, lo9, lc9, zs9, rfl, D9_9.out.1.keep q4, D9_9.out.2.1.below q4, by rw [D9_9.out.2.2, D4_4.out.2.2]; exact G.out.2.2.2.2.2.2⟩ G.out.1.1 (by rw [lls_len]; have := F.out.1.2.1; omega) (fun l hl => by
      obtain ⟨u, hu, rfl⟩ := List.mem_map.1 hl
      have := (F.out.1.2.2 u hu).2.1
      show u.xs.length ≤ 1000000
      omega)).mono ?_
  rintro e w10 ⟨rfl, hb⟩
  have hbx : Below w9.heap.size w9 w10 := step0 (below1 w9 _) hb
  have S4_10 := Lib.hid (step0 S4_9.out hbx)
  have C10 := Lib.hid (And.intro (step0 C9.out.1 hbx) (C9.out.2.below hbx))
  have M0_10 := Lib.hid (M0_9.out.below hbx)
  have M1_10 := Lib.hid ((Blk.new w9 #[.string ⟨nm.toArray⟩, .int .i64 ks, .slice vo9 cs.length vc9, .slice lo9 zs9.length lc9] 27).below hb)
  clear g0 g1 g2 g3 q4
  clear hb hbx c0 c1 c2 c3 z0 z1 z2 z3
  obtain ⟨⟨c0, c1, c2, c3⟩, _⟩ := C10.out.2.s4
  go_wp2_with fail
  refine (awake_s _ (HG.out.keep C10.out.1)).mono ?_
  rintro e w11 ⟨rfl, hb⟩
  have hbx : Below w10.heap.size w10 w11 := hb
  have S4_11 := Lib.hid (step0 S4_10.out hbx)
  have C11 := Lib.hid (And.intro (step0 C10.out.1 hbx) (C10.out.2.below hbx))
  have M0_11 := Lib.hid (M0_10.out.below hbx)
  have M1_11 := Lib.hid (M1_10.out.below hbx)
  clear hb hbx c0 c1 c2 c3
  obtain ⟨⟨c0, c1, c2, c3⟩, _⟩ := C11.out.2.s4
  go_wp2
  go_ret
  exact ⟨rfl, C11.out.1⟩


theorem sheetBack_walk (nm : Nm.S) (ks : Int) (cs : List C) (zs : List LV) (xs : List V) (ao lo ro : Option Addr) (cap lc rc : Nat) (w : World) (hg : Env w) (hT : At3 w ⟨nm, ks, cs⟩ ao cap) (hL : LS w zs lo lc) (hx : Sl w ro xs) (hok : ∀ x ∈ xs, x.ok) (hrc : xs.length ≤ rc) (hro : ro = none → rc = 0) :
    Calls Tryd.prog 5 #[.agg #[.string ⟨nm.toArray⟩, .int .i64 ks, .slice ao cs.length cap, .slice lo zs.length lc], .slice ro xs.length rc] w fun e w' => e = .returned (.bool true) ∧ Below w.heap.size w w' := by
  by_cases hf : Sf ⟨nm, ks, cs⟩ zs
  case neg => exact sheetBack_n1 nm ks cs zs xs ao lo ro cap lc rc w hg hT hL hx hok hrc hro hf
  by_cases hE : sck ⟨nm, ks, cs⟩ (lls zs) = 0
  case neg => exact sheetBack_n2 nm ks cs zs xs ao lo ro cap lc rc w hg hT hL hx hok hrc hro hf _ rfl hE
  by_cases hv : Vf xs
  case neg => exact sheetBack_n3 nm ks cs zs xs ao lo ro cap lc rc w hg hT hL hx hok hrc hro hf hE hv
  by_cases hfit : T.fit ⟨nm, ks, cs⟩ xs = 0
  case neg => exact sheetBack_bad nm ks cs zs xs ao lo ro cap lc rc w hg hT hL hx hok hrc hro hf hE hv _ rfl hfit
  cases hB : isk (lls zs) (T.key ⟨nm, ks, cs⟩ xs) with
  | true => exact sheetBack_old nm ks cs zs xs ao lo ro cap lc rc w hg hT hL hx hok hrc hro hf hE hv hfit _ rfl hB
  | false => exact sheetBack_new nm ks cs zs xs ao lo ro cap lc rc w hg hT hL hx hok hrc hro hf hE hv hfit _ rfl hB

end Go.Proofs.YtfgakoldedpfoaaDoor
