/-
  The document's Put of a row, Delete of a key's row. Conditions: a sheet in memory, of at most 1000 columns and 100 lines of at most 30 values; a row of at most 30 values that keep a value's bounds.
-/
import Derived.Test.YtfgakoldedpfoaaGreatDoorShRef
import Derived.Test.YtfgakoldedpfoaaGreatDoorShRCheck
import Derived.Test.YtfgakoldedpfoaaGreatDoorShDel
namespace Go.Proofs.YtfgakoldedpfoaaGreatDoor
open Go.RowKit
set_option linter.unusedVariables false
set_option linter.unusedSimpArgs false

set_option maxRecDepth 1000000 in
set_option maxHeartbeats 4000000 in
theorem rsput_bad (nm : Nm.S) (ks : Int) (cs : List C) (zs : List LV) (ao lo : Option Addr) (cap lc : Nat) (xs : List V) (ro : Option Addr) (rc : Nat) (w : World) (hT : At3 w ⟨nm, ks, cs⟩ ao cap) (hL : LS w zs lo lc) (hl : zs.length ≤ 1000) (hx : Sl w ro xs) (hx30 : xs.length ≤ 30) (hok : ∀ x ∈ xs, x.ok) (hrc : xs.length ≤ rc) (E : Int) (hE : T.fit ⟨nm, ks, cs⟩ xs = E) (h0 : E ≠ 0) :
    Calls Tryz.prog 12 #[.agg #[.string ⟨nm.toArray⟩, .int .i64 ks, .slice ao cs.length cap, .slice lo zs.length lc], .slice ro xs.length rc] w fun e w' => ∃ v, e = .returned (.tuple #[v, .bool false, .int .i64 E]) ∧ DV w' nm ks cs (lls zs) v ∧ Below w.heap.size w w' := by
  have n1 : (E == 0) = false := by simpa using h0
  have n2 : (E != 0) = true := by simpa using h0
  have H := Lib.hid (And.intro hT (And.intro hL (And.intro hx (And.intro hx30 (And.intro hok (And.intro hrc hE))))))
  clear hT hL hl hx hx30 hok hrc hE
  go_enter Tryz.func12, Tryz.ntmps12
  go_wp2_with fail
  refine (rkey_k nm ks cs xs _ ao ro cap rc _ (H.out.1.keep (below2s _ _ _)) (H.out.2.2.1.below (below2s _ _ _)) H.out.2.2.2.1 H.out.2.2.2.2.1 H.out.2.2.2.2.2.1 E H.out.2.2.2.2.2.2 rfl).mono ?_
  rintro e w1 ⟨rfl, hb⟩
  have K1 := Lib.hid (two_boxes hb)
  clear hb
  obtain ⟨⟨c0, c1, c2, c3⟩, _⟩ := K1.out.2.1.s4
  obtain ⟨⟨d0, d1, d2, d3⟩, f0, f1, f2, f3⟩ := K1.out.2.2.1.s4
  go_wp2
  have pB := K1.out.2.2.1.put4 (.string ⟨nm.toArray⟩) (.int .i64 ks) (.slice ao cs.length cap) (.slice lo zs.length lc)
  obtain ⟨⟨e0, e1, e2, e3⟩, _⟩ := pB.s4
  unfold st4 at e0 e1 e2 e3
  have hbf := below_st4 K1.out.1 (show w.heap.size ≤ w.heap.size + 1 by omega) (.string ⟨nm.toArray⟩) (.int .i64 ks) (.slice ao cs.length cap) (.slice lo zs.length lc)
  refine bodyPost_ret (v := .tuple #[.agg #[.string ⟨nm.toArray⟩, .int .i64 ks, .slice ao cs.length cap, .slice lo zs.length lc], .bool false, .int .i64 E]) ?_ rfl ⟨_, rfl, ⟨ao, cap, lo, lc, zs, rfl, H.out.1.keep hbf, H.out.2.1.below hbf, rfl⟩, hbf⟩
  simp [results, Tryz.results12, go_sem, e0, e1, e2, e3]

set_option maxRecDepth 1000000 in
set_option maxHeartbeats 4000000 in
theorem rsdel_false (nm : Nm.S) (ks : Int) (cs : List C) (zs : List LV) (ao lo : Option Addr) (cap lc : Nat) (key : Nm.S) (w : World) (hT : At3 w ⟨nm, ks, cs⟩ ao cap) (hL : LS w zs lo lc) (hl : zs.length ≤ 1000) (hB : isk (lls zs) key = false) :
    Calls Tryz.prog 14 #[.agg #[.string ⟨nm.toArray⟩, .int .i64 ks, .slice ao cs.length cap, .slice lo zs.length lc], .string ⟨key.toArray⟩] w fun e w' => ∃ v, e = .returned (.tuple #[v, .bool false]) ∧ DV w' nm ks cs (lls zs) v ∧ Below w.heap.size w w' := by
  obtain ⟨I, hI⟩ : ∃ I, fnd (lls zs) key = I := ⟨_, rfl⟩
  have H := Lib.hid (And.intro hT (And.intro hL (And.intro hl (And.intro hB hI))))
  clear hT hL hl hB hI
  go_enter Tryz.func14, Tryz.ntmps14
  go_wp2_with fail
  refine (rfind_s nm ks cs zs key ao lo cap _ lc _ rfl (H.out.2.1.1.below (below2s _ _ _)) H.out.2.2.1 I false H.out.2.2.2.2 H.out.2.2.2.1).mono ?_
  rintro e w1 ⟨rfl, hb⟩
  have K1 := Lib.hid (two_boxes hb)
  clear hb
  obtain ⟨⟨c0, c1, c2, c3⟩, _⟩ := K1.out.2.1.s4
  obtain ⟨⟨d0, d1, d2, d3⟩, f0, f1, f2, f3⟩ := K1.out.2.2.1.s4
  go_wp2
  have pB := K1.out.2.2.1.put4 (.string ⟨nm.toArray⟩) (.int .i64 ks) (.slice ao cs.length cap) (.slice lo zs.length lc)
  obtain ⟨⟨e0, e1, e2, e3⟩, _⟩ := pB.s4
  unfold st4 at e0 e1 e2 e3
  have hbf := below_st4 K1.out.1 (show w.heap.size ≤ w.heap.size + 1 by omega) (.string ⟨nm.toArray⟩) (.int .i64 ks) (.slice ao cs.length cap) (.slice lo zs.length lc)
  refine bodyPost_ret (v := .tuple #[.agg #[.string ⟨nm.toArray⟩, .int .i64 ks, .slice ao cs.length cap, .slice lo zs.length lc], .bool false]) ?_ rfl ⟨_, rfl, ⟨ao, cap, lo, lc, zs, rfl, H.out.1.keep hbf, H.out.2.1.below hbf, rfl⟩, hbf⟩
  simp [results, Tryz.results14, go_sem, e0, e1, e2, e3]

set_option maxRecDepth 1000000 in
set_option maxHeartbeats 4000000 in
theorem rsput_true (nm : Nm.S) (ks : Int) (cs : List C) (zs : List LV) (ao lo : Option Addr) (cap lc : Nat) (xs : List V) (ro : Option Addr) (rc : Nat) (key : Nm.S) (w : World) (hT : At3 w ⟨nm, ks, cs⟩ ao cap) (hL : LS w zs lo lc) (hl : zs.length ≤ 100) (hx : Sl w ro xs) (hx30 : xs.length ≤ 30) (hok : ∀ x ∈ xs, x.ok) (hrc : xs.length ≤ rc) (hro : ro = none → rc = 0) (hE : T.fit ⟨nm, ks, cs⟩ xs = 0) (hk : T.key ⟨nm, ks, cs⟩ xs = key) (hB : isk (lls zs) key = true) :
    Calls Tryz.prog 12 #[.agg #[.string ⟨nm.toArray⟩, .int .i64 ks, .slice ao cs.length cap, .slice lo zs.length lc], .slice ro xs.length rc] w fun e w' => ∃ v, e = .returned (.tuple #[v, .bool false, .int .i64 0]) ∧ DV w' nm ks cs (putl (lls zs) ⟨key, xs⟩) v ∧ Below w.heap.size w w' := by
  obtain ⟨I, hI⟩ : ∃ I, fnd (lls zs) key = I := ⟨_, rfl⟩
  have hIle : I ≤ zs.length := by rw [← hI, ← lls_len]; exact fnd_le _ _
  have hIlt : I < zs.length := by
    obtain ⟨hl, _⟩ := isk_at hB
    rw [lls_len, hI] at hl; exact hl
  have b0 : (0 : Int) ≤ (I : Int) + 1 := by omega
  have b1 : (I : Int) + 1 ≤ (zs.length : Int) := by omega
  have i0 : (0 : Int) ≤ (I : Int) := by omega
  have i1 : (I : Int) ≤ (zs.length : Int) := by omega
  have i2 : (I : Int) ≤ (lc : Int) := by have := hL.2.2.1; omega
  have hsz : zs.length < 4611686018427387904 := by omega
  have hpl : (plv zs I (I + 1) ⟨key, xs, ro, rc⟩).length ≤ 101 := Nat.le_trans (plv_len (by omega)) (by omega)
  obtain ⟨A, hA⟩ : ∃ A, (if lc = (I + 1) then lo else Option.map (fun x => x.add ((I + 1) * 2)) lo) = A := ⟨_, rfl⟩
  have H := Lib.hid (And.intro hT (And.intro hL (And.intro hl (And.intro hx (And.intro hx30 (And.intro hok (And.intro hrc (And.intro hro (And.intro hE (And.intro hk (And.intro hB (And.intro hI hpl))))))))))))
  clear hT hL hl hx hx30 hok hrc hro hE hk hB hI hpl
  go_enter Tryz.func12, Tryz.ntmps12
  go_wp2_with fail
  refine (rkey_k nm ks cs xs key ao ro cap rc _ (H.out.1.keep (below2s _ _ _)) (H.out.2.2.2.1.below (below2s _ _ _)) H.out.2.2.2.2.1 H.out.2.2.2.2.2.1 H.out.2.2.2.2.2.2.1 0 H.out.2.2.2.2.2.2.2.2.1 H.out.2.2.2.2.2.2.2.2.2.1).mono ?_
  rintro e w1 ⟨rfl, hb⟩
  have K1 := Lib.hid (two_boxes hb)
  clear hb
  obtain ⟨⟨c0, c1, c2, c3⟩, _⟩ := K1.out.2.1.s4
  go_wp2_with fail
  refine (rfind_s nm ks cs zs key ao lo cap _ lc _ rfl (H.out.2.1.1.below K1.out.1) (by have := H.out.2.2.1; omega) I true H.out.2.2.2.2.2.2.2.2.2.2.2.1 H.out.2.2.2.2.2.2.2.2.2.2.1).mono ?_
  rintro e w2 ⟨rfl, hb⟩
  clear c0 c1 c2 c3
  have K2 := Lib.hid (And.intro (K1.out.1.trans (hb.mono K1.out.1.size)) (And.intro (K1.out.2.1.below hb) (And.intro (K1.out.2.2.1.below hb) (Nat.le_trans K1.out.2.2.2 hb.size))))
  clear hb
  obtain ⟨⟨c0, c1, c2, c3⟩, _⟩ := K2.out.2.1.s4
  have hlt := Lib.hid (show I = (zs.take I).length by rw [List.length_take]; omega)
  go_wp2_with (at_builtin; go_loud (refine appLs rfl _ _ rfl (w.heap.size + 2) (.slice none 0 0) [] (zs.take I) _ rfl (owl_nil _ _) lo I lc rfl hlt.out ((H.out.2.1.below K2.out.1).take I).1 H.out.2.1.2.2.2 (by have := H.out.2.2.1; simp; omega) K2.out.2.2.2 ?_))
  intro v1 w3 hO hbb _ _
  have K3 := Lib.hid (And.intro (show OwL w3 (w.heap.size + 2) v1 (zs.take I) from hO) (And.intro (K2.out.1.trans (hbb.mono (by omega))) (And.intro (K2.out.2.1.below' hbb (by omega)) (And.intro (K2.out.2.2.1.below' hbb (by omega)) (Nat.le_trans K2.out.2.2.2 hbb.size)))))
  clear hO hbb c0 c1 c2 c3
  obtain ⟨⟨c0, c1, c2, c3⟩, _⟩ := K3.out.2.2.1.s4
  go_wp2_with (at_builtin; refine appLs rfl _ _ rfl (w.heap.size + 2) v1 (zs.take I) [⟨key, xs, ro, rc⟩] _ rfl (K3.out.1.keep (below1 _ _)) (some ⟨w3.heap.size, 0, none⟩) 1 1 rfl rfl (slL_one (Blk.new _ _ _)) (fun e => by cases e) (by have := H.out.2.2.1; simp; omega) (by have := K3.out.2.2.2.2; simp; omega) ?_)
  intro v2 w4 hO hbb _ _
  have hbb' := (below1 w3 (.cells #[.string ⟨key.toArray⟩, .slice ro xs.length rc] 47)).mono K3.out.2.2.2.2 |>.trans hbb
  have K4 := Lib.hid (And.intro hO (And.intro (K3.out.2.1.trans (hbb'.mono (by omega))) (And.intro (K3.out.2.2.1.below' hbb' (by omega)) (And.intro (K3.out.2.2.2.1.below' hbb' (by omega)) (Nat.le_trans K3.out.2.2.2.2 hbb'.size)))))
  clear hO hbb hbb' c0 c1 c2 c3
  obtain ⟨⟨c0, c1, c2, c3⟩, _⟩ := K4.out.2.2.1.s4
  have hld := Lib.hid (show zs.length - (I + 1) = (zs.drop (I + 1)).length by rw [List.length_drop])
  have LA := Lib.hid (show LS w (zs.drop (I + 1)) A (lc - (I + 1)) from hA ▸ H.out.2.1.drop (I + 1) (by omega))
  go_wp2_with (at_builtin; refine appLs rfl _ _ rfl (w.heap.size + 2) v2 (zs.take I ++ [⟨key, xs, ro, rc⟩]) (zs.drop (I + 1)) _ rfl K4.out.1 A (zs.length - (I + 1)) (lc - (I + 1)) rfl hld.out (LA.out.below K4.out.2.1).1 LA.out.2.2.2 (by have := H.out.2.2.1; simp; omega) K4.out.2.2.2.2 ?_)
  intro v w5 hO hbb _ _
  have hO5 : OwL w5 (w.heap.size + 2) v (plv zs I (I + 1) ⟨key, xs, ro, rc⟩) := hO
  have KB := Lib.hid (And.intro (K4.out.2.1.trans (hbb.mono (by omega))) (And.intro (K4.out.2.2.1.below' hbb (by omega)) (K4.out.2.2.2.1.below' hbb (by omega))))
  clear hO hbb c0 c1 c2 c3 hlt hld hA
  obtain ⟨vo, vc, hv, _, _⟩ := hO5.sl
  subst hv
  have p0 := KB.out.2.1.setAt 3 (.slice vo (plv zs I (I + 1) ⟨key, xs, ro, rc⟩).length vc)
  have p1 := KB.out.2.2.otherAt (show w.heap.size + 1 ≠ w.heap.size by omega) 3 (.slice vo (plv zs I (I + 1) ⟨key, xs, ro, rc⟩).length vc)
  have pb := KB.out.1.setCell (p := ⟨w.heap.size, 3, none⟩) (Nat.le_refl _) (.slice vo (plv zs I (I + 1) ⟨key, xs, ro, rc⟩).length vc)
  have po := hO5.off 3 (.slice vo (plv zs I (I + 1) ⟨key, xs, ro, rc⟩).length vc) (show w.heap.size < w.heap.size + 2 by omega)
  obtain ⟨⟨c0, c1, c2, c3⟩, f0, f1, f2, f3⟩ := KB.out.2.1.s4
  obtain ⟨W6, hW6⟩ : ∃ W6, w5.setCell ⟨w.heap.size, 3, none⟩ (.slice vo (plv zs I (I + 1) ⟨key, xs, ro, rc⟩).length vc) = W6 := ⟨_, rfl⟩
  rw [hW6] at p0 p1 pb po
  have p0' : Blk W6 w.heap.size #[.string ⟨nm.toArray⟩, .int .i64 ks, .slice ao cs.length cap, .slice vo (plv zs I (I + 1) ⟨key, xs, ro, rc⟩).length vc] 27 := by simpa using p0
  obtain ⟨⟨g0, g1, g2, g3⟩, _⟩ := p0'.s4
  obtain ⟨⟨d0, d1, d2, d3⟩, h0, h1, h2, h3⟩ := p1.s4
  have KC := Lib.hid (And.intro pb (And.intro po p1))
  clear p0 p1 pb po p0' hO5
  go_wp2
  have pB := KC.out.2.2.put4 (.string ⟨nm.toArray⟩) (.int .i64 ks) (.slice ao cs.length cap) (.slice vo (plv zs I (I + 1) ⟨key, xs, ro, rc⟩).length vc)
  obtain ⟨⟨e0, e1, e2, e3⟩, _⟩ := pB.s4
  unfold st4 at e0 e1 e2 e3
  have hbf := below_st4 KC.out.1 (show w.heap.size ≤ w.heap.size + 1 by omega) (.string ⟨nm.toArray⟩) (.int .i64 ks) (.slice ao cs.length cap) (.slice vo (plv zs I (I + 1) ⟨key, xs, ro, rc⟩).length vc)
  have hof := KC.out.2.1.off4 (show w.heap.size + 1 < w.heap.size + 2 by omega) (.string ⟨nm.toArray⟩) (.int .i64 ks) (.slice ao cs.length cap) (.slice vo (plv zs I (I + 1) ⟨key, xs, ro, rc⟩).length vc)
  obtain ⟨ao9, cap9, hv9, hLS9⟩ := hof.ls (fun z hz => by
    rcases plv_mem hz with rfl | hz
    · exact ⟨H.out.2.2.2.1.below hbf, H.out.2.2.2.2.2.2.1, H.out.2.2.2.2.2.2.2.1, H.out.2.2.2.2.2.1⟩
    · exact (H.out.2.1.2.1.below hbf) z hz)
  injection hv9 with q1 _ q3
  subst q1 q3
  refine bodyPost_ret (v := .tuple #[.agg #[.string ⟨nm.toArray⟩, .int .i64 ks, .slice ao cs.length cap, .slice vo (plv zs I (I + 1) ⟨key, xs, ro, rc⟩).length vc], .bool false, .int .i64 0]) ?_ rfl ⟨_, rfl, ⟨ao, cap, vo, vc, plv zs I (I + 1) ⟨key, xs, ro, rc⟩, rfl, H.out.1.keep hbf, hLS9, plv_lls (z := ⟨key, xs, ro, rc⟩) H.out.2.2.2.2.2.2.2.2.2.2.2.1 H.out.2.2.2.2.2.2.2.2.2.2.1 (show (I + 1) = I + if true = true then 1 else 0 by simp)⟩, hbf⟩
  simp [results, Tryz.results12, go_sem, e0, e1, e2, e3]

set_option maxRecDepth 1000000 in
set_option maxHeartbeats 4000000 in
theorem rsput_false (nm : Nm.S) (ks : Int) (cs : List C) (zs : List LV) (ao lo : Option Addr) (cap lc : Nat) (xs : List V) (ro : Option Addr) (rc : Nat) (key : Nm.S) (w : World) (hT : At3 w ⟨nm, ks, cs⟩ ao cap) (hL : LS w zs lo lc) (hl : zs.length ≤ 100) (hx : Sl w ro xs) (hx30 : xs.length ≤ 30) (hok : ∀ x ∈ xs, x.ok) (hrc : xs.length ≤ rc) (hro : ro = none → rc = 0) (hE : T.fit ⟨nm, ks, cs⟩ xs = 0) (hk : T.key ⟨nm, ks, cs⟩ xs = key) (hB : isk (lls zs) key = false) :
    Calls Tryz.prog 12 #[.agg #[.string ⟨nm.toArray⟩, .int .i64 ks, .slice ao cs.length cap, .slice lo zs.length lc], .slice ro xs.length rc] w fun e w' => ∃ v, e = .returned (.tuple #[v, .bool true, .int .i64 0]) ∧ DV w' nm ks cs (putl (lls zs) ⟨key, xs⟩) v ∧ Below w.heap.size w w' := by
  obtain ⟨I, hI⟩ : ∃ I, fnd (lls zs) key = I := ⟨_, rfl⟩
  have hIle : I ≤ zs.length := by rw [← hI, ← lls_len]; exact fnd_le _ _
  have i0 : (0 : Int) ≤ (I : Int) := by omega
  have i1 : (I : Int) ≤ (zs.length : Int) := by omega
  have i2 : (I : Int) ≤ (lc : Int) := by have := hL.2.2.1; omega
  have hsz : zs.length < 4611686018427387904 := by omega
  have hpl : (plv zs I I ⟨key, xs, ro, rc⟩).length ≤ 101 := Nat.le_trans (plv_len (by omega)) (by omega)
  obtain ⟨A, hA⟩ : ∃ A, (if lc = I then lo else Option.map (fun x => x.add (I * 2)) lo) = A := ⟨_, rfl⟩
  have H := Lib.hid (And.intro hT (And.intro hL (And.intro hl (And.intro hx (And.intro hx30 (And.intro hok (And.intro hrc (And.intro hro (And.intro hE (And.intro hk (And.intro hB (And.intro hI hpl))))))))))))
  clear hT hL hl hx hx30 hok hrc hro hE hk hB hI hpl
  go_enter Tryz.func12, Tryz.ntmps12
  go_wp2_with fail
  refine (rkey_k nm ks cs xs key ao ro cap rc _ (H.out.1.keep (below2s _ _ _)) (H.out.2.2.2.1.below (below2s _ _ _)) H.out.2.2.2.2.1 H.out.2.2.2.2.2.1 H.out.2.2.2.2.2.2.1 0 H.out.2.2.2.2.2.2.2.2.1 H.out.2.2.2.2.2.2.2.2.2.1).mono ?_
  rintro e w1 ⟨rfl, hb⟩
  have K1 := Lib.hid (two_boxes hb)
  clear hb
  obtain ⟨⟨c0, c1, c2, c3⟩, _⟩ := K1.out.2.1.s4
  go_wp2_with fail
  refine (rfind_s nm ks cs zs key ao lo cap _ lc _ rfl (H.out.2.1.1.below K1.out.1) (by have := H.out.2.2.1; omega) I false H.out.2.2.2.2.2.2.2.2.2.2.2.1 H.out.2.2.2.2.2.2.2.2.2.2.1).mono ?_
  rintro e w2 ⟨rfl, hb⟩
  clear c0 c1 c2 c3
  have K2 := Lib.hid (And.intro (K1.out.1.trans (hb.mono K1.out.1.size)) (And.intro (K1.out.2.1.below hb) (And.intro (K1.out.2.2.1.below hb) (Nat.le_trans K1.out.2.2.2 hb.size))))
  clear hb
  obtain ⟨⟨c0, c1, c2, c3⟩, _⟩ := K2.out.2.1.s4
  have hlt := Lib.hid (show I = (zs.take I).length by rw [List.length_take]; omega)
  go_wp2_with (at_builtin; go_loud (refine appLs rfl _ _ rfl (w.heap.size + 2) (.slice none 0 0) [] (zs.take I) _ rfl (owl_nil _ _) lo I lc rfl hlt.out ((H.out.2.1.below K2.out.1).take I).1 H.out.2.1.2.2.2 (by have := H.out.2.2.1; simp; omega) K2.out.2.2.2 ?_))
  intro v1 w3 hO hbb _ _
  have K3 := Lib.hid (And.intro (show OwL w3 (w.heap.size + 2) v1 (zs.take I) from hO) (And.intro (K2.out.1.trans (hbb.mono (by omega))) (And.intro (K2.out.2.1.below' hbb (by omega)) (And.intro (K2.out.2.2.1.below' hbb (by omega)) (Nat.le_trans K2.out.2.2.2 hbb.size)))))
  clear hO hbb c0 c1 c2 c3
  obtain ⟨⟨c0, c1, c2, c3⟩, _⟩ := K3.out.2.2.1.s4
  go_wp2_with (at_builtin; refine appLs rfl _ _ rfl (w.heap.size + 2) v1 (zs.take I) [⟨key, xs, ro, rc⟩] _ rfl (K3.out.1.keep (below1 _ _)) (some ⟨w3.heap.size, 0, none⟩) 1 1 rfl rfl (slL_one (Blk.new _ _ _)) (fun e => by cases e) (by have := H.out.2.2.1; simp; omega) (by have := K3.out.2.2.2.2; simp; omega) ?_)
  intro v2 w4 hO hbb _ _
  have hbb' := (below1 w3 (.cells #[.string ⟨key.toArray⟩, .slice ro xs.length rc] 47)).mono K3.out.2.2.2.2 |>.trans hbb
  have K4 := Lib.hid (And.intro hO (And.intro (K3.out.2.1.trans (hbb'.mono (by omega))) (And.intro (K3.out.2.2.1.below' hbb' (by omega)) (And.intro (K3.out.2.2.2.1.below' hbb' (by omega)) (Nat.le_trans K3.out.2.2.2.2 hbb'.size)))))
  clear hO hbb hbb' c0 c1 c2 c3
  obtain ⟨⟨c0, c1, c2, c3⟩, _⟩ := K4.out.2.2.1.s4
  have hld := Lib.hid (show zs.length - I = (zs.drop I).length by rw [List.length_drop])
  have LA := Lib.hid (show LS w (zs.drop I) A (lc - I) from hA ▸ H.out.2.1.drop I (by omega))
  go_wp2_with (at_builtin; refine appLs rfl _ _ rfl (w.heap.size + 2) v2 (zs.take I ++ [⟨key, xs, ro, rc⟩]) (zs.drop I) _ rfl K4.out.1 A (zs.length - I) (lc - I) rfl hld.out (LA.out.below K4.out.2.1).1 LA.out.2.2.2 (by have := H.out.2.2.1; simp; omega) K4.out.2.2.2.2 ?_)
  intro v w5 hO hbb _ _
  have hO5 : OwL w5 (w.heap.size + 2) v (plv zs I I ⟨key, xs, ro, rc⟩) := hO
  have KB := Lib.hid (And.intro (K4.out.2.1.trans (hbb.mono (by omega))) (And.intro (K4.out.2.2.1.below' hbb (by omega)) (K4.out.2.2.2.1.below' hbb (by omega))))
  clear hO hbb c0 c1 c2 c3 hlt hld hA
  obtain ⟨vo, vc, hv, _, _⟩ := hO5.sl
  subst hv
  have p0 := KB.out.2.1.setAt 3 (.slice vo (plv zs I I ⟨key, xs, ro, rc⟩).length vc)
  have p1 := KB.out.2.2.otherAt (show w.heap.size + 1 ≠ w.heap.size by omega) 3 (.slice vo (plv zs I I ⟨key, xs, ro, rc⟩).length vc)
  have pb := KB.out.1.setCell (p := ⟨w.heap.size, 3, none⟩) (Nat.le_refl _) (.slice vo (plv zs I I ⟨key, xs, ro, rc⟩).length vc)
  have po := hO5.off 3 (.slice vo (plv zs I I ⟨key, xs, ro, rc⟩).length vc) (show w.heap.size < w.heap.size + 2 by omega)
  obtain ⟨⟨c0, c1, c2, c3⟩, f0, f1, f2, f3⟩ := KB.out.2.1.s4
  obtain ⟨W6, hW6⟩ : ∃ W6, w5.setCell ⟨w.heap.size, 3, none⟩ (.slice vo (plv zs I I ⟨key, xs, ro, rc⟩).length vc) = W6 := ⟨_, rfl⟩
  rw [hW6] at p0 p1 pb po
  have p0' : Blk W6 w.heap.size #[.string ⟨nm.toArray⟩, .int .i64 ks, .slice ao cs.length cap, .slice vo (plv zs I I ⟨key, xs, ro, rc⟩).length vc] 27 := by simpa using p0
  obtain ⟨⟨g0, g1, g2, g3⟩, _⟩ := p0'.s4
  obtain ⟨⟨d0, d1, d2, d3⟩, h0, h1, h2, h3⟩ := p1.s4
  have KC := Lib.hid (And.intro pb (And.intro po p1))
  clear p0 p1 pb po p0' hO5
  go_wp2
  have pB := KC.out.2.2.put4 (.string ⟨nm.toArray⟩) (.int .i64 ks) (.slice ao cs.length cap) (.slice vo (plv zs I I ⟨key, xs, ro, rc⟩).length vc)
  obtain ⟨⟨e0, e1, e2, e3⟩, _⟩ := pB.s4
  unfold st4 at e0 e1 e2 e3
  have hbf := below_st4 KC.out.1 (show w.heap.size ≤ w.heap.size + 1 by omega) (.string ⟨nm.toArray⟩) (.int .i64 ks) (.slice ao cs.length cap) (.slice vo (plv zs I I ⟨key, xs, ro, rc⟩).length vc)
  have hof := KC.out.2.1.off4 (show w.heap.size + 1 < w.heap.size + 2 by omega) (.string ⟨nm.toArray⟩) (.int .i64 ks) (.slice ao cs.length cap) (.slice vo (plv zs I I ⟨key, xs, ro, rc⟩).length vc)
  obtain ⟨ao9, cap9, hv9, hLS9⟩ := hof.ls (fun z hz => by
    rcases plv_mem hz with rfl | hz
    · exact ⟨H.out.2.2.2.1.below hbf, H.out.2.2.2.2.2.2.1, H.out.2.2.2.2.2.2.2.1, H.out.2.2.2.2.2.1⟩
    · exact (H.out.2.1.2.1.below hbf) z hz)
  injection hv9 with q1 _ q3
  subst q1 q3
  refine bodyPost_ret (v := .tuple #[.agg #[.string ⟨nm.toArray⟩, .int .i64 ks, .slice ao cs.length cap, .slice vo (plv zs I I ⟨key, xs, ro, rc⟩).length vc], .bool true, .int .i64 0]) ?_ rfl ⟨_, rfl, ⟨ao, cap, vo, vc, plv zs I I ⟨key, xs, ro, rc⟩, rfl, H.out.1.keep hbf, hLS9, plv_lls (z := ⟨key, xs, ro, rc⟩) H.out.2.2.2.2.2.2.2.2.2.2.2.1 H.out.2.2.2.2.2.2.2.2.2.2.1 (show I = I + if false = true then 1 else 0 by simp)⟩, hbf⟩
  simp [results, Tryz.results12, go_sem, e0, e1, e2, e3]

set_option maxRecDepth 1000000 in
set_option maxHeartbeats 4000000 in
theorem rsdel_true (nm : Nm.S) (ks : Int) (cs : List C) (zs : List LV) (ao lo : Option Addr) (cap lc : Nat) (key : Nm.S) (w : World) (hT : At3 w ⟨nm, ks, cs⟩ ao cap) (hL : LS w zs lo lc) (hl : zs.length ≤ 100) (hB : isk (lls zs) key = true) :
    Calls Tryz.prog 14 #[.agg #[.string ⟨nm.toArray⟩, .int .i64 ks, .slice ao cs.length cap, .slice lo zs.length lc], .string ⟨key.toArray⟩] w fun e w' => ∃ v, e = .returned (.tuple #[v, .bool true]) ∧ DV w' nm ks cs (dell (lls zs) key) v ∧ Below w.heap.size w w' := by
  obtain ⟨I, hI⟩ : ∃ I, fnd (lls zs) key = I := ⟨_, rfl⟩
  have hIlt : I < zs.length := by
    obtain ⟨hl, _⟩ := isk_at hB
    rw [lls_len, hI] at hl; exact hl
  have b0 : (0 : Int) ≤ (I : Int) + 1 := by omega
  have b1 : (I : Int) + 1 ≤ (zs.length : Int) := by omega
  have i0 : (0 : Int) ≤ (I : Int) := by omega
  have i1 : (I : Int) ≤ (zs.length : Int) := by omega
  have i2 : (I : Int) ≤ (lc : Int) := by have := hL.2.2.1; omega
  have hsz : zs.length < 4611686018427387904 := by omega
  obtain ⟨A, hA⟩ : ∃ A, (if lc = (I + 1) then lo else Option.map (fun x => x.add ((I + 1) * 2)) lo) = A := ⟨_, rfl⟩
  have H := Lib.hid (And.intro hT (And.intro hL (And.intro hl (And.intro hB hI))))
  clear hT hL hl hB hI
  go_enter Tryz.func14, Tryz.ntmps14
  go_wp2_with fail
  refine (rfind_s nm ks cs zs key ao lo cap _ lc _ rfl (H.out.2.1.1.below (below2s _ _ _)) (by have := H.out.2.2.1; omega) I true H.out.2.2.2.2 H.out.2.2.2.1).mono ?_
  rintro e w2 ⟨rfl, hb⟩
  have K2 := Lib.hid (two_boxes hb)
  clear hb
  obtain ⟨⟨c0, c1, c2, c3⟩, _⟩ := K2.out.2.1.s4
  have hlt := Lib.hid (show I = (zs.take I).length by rw [List.length_take]; omega)
  go_wp2_with (at_builtin; go_loud (refine appLs rfl _ _ rfl (w.heap.size + 2) (.slice none 0 0) [] (zs.take I) _ rfl (owl_nil _ _) lo I lc rfl hlt.out ((H.out.2.1.below K2.out.1).take I).1 H.out.2.1.2.2.2 (by have := H.out.2.2.1; simp; omega) K2.out.2.2.2 ?_))
  intro v1 w3 hO hbb _ _
  have K4 := Lib.hid (And.intro (show OwL w3 (w.heap.size + 2) v1 (zs.take I) from hO) (And.intro (K2.out.1.trans (hbb.mono (by omega))) (And.intro (K2.out.2.1.below' hbb (by omega)) (And.intro (K2.out.2.2.1.below' hbb (by omega)) (Nat.le_trans K2.out.2.2.2 hbb.size)))))
  clear hO hbb c0 c1 c2 c3
  obtain ⟨⟨c0, c1, c2, c3⟩, _⟩ := K4.out.2.2.1.s4
  have hld := Lib.hid (show zs.length - (I + 1) = (zs.drop (I + 1)).length by rw [List.length_drop])
  have LA := Lib.hid (show LS w (zs.drop (I + 1)) A (lc - (I + 1)) from hA ▸ H.out.2.1.drop (I + 1) (by omega))
  go_wp2_with (at_builtin; refine appLs rfl _ _ rfl (w.heap.size + 2) v1 (zs.take I) (zs.drop (I + 1)) _ rfl K4.out.1 A (zs.length - (I + 1)) (lc - (I + 1)) rfl hld.out (LA.out.below K4.out.2.1).1 LA.out.2.2.2 (by have := H.out.2.2.1; simp; omega) K4.out.2.2.2.2 ?_)
  intro v w5 hO5 hbb _ _
  change OwL w5 (w.heap.size + 2) v (dlv zs I) at hO5
  have KB := Lib.hid (And.intro (K4.out.2.1.trans (hbb.mono (by omega))) (And.intro (K4.out.2.2.1.below' hbb (by omega)) (K4.out.2.2.2.1.below' hbb (by omega))))
  clear hbb c0 c1 c2 c3 hlt hld hA
  obtain ⟨vo, vc, hv, _, _⟩ := hO5.sl
  subst hv
  have p0 := KB.out.2.1.setAt 3 (.slice vo (dlv zs I).length vc)
  have p1 := KB.out.2.2.otherAt (show w.heap.size + 1 ≠ w.heap.size by omega) 3 (.slice vo (dlv zs I).length vc)
  have pb := KB.out.1.setCell (p := ⟨w.heap.size, 3, none⟩) (Nat.le_refl _) (.slice vo (dlv zs I).length vc)
  have po := hO5.off 3 (.slice vo (dlv zs I).length vc) (show w.heap.size < w.heap.size + 2 by omega)
  obtain ⟨⟨c0, c1, c2, c3⟩, f0, f1, f2, f3⟩ := KB.out.2.1.s4
  obtain ⟨W6, hW6⟩ : ∃ W6, w5.setCell ⟨w.heap.size, 3, none⟩ (.slice vo (dlv zs I).length vc) = W6 := ⟨_, rfl⟩
  rw [hW6] at p0 p1 pb po
  have p0' : Blk W6 w.heap.size #[.string ⟨nm.toArray⟩, .int .i64 ks, .slice ao cs.length cap, .slice vo (dlv zs I).length vc] 27 := by simpa using p0
  obtain ⟨⟨g0, g1, g2, g3⟩, _⟩ := p0'.s4
  obtain ⟨⟨d0, d1, d2, d3⟩, h0, h1, h2, h3⟩ := p1.s4
  have KC := Lib.hid (And.intro pb (And.intro po p1))
  clear p0 p1 pb po p0' hO5
  go_wp2
  have pB := KC.out.2.2.put4 (.string ⟨nm.toArray⟩) (.int .i64 ks) (.slice ao cs.length cap) (.slice vo (dlv zs I).length vc)
  obtain ⟨⟨e0, e1, e2, e3⟩, _⟩ := pB.s4
  unfold st4 at e0 e1 e2 e3
  have hbf := below_st4 KC.out.1 (show w.heap.size ≤ w.heap.size + 1 by omega) (.string ⟨nm.toArray⟩) (.int .i64 ks) (.slice ao cs.length cap) (.slice vo (dlv zs I).length vc)
  have hof := KC.out.2.1.off4 (show w.heap.size + 1 < w.heap.size + 2 by omega) (.string ⟨nm.toArray⟩) (.int .i64 ks) (.slice ao cs.length cap) (.slice vo (dlv zs I).length vc)
  obtain ⟨ao9, cap9, hv9, hLS9⟩ := hof.ls (fun z hz => (H.out.2.1.2.1.below hbf) z (dlv_mem hz))
  injection hv9 with q1 _ q3
  subst q1 q3
  refine bodyPost_ret (v := .tuple #[.agg #[.string ⟨nm.toArray⟩, .int .i64 ks, .slice ao cs.length cap, .slice vo (dlv zs I).length vc], .bool true]) ?_ rfl ⟨_, rfl, ⟨ao, cap, vo, vc, dlv zs I, rfl, H.out.1.keep hbf, hLS9, dlv_lls H.out.2.2.2.2 H.out.2.2.2.1⟩, hbf⟩
  simp [results, Tryz.results14, go_sem, e0, e1, e2, e3]


end Go.Proofs.YtfgakoldedpfoaaGreatDoor
