/-
  Which columns have one of some names: places. Conditions: a table in memory of at most eight columns whose names are unlike; at most 1000 names.
  Two tables of one: split. Conditions: a table in memory that may be, whose Defaults keep a value's bounds; at most 1000 names.
  One table of two: merge. Conditions: two tables in memory whose Defaults keep a value's bounds.
  Two tables of one: split, whole. Conditions: a table in memory that may be, whose Defaults keep a value's bounds; at most 1000 names.
  One table of two: merge, whole. Conditions: two tables in memory whose Defaults keep a value's bounds.
-/
import Derived.Test.YtdonmbmahcjfbaaGreatDoorFAll
import Derived.Test.YtdonmbmahcjfbaaGreatDoorChAll
import Derived.Deep.RegionHeldLaw
import Derived.Deep.DeepCutAuto
namespace Go.Proofs.YtdonmbmahcjfbaaGreatDoor
open Go.RowKit

/-- Has the column there one of the names? -/
def mkb (cs : List C) (ss : List Nm.S) (i : Nat) : Bool := match cs[i]? with | some c => decide (c.name ∈ ss) | none => false
theorem mkb_nil (cs : List C) (i : Nat) : mkb cs [] i = false := by unfold mkb; split <;> simp
theorem mkb_at {cs : List C} {ss : List Nm.S} {i : Nat} {c : C} (h : cs[i]? = some c) : mkb cs ss i = decide (c.name ∈ ss) := by unfold mkb; rw [h]
theorem mkb_next {cs : List C} (hn : (cs.map C.name).Nodup) {ss : List Nm.S} {s : Nm.S} {I : Nat} (hI : I < cs.length) (hs : cs[I].name = s) (i : Nat) : mkb cs (ss ++ [s]) i = if i = I then true else mkb cs ss i := by
  unfold mkb
  by_cases hi : i < cs.length
  · rw [List.getElem?_eq_getElem hi]
    simp only
    by_cases e : i = I
    · subst e
      rw [if_pos rfl, hs]
      simp
    · rw [if_neg e]
      have hne : cs[i].name ≠ s := fun h => e ((List.getElem_inj (h₀ := by simpa using hi) (h₁ := by simpa using hI) hn).1 (by rw [List.getElem_map, List.getElem_map, h, hs]))
      simp [hne]
  · rw [List.getElem?_eq_none (by omega), if_neg (by omega)]
def mk8 (cs : List C) (ss : List Nm.S) : Array Value := #[.bool (mkb cs ss 0), .bool (mkb cs ss 1), .bool (mkb cs ss 2), .bool (mkb cs ss 3), .bool (mkb cs ss 4), .bool (mkb cs ss 5), .bool (mkb cs ss 6), .bool (mkb cs ss 7)]
theorem mk8_at (cs : List C) (ss : List Nm.S) (i : Nat) (h : i < 8) : (mk8 cs ss)[i]? = some (.bool (mkb cs ss i)) := by
  have c : i = 0 ∨ i = 1 ∨ i = 2 ∨ i = 3 ∨ i = 4 ∨ i = 5 ∨ i = 6 ∨ i = 7 := by omega
  rcases c with rfl | rfl | rfl | rfl | rfl | rfl | rfl | rfl <;> rfl
theorem mk8_nil (cs : List C) : mk8 cs [] = #[.bool false, .bool false, .bool false, .bool false, .bool false, .bool false, .bool false, .bool false] := by unfold mk8; simp only [mkb_nil]
theorem mk8_set {cs : List C} (hn : (cs.map C.name).Nodup) {ss : List Nm.S} {s : Nm.S} {I : Nat} (hI : I < cs.length) (h8 : I < 8) (hs : cs[I].name = s) : (mk8 cs ss).setIfInBounds I (.bool true) = mk8 cs (ss ++ [s]) := by
  apply Array.ext_getElem?
  intro i
  rw [Array.getElem?_setIfInBounds]
  by_cases h : i < 8
  · rw [mk8_at _ _ _ h, mk8_at _ _ _ h, mkb_next hn hI hs]
    by_cases e : I = i
    · subst e; rw [if_pos rfl, if_pos (show I < (mk8 cs ss).size from h8), if_pos rfl]
    · rw [if_neg e, if_neg (fun h => e h.symm)]
  · rw [if_neg (by omega), Array.getElem?_eq_none (show (mk8 cs ss).size ≤ i by show 8 ≤ i; omega), Array.getElem?_eq_none (show (mk8 cs (ss ++ [s])).size ≤ i by show 8 ≤ i; omega)]
theorem set8 {b g : Nat} {w v : World} {u0 u1 u2 u3 u4 u5 u6 u7 : Value} (h : Below b w v) (hg : b ≤ g) : Below b w (((((((((v.setCell ⟨g, 0, none⟩ (u0)).setCell ⟨g, 1, none⟩ (u1)).setCell ⟨g, 2, none⟩ (u2)).setCell ⟨g, 3, none⟩ (u3)).setCell ⟨g, 4, none⟩ (u4)).setCell ⟨g, 5, none⟩ (u5)).setCell ⟨g, 6, none⟩ (u6)).setCell ⟨g, 7, none⟩ (u7))) :=
  below_set (below_set (below_set (below_set (below_set (below_set (below_set (below_set h hg 0 u0) hg 1 u1) hg 2 u2) hg 3 u3) hg 4 u4) hg 5 u5) hg 6 u6) hg 7 u7
theorem bad_stop {t : T} {ns : List Nm.S} {s : Nm.S} (hs : s ∈ ns) (h : Nm.fi t.cns s < t.keys) : t.bad ns = true := by
  unfold T.bad
  rw [Bool.or_eq_true, List.any_eq_true]
  exact .inl ⟨s, hs, by simpa using h⟩
theorem bad_twice {t : T} {ns : List Nm.S} (h : ¬ ns.Nodup) : t.bad ns = true := by
  unfold T.bad Nm.un
  simp [h]
theorem bad_none {t : T} {ns : List Nm.S} (h : ∀ s ∈ ns, ¬ Nm.fi t.cns s < t.keys) (hn : ns.Nodup) : t.bad ns = false := by
  unfold T.bad Nm.un
  rw [Bool.or_eq_false_iff, List.any_eq_false]
  exact ⟨fun s hs => by simpa using h s hs, by simp [hn]⟩
theorem fi_get {l : List Nm.S} {s : Nm.S} {I : Nat} (h : Nm.fi l s = (I : Int)) : ∃ hI : I < l.length, l[I] = s := by
  have hm : s ∈ l := by
    refine Classical.byContradiction fun g => ?_
    rw [Nm.fi_none _ _ g] at h; omega
  rw [fi_mem hm] at h
  have e : l.idxOf s = I := by omega
  subst e
  exact ⟨List.idxOf_lt_length_iff.2 hm, List.getElem_idxOf _⟩
theorem Blk.eight {W : World} {B : Nat} {u0 u1 u2 u3 u4 u5 u6 u7 : Value} {t : TypeId} (h : Blk W B #[u0, u1, u2, u3, u4, u5, u6, u7] t) :
    (W.cell? ⟨B, 0, none⟩ = some u0 ∧ W.cell? ⟨B, 1, none⟩ = some u1 ∧ W.cell? ⟨B, 2, none⟩ = some u2 ∧ W.cell? ⟨B, 3, none⟩ = some u3 ∧ W.cell? ⟨B, 4, none⟩ = some u4 ∧ W.cell? ⟨B, 5, none⟩ = some u5 ∧ W.cell? ⟨B, 6, none⟩ = some u6 ∧ W.cell? ⟨B, 7, none⟩ = some u7) ∧
    (W.frozen? ⟨B, 0, none⟩ = false ∧ W.frozen? ⟨B, 1, none⟩ = false ∧ W.frozen? ⟨B, 2, none⟩ = false ∧ W.frozen? ⟨B, 3, none⟩ = false ∧ W.frozen? ⟨B, 4, none⟩ = false ∧ W.frozen? ⟨B, 5, none⟩ = false ∧ W.frozen? ⟨B, 6, none⟩ = false ∧ W.frozen? ⟨B, 7, none⟩ = false) :=
  ⟨⟨h.cell 0, h.cell 1, h.cell 2, h.cell 3, h.cell 4, h.cell 5, h.cell 6, h.cell 7⟩, h.frozen 0, h.frozen 1, h.frozen 2, h.frozen 3, h.frozen 4, h.frozen 5, h.frozen 6, h.frozen 7⟩

set_option maxHeartbeats 8000000 in
theorem places_is (nm : Nm.S) (K : Nat) (cs : List C) (ns : List Nm.S) (ao no : Option Addr) (cap nc : Nat) (w : World) (h : SlC w ao cs) (hl : cs.length ≤ 8) (hu : (cs.map C.name).Nodup) (hs : SlS w no ns) (hn : ns.length ≤ 1000) :
    Calls Tryz.prog 206 #[.agg #[.string ⟨nm.toArray⟩, .int .i64 (K : Int), .slice ao cs.length cap], .slice no ns.length nc] w fun e w' => ((T.bad ⟨nm, (K : Int), cs⟩ ns = true ∧ e = .returned (.tuple #[.agg #[.bool false, .bool false, .bool false, .bool false, .bool false, .bool false, .bool false, .bool false], .int .i64 10])) ∨ (T.bad ⟨nm, (K : Int), cs⟩ ns = false ∧ e = .returned (.tuple #[.agg (mk8 cs ns), .int .i64 0]))) ∧ Below w.heap.size w w' := by
  have H := Lib.hid (And.intro h (And.intro hl (And.intro hu (And.intro hs hn))))
  clear h hl hu hs hn
  go_enter Tryz.func206, Tryz.ntmps206
  go_wp2
  go_loopw [12] (fun i wr => ∃ j : Nat, i = .int .i64 j ∧ j ≤ ns.length ∧ Below w.heap.size w wr ∧ Blk wr w.heap.size #[.string ⟨nm.toArray⟩, .int .i64 (K : Int), .slice ao cs.length cap] 24 ∧ Blk wr (w.heap.size + 1) #[.bool false, .bool false, .bool false, .bool false, .bool false, .bool false, .bool false, .bool false] 265 ∧ Blk wr (w.heap.size + 1 + 1) (mk8 cs (ns.take j)) 265 ∧ (∀ s ∈ ns.take j, (K : Int) ≤ Nm.fi (cs.map C.name) s) ∧ (ns.take j).Nodup) (fun i _ => ns.length - (intOf i).toNat)
  case atStart =>
    refine ⟨0, rfl, Nat.zero_le _, ?_, ?_, ?_, ?_, by simp, by simp⟩
    · exact (below2s _ _ _).alloc (below2s _ _ _).size _
    · exact ((Blk.new w _ _).alloc _).alloc _
    · have := (Blk.new (w.alloc (.cells #[.string ⟨nm.toArray⟩, .int .i64 (K : Int), .slice ao cs.length cap] 24)) #[.bool false, .bool false, .bool false, .bool false, .bool false, .bool false, .bool false, .bool false] 265).alloc (.cells #[.bool false, .bool false, .bool false, .bool false, .bool false, .bool false, .bool false, .bool false] 265); simpa using this
    · have := Blk.new ((w.alloc (.cells #[.string ⟨nm.toArray⟩, .int .i64 (K : Int), .slice ao cs.length cap] 24)).alloc (.cells #[.bool false, .bool false, .bool false, .bool false, .bool false, .bool false, .bool false, .bool false] 265)) #[.bool false, .bool false, .bool false, .bool false, .bool false, .bool false, .bool false, .bool false] 265
      rw [List.take_zero, mk8_nil]
      simpa using this
  case round =>
    obtain ⟨j, rfl, hj, hb, q2, q4, q6, hall, hnd⟩ := hrel
    obtain ⟨t0, t1, t2⟩ := q2.t3
    have J := Lib.hid (And.intro hb (And.intro q2 (And.intro q4 (And.intro q6 (And.intro hall hnd)))))
    clear hb q2 q4 q6 hall hnd
    by_cases hlt : j < ns.length
    · obtain ⟨a, rfl, y0⟩ := H.out.2.2.2.1.below J.out.1 j ns[j] (List.getElem?_eq_getElem hlt)
      have hw : wrap64 ((j : Int) + 1) = (j : Int) + 1 := by have := H.out.2.2.2.2; exact wrap_in _ (by omega) (by omega)
      obtain ⟨s, hsj⟩ : ∃ s, ns[j] = s := ⟨_, rfl⟩
      rw [hsj] at y0
      by_cases hk : Nm.fi (cs.map C.name) s < (K : Int)
      · have X := Lib.hid (And.intro hk (And.intro hsj (bad_stop (t := ⟨nm, (K : Int), cs⟩) (hsj ▸ List.getElem_mem hlt) hk)))
        clear hk hsj
        go_wp2_with fail
        refine (behind_is nm K cs s ao cap _ (H.out.1.below J.out.1) (by have := H.out.2.1; omega) (-1) (by rw [if_pos X.out.1])).mono ?_
        rintro e w2 ⟨rfl, hb⟩
        have p4 := J.out.2.2.1.below hb
        obtain ⟨⟨c0, c1, c2, c3, c4, c5, c6, c7⟩, f0, f1, f2, f3, f4, f5, f6, f7⟩ := p4.eight
        have B := Lib.hid (step0 J.out.1 hb)
        clear hb p4
        go_wp2
        refine bodyPost_ret (v := .tuple #[.agg #[.bool false, .bool false, .bool false, .bool false, .bool false, .bool false, .bool false, .bool false], .int .i64 10]) ?_ rfl ⟨.inl ⟨X.out.2.2, rfl⟩, set8 B.out (by omega)⟩
        simp [results, Tryz.results206, go_sem, c0, c1, c2, c3, c4, c5, c6, c7]
      · obtain ⟨I, hI⟩ : ∃ I : Nat, Nm.fi (cs.map C.name) s = (I : Int) := ⟨(Nm.fi (cs.map C.name) s).toNat, by omega⟩
        obtain ⟨hIl, hIs⟩ := fi_get hI
        rw [List.length_map] at hIl
        rw [List.getElem_map] at hIs
        have hl8 := H.out.2.1
        have h8 : I < 8 := by omega
        have d0 : decide ((I : Int) < 0) = false := by rw [decide_eq_false_iff_not]; omega
        have i0 : (0 : Int) ≤ (I : Int) := by omega
        have i1 : (I : Int) < 8 := by omega
        have hm : mkb cs (ns.take j) I = decide (s ∈ ns.take j) := by rw [mkb_at (List.getElem?_eq_getElem hIl), hIs]
        have X := Lib.hid (And.intro (Int.not_lt.1 hk) (And.intro hsj (And.intro hI (And.intro hIl (And.intro hIs h8)))))
        by_cases hin : s ∈ ns.take j
        · have hbad : T.bad ⟨nm, (K : Int), cs⟩ ns = true := bad_twice fun hnd => by
            have h1 : (ns.take (j + 1)).Nodup := hnd.sublist (List.take_sublist _ _)
            rw [List.take_succ_eq_append_getElem hlt, List.nodup_append] at h1
            exact h1.2.2 s hin ns[j] (List.mem_singleton.2 rfl) hsj.symm
          have hm' : mkb cs (ns.take j) I = true := by rw [hm]; simpa using hin
          have Y := Lib.hid (And.intro hbad hm')
          clear hk hsj hI hIl hIs h8 hl8 hm hm' hin hbad
          go_wp2_with fail
          refine (behind_is nm K cs s ao cap _ (H.out.1.below J.out.1) (by have := H.out.2.1; omega) (I : Int) (by rw [X.out.2.2.1, if_neg (by rw [← X.out.2.2.1]; exact Int.not_lt.2 X.out.1)])).mono ?_
          rintro e w2 ⟨rfl, hb⟩
          have p4 := J.out.2.2.1.below hb
          have p6 := (J.out.2.2.2.1.below hb).cell I
          rw [mk8_at _ _ _ X.out.2.2.2.2.2, Y.out.2] at p6
          obtain ⟨⟨c0, c1, c2, c3, c4, c5, c6, c7⟩, f0, f1, f2, f3, f4, f5, f6, f7⟩ := p4.eight
          have B := Lib.hid (step0 J.out.1 hb)
          clear hb p4
          go_wp2
          refine bodyPost_ret (v := .tuple #[.agg #[.bool false, .bool false, .bool false, .bool false, .bool false, .bool false, .bool false, .bool false], .int .i64 10]) ?_ rfl ⟨.inl ⟨Y.out.1, rfl⟩, set8 B.out (by omega)⟩
          simp [results, Tryz.results206, go_sem, c0, c1, c2, c3, c4, c5, c6, c7]
        · have hm' : mkb cs (ns.take j) I = false := by rw [hm]; simpa using hin
          have Y := Lib.hid (And.intro hin hm')
          clear hk hsj hI hIl hIs h8 hl8 hm hm' hin
          go_wp2_with fail
          refine (behind_is nm K cs s ao cap _ (H.out.1.below J.out.1) (by have := H.out.2.1; omega) (I : Int) (by rw [X.out.2.2.1, if_neg (by rw [← X.out.2.2.1]; exact Int.not_lt.2 X.out.1)])).mono ?_
          rintro e w2 ⟨rfl, hb⟩
          have p6 := (J.out.2.2.2.1.below hb).cell I
          rw [mk8_at _ _ _ X.out.2.2.2.2.2, Y.out.2] at p6
          have z6 := (J.out.2.2.2.1.below hb).frozen I
          have r6 := (J.out.2.2.2.1.below hb).setAt I (.bool true)
          rw [mk8_set H.out.2.2.1 X.out.2.2.2.1 X.out.2.2.2.2.2 X.out.2.2.2.2.1] at r6
          have r4 := (J.out.2.2.1.below hb).otherAt (show w.heap.size + 1 ≠ w.heap.size + 1 + 1 by omega) I (.bool true)
          have r2 := (J.out.2.1.below hb).otherAt (show w.heap.size ≠ w.heap.size + 1 + 1 by omega) I (.bool true)
          have b3 := below_set (step0 J.out.1 hb) (show w.heap.size ≤ w.heap.size + 1 + 1 by omega) I (.bool true)
          have K3 := Lib.hid (And.intro b3 (And.intro r2 (And.intro r4 r6)))
          clear hb r6 r4 r2 b3
          go_wp2
          go_roundw
          case rel =>
            refine ⟨j + 1, by go_num, hlt, K3.out.1, K3.out.2.1, K3.out.2.2.1, ?_, stake_all hlt J.out.2.2.2.2.1 (by rw [X.out.2.1]; exact X.out.1), ?_⟩
            · rw [List.take_succ_eq_append_getElem hlt, X.out.2.1]; exact K3.out.2.2.2
            · rw [List.take_succ_eq_append_getElem hlt, List.nodup_append]
              refine ⟨J.out.2.2.2.2.2, by simp, ?_⟩
              intro a ha b hb e
              obtain rfl := List.mem_singleton.1 hb
              exact Y.out.1 (by rw [← X.out.2.1, ← e]; exact ha)
          case measure => rw [hw]; simp [intOf]; omega
    · obtain rfl : j = ns.length := by omega
      have p6 := J.out.2.2.2.1
      have hall := J.out.2.2.2.2.1
      have hnd := J.out.2.2.2.2.2
      rw [List.take_length] at p6 hall hnd
      obtain ⟨⟨m0, m1, m2, m3, m4, m5, m6, m7⟩, _⟩ := (show Blk wr (w.heap.size + 1 + 1) #[.bool (mkb cs ns 0), .bool (mkb cs ns 1), .bool (mkb cs ns 2), .bool (mkb cs ns 3), .bool (mkb cs ns 4), .bool (mkb cs ns 5), .bool (mkb cs ns 6), .bool (mkb cs ns 7)] 265 from p6).eight
      obtain ⟨⟨c0, c1, c2, c3, c4, c5, c6, c7⟩, f0, f1, f2, f3, f4, f5, f6, f7⟩ := J.out.2.2.1.eight
      have X := Lib.hid (bad_none (t := ⟨nm, (K : Int), cs⟩) (fun s hs => Int.not_lt.2 (hall s hs)) hnd)
      clear p6 hall hnd
      go_wp2
      refine bodyPost_ret (v := .tuple #[.agg #[.bool (mkb cs ns 0), .bool (mkb cs ns 1), .bool (mkb cs ns 2), .bool (mkb cs ns 3), .bool (mkb cs ns 4), .bool (mkb cs ns 5), .bool (mkb cs ns 6), .bool (mkb cs ns 7)], .int .i64 0]) ?_ rfl ⟨.inr ⟨X.out, rfl⟩, set8 J.out.1 (by omega)⟩
      simp [results, Tryz.results206, go_sem, c0, c1, c2, c3, c4, c5, c6, c7]

end Go.Proofs.YtdonmbmahcjfbaaGreatDoor

namespace Go.Proofs.YtdonmbmahcjfbaaGreatDoor
open Go.RowKit
set_option linter.unusedVariables false

set_option maxHeartbeats 1000000 in
theorem split_n1 (tb tn al : Nm.S) (ns : List Nm.S) (no : Option Addr) (nc : Nat) (fr : Value) (w : World) (E : Int) (hE : Nm.ck tn = E) (hE0 : ¬ E = 0) :
    Calls Tryz.prog 205 #[.agg #[.string ⟨tb.toArray⟩, .string ⟨tn.toArray⟩, .string ⟨al.toArray⟩, .slice no ns.length nc], fr] w fun e w' => e = .returned (.tuple #[.slice none 0 0, .int .i64 E]) ∧ Below w.heap.size w w' := by
  have e0 := bne_t hE0
  have H := Lib.hid hE
  clear hE
  go_enter Tryz.func205, Tryz.ntmps205
  go_wp2_with fail
  refine (nm_check_is tn E _ H.out).mono ?_
  rintro e w1 ⟨rfl, rfl⟩
  go_wp2
  go_ret2
  exact ⟨rfl, below1 _ _⟩

set_option maxHeartbeats 1000000 in
theorem split_n2 (tb tn al : Nm.S) (ns : List Nm.S) (no : Option Addr) (nc : Nat) (fr : Value) (w : World) (h1 : Nm.ck tn = 0) (E : Int) (hE : Nm.ck al = E) (hE0 : ¬ E = 0) :
    Calls Tryz.prog 205 #[.agg #[.string ⟨tb.toArray⟩, .string ⟨tn.toArray⟩, .string ⟨al.toArray⟩, .slice no ns.length nc], fr] w fun e w' => e = .returned (.tuple #[.slice none 0 0, .int .i64 E]) ∧ Below w.heap.size w w' := by
  have e0 := bne_t hE0
  have H := Lib.hid (And.intro h1 hE)
  clear h1 hE
  go_enter Tryz.func205, Tryz.ntmps205
  go_wp2_with fail
  refine (nm_check_is tn 0 _ H.out.1).mono ?_
  rintro e w1 ⟨rfl, rfl⟩
  go_wp2_with fail
  refine (nm_check_is al E _ H.out.2).mono ?_
  rintro e w1 ⟨rfl, rfl⟩
  go_wp2
  go_ret2
  exact ⟨rfl, below1 _ _⟩

set_option maxHeartbeats 1000000 in
theorem split_n3 (tb tn : Nm.S) (ns : List Nm.S) (no : Option Addr) (nc : Nat) (fr : Value) (w : World) (h1 : Nm.ck tn = 0) :
    Calls Tryz.prog 205 #[.agg #[.string ⟨tb.toArray⟩, .string ⟨tn.toArray⟩, .string ⟨tn.toArray⟩, .slice no ns.length nc], fr] w fun e w' => e = .returned (.tuple #[.slice none 0 0, .int .i64 12]) ∧ Below w.heap.size w w' := by
  have H := Lib.hid h1
  clear h1
  go_enter Tryz.func205, Tryz.ntmps205
  go_wp2_with fail
  refine (nm_check_is tn 0 _ H.out).mono ?_
  rintro e w1 ⟨rfl, rfl⟩
  go_wp2_with fail
  refine (nm_check_is tn 0 _ H.out).mono ?_
  rintro e w1 ⟨rfl, rfl⟩
  go_wp2
  go_ret2
  exact ⟨rfl, below1 _ _⟩

/-- A table that a statement has made: its box, its columns. -/
def NewT (W : World) (nm : Nm.S) (K : Int) (cs : List C) (t : Value) (wc : World) : Prop :=
  ∃ B vo vc, t = .pointer (some ⟨B, 0, none⟩) ∧ W.heap.size ≤ B ∧ Blk wc B #[.string ⟨nm.toArray⟩, .int .i64 K, .slice vo cs.length vc] 24 ∧ OwC wc W.heap.size (.slice vo cs.length vc) cs ∧ Below W.heap.size W wc
theorem four {w1 v : World} {B0 B8 : Nat} {u0 u1 u2 u3 k0 k1 k2 : Value} {t0 t8 : TypeId} (h0 : Blk w1 B0 #[u0, u1, u2, u3] t0) (h8 : Blk w1 B8 #[k0, k1, k2] t8) (hb : Below w1.heap.size w1 v) :
    Below w1.heap.size w1 v ∧ v.cell? ⟨B0, 1, none⟩ = some u1 ∧ v.cell? ⟨B0, 2, none⟩ = some u2 ∧ v.cell? ⟨B8, 1, none⟩ = some k1 ∧ v.cell? ⟨B8, 2, none⟩ = some k2 :=
  ⟨hb, (h0.below hb).cell 1, (h0.below hb).cell 2, (h8.below hb).cell 1, (h8.below hb).cell 2⟩

theorem new_a {W w3 : World} {nm : Nm.S} {K : Int} {cs : List C} {n vc : Nat} {vo : Option Addr} (hn : cs.length = n) (b3 : Below W.heap.size W w3) (o3 : OwC w3 W.heap.size (.slice vo n vc) cs) :
    NewT W nm K cs (.pointer (some ⟨w3.heap.size, 0, none⟩)) (w3.alloc (.cells #[.string ⟨nm.toArray⟩, .int .i64 K, .slice vo n vc] 24)) := by
  subst hn
  exact ⟨_, vo, vc, rfl, b3.size, Blk.new _ _ _, o3.keep (below1 _ _), b3.alloc b3.size _⟩
theorem new_b {W w3 : World} {nm : Nm.S} {K : Int} {cs : List C} {n vc : Nat} {vo : Option Addr} (hn : cs.length = n) (kk : Blk w3 W.heap.size #[.string ⟨#[]⟩, .int .i64 0, .slice none 0 0] 24) (b3 : Below W.heap.size W w3) (o3 : OwC w3 W.heap.size (.slice vo n vc) cs) :
    NewT W nm K cs (.pointer (some ⟨W.heap.size, 0, none⟩)) (((w3.setCell ⟨W.heap.size, 0, none⟩ (.string ⟨nm.toArray⟩)).setCell ⟨W.heap.size, 1, none⟩ (.int .i64 K)).setCell ⟨W.heap.size, 2, none⟩ (.slice vo n vc)) := by
  subst hn
  refine ⟨W.heap.size, vo, vc, rfl, Nat.le_refl _, ?_, ?_, ?_⟩
  · exact ((kk.setAt 0 _).setAt 1 _).setAt 2 _
  · exact ((o3.beside kk 0 _).beside (kk.setAt 0 _) 1 _).beside ((kk.setAt 0 _).setAt 1 _) 2 _
  · exact below_set (below_set (below_set b3 (Nat.le_refl _) 0 _) (Nat.le_refl _) 1 _) (Nat.le_refl _) 2 _
theorem clone_n (cs : List C) (n : Nat) (hn : cs.length = n) (ao : Option Addr) (cap : Nat) (w : World) (h : SlC w ao cs) (hl : cs.length ≤ 1000) :
    Calls Tryz.prog 196 #[.slice ao n cap] w fun e w' => ∃ vo vc, e = .returned (.slice vo n vc) ∧ OwC w' w.heap.size (.slice vo n vc) cs ∧ Below w.heap.size w w' := by
  subst hn
  refine (clone_is cs ao cap w h hl).mono ?_
  rintro e w' ⟨v, rfl, hO, hb⟩
  obtain ⟨vo, vc, rfl, _, _⟩ := hO.sl
  exact ⟨vo, vc, rfl, hO, hb⟩
theorem s_six {v : World} {B : Nat} (h : Blk v B #[.string ⟨#[]⟩, .int .i64 0, .slice none 0 0] 24) : v.cell? ⟨B, 0, none⟩ = some (.string ⟨#[]⟩) ∧ v.cell? ⟨B, 1, none⟩ = some (.int .i64 0) ∧ v.cell? ⟨B, 2, none⟩ = some (.slice none 0 0) ∧ v.frozen? ⟨B, 0, none⟩ = false ∧ v.frozen? ⟨B, 1, none⟩ = false ∧ v.frozen? ⟨B, 2, none⟩ = false :=
  ⟨h.cell 0, h.cell 1, h.cell 2, h.frozen 0, h.frozen 1, h.frozen 2⟩
theorem s_one {X v : World} (h : Below (X.alloc (.cells #[.string ⟨#[]⟩, .int .i64 0, .slice none 0 0] 24)).heap.size (X.alloc (.cells #[.string ⟨#[]⟩, .int .i64 0, .slice none 0 0] 24)) v) : Blk v X.heap.size #[.string ⟨#[]⟩, .int .i64 0, .slice none 0 0] 24 := (Blk.new X _ _).below h
theorem s_oneD {X v : World} (h : Below (World.drew (X.alloc (.cells #[.string ⟨#[]⟩, .int .i64 0, .slice none 0 0] 24))).heap.size (World.drew (X.alloc (.cells #[.string ⟨#[]⟩, .int .i64 0, .slice none 0 0] 24))) v) : Blk v X.heap.size #[.string ⟨#[]⟩, .int .i64 0, .slice none 0 0] 24 :=
  Blk.below (show Blk (World.drew (X.alloc (.cells #[.string ⟨#[]⟩, .int .i64 0, .slice none 0 0] 24))) _ _ _ from Blk.new X _ _) h

section
variable {ops : Array Oper} {rest : List Oper} {o : Oper} {a : Act} {Q : Exit → Act → World → Prop}
end
/-- The same in a region that draws its order. -/
theorem step_appC {ops : Array Oper} {o : Oper} {a : Act} {W : World} {K : Act → World → Prop} {Q : Exit → Act → World → Prop} {E : Prop} (hgd : o.guard = none) (s x : Operand) (ho : o.op = .call { callee := .builtin .append, args := #[s, x], argTypes := #[22, 22] })
    (base : Nat) (v : Value) (l : List C) (b : C) (G : Nat) (hs : a.eval s = v) (hx : a.eval x = .slice (some ⟨G, 0, none⟩) 1 1) (hown : OwC W base v l)
    (hG : Blk W G #[.string ⟨b.name.toArray⟩, .int .i64 b.kind, .bool b.null, .int .i64 b.d.k, .int .i64 b.d.n, .int .u64 b.d.b, .string ⟨b.d.s.toArray⟩] 30) (hlen : l.length ≤ 1000000000) (hb : base ≤ W.heap.size)
    (h : ∀ v' w', OwC w' base v' (l ++ [b]) → W.grownBy w' v.ownBlock → (v'.ownBlock = v.ownBlock ∨ v'.ownBlock = some W.heap.size) → K (a.put o.dst v') w') :
    if Region.wanted o (yielded ops a.tmps) = true then Oper.wp Tryz.prog o a W K Q else E := by
  have hw : Region.wanted o (yielded ops a.tmps) = true := by simp [Region.wanted, hgd]
  rw [if_pos hw]
  obtain ⟨i0, hi, hz0, hz1, hz2⟩ := info_parts Tryz.infoC
  obtain ⟨v', w', hrun, r1, r2, _, r4⟩ := run_append_own_at (P := Tryz.prog) W base 22 o.type 30 i0 _ 7 72 Tryz.underlying22 hi hz0 hz1 hz2 rfl (by decide) v _ _ hown ⟨G, 0, none⟩ 1 1 b.cells rfl (by
    intro j u hj
    match j, hj with
    | 0, hj => simp [C.cells] at hj; subst hj; exact hG.cell 0
    | 1, hj => simp [C.cells] at hj; subst hj; exact hG.cell 1
    | 2, hj => simp [C.cells] at hj; subst hj; exact hG.cell 2
    | 3, hj => simp [C.cells] at hj; subst hj; exact hG.cell 3
    | 4, hj => simp [C.cells] at hj; subst hj; exact hG.cell 4
    | 5, hj => simp [C.cells] at hj; subst hj; exact hG.cell 5
    | 6, hj => simp [C.cells] at hj; subst hj; exact hG.cell 6
    | (j + 7), hj => simp [C.cells] at hj) (by intro u hu; simp [C.cells] at hu; rcases hu with rfl | rfl | rfl | rfl | rfl | rfl | rfl <;> rfl) (by unfold maxLen; omega) (by omega) hb
  unfold Oper.wp execOp
  simp only [ho, resolve, invoke, builtin, Sem.run_bind, Sem.run_pure, Result.andThen_ok, List.map_toArray, List.map_cons, List.map_nil, hs, hx, hrun]
  refine h v' w' ?_ r2 r4
  unfold OwC
  rw [List.length_append, ccs_append]
  have : ccs [b] = b.cells := by simp [ccs]
  rw [this]; exact r1
def sm (xc : List C) (ns : List Nm.S) (K j : Nat) : List C := xc.take K ++ ((xc.take j).drop K).filter (fun c => decide (c.name ∈ ns))
def rs (xc : List C) (ns : List Nm.S) (K j : Nat) : List C := xc.take K ++ ((xc.take j).drop K).filter (fun c => decide (c.name ∉ ns))
/-- Two tables under way. -/
def SpR (W1 : World) (tn al : Nm.S) (K : Nat) (xc : List C) (ns : List Nm.S) (B4 B5 j : Nat) (wr : World) : Prop :=
  ∃ o1 n1 c1 o2 n2 c2, Below W1.heap.size W1 wr ∧ Blk wr B4 #[.string ⟨tn.toArray⟩, .int .i64 (K : Int), .slice o1 n1 c1] 24 ∧ Blk wr B5 #[.string ⟨al.toArray⟩, .int .i64 (K : Int), .slice o2 n2 c2] 24 ∧
    OwC wr W1.heap.size (.slice o1 n1 c1) (sm xc ns K j) ∧ OwC wr W1.heap.size (.slice o2 n2 c2) (rs xc ns K j) ∧ (∀ k, (Value.slice o1 n1 c1).ownBlock = some k → (Value.slice o2 n2 c2).ownBlock ≠ some k)


end Go.Proofs.YtdonmbmahcjfbaaGreatDoor

namespace Go.Proofs.YtdonmbmahcjfbaaGreatDoor
open Go.RowKit

theorem six {w v : World} {a : Addr} {x y : TV} (h : SlV w (some a) [x, y]) (hb : Below w.heap.size w v) :
    Below w.heap.size w v ∧ v.cell? a = some (.string ⟨x.t.name.toArray⟩) ∧ v.cell? ⟨a.block, a.off + 1, none⟩ = some (.int .i64 x.t.keys) ∧ v.cell? ⟨a.block, a.off + 2, none⟩ = some (.slice x.ao x.t.cs.length x.cap) ∧ v.cell? ⟨a.block, a.off + 3, none⟩ = some (.string ⟨y.t.name.toArray⟩) ∧ v.cell? ⟨a.block, a.off + 3 + 1, none⟩ = some (.int .i64 y.t.keys) ∧ v.cell? ⟨a.block, a.off + 3 + 2, none⟩ = some (.slice y.ao y.t.cs.length y.cap) := by
  obtain ⟨h0, h1, h2⟩ := (h.below hb).first
  obtain ⟨h3, h4, h5⟩ := (h.below hb).second
  exact ⟨hb, h0, h1, h2, h3, h4, h5⟩

theorem Blk.six {v : World} {B : Nat} (h : Blk v B #[.string ⟨#[]⟩, .int .i64 0, .slice none 0 0] 24) : v.cell? ⟨B, 0, none⟩ = some (.string ⟨#[]⟩) ∧ v.cell? ⟨B, 1, none⟩ = some (.int .i64 0) ∧ v.cell? ⟨B, 2, none⟩ = some (.slice none 0 0) ∧ v.frozen? ⟨B, 0, none⟩ = false ∧ v.frozen? ⟨B, 1, none⟩ = false ∧ v.frozen? ⟨B, 2, none⟩ = false :=
  ⟨h.cell 0, h.cell 1, h.cell 2, h.frozen 0, h.frozen 1, h.frozen 2⟩
set_option maxHeartbeats 1000000 in
theorem merge_one (tb tn : Nm.S) (fr : Value) (w : World) :
    Calls Tryz.prog 208 #[.agg #[.string ⟨tb.toArray⟩, .string ⟨tb.toArray⟩, .string ⟨tn.toArray⟩], fr] w fun e w' => e = .returned (.tuple #[.slice none 0 0, .int .i64 12]) ∧ Below w.heap.size w w' := by
  go_enter Tryz.func208, Tryz.ntmps208
  go_wp2
  go_ret2
  exact ⟨rfl, below1 _ _⟩

set_option maxHeartbeats 1000000 in
theorem merge_name (tb ot tn : Nm.S) (fr : Value) (w : World) (h0 : (tb == ot) = false) (E : Int) (hE : Nm.ck tn = E) (hE0 : ¬ E = 0) :
    Calls Tryz.prog 208 #[.agg #[.string ⟨tb.toArray⟩, .string ⟨ot.toArray⟩, .string ⟨tn.toArray⟩], fr] w fun e w' => e = .returned (.tuple #[.slice none 0 0, .int .i64 E]) ∧ Below w.heap.size w w' := by
  have e0 := bne_t hE0
  have H := Lib.hid hE
  clear hE
  go_enter Tryz.func208, Tryz.ntmps208
  go_wp2_with fail
  refine (nm_check_is tn E _ H.out).mono ?_
  rintro e w1 ⟨rfl, rfl⟩
  go_wp2
  go_ret2
  exact ⟨rfl, below1 _ _⟩

end Go.Proofs.YtdonmbmahcjfbaaGreatDoor

namespace Go.Proofs.YtdonmbmahcjfbaaGreatDoor
open Go.RowKit
set_option linter.unusedVariables false
set_option linter.unusedSimpArgs false

theorem OwC.notT {w : World} {b B : Nat} {v : Value} {l : List C} {cs : Array Value} (h : OwC w b v l) (hB : Blk w B cs 24) : some B ≠ v.ownBlock := by
  intro e
  rcases h.2 with ⟨hn, _⟩ | ⟨k, cap, cur', hv', _, hk, _⟩
  · rw [hn] at e; cases e
  · rw [hv'] at e
    obtain rfl : B = k := Option.some.inj e
    have h1 : w.heap[B]? = _ := hB
    rw [hk] at h1
    have := Option.some.inj h1
    injection this with _ e2 _
    exact absurd e2 (by decide)
theorem OwC.keptNe {w w' : World} {row : Option Nat} {b : Nat} {v : Value} {l : List C} (h : OwC w b v l) (hg : w.grownBy w' row) (hne : ∀ k, v.ownBlock = some k → row ≠ some k) : OwC w' b v l := by
  refine ⟨h.1, ?_⟩
  rcases h.2 with hn | ⟨k, cap, cur, hv, hbg, hk, rest⟩
  · exact .inl hn
  · exact .inr ⟨k, cap, cur, hv, hbg, (hg.block k (Array.getElem?_eq_some_iff.1 hk).1 (fun e => hne k (by rw [hv]; rfl) e.symm)).trans hk, rest⟩
theorem OwC.slen {w : World} {b n cap : Nat} {ao : Option Addr} {l : List C} (h : OwC w b (.slice ao n cap) l) : n = l.length := by
  obtain ⟨_, _, e, _, _⟩ := h.sl
  injection e
theorem sm_0 (xc : List C) (ns : List Nm.S) (K : Nat) : sm xc ns K K = xc.take K := by
  unfold sm
  rw [List.drop_eq_nil_of_le (by simp; omega)]
  simp
theorem rs_0 (xc : List C) (ns : List Nm.S) (K : Nat) : rs xc ns K K = xc.take K := by
  unfold rs
  rw [List.drop_eq_nil_of_le (by simp; omega)]
  simp
theorem sr_at {xc : List C} {K j : Nat} {c : C} (hK : K ≤ j) (hc : xc[j]? = some c) : (xc.take (j + 1)).drop K = (xc.take j).drop K ++ [c] := by
  obtain ⟨hj, e⟩ := List.getElem?_eq_some_iff.1 hc
  rw [List.take_succ_eq_append_getElem hj, List.drop_append_of_le_length (by simp; omega), e]
theorem sr_in {xc : List C} {ns : List Nm.S} {K j : Nat} {c : C} (hK : K ≤ j) (hc : xc[j]? = some c) (h : c.name ∈ ns) : sm xc ns K (j + 1) = sm xc ns K j ++ [c] ∧ rs xc ns K (j + 1) = rs xc ns K j := by
  unfold sm rs
  rw [sr_at hK hc, List.filter_append, List.filter_append]
  simp [h]
theorem sr_out {xc : List C} {ns : List Nm.S} {K j : Nat} {c : C} (hK : K ≤ j) (hc : xc[j]? = some c) (h : c.name ∉ ns) : sm xc ns K (j + 1) = sm xc ns K j ∧ rs xc ns K (j + 1) = rs xc ns K j ++ [c] := by
  unfold sm rs
  rw [sr_at hK hc, List.filter_append, List.filter_append]
  simp [h]
theorem sm_len (xc : List C) (ns : List Nm.S) (K j : Nat) : True ∧ (sm xc ns K j).length ≤ 2 * xc.length ∧ (rs xc ns K j).length ≤ 2 * xc.length := by
  have h1 := List.length_filter_le (fun c : C => decide (c.name ∈ ns)) ((xc.take j).drop K)
  have h2 := List.length_filter_le (fun c : C => decide (c.name ∉ ns)) ((xc.take j).drop K)
  unfold sm rs
  simp only [List.length_append, List.length_take, List.length_drop] at h1 h2 ⊢
  exact ⟨trivial, by omega, by omega⟩
theorem step0' {w a v : World} (h : Below w.heap.size w a) (g : Below a.heap.size a v) : Below w.heap.size w v := step0 h g
theorem spr_in {W1 wr Wd w4 : World} {tn al : Nm.S} {K : Nat} {xc : List C} {ns : List Nm.S} {B4 B5 j : Nat} {o1 o2 vo : Option Addr} {n1 c1 n2 c2 vc : Nat} {Z1 : List C} {c : C} {ob : Obj} (J : ((K ≤ j) ∧ (j ≤ xc.length) ∧ Below W1.heap.size W1 wr ∧ Blk wr B4 #[.string ⟨tn.toArray⟩, .int .i64 (K : Int), .slice o1 n1 c1] 24 ∧ Blk wr B5 #[.string ⟨al.toArray⟩, .int .i64 (K : Int), .slice o2 n2 c2] 24 ∧ OwC wr W1.heap.size (.slice o1 n1 c1) (sm xc ns K j) ∧ OwC wr W1.heap.size (.slice o2 n2 c2) (rs xc ns K j) ∧ (∀ k, (Value.slice o1 n1 c1).ownBlock = some k → (Value.slice o2 n2 c2).ownBlock ≠ some k))) (S : W1.heap.size ≤ B4 ∧ W1.heap.size ≤ B5 ∧ ¬ B4 = B5) (P : (Below W1.heap.size W1 Wd ∧ Blk Wd B4 #[.string ⟨tn.toArray⟩, .int .i64 (K : Int), .slice o1 n1 c1] 24 ∧ Blk Wd B5 #[.string ⟨al.toArray⟩, .int .i64 (K : Int), .slice o2 n2 c2] 24 ∧ OwC Wd W1.heap.size (.slice o1 n1 c1) (sm xc ns K j) ∧ OwC Wd W1.heap.size (.slice o2 n2 c2) (rs xc ns K j) ∧ (∀ k, (Value.slice o1 n1 c1).ownBlock = some k → (Value.slice o2 n2 c2).ownBlock ≠ some k))) (G : (OwC w4 W1.heap.size (.slice vo Z1.length vc) Z1 ∧ (Wd.alloc ob).grownBy w4 (Value.slice o1 n1 c1).ownBlock ∧ ((Value.slice vo Z1.length vc).ownBlock = (Value.slice o1 n1 c1).ownBlock ∨ (Value.slice vo Z1.length vc).ownBlock = some (Wd.alloc ob).heap.size) ∧ sm xc ns K j ++ [c] = Z1 ∧ Blk w4 B4 #[.string ⟨tn.toArray⟩, .int .i64 (K : Int), .slice o1 n1 c1] 24 ∧ Blk w4 B5 #[.string ⟨al.toArray⟩, .int .i64 (K : Int), .slice o2 n2 c2] 24 ∧ Below W1.heap.size W1 w4)) (X : xc[j]? = some c) (M : c.name ∈ ns) :
    SpR W1 tn al K xc ns B4 B5 (j + 1) (w4.setCell ⟨B4, 2, none⟩ (.slice vo Z1.length vc)) := by
  obtain ⟨e1, e2⟩ := sr_in J.1 X M
  refine ⟨vo, Z1.length, vc, o2, n2, c2, below_set G.2.2.2.2.2.2 S.1 2 _, G.2.2.2.2.1.setAt 2 _, G.2.2.2.2.2.1.otherAt (fun e => S.2.2 e.symm) 2 _, ?_, ?_, ?_⟩
  · rw [e1, G.2.2.2.1]; exact G.1.beside G.2.2.2.2.1 2 _
  · rw [e2]
    exact ((P.2.2.2.2.1.keep (below1 Wd ob)).keptNe G.2.1 (fun k h1 h2 => P.2.2.2.2.2 k h2 h1)).beside G.2.2.2.2.1 2 _
  · intro k h1 h2
    have a2 := (World.ownsRow.lt P.2.2.2.2.1 k h2).2
    rcases G.2.2.1 with e | e
    · exact P.2.2.2.2.2 k (e ▸ h1) h2
    · rw [e] at h1
      have := Option.some.inj h1
      simp at this
      omega
theorem spr_out {W1 wr Wd w4 : World} {tn al : Nm.S} {K : Nat} {xc : List C} {ns : List Nm.S} {B4 B5 j : Nat} {o1 o2 vo : Option Addr} {n1 c1 n2 c2 vc : Nat} {Z1 : List C} {c : C} {ob : Obj} (J : ((K ≤ j) ∧ (j ≤ xc.length) ∧ Below W1.heap.size W1 wr ∧ Blk wr B4 #[.string ⟨tn.toArray⟩, .int .i64 (K : Int), .slice o1 n1 c1] 24 ∧ Blk wr B5 #[.string ⟨al.toArray⟩, .int .i64 (K : Int), .slice o2 n2 c2] 24 ∧ OwC wr W1.heap.size (.slice o1 n1 c1) (sm xc ns K j) ∧ OwC wr W1.heap.size (.slice o2 n2 c2) (rs xc ns K j) ∧ (∀ k, (Value.slice o1 n1 c1).ownBlock = some k → (Value.slice o2 n2 c2).ownBlock ≠ some k))) (S : W1.heap.size ≤ B4 ∧ W1.heap.size ≤ B5 ∧ ¬ B4 = B5) (P : (Below W1.heap.size W1 Wd ∧ Blk Wd B4 #[.string ⟨tn.toArray⟩, .int .i64 (K : Int), .slice o1 n1 c1] 24 ∧ Blk Wd B5 #[.string ⟨al.toArray⟩, .int .i64 (K : Int), .slice o2 n2 c2] 24 ∧ OwC Wd W1.heap.size (.slice o1 n1 c1) (sm xc ns K j) ∧ OwC Wd W1.heap.size (.slice o2 n2 c2) (rs xc ns K j) ∧ (∀ k, (Value.slice o1 n1 c1).ownBlock = some k → (Value.slice o2 n2 c2).ownBlock ≠ some k))) (G : (OwC w4 W1.heap.size (.slice vo Z1.length vc) Z1 ∧ (Wd.alloc ob).grownBy w4 (Value.slice o2 n2 c2).ownBlock ∧ ((Value.slice vo Z1.length vc).ownBlock = (Value.slice o2 n2 c2).ownBlock ∨ (Value.slice vo Z1.length vc).ownBlock = some (Wd.alloc ob).heap.size) ∧ rs xc ns K j ++ [c] = Z1 ∧ Blk w4 B4 #[.string ⟨tn.toArray⟩, .int .i64 (K : Int), .slice o1 n1 c1] 24 ∧ Blk w4 B5 #[.string ⟨al.toArray⟩, .int .i64 (K : Int), .slice o2 n2 c2] 24 ∧ Below W1.heap.size W1 w4)) (X : xc[j]? = some c) (M : c.name ∉ ns) :
    SpR W1 tn al K xc ns B4 B5 (j + 1) (w4.setCell ⟨B5, 2, none⟩ (.slice vo Z1.length vc)) := by
  obtain ⟨e1, e2⟩ := sr_out J.1 X M
  refine ⟨o1, n1, c1, vo, Z1.length, vc, below_set G.2.2.2.2.2.2 S.2.1 2 _, G.2.2.2.2.1.otherAt S.2.2 2 _, G.2.2.2.2.2.1.setAt 2 _, ?_, ?_, ?_⟩
  · rw [e1]
    exact ((P.2.2.2.1.keep (below1 Wd ob)).keptNe G.2.1 (fun k h1 h2 => P.2.2.2.2.2 k h1 h2)).beside G.2.2.2.2.2.1 2 _
  · rw [e2, G.2.2.2.1]; exact G.1.beside G.2.2.2.2.2.1 2 _
  · intro k h1 h2
    have a2 := (World.ownsRow.lt P.2.2.2.1 k h1).2
    rcases G.2.2.1 with e | e
    · exact P.2.2.2.2.2 k h1 (e ▸ h2)
    · rw [e] at h2
      have := Option.some.inj h2
      simp at this
      omega
theorem sm_end (t : T) (ns : List Nm.S) (K : Nat) (hK : t.keys = (K : Int)) : sm t.cs ns K t.cs.length = t.some ns ∧ rs t.cs ns K t.cs.length = t.rest ns := by
  unfold sm rs T.some T.rest
  rw [hK, List.take_length]
  exact ⟨rfl, rfl⟩
theorem sr_mem {xc : List C} {ns : List Nm.S} {K j : Nat} : (∀ c ∈ sm xc ns K j, c ∈ xc) ∧ ∀ c ∈ rs xc ns K j, c ∈ xc := by
  constructor
  · intro c h
    rcases List.mem_append.1 h with h | h
    · exact List.mem_of_mem_take h
    · exact List.mem_of_mem_take (List.mem_of_mem_drop (List.mem_filter.1 h).1)
  · intro c h
    rcases List.mem_append.1 h with h | h
    · exact List.mem_of_mem_take h
    · exact List.mem_of_mem_take (List.mem_of_mem_drop (List.mem_filter.1 h).1)
theorem tr_two {w W1 wr : World} {tn al xn : Nm.S} {K : Nat} {xc : List C} {ns : List Nm.S} {B4 B5 : Nat} {o1 o2 : Option Addr} {c1 c2 : Nat} (J : ((K ≤ xc.length) ∧ (xc.length ≤ xc.length) ∧ Below W1.heap.size W1 wr ∧ Blk wr B4 #[.string ⟨tn.toArray⟩, .int .i64 (K : Int), .slice o1 (sm xc ns K xc.length).length c1] 24 ∧ Blk wr B5 #[.string ⟨al.toArray⟩, .int .i64 (K : Int), .slice o2 (rs xc ns K xc.length).length c2] 24 ∧ OwC wr W1.heap.size (.slice o1 (sm xc ns K xc.length).length c1) (sm xc ns K xc.length) ∧ OwC wr W1.heap.size (.slice o2 (rs xc ns K xc.length).length c2) (rs xc ns K xc.length) ∧ (∀ k, (Value.slice o1 (sm xc ns K xc.length).length c1).ownBlock = some k → (Value.slice o2 (rs xc ns K xc.length).length c2).ownBlock ≠ some k))) (hB : Below w.heap.size w W1) (ho : ∀ c ∈ xc, c.d.ok) (hK : 1 ≤ K ∧ K ≤ xc.length) :
    TR w (wr.alloc (.cells #[.string ⟨tn.toArray⟩, .int .i64 (K : Int), .slice o1 (sm xc ns K xc.length).length c1, .string ⟨al.toArray⟩, .int .i64 (K : Int), .slice o2 (rs xc ns K xc.length).length c2] 24)) (.returned (.tuple #[.slice (some ⟨wr.heap.size, 0, none⟩) 2 2, .int .i64 0])) ([⟨tn, (K : Int), T.some ⟨xn, (K : Int), xc⟩ ns⟩, ⟨al, (K : Int), T.rest ⟨xn, (K : Int), xc⟩ ns⟩], 0) := by
  have e := sm_end ⟨xn, (K : Int), xc⟩ ns K rfl
  simp only at e
  refine .inr ⟨rfl, _, [⟨⟨tn, (K : Int), sm xc ns K xc.length⟩, o1, c1⟩, ⟨⟨al, (K : Int), rs xc ns K xc.length⟩, o2, c2⟩], rfl, (owt_two wr _ _).base ?_, ?_, ?_⟩
  · have := J.2.2.1.size; have := hB.size; omega
  · simp [tvs, e.1, e.2]
  · intro y hy
    rcases List.mem_cons.1 hy with rfl | hy
    · exact ⟨(J.2.2.2.2.2.1.base hB.size).keep (below1 _ _), fun c hc => ho c (sr_mem.1 c hc)⟩
    · obtain rfl := List.mem_singleton.1 hy
      exact ⟨(J.2.2.2.2.2.2.1.base hB.size).keep (below1 _ _), fun c hc => ho c (sr_mem.2 c hc)⟩

set_option maxRecDepth 1000000 in
set_option maxHeartbeats 8000000 in
theorem split_go (tb tn al : Nm.S) (ns : List Nm.S) (no : Option Addr) (nc : Nat) (x : TV) (K : Nat) (hK : x.t.keys = (K : Int)) (fo : Option Addr) (fc : Nat) (w : World) (h1 : Nm.ck tn = 0) (h2 : Nm.ck al = 0) (h3 : (tn == al) = false) (hs : SlV w fo [x]) (hx : At3 w x.t x.ao x.cap) (hl : x.t.cs.length ≤ 8) (hKl : 1 ≤ K ∧ K ≤ x.t.cs.length) (hu : (x.t.cs.map C.name).Nodup) (hn : SlS w no ns) (hnl : ns.length ≤ 1000) :
    Calls Tryz.prog 205 #[.agg #[.string ⟨tb.toArray⟩, .string ⟨tn.toArray⟩, .string ⟨al.toArray⟩, .slice no ns.length nc], .slice fo 1 fc] w fun e w' => ((x.t.bad ns = true ∧ e = .returned (.tuple #[.slice none 0 0, .int .i64 10])) ∨ (x.t.bad ns = false ∧ TR w w' e ([⟨tn, x.t.keys, x.t.some ns⟩, ⟨al, x.t.keys, x.t.rest ns⟩], 0))) ∧ Below w.heap.size w w' := by
  have hmx : Tryz.prog.follows .mixedOrders = true := by kernel_rfl
  obtain ⟨a, rfl, _⟩ := hs 0 x rfl
  obtain ⟨⟨xn, xk, xc⟩, ao, cap⟩ := x
  simp only at hK hx hl hu hKl ⊢
  subst hK
  obtain ⟨y0, y1, y2⟩ := (hs.below (below1 w (.cells #[.string ⟨tb.toArray⟩, .string ⟨tn.toArray⟩, .string ⟨al.toArray⟩, .slice no ns.length nc] 111))).first
  simp only at y0 y1 y2
  have H := Lib.hid (And.intro h1 (And.intro h2 (And.intro hx (And.intro hl (And.intro hKl (And.intro hu (And.intro hn hnl)))))))
  clear hs hx hl hKl hu hn hnl h1 h2
  go_enter Tryz.func205, Tryz.ntmps205
  go_wp2_with fail
  refine (nm_check_is tn 0 _ H.out.1).mono ?_
  rintro e w1 ⟨rfl, rfl⟩
  go_wp2_with fail
  refine (nm_check_is al 0 _ H.out.2.1).mono ?_
  rintro e w1 ⟨rfl, rfl⟩
  go_wp2_with fail
  refine (places_is xn K xc ns ao no cap nc _ (H.out.2.2.1.1.below (below2s _ _ _)) H.out.2.2.2.1 H.out.2.2.2.2.2.1 (H.out.2.2.2.2.2.2.1.below (below2s _ _ _)) H.out.2.2.2.2.2.2.2).mono ?_
  rintro e w2 ⟨⟨hb0, rfl⟩ | ⟨hb0, rfl⟩, hb⟩
  · have B := Lib.hid (And.intro (step0 (below2s w _ _) hb) hb0)
    clear hb hb0
    go_wp2
    go_ret2
    exact ⟨.inl ⟨B.out.2, rfl⟩, B.out.1.alloc B.out.1.size _⟩
  · have q0 := ((Blk.new w #[.string ⟨tb.toArray⟩, .string ⟨tn.toArray⟩, .string ⟨al.toArray⟩, .slice no ns.length nc] 111).alloc (.cells #[.string ⟨xn.toArray⟩, .int .i64 (K : Int), .slice ao xc.length cap] 24)).below hb
    have q8 := (Blk.new (w.alloc (.cells #[.string ⟨tb.toArray⟩, .string ⟨tn.toArray⟩, .string ⟨al.toArray⟩, .slice no ns.length nc] 111)) #[.string ⟨xn.toArray⟩, .int .i64 (K : Int), .slice ao xc.length cap] 24).below hb
    have hsz : (w.alloc (.cells #[.string ⟨tb.toArray⟩, .string ⟨tn.toArray⟩, .string ⟨al.toArray⟩, .slice no ns.length nc] 111)).heap.size = w.heap.size + 1 := by simp
    rw [hsz] at q8
    have B2 := Lib.hid (And.intro (step0 (below2s w _ _) hb) (And.intro hb0 (And.intro q0 q8)))
    clear hb hb0 q0 q8 hsz
    unfold mk8
    obtain ⟨b, rfl⟩ : ∃ b, ao = some b := by
      obtain ⟨b, hb, _⟩ := H.out.2.2.1.1 0 (xc[0]'(by have := H.out.2.2.2.2.1; omega)) (List.getElem?_eq_getElem _)
      exact ⟨b, hb⟩
    have hcap := H.out.2.2.1.2.1
    simp only at hcap
    have i0 : (0 : Int) ≤ (K : Int) := by omega
    have i1 : (K : Int) ≤ (cap : Int) := by have := H.out.2.2.2.2.1; omega
    have i2 : K ≤ cap := by have := H.out.2.2.2.2.1; omega
    have htk : (xc.take K).length = K := by have := H.out.2.2.2.2.1; simp; omega
    have HT := Lib.hid htk
    clear hcap htk
    obtain ⟨W1, hW1⟩ : ∃ W1, w2.alloc (.cells #[.bool (mkb xc ns 0), .bool (mkb xc ns 1), .bool (mkb xc ns 2), .bool (mkb xc ns 3), .bool (mkb xc ns 4), .bool (mkb xc ns 5), .bool (mkb xc ns 6), .bool (mkb xc ns 7)] 265) = W1 := ⟨_, rfl⟩
    have p0 := B2.out.2.2.1.alloc (.cells #[.bool (mkb xc ns 0), .bool (mkb xc ns 1), .bool (mkb xc ns 2), .bool (mkb xc ns 3), .bool (mkb xc ns 4), .bool (mkb xc ns 5), .bool (mkb xc ns 6), .bool (mkb xc ns 7)] 265)
    have p8 := B2.out.2.2.2.alloc (.cells #[.bool (mkb xc ns 0), .bool (mkb xc ns 1), .bool (mkb xc ns 2), .bool (mkb xc ns 3), .bool (mkb xc ns 4), .bool (mkb xc ns 5), .bool (mkb xc ns 6), .bool (mkb xc ns 7)] 265)
    have p9 := Blk.new w2 #[.bool (mkb xc ns 0), .bool (mkb xc ns 1), .bool (mkb xc ns 2), .bool (mkb xc ns 3), .bool (mkb xc ns 4), .bool (mkb xc ns 5), .bool (mkb xc ns 6), .bool (mkb xc ns 7)] 265
    have hB1 : Below w.heap.size w W1 := hW1 ▸ (B2.out.1.alloc B2.out.1.size _)
    rw [hW1] at p0 p8 p9
    have K1 := Lib.hid (And.intro hB1 (And.intro p0 (And.intro p8 p9)))
    clear hB1 p9
    go_wp2
    go_cut [11] (NewT W1 tn (K : Int) (xc.take K))
    case first =>
      go_region_held_law (fun v => Below W1.heap.size W1 v ∧ v.cell? ⟨w.heap.size, 1, none⟩ = some (.string ⟨tn.toArray⟩) ∧ v.cell? ⟨w.heap.size, 2, none⟩ = some (.string ⟨al.toArray⟩) ∧ v.cell? ⟨w.heap.size + 1, 1, none⟩ = some (.int .i64 (K : Int)) ∧ v.cell? ⟨w.heap.size + 1, 2, none⟩ = some (.slice (some b) xc.length cap))
        (first | assumption | with_reducible exact four p0 p8 (Below.refl _ _).drew | with_reducible exact four p0 p8 b3 | (refine four p0 p8 ?_; with_reducible (repeat' first | exact b3 | exact (Below.refl _ _).drew | exact Below.refl _ _ | refine below_set ?_ ?_ _ _ | refine Below.alloc ?_ ?_ _ | refine below_drew1 ?_); all_goals (first | (simp; done) | (have := b3.size; simp; omega))))
        (first | (go_at_call 196; refine (clone_n (xc.take K) K HT.out (some b) cap _ (((H.out.2.2.1.1.take K).below K1.out.1).below ‹Below W1.heap.size W1 _ ∧ _›.1) (by have := HT.out; have := H.out.2.2.2; omega)).mono ?_; rintro e w3 ⟨vo, vc, rfl, hO, hb⟩; have b3 := step0 ‹Below W1.heap.size W1 _ ∧ _›.1 hb; have o3 := hO.base (show W1.heap.size ≤ _ from ‹Below W1.heap.size W1 _ ∧ _›.1.size); first | (have kk := s_one hb; obtain ⟨i0, i1, i2, i3, i4, i5⟩ := s_six kk; have KK := Lib.hid (And.intro kk (And.intro b3 o3)); clear kk) | (have kk := s_oneD hb; obtain ⟨i0, i1, i2, i3, i4, i5⟩ := s_six kk; have KK := Lib.hid (And.intro kk (And.intro b3 o3)); clear kk) | (have KK := Lib.hid (And.intro b3 o3))))
      all_goals go_wp2_with fail
      all_goals go_meet
      · exact new_a HT.out KK.out.1 KK.out.2
      · exact new_b HT.out KK.out.1 KK.out.2.1 KK.out.2.2
    case rest =>
      obtain ⟨B4, vo4, vc4, rfl, hB4, kb4, ob4, bb4⟩ := hcut
      have hB2 := step0 K1.out.1 bb4
      have p9 := K1.out.2.2.2.below bb4
      replace p0 := p0.below bb4
      replace p8 := p8.below bb4
      have K2 := Lib.hid (And.intro hB2 (And.intro p0 (And.intro p8 (And.intro p9 (And.intro kb4 (And.intro ob4 (And.intro hB4 bb4)))))))
      clear hB2 p9 kb4 ob4 hB4 bb4
      go_wp2
      go_cut [12] (NewT wc al (K : Int) (xc.take K))
      case first =>
        go_region_held_law (fun v => Below wc.heap.size wc v ∧ v.cell? ⟨w.heap.size, 1, none⟩ = some (.string ⟨tn.toArray⟩) ∧ v.cell? ⟨w.heap.size, 2, none⟩ = some (.string ⟨al.toArray⟩) ∧ v.cell? ⟨w.heap.size + 1, 1, none⟩ = some (.int .i64 (K : Int)) ∧ v.cell? ⟨w.heap.size + 1, 2, none⟩ = some (.slice (some b) xc.length cap))
          (first | assumption | with_reducible exact four p0 p8 (Below.refl _ _).drew | with_reducible exact four p0 p8 b3 | (refine four p0 p8 ?_; with_reducible (repeat' first | exact b3 | exact (Below.refl _ _).drew | exact Below.refl _ _ | refine below_set ?_ ?_ _ _ | refine Below.alloc ?_ ?_ _ | refine below_drew1 ?_); all_goals (first | (simp; done) | (have := b3.size; simp; omega))))
          (first | (go_at_call 196; refine (clone_n (xc.take K) K HT.out (some b) cap _ (((H.out.2.2.1.1.take K).below K2.out.1).below ‹Below wc.heap.size wc _ ∧ _›.1) (by have := HT.out; have := H.out.2.2.2; omega)).mono ?_; rintro e w3 ⟨vo, vc, rfl, hO, hb⟩; have b3 := step0 ‹Below wc.heap.size wc _ ∧ _›.1 hb; have o3 := hO.base (show wc.heap.size ≤ _ from ‹Below wc.heap.size wc _ ∧ _›.1.size); first | (have kk := s_one hb; obtain ⟨i0, i1, i2, i3, i4, i5⟩ := s_six kk; have KK := Lib.hid (And.intro kk (And.intro b3 o3)); clear kk) | (have kk := s_oneD hb; obtain ⟨i0, i1, i2, i3, i4, i5⟩ := s_six kk; have KK := Lib.hid (And.intro kk (And.intro b3 o3)); clear kk) | (have KK := Lib.hid (And.intro b3 o3))))
        all_goals go_wp2_with fail
        all_goals go_meet
        · exact new_a HT.out KK.out.1 KK.out.2
        · exact new_b HT.out KK.out.1 KK.out.2.1 KK.out.2.2
      case rest =>
        rename World => W3
        obtain ⟨B5, vo5, vc5, rfl, hB5, kb5, ob5, bb5⟩ := hcut
        have hst : SpR W1 tn al K xc ns B4 B5 K W3 := by
          refine ⟨vo4, _, vc4, vo5, _, vc5, K2.out.2.2.2.2.2.2.2.trans (bb5.mono K2.out.2.2.2.2.2.2.2.size), K2.out.2.2.2.2.1.below bb5, kb5, ?_, ?_, ?_⟩
          · rw [sm_0]; exact K2.out.2.2.2.2.2.1.keep bb5
          · rw [rs_0]; exact ob5.base K2.out.2.2.2.2.2.2.2.size
          · intro k h1 h2
            have a1 := (World.ownsRow.lt K2.out.2.2.2.2.2.1 k h1).2
            have a2 := (World.ownsRow.lt ob5 k h2).1
            omega
        have hBB : W1.heap.size ≤ B4 ∧ W1.heap.size ≤ B5 ∧ ¬ B4 = B5 := by
          have a1 := K2.out.2.2.2.2.1.lt
          have a2 := K2.out.2.2.2.2.2.2.2.size
          exact ⟨K2.out.2.2.2.2.2.2.1, by omega, by omega⟩
        have a8 := (p8.below bb5).cell 1
        simp at a8
        have S := Lib.hid (And.intro hst hBB)
        clear p0 p8 hB5 kb5 ob5 bb5 hst hBB
        go_wp2
        clear a8
        go_loopw [13] (fun i wr => ∃ j : Nat, i = .int .i64 j ∧ K ≤ j ∧ j ≤ xc.length ∧ SpR W1 tn al K xc ns B4 B5 j wr) (fun i _ => xc.length - (intOf i).toNat)
        case atStart => exact ⟨K, rfl, Nat.le_refl _, H.out.2.2.2.2.1.2, S.out.1⟩
        case round =>
          obtain ⟨j, rfl, hj0, hj, o1, n1, c1, o2, n2, c2, hb, q4, q5, r1, r2, hd⟩ := hrel
          have q8 := K1.out.2.2.1.below hb
          have q9 := K1.out.2.2.2.below hb
          obtain ⟨t0, t1, t2⟩ := q8.t3
          have J := Lib.hid (And.intro hj0 (And.intro hj (And.intro hb (And.intro q4 (And.intro q5 (And.intro r1 (And.intro r2 hd)))))))
          by_cases hlt : j < xc.length
          · have hl8 := H.out.2.2.2.1
            have h8 : j < 8 := by omega
            have e9 := q9.cell j
            have m9 : (#[Value.bool (mkb xc ns 0), .bool (mkb xc ns 1), .bool (mkb xc ns 2), .bool (mkb xc ns 3), .bool (mkb xc ns 4), .bool (mkb xc ns 5), .bool (mkb xc ns 6), .bool (mkb xc ns 7)])[j]? = some (.bool (mkb xc ns j)) := mk8_at _ _ _ h8
            rw [m9] at e9
            have g0 : (0 : Int) ≤ (j : Int) := by omega
            have g1 : (j : Int) < 8 := by omega
            have g2 : (j : Int) < (xc.length : Int) := by omega
            have hw : wrap64 ((j : Int) + 1) = (j : Int) + 1 := wrap_in _ (by omega) (by omega)
            obtain ⟨b', hb', x0, x1, x2, x3, x4, x5, x6⟩ := (H.out.2.2.1.1.below K1.out.1) j xc[j] (List.getElem?_eq_getElem hlt)
            cases hb'
            obtain ⟨_, _, u2⟩ := K1.out.2.2.1.t3
            obtain ⟨c, hc⟩ : ∃ c, xc[j] = c := ⟨_, rfl⟩
            rw [hc] at x0 x1 x2 x3 x4 x5 x6
            have X := Lib.hid (show xc[j]? = some c by rw [List.getElem?_eq_getElem hlt, hc])
            have l1 := (sm_len xc ns K j)
            obtain ⟨Wd, hWd⟩ : ∃ Wd, wr.drew = Wd := ⟨_, rfl⟩
            have bd : Below wr.heap.size wr Wd := hWd ▸ below_drew1 (Below.refl _ wr)
            have P := Lib.hid (And.intro (And.intro l1.1 (show (sm xc ns K j).length ≤ 1000 ∧ (rs xc ns K j).length ≤ 1000 by have := l1.2; omega)) (And.intro (hb.trans (bd.mono hb.size)) (And.intro (q4.below bd) (And.intro (q5.below bd) (And.intro (r1.keep bd) (And.intro (r2.keep bd) hd))))))
            have JL := Lib.hid hlt
            by_cases hm : mkb xc ns j = true
            · rw [hm] at e9
              have M := Lib.hid (show c.name ∈ ns by rw [mkb_at X.out] at hm; simpa using hm)
              clear hj0 hj hb q4 q5 r1 r2 hd q8 q9 m9 hl8 h8 hm hc hlt l1 bd
              go_wp2_with fail
              refine wp_region_held_drew (S := fun v => Below W1.heap.size W1 v) (by kernel_rfl) (below_drew1 J.out.2.2.1) (fun hH0 => ?_)
              rw [hWd]
              rw [hWd] at hH0
              refine wpAnyH_take (i := 0) (oi := _) (v := .pointer (some ⟨B4, 2, none⟩)) rfl (by kernel_rfl) (by kernel_rfl) (by kernel_rfl) (fun _ _ _ h => h) (Or.inl ⟨by rfl, by intro v hv; go_simp⟩) hH0 ?_
              try simp only [Act.put, List.getElem_toArray, List.getElem_cons_succ, List.getElem_cons_zero, List.setIfInBounds_toArray, List.set_cons_zero, List.set_cons_succ]
              refine wpAnyH_take (i := 2) (oi := _) (v := .pointer (some ⟨w.heap.size + 1, 2, none⟩)) rfl (by kernel_rfl) (by kernel_rfl) (by kernel_rfl) (fun _ _ _ h => h) (Or.inl ⟨by rfl, by intro v hv; go_simp⟩) hH0 ?_
              try simp only [Act.put, List.getElem_toArray, List.getElem_cons_succ, List.getElem_cons_zero, List.setIfInBounds_toArray, List.set_cons_zero, List.set_cons_succ]
              refine wpAnyH_take (i := 3) (oi := _) (v := .slice (some b) xc.length cap) rfl (by kernel_rfl) (by kernel_rfl) (by kernel_rfl) (fun _ _ _ h => h) (Or.inl ⟨by rfl, by intro v hv; have y2 := keep0 u2 hv; clear u2 x0 x1 x2 x3 x4 x5 x6; go_simp⟩) hH0 ?_
              try simp only [Act.put, List.getElem_toArray, List.getElem_cons_succ, List.getElem_cons_zero, List.setIfInBounds_toArray, List.set_cons_zero, List.set_cons_succ]
              refine wpAnyH_take (i := 4) (oi := _) (v := .int .i64 (j : Int)) rfl (by kernel_rfl) (by kernel_rfl) (by kernel_rfl) (fun _ _ _ h => h) (Or.inl ⟨by rfl, by intro v hv; go_simp⟩) hH0 ?_
              try simp only [Act.put, List.getElem_toArray, List.getElem_cons_succ, List.getElem_cons_zero, List.setIfInBounds_toArray, List.set_cons_zero, List.set_cons_succ]
              refine wpAnyH_take (i := 5) (oi := _) (v := .pointer (some (b.add (j * 7)))) rfl (by kernel_rfl) (by kernel_rfl) (by kernel_rfl) (fun _ _ _ h => h) (Or.inl ⟨by rfl, by intro v hv; go_simp⟩) hH0 ?_
              try simp only [Act.put, List.getElem_toArray, List.getElem_cons_succ, List.getElem_cons_zero, List.setIfInBounds_toArray, List.set_cons_zero, List.set_cons_succ]
              refine wpAnyH_take (i := 6) (oi := _) (v := .agg #[.string ⟨c.name.toArray⟩, .int .i64 c.kind, .bool c.null, .int .i64 c.d.k, .int .i64 c.d.n, .int .u64 c.d.b, .string ⟨c.d.s.toArray⟩]) rfl (by kernel_rfl) (by kernel_rfl) (by kernel_rfl) (fun _ _ _ h => h) (Or.inl ⟨by rfl, by intro v hv; have y0 := keep0 x0 hv; have y1 := keep0 x1 hv; have y2 := keep0 x2 hv; have y3 := keep0 x3 hv; have y4 := keep0 x4 hv; have y5 := keep0 x5 hv; have y6 := keep0 x6 hv; clear u2 x0 x1 x2 x3 x4 x5 x6; go_simp⟩) hH0 ?_
              try simp only [Act.put, List.getElem_toArray, List.getElem_cons_succ, List.getElem_cons_zero, List.setIfInBounds_toArray, List.set_cons_zero, List.set_cons_succ]
              clear u2 x0 x1 x2 x3 x4 x5 x6
              have s1 := P.out.2.2.1.cell 2
              have s2 : ∀ ob, (Wd.alloc ob).cell? ⟨B4, 2, none⟩ = some (.slice o1 n1 c1) := fun ob => keep0 s1 (below1 _ _)
              simp at s1
              refine wpAnyH_ready (rs := [1, 7]) (by kernel_rfl) (by simp) ?_
              refine AllReadyH.cons (o := _) rfl (fun K' hK => ?_) (AllReadyH.cons (o := _) rfl (fun K' hK => ?_) AllReadyH.nil)
              · go_simp
                refine hK.out _ _ hH0 (fun _ => ?_)
                clear hK K'
                try simp only [Act.put, List.getElem_toArray, List.getElem_cons_succ, List.getElem_cons_zero, List.setIfInBounds_toArray, List.set_cons_zero, List.set_cons_succ]
                refine wpAnyH_ready (rs := [7]) (by kernel_rfl) (by simp) ?_
                refine AllReadyH.cons (o := _) rfl (fun K' hK => ?_) AllReadyH.nil
                go_simp
                refine hK.out _ _ (P.out.2.1.alloc P.out.2.1.size _) (fun _ => ?_)
                clear hK K' hH0 s1 s2
                try simp only [Act.put, List.getElem_toArray, List.getElem_cons_succ, List.getElem_cons_zero, List.setIfInBounds_toArray, List.set_cons_zero, List.set_cons_succ]
                refine wpAnyH_ready (rs := [8]) (by kernel_rfl) (by simp) ?_
                refine AllReadyH.cons (o := _) rfl (fun K' hK => ?_) AllReadyH.nil
                refine step_appC rfl (.tmp 79) (.tmp 85) rfl W1.heap.size (.slice o1 n1 c1) (sm xc ns K j) c Wd.heap.size (by simp [Act.eval, Act.put]) (by simp [Act.eval, Act.put]) (P.out.2.2.2.2.1.keep (below1 _ _)) (Blk.new Wd _ _) (by have := P.out.1.2; omega) (by have := P.out.2.1.size; simp; omega) ?_
                intro v' w4 hOC hgr hbk
                have b4 := (P.out.2.1.alloc P.out.2.1.size (.cells #[.string ⟨c.name.toArray⟩, .int .i64 c.kind, .bool c.null, .int .i64 c.d.k, .int .i64 c.d.n, .int .u64 c.d.b, .string ⟨c.d.s.toArray⟩] 30)).grown hgr (by have := P.out.2.1.size; simp; omega) (fun k hk => (World.ownsRow.lt P.out.2.2.2.2.1 k hk).1)
                refine hK.out _ _ b4 (fun _ => ?_)
                clear hK K'
                obtain ⟨Z1, hZ1⟩ : ∃ Z1, sm xc ns K j ++ [c] = Z1 := ⟨_, rfl⟩
                rw [hZ1] at hOC
                obtain ⟨vo, vc, rfl, _, _⟩ := hOC.sl
                have k4 := (P.out.2.2.1.alloc (.cells #[.string ⟨c.name.toArray⟩, .int .i64 c.kind, .bool c.null, .int .i64 c.d.k, .int .i64 c.d.n, .int .u64 c.d.b, .string ⟨c.d.s.toArray⟩] 30)).kept hgr (OwC.notT P.out.2.2.2.2.1 P.out.2.2.1)
                have k5 := (P.out.2.2.2.1.alloc (.cells #[.string ⟨c.name.toArray⟩, .int .i64 c.kind, .bool c.null, .int .i64 c.d.k, .int .i64 c.d.n, .int .u64 c.d.b, .string ⟨c.d.s.toArray⟩] 30)).kept hgr (OwC.notT P.out.2.2.2.2.1 P.out.2.2.2.1)
                have d1 := k4.cell 2
                have d2 := k4.frozen 2
                simp at d1
                have G := Lib.hid (And.intro hOC (And.intro hgr (And.intro hbk (And.intro hZ1 (And.intro k4 (And.intro k5 b4))))))
                clear hOC hgr hbk hZ1 k4 k5 b4
                try simp only [Act.put, List.getElem_toArray, List.getElem_cons_succ, List.getElem_cons_zero, List.setIfInBounds_toArray, List.set_cons_zero, List.set_cons_succ]
                refine wpAnyH_take (i := 9) (oi := _) (v := .pointer (some ⟨B4, 2, none⟩)) rfl (by kernel_rfl) (by kernel_rfl) (by kernel_rfl) (fun _ _ _ h => h) (Or.inl ⟨by rfl, by intro v hv; go_simp⟩) G.out.2.2.2.2.2.2 ?_
                try simp only [Act.put, List.getElem_toArray, List.getElem_cons_succ, List.getElem_cons_zero, List.setIfInBounds_toArray, List.set_cons_zero, List.set_cons_succ]
                refine wpAnyH_ready (rs := [10]) (by kernel_rfl) (by simp) ?_
                refine AllReadyH.cons (o := _) rfl (fun K' hK => ?_) AllReadyH.nil
                go_simp
                refine hK.out _ _ (below_set G.out.2.2.2.2.2.2 S.out.2.1 2 _) (fun _ => ?_)
                clear hK K'
                try simp only [Act.put, List.getElem_toArray, List.getElem_cons_succ, List.getElem_cons_zero, List.setIfInBounds_toArray, List.set_cons_zero, List.set_cons_succ]
                refine wpAnyH_done (by kernel_rfl) ?_ _
                go_wp2
                go_roundw
                case rel => exact ⟨j + 1, by go_num, by have := J.out.1; omega, JL.out, spr_in J.out S.out.2 P.out.2 G.out X.out M.out⟩
                case measure => (try rw [hw]); simp [intOf]; omega
              · go_simp
                refine hK.out _ _ (P.out.2.1.alloc P.out.2.1.size _) (fun hH1 => ?_)
                clear hK K'
                try simp only [Act.put, List.getElem_toArray, List.getElem_cons_succ, List.getElem_cons_zero, List.setIfInBounds_toArray, List.set_cons_zero, List.set_cons_succ]
                refine wpAnyH_ready (rs := [1]) (by kernel_rfl) (by simp) ?_
                refine AllReadyH.cons (o := _) rfl (fun K' hK => ?_) AllReadyH.nil
                go_simp
                refine hK.out _ _ hH1 (fun _ => ?_)
                clear hK K' hH0 hH1 s1 s2
                try simp only [Act.put, List.getElem_toArray, List.getElem_cons_succ, List.getElem_cons_zero, List.setIfInBounds_toArray, List.set_cons_zero, List.set_cons_succ]
                refine wpAnyH_ready (rs := [8]) (by kernel_rfl) (by simp) ?_
                refine AllReadyH.cons (o := _) rfl (fun K' hK => ?_) AllReadyH.nil
                refine step_appC rfl (.tmp 79) (.tmp 85) rfl W1.heap.size (.slice o1 n1 c1) (sm xc ns K j) c Wd.heap.size (by simp [Act.eval, Act.put]) (by simp [Act.eval, Act.put]) (P.out.2.2.2.2.1.keep (below1 _ _)) (Blk.new Wd _ _) (by have := P.out.1.2; omega) (by have := P.out.2.1.size; simp; omega) ?_
                intro v' w4 hOC hgr hbk
                have b4 := (P.out.2.1.alloc P.out.2.1.size (.cells #[.string ⟨c.name.toArray⟩, .int .i64 c.kind, .bool c.null, .int .i64 c.d.k, .int .i64 c.d.n, .int .u64 c.d.b, .string ⟨c.d.s.toArray⟩] 30)).grown hgr (by have := P.out.2.1.size; simp; omega) (fun k hk => (World.ownsRow.lt P.out.2.2.2.2.1 k hk).1)
                refine hK.out _ _ b4 (fun _ => ?_)
                clear hK K'
                obtain ⟨Z1, hZ1⟩ : ∃ Z1, sm xc ns K j ++ [c] = Z1 := ⟨_, rfl⟩
                rw [hZ1] at hOC
                obtain ⟨vo, vc, rfl, _, _⟩ := hOC.sl
                have k4 := (P.out.2.2.1.alloc (.cells #[.string ⟨c.name.toArray⟩, .int .i64 c.kind, .bool c.null, .int .i64 c.d.k, .int .i64 c.d.n, .int .u64 c.d.b, .string ⟨c.d.s.toArray⟩] 30)).kept hgr (OwC.notT P.out.2.2.2.2.1 P.out.2.2.1)
                have k5 := (P.out.2.2.2.1.alloc (.cells #[.string ⟨c.name.toArray⟩, .int .i64 c.kind, .bool c.null, .int .i64 c.d.k, .int .i64 c.d.n, .int .u64 c.d.b, .string ⟨c.d.s.toArray⟩] 30)).kept hgr (OwC.notT P.out.2.2.2.2.1 P.out.2.2.2.1)
                have d1 := k4.cell 2
                have d2 := k4.frozen 2
                simp at d1
                have G := Lib.hid (And.intro hOC (And.intro hgr (And.intro hbk (And.intro hZ1 (And.intro k4 (And.intro k5 b4))))))
                clear hOC hgr hbk hZ1 k4 k5 b4
                try simp only [Act.put, List.getElem_toArray, List.getElem_cons_succ, List.getElem_cons_zero, List.setIfInBounds_toArray, List.set_cons_zero, List.set_cons_succ]
                refine wpAnyH_take (i := 9) (oi := _) (v := .pointer (some ⟨B4, 2, none⟩)) rfl (by kernel_rfl) (by kernel_rfl) (by kernel_rfl) (fun _ _ _ h => h) (Or.inl ⟨by rfl, by intro v hv; go_simp⟩) G.out.2.2.2.2.2.2 ?_
                try simp only [Act.put, List.getElem_toArray, List.getElem_cons_succ, List.getElem_cons_zero, List.setIfInBounds_toArray, List.set_cons_zero, List.set_cons_succ]
                refine wpAnyH_ready (rs := [10]) (by kernel_rfl) (by simp) ?_
                refine AllReadyH.cons (o := _) rfl (fun K' hK => ?_) AllReadyH.nil
                go_simp
                refine hK.out _ _ (below_set G.out.2.2.2.2.2.2 S.out.2.1 2 _) (fun _ => ?_)
                clear hK K'
                try simp only [Act.put, List.getElem_toArray, List.getElem_cons_succ, List.getElem_cons_zero, List.setIfInBounds_toArray, List.set_cons_zero, List.set_cons_succ]
                refine wpAnyH_done (by kernel_rfl) ?_ _
                go_wp2
                go_roundw
                case rel => exact ⟨j + 1, by go_num, by have := J.out.1; omega, JL.out, spr_in J.out S.out.2 P.out.2 G.out X.out M.out⟩
                case measure => (try rw [hw]); simp [intOf]; omega
            · rw [show mkb xc ns j = false by simpa using hm] at e9
              have M := Lib.hid (show c.name ∉ ns by rw [mkb_at X.out] at hm; simpa using hm)
              clear hj0 hj hb q4 q5 r1 r2 hd q8 q9 m9 hl8 h8 hm hc hlt l1 bd
              go_wp2_with fail
              refine wp_region_held_drew (S := fun v => Below W1.heap.size W1 v) (by kernel_rfl) (below_drew1 J.out.2.2.1) (fun hH0 => ?_)
              rw [hWd]
              rw [hWd] at hH0
              refine wpAnyH_take (i := 0) (oi := _) (v := .pointer (some ⟨B5, 2, none⟩)) rfl (by kernel_rfl) (by kernel_rfl) (by kernel_rfl) (fun _ _ _ h => h) (Or.inl ⟨by rfl, by intro v hv; go_simp⟩) hH0 ?_
              try simp only [Act.put, List.getElem_toArray, List.getElem_cons_succ, List.getElem_cons_zero, List.setIfInBounds_toArray, List.set_cons_zero, List.set_cons_succ]
              refine wpAnyH_take (i := 2) (oi := _) (v := .pointer (some ⟨w.heap.size + 1, 2, none⟩)) rfl (by kernel_rfl) (by kernel_rfl) (by kernel_rfl) (fun _ _ _ h => h) (Or.inl ⟨by rfl, by intro v hv; go_simp⟩) hH0 ?_
              try simp only [Act.put, List.getElem_toArray, List.getElem_cons_succ, List.getElem_cons_zero, List.setIfInBounds_toArray, List.set_cons_zero, List.set_cons_succ]
              refine wpAnyH_take (i := 3) (oi := _) (v := .slice (some b) xc.length cap) rfl (by kernel_rfl) (by kernel_rfl) (by kernel_rfl) (fun _ _ _ h => h) (Or.inl ⟨by rfl, by intro v hv; have y2 := keep0 u2 hv; clear u2 x0 x1 x2 x3 x4 x5 x6; go_simp⟩) hH0 ?_
              try simp only [Act.put, List.getElem_toArray, List.getElem_cons_succ, List.getElem_cons_zero, List.setIfInBounds_toArray, List.set_cons_zero, List.set_cons_succ]
              refine wpAnyH_take (i := 4) (oi := _) (v := .int .i64 (j : Int)) rfl (by kernel_rfl) (by kernel_rfl) (by kernel_rfl) (fun _ _ _ h => h) (Or.inl ⟨by rfl, by intro v hv; go_simp⟩) hH0 ?_
              try simp only [Act.put, List.getElem_toArray, List.getElem_cons_succ, List.getElem_cons_zero, List.setIfInBounds_toArray, List.set_cons_zero, List.set_cons_succ]
              refine wpAnyH_take (i := 5) (oi := _) (v := .pointer (some (b.add (j * 7)))) rfl (by kernel_rfl) (by kernel_rfl) (by kernel_rfl) (fun _ _ _ h => h) (Or.inl ⟨by rfl, by intro v hv; go_simp⟩) hH0 ?_
              try simp only [Act.put, List.getElem_toArray, List.getElem_cons_succ, List.getElem_cons_zero, List.setIfInBounds_toArray, List.set_cons_zero, List.set_cons_succ]
              refine wpAnyH_take (i := 6) (oi := _) (v := .agg #[.string ⟨c.name.toArray⟩, .int .i64 c.kind, .bool c.null, .int .i64 c.d.k, .int .i64 c.d.n, .int .u64 c.d.b, .string ⟨c.d.s.toArray⟩]) rfl (by kernel_rfl) (by kernel_rfl) (by kernel_rfl) (fun _ _ _ h => h) (Or.inl ⟨by rfl, by intro v hv; have y0 := keep0 x0 hv; have y1 := keep0 x1 hv; have y2 := keep0 x2 hv; have y3 := keep0 x3 hv; have y4 := keep0 x4 hv; have y5 := keep0 x5 hv; have y6 := keep0 x6 hv; clear u2 x0 x1 x2 x3 x4 x5 x6; go_simp⟩) hH0 ?_
              try simp only [Act.put, List.getElem_toArray, List.getElem_cons_succ, List.getElem_cons_zero, List.setIfInBounds_toArray, List.set_cons_zero, List.set_cons_succ]
              clear u2 x0 x1 x2 x3 x4 x5 x6
              have s1 := P.out.2.2.2.1.cell 2
              have s2 : ∀ ob, (Wd.alloc ob).cell? ⟨B5, 2, none⟩ = some (.slice o2 n2 c2) := fun ob => keep0 s1 (below1 _ _)
              simp at s1
              refine wpAnyH_ready (rs := [1, 7]) (by kernel_rfl) (by simp) ?_
              refine AllReadyH.cons (o := _) rfl (fun K' hK => ?_) (AllReadyH.cons (o := _) rfl (fun K' hK => ?_) AllReadyH.nil)
              · go_simp
                refine hK.out _ _ hH0 (fun _ => ?_)
                clear hK K'
                try simp only [Act.put, List.getElem_toArray, List.getElem_cons_succ, List.getElem_cons_zero, List.setIfInBounds_toArray, List.set_cons_zero, List.set_cons_succ]
                refine wpAnyH_ready (rs := [7]) (by kernel_rfl) (by simp) ?_
                refine AllReadyH.cons (o := _) rfl (fun K' hK => ?_) AllReadyH.nil
                go_simp
                refine hK.out _ _ (P.out.2.1.alloc P.out.2.1.size _) (fun _ => ?_)
                clear hK K' hH0 s1 s2
                try simp only [Act.put, List.getElem_toArray, List.getElem_cons_succ, List.getElem_cons_zero, List.setIfInBounds_toArray, List.set_cons_zero, List.set_cons_succ]
                refine wpAnyH_ready (rs := [8]) (by kernel_rfl) (by simp) ?_
                refine AllReadyH.cons (o := _) rfl (fun K' hK => ?_) AllReadyH.nil
                refine step_appC rfl (.tmp 89) (.tmp 95) rfl W1.heap.size (.slice o2 n2 c2) (rs xc ns K j) c Wd.heap.size (by simp [Act.eval, Act.put]) (by simp [Act.eval, Act.put]) (P.out.2.2.2.2.2.1.keep (below1 _ _)) (Blk.new Wd _ _) (by have := P.out.1.2; omega) (by have := P.out.2.1.size; simp; omega) ?_
                intro v' w4 hOC hgr hbk
                have b4 := (P.out.2.1.alloc P.out.2.1.size (.cells #[.string ⟨c.name.toArray⟩, .int .i64 c.kind, .bool c.null, .int .i64 c.d.k, .int .i64 c.d.n, .int .u64 c.d.b, .string ⟨c.d.s.toArray⟩] 30)).grown hgr (by have := P.out.2.1.size; simp; omega) (fun k hk => (World.ownsRow.lt P.out.2.2.2.2.2.1 k hk).1)
                refine hK.out _ _ b4 (fun _ => ?_)
                clear hK K'
                obtain ⟨Z1, hZ1⟩ : ∃ Z1, rs xc ns K j ++ [c] = Z1 := ⟨_, rfl⟩
                rw [hZ1] at hOC
                obtain ⟨vo, vc, rfl, _, _⟩ := hOC.sl
                have k4 := (P.out.2.2.1.alloc (.cells #[.string ⟨c.name.toArray⟩, .int .i64 c.kind, .bool c.null, .int .i64 c.d.k, .int .i64 c.d.n, .int .u64 c.d.b, .string ⟨c.d.s.toArray⟩] 30)).kept hgr (OwC.notT P.out.2.2.2.2.2.1 P.out.2.2.1)
                have k5 := (P.out.2.2.2.1.alloc (.cells #[.string ⟨c.name.toArray⟩, .int .i64 c.kind, .bool c.null, .int .i64 c.d.k, .int .i64 c.d.n, .int .u64 c.d.b, .string ⟨c.d.s.toArray⟩] 30)).kept hgr (OwC.notT P.out.2.2.2.2.2.1 P.out.2.2.2.1)
                have d1 := k5.cell 2
                have d2 := k5.frozen 2
                simp at d1
                have G := Lib.hid (And.intro hOC (And.intro hgr (And.intro hbk (And.intro hZ1 (And.intro k4 (And.intro k5 b4))))))
                clear hOC hgr hbk hZ1 k4 k5 b4
                try simp only [Act.put, List.getElem_toArray, List.getElem_cons_succ, List.getElem_cons_zero, List.setIfInBounds_toArray, List.set_cons_zero, List.set_cons_succ]
                refine wpAnyH_take (i := 9) (oi := _) (v := .pointer (some ⟨B5, 2, none⟩)) rfl (by kernel_rfl) (by kernel_rfl) (by kernel_rfl) (fun _ _ _ h => h) (Or.inl ⟨by rfl, by intro v hv; go_simp⟩) G.out.2.2.2.2.2.2 ?_
                try simp only [Act.put, List.getElem_toArray, List.getElem_cons_succ, List.getElem_cons_zero, List.setIfInBounds_toArray, List.set_cons_zero, List.set_cons_succ]
                refine wpAnyH_ready (rs := [10]) (by kernel_rfl) (by simp) ?_
                refine AllReadyH.cons (o := _) rfl (fun K' hK => ?_) AllReadyH.nil
                go_simp
                refine hK.out _ _ (below_set G.out.2.2.2.2.2.2 S.out.2.2.1 2 _) (fun _ => ?_)
                clear hK K'
                try simp only [Act.put, List.getElem_toArray, List.getElem_cons_succ, List.getElem_cons_zero, List.setIfInBounds_toArray, List.set_cons_zero, List.set_cons_succ]
                refine wpAnyH_done (by kernel_rfl) ?_ _
                go_wp2
                go_roundw
                case rel => exact ⟨j + 1, by go_num, by have := J.out.1; omega, JL.out, spr_out J.out S.out.2 P.out.2 G.out X.out M.out⟩
                case measure => (try rw [hw]); simp [intOf]; omega
              · go_simp
                refine hK.out _ _ (P.out.2.1.alloc P.out.2.1.size _) (fun hH1 => ?_)
                clear hK K'
                try simp only [Act.put, List.getElem_toArray, List.getElem_cons_succ, List.getElem_cons_zero, List.setIfInBounds_toArray, List.set_cons_zero, List.set_cons_succ]
                refine wpAnyH_ready (rs := [1]) (by kernel_rfl) (by simp) ?_
                refine AllReadyH.cons (o := _) rfl (fun K' hK => ?_) AllReadyH.nil
                go_simp
                refine hK.out _ _ hH1 (fun _ => ?_)
                clear hK K' hH0 hH1 s1 s2
                try simp only [Act.put, List.getElem_toArray, List.getElem_cons_succ, List.getElem_cons_zero, List.setIfInBounds_toArray, List.set_cons_zero, List.set_cons_succ]
                refine wpAnyH_ready (rs := [8]) (by kernel_rfl) (by simp) ?_
                refine AllReadyH.cons (o := _) rfl (fun K' hK => ?_) AllReadyH.nil
                refine step_appC rfl (.tmp 89) (.tmp 95) rfl W1.heap.size (.slice o2 n2 c2) (rs xc ns K j) c Wd.heap.size (by simp [Act.eval, Act.put]) (by simp [Act.eval, Act.put]) (P.out.2.2.2.2.2.1.keep (below1 _ _)) (Blk.new Wd _ _) (by have := P.out.1.2; omega) (by have := P.out.2.1.size; simp; omega) ?_
                intro v' w4 hOC hgr hbk
                have b4 := (P.out.2.1.alloc P.out.2.1.size (.cells #[.string ⟨c.name.toArray⟩, .int .i64 c.kind, .bool c.null, .int .i64 c.d.k, .int .i64 c.d.n, .int .u64 c.d.b, .string ⟨c.d.s.toArray⟩] 30)).grown hgr (by have := P.out.2.1.size; simp; omega) (fun k hk => (World.ownsRow.lt P.out.2.2.2.2.2.1 k hk).1)
                refine hK.out _ _ b4 (fun _ => ?_)
                clear hK K'
                obtain ⟨Z1, hZ1⟩ : ∃ Z1, rs xc ns K j ++ [c] = Z1 := ⟨_, rfl⟩
                rw [hZ1] at hOC
                obtain ⟨vo, vc, rfl, _, _⟩ := hOC.sl
                have k4 := (P.out.2.2.1.alloc (.cells #[.string ⟨c.name.toArray⟩, .int .i64 c.kind, .bool c.null, .int .i64 c.d.k, .int .i64 c.d.n, .int .u64 c.d.b, .string ⟨c.d.s.toArray⟩] 30)).kept hgr (OwC.notT P.out.2.2.2.2.2.1 P.out.2.2.1)
                have k5 := (P.out.2.2.2.1.alloc (.cells #[.string ⟨c.name.toArray⟩, .int .i64 c.kind, .bool c.null, .int .i64 c.d.k, .int .i64 c.d.n, .int .u64 c.d.b, .string ⟨c.d.s.toArray⟩] 30)).kept hgr (OwC.notT P.out.2.2.2.2.2.1 P.out.2.2.2.1)
                have d1 := k5.cell 2
                have d2 := k5.frozen 2
                simp at d1
                have G := Lib.hid (And.intro hOC (And.intro hgr (And.intro hbk (And.intro hZ1 (And.intro k4 (And.intro k5 b4))))))
                clear hOC hgr hbk hZ1 k4 k5 b4
                try simp only [Act.put, List.getElem_toArray, List.getElem_cons_succ, List.getElem_cons_zero, List.setIfInBounds_toArray, List.set_cons_zero, List.set_cons_succ]
                refine wpAnyH_take (i := 9) (oi := _) (v := .pointer (some ⟨B5, 2, none⟩)) rfl (by kernel_rfl) (by kernel_rfl) (by kernel_rfl) (fun _ _ _ h => h) (Or.inl ⟨by rfl, by intro v hv; go_simp⟩) G.out.2.2.2.2.2.2 ?_
                try simp only [Act.put, List.getElem_toArray, List.getElem_cons_succ, List.getElem_cons_zero, List.setIfInBounds_toArray, List.set_cons_zero, List.set_cons_succ]
                refine wpAnyH_ready (rs := [10]) (by kernel_rfl) (by simp) ?_
                refine AllReadyH.cons (o := _) rfl (fun K' hK => ?_) AllReadyH.nil
                go_simp
                refine hK.out _ _ (below_set G.out.2.2.2.2.2.2 S.out.2.2.1 2 _) (fun _ => ?_)
                clear hK K'
                try simp only [Act.put, List.getElem_toArray, List.getElem_cons_succ, List.getElem_cons_zero, List.setIfInBounds_toArray, List.set_cons_zero, List.set_cons_succ]
                refine wpAnyH_done (by kernel_rfl) ?_ _
                go_wp2
                go_roundw
                case rel => exact ⟨j + 1, by go_num, by have := J.out.1; omega, JL.out, spr_out J.out S.out.2 P.out.2 G.out X.out M.out⟩
                case measure => (try rw [hw]); simp [intOf]; omega
          · obtain rfl : j = xc.length := by omega
            obtain ⟨s0, s1, s2⟩ := q4.t3
            obtain ⟨v0, v1, v2⟩ := q5.t3
            have E1 := r1.slen
            have E2 := r2.slen
            subst E1 E2
            clear hj0 hj hb q4 q5 r1 r2 hd q8 q9 t0 t1
            go_wp2
            go_ret2
            exact ⟨.inr ⟨B2.out.2.1, tr_two J.out K1.out.1 H.out.2.2.1.2.2 H.out.2.2.2.2.1⟩, (step0' K1.out.1 J.out.2.2.1).alloc (step0' K1.out.1 J.out.2.2.1).size _⟩

end Go.Proofs.YtdonmbmahcjfbaaGreatDoor

namespace Go.Proofs.YtdonmbmahcjfbaaGreatDoor
open Go.RowKit
set_option linter.unusedVariables false
set_option linter.unusedSimpArgs false

/-- What stands behind the two assignments. -/
def MG (W0 : World) (x y : TV) (t7 t8 : Value) (wc : World) : Prop :=
  ∃ B7 B8 vo vc, t7 = .pointer (some ⟨B7, 0, none⟩) ∧ t8 = .pointer (some ⟨B8, 0, none⟩) ∧ Blk wc B7 #[.string ⟨x.t.name.toArray⟩, .int .i64 x.t.keys, .slice vo x.t.cs.length vc] 24 ∧ Blk wc B8 #[.string ⟨y.t.name.toArray⟩, .int .i64 y.t.keys, .slice y.ao y.t.cs.length y.cap] 24 ∧
    B7 ≠ B8 ∧ W0.heap.size ≤ B7 ∧ W0.heap.size ≤ B8 ∧ OwC wc W0.heap.size (.slice vo x.t.cs.length vc) x.t.cs ∧ Below W0.heap.size W0 wc
theorem mg_one {W0 X3 Y1 : World} {B7 B8 : Nat} {vo : Option Addr} {vc n : Nat} {cs : List C} {nm : Nm.S} {ks : Int} (F : Blk X3 B7 #[.string ⟨#[]⟩, .int .i64 0, .slice none 0 0] 24 ∧ Blk X3 B8 #[.string ⟨#[]⟩, .int .i64 0, .slice none 0 0] 24 ∧ B7 ≠ B8 ∧ W0.heap.size ≤ B7 ∧ W0.heap.size ≤ B8 ∧ OwC X3 W0.heap.size (.slice vo n vc) cs ∧ Below W0.heap.size W0 X3)
    (h : ((X3.setCell ⟨B7, 0, none⟩ (.string ⟨nm.toArray⟩)).setCell ⟨B7, 1, none⟩ (.int .i64 ks)).setCell ⟨B7, 2, none⟩ (.slice vo n vc) = Y1) :
    Blk Y1 B7 #[.string ⟨nm.toArray⟩, .int .i64 ks, .slice vo n vc] 24 ∧ Blk Y1 B8 #[.string ⟨#[]⟩, .int .i64 0, .slice none 0 0] 24 ∧ OwC Y1 W0.heap.size (.slice vo n vc) cs ∧ Below W0.heap.size W0 Y1 := by
  subst h
  have k := F.1
  refine ⟨((k.setAt 0 _).setAt 1 _).setAt 2 _, ((F.2.1.otherAt (fun e => F.2.2.1 e.symm) 0 _).otherAt (fun e => F.2.2.1 e.symm) 1 _).otherAt (fun e => F.2.2.1 e.symm) 2 _, ((F.2.2.2.2.2.1.beside k 0 _).beside (k.setAt 0 _) 1 _).beside ((k.setAt 0 _).setAt 1 _) 2 _, set3 F.2.2.2.2.2.2 F.2.2.2.1⟩
theorem mg_two {W0 X3 Y1 Y2 : World} {B7 B8 : Nat} {vo fo' : Option Addr} {vc n m mc : Nat} {cs : List C} {nm nm' : Nm.S} {ks ks' : Int} (F : Blk X3 B7 #[.string ⟨#[]⟩, .int .i64 0, .slice none 0 0] 24 ∧ Blk X3 B8 #[.string ⟨#[]⟩, .int .i64 0, .slice none 0 0] 24 ∧ B7 ≠ B8 ∧ W0.heap.size ≤ B7 ∧ W0.heap.size ≤ B8 ∧ OwC X3 W0.heap.size (.slice vo n vc) cs ∧ Below W0.heap.size W0 X3)
    (F1 : Blk Y1 B7 #[.string ⟨nm.toArray⟩, .int .i64 ks, .slice vo n vc] 24 ∧ Blk Y1 B8 #[.string ⟨#[]⟩, .int .i64 0, .slice none 0 0] 24 ∧ OwC Y1 W0.heap.size (.slice vo n vc) cs ∧ Below W0.heap.size W0 Y1)
    (h : ((Y1.setCell ⟨B8, 0, none⟩ (.string ⟨nm'.toArray⟩)).setCell ⟨B8, 1, none⟩ (.int .i64 ks')).setCell ⟨B8, 2, none⟩ (.slice fo' m mc) = Y2) :
    Blk Y2 B7 #[.string ⟨nm.toArray⟩, .int .i64 ks, .slice vo n vc] 24 ∧ Blk Y2 B8 #[.string ⟨nm'.toArray⟩, .int .i64 ks', .slice fo' m mc] 24 ∧ OwC Y2 W0.heap.size (.slice vo n vc) cs ∧ Below W0.heap.size W0 Y2 := by
  subst h
  have k := F1.2.1
  refine ⟨((F1.1.otherAt F.2.2.1 0 _).otherAt F.2.2.1 1 _).otherAt F.2.2.1 2 _, ((k.setAt 0 _).setAt 1 _).setAt 2 _, ((F1.2.2.1.beside k 0 _).beside (k.setAt 0 _) 1 _).beside ((k.setAt 0 _).setAt 1 _) 2 _, set3 F1.2.2.2 F.2.2.2.2.1⟩
/-- Two names stored. -/
theorem mg_names {W0 X Y : World} {B7 B8 : Nat} {vo fo' : Option Addr} {vc n m mc : Nat} {cs : List C} {u u' : Value} {tn : Nm.S} {ks ks' : Int} (M : Blk X B7 #[u, .int .i64 ks, .slice vo n vc] 24 ∧ Blk X B8 #[u', .int .i64 ks', .slice fo' m mc] 24 ∧ B7 ≠ B8 ∧ W0.heap.size ≤ B7 ∧ W0.heap.size ≤ B8 ∧ OwC X W0.heap.size (.slice vo n vc) cs ∧ Below W0.heap.size W0 X)
    (h : (X.setCell ⟨B7, 0, none⟩ (.string ⟨tn.toArray⟩)).setCell ⟨B8, 0, none⟩ (.string ⟨tn.toArray⟩) = Y) :
    Blk Y B7 #[.string ⟨tn.toArray⟩, .int .i64 ks, .slice vo n vc] 24 ∧ Blk Y B8 #[.string ⟨tn.toArray⟩, .int .i64 ks', .slice fo' m mc] 24 ∧ OwC Y W0.heap.size (.slice vo n vc) cs ∧ Below W0.heap.size W0 Y := by
  subst h
  refine ⟨(M.1.setAt 0 _).otherAt M.2.2.1 0 _, (M.2.1.otherAt (fun e => M.2.2.1 e.symm) 0 _).setAt 0 _, (M.2.2.2.2.2.1.beside M.1 0 _).beside (M.2.1.otherAt (fun e => M.2.2.1 e.symm) 0 _) 0 _, below_set (below_set M.2.2.2.2.2.2 M.2.2.2.1 0 _) M.2.2.2.2.1 0 _⟩

set_option maxRecDepth 1000000 in
set_option maxHeartbeats 8000000 in
theorem merge_go (tb ot tn : Nm.S) (x y : TV) (fo : Option Addr) (fc : Nat) (w : World) (h0 : (tb == ot) = false) (hto : Nm.ck tn = 0) (hs : SlV w fo [x, y]) (hx : At3 w x.t x.ao x.cap) (hy : At3 w y.t y.ao y.cap) (hl : x.t.cs.length ≤ 8) (r : Bool) (hr : T.sm ⟨tn, x.t.keys, x.t.cs⟩ ⟨tn, y.t.keys, y.t.cs⟩ = r) :
    Calls Tryz.prog 208 #[.agg #[.string ⟨tb.toArray⟩, .string ⟨ot.toArray⟩, .string ⟨tn.toArray⟩], .slice fo 2 fc] w fun e w' => ((r = false ∧ e = .returned (.tuple #[.slice none 0 0, .int .i64 11])) ∨ (r = true ∧ TR w w' e ([⟨tn, x.t.keys, x.t.cs⟩], 0))) ∧ Below w.heap.size w w' := by
  have hmx : Tryz.prog.follows .mixedOrders = true := by kernel_rfl
  obtain ⟨a, rfl, _⟩ := hs 0 x rfl
  have H := Lib.hid (And.intro hs (And.intro hx (And.intro hy (And.intro hl (And.intro hr hto)))))
  clear hs hx hy hl hr hto
  go_enter Tryz.func208, Tryz.ntmps208
  go_wp2_with fail
  refine (nm_check_is tn 0 _ H.out.2.2.2.2.2).mono ?_
  rintro e w1 ⟨rfl, rfl⟩
  have hbox := Blk.new w #[.string ⟨tb.toArray⟩, .string ⟨ot.toArray⟩, .string ⟨tn.toArray⟩] 113
  obtain ⟨W0, hW0⟩ : ∃ W0, w.alloc (.cells #[.string ⟨tb.toArray⟩, .string ⟨ot.toArray⟩, .string ⟨tn.toArray⟩] 113) = W0 := ⟨_, rfl⟩
  have hB0 : Below w.heap.size w W0 := hW0 ▸ below1 _ _
  have hz0 : W0.heap.size = w.heap.size + 1 := by rw [← hW0]; simp
  rw [hW0] at hbox ⊢
  have hs0 := H.out.1.below hB0
  have K0 := Lib.hid (And.intro hB0 (And.intro hbox (And.intro hz0 hs0)))
  clear hW0 hz0 hbox hB0 hs0
  go_wp2
  go_cut [7, 8] (MG W0 x y)
  case first =>
    obtain ⟨X0, hX0⟩ : ∃ X, W0.drew = X := ⟨_, rfl⟩
    refine wp_region_held_drew (S := fun v => Below W0.heap.size W0 v) (by kernel_rfl) (below_drew1 (Below.refl _ _)) (fun hH0 => ?_)
    rw [hX0]
    rw [hX0] at hH0
    have b0 := Lib.hid hH0
    clear hH0 hX0
    obtain ⟨_, y0, y1, y2, y3, y4, y5⟩ := six K0.out.2.2.2 (Below.refl _ _)
    refine wpAnyH_take (i := 0) (oi := _) (v := .slice (some a) 2 fc) rfl (by kernel_rfl) (by kernel_rfl) (by kernel_rfl) (fun _ _ _ h => h) (Or.inl ⟨by rfl, by intro v hv; go_simp⟩) b0.out ?_
    try simp only [Act.put, List.getElem_toArray, List.getElem_cons_succ, List.getElem_cons_zero, List.setIfInBounds_toArray, List.set_cons_zero, List.set_cons_succ]
    refine wpAnyH_take (i := 1) (oi := _) (v := .pointer (some a)) rfl (by kernel_rfl) (by kernel_rfl) (by kernel_rfl) (fun _ _ _ h => h) (Or.inl ⟨by rfl, by intro v hv; go_simp⟩) b0.out ?_
    try simp only [Act.put, List.getElem_toArray, List.getElem_cons_succ, List.getElem_cons_zero, List.setIfInBounds_toArray, List.set_cons_zero, List.set_cons_succ]
    refine wpAnyH_take (i := 2) (oi := _) (v := .agg #[.string ⟨x.t.name.toArray⟩, .int .i64 x.t.keys, .slice x.ao x.t.cs.length x.cap]) rfl (by kernel_rfl) (by kernel_rfl) (by kernel_rfl) (fun _ _ _ h => h) (Or.inl ⟨by rfl, by intro v hv; have z0 := keep0 y0 hv; have z1 := keep0 y1 hv; have z2 := keep0 y2 hv; clear y0 y1 y2 y3 y4 y5; go_simp⟩) b0.out ?_
    try simp only [Act.put, List.getElem_toArray, List.getElem_cons_succ, List.getElem_cons_zero, List.setIfInBounds_toArray, List.set_cons_zero, List.set_cons_succ]
    refine wpAnyH_take (i := 4) (oi := _) (v := .slice (some a) 2 fc) rfl (by kernel_rfl) (by kernel_rfl) (by kernel_rfl) (fun _ _ _ h => h) (Or.inl ⟨by rfl, by intro v hv; go_simp⟩) b0.out ?_
    try simp only [Act.put, List.getElem_toArray, List.getElem_cons_succ, List.getElem_cons_zero, List.setIfInBounds_toArray, List.set_cons_zero, List.set_cons_succ]
    refine wpAnyH_take (i := 5) (oi := _) (v := .pointer (some ⟨a.block, a.off + 3, none⟩)) rfl (by kernel_rfl) (by kernel_rfl) (by kernel_rfl) (fun _ _ _ h => h) (Or.inl ⟨by rfl, by intro v hv; go_simp⟩) b0.out ?_
    try simp only [Act.put, List.getElem_toArray, List.getElem_cons_succ, List.getElem_cons_zero, List.setIfInBounds_toArray, List.set_cons_zero, List.set_cons_succ]
    refine wpAnyH_take (i := 6) (oi := _) (v := .agg #[.string ⟨y.t.name.toArray⟩, .int .i64 y.t.keys, .slice y.ao y.t.cs.length y.cap]) rfl (by kernel_rfl) (by kernel_rfl) (by kernel_rfl) (fun _ _ _ h => h) (Or.inl ⟨by rfl, by intro v hv; have z3 := keep0 y3 hv; have z4 := keep0 y4 hv; have z5 := keep0 y5 hv; clear y0 y1 y2 y3 y4 y5; go_simp⟩) b0.out ?_
    try simp only [Act.put, List.getElem_toArray, List.getElem_cons_succ, List.getElem_cons_zero, List.setIfInBounds_toArray, List.set_cons_zero, List.set_cons_succ]
    clear y0 y1 y2 y3 y4 y5
    refine wpAnyH_ready (rs := [3, 7, 8]) (by kernel_rfl) (by simp) ?_
    refine AllReadyH.cons (o := _) rfl (fun K' hK => ?_) (AllReadyH.cons (o := _) rfl (fun K' hK => ?_) (AllReadyH.cons (o := _) rfl (fun K' hK => ?_) AllReadyH.nil))
    · go_simp
      refine (copied_is x.t.name x.t.keys x.t.cs x.ao x.cap _ ((H.out.2.1.1.below K0.out.1).below b0.out) (by have := H.out.2.2.2.1; omega)).mono ?_
      rintro e X1 ⟨vo, vc, rfl, hO, hb⟩
      have b1 := Lib.hid (step0 b0.out hb)
      have kO := Lib.hid (hO.base (show W0.heap.size ≤ X0.heap.size + 2 by have := b0.out.size; omega))
      clear hO hb
      go_wp2_with fail
      refine hK.out _ _ b1.out (fun _ => ?_)
      clear hK K'
      try simp only [Act.put, List.getElem_toArray, List.getElem_cons_succ, List.getElem_cons_zero, List.setIfInBounds_toArray, List.set_cons_zero, List.set_cons_succ]
      refine wpAnyH_ready (rs := [7, 8]) (by kernel_rfl) (by simp) ?_
      refine AllReadyH.cons (o := _) rfl (fun K' hK => ?_) (AllReadyH.cons (o := _) rfl (fun K' hK => ?_) AllReadyH.nil)
      · go_simp
        obtain ⟨X2, hX2⟩ : ∃ X, X1.alloc (.cells #[.string ⟨#[]⟩, .int .i64 0, .slice none 0 0] 24) = X := ⟨_, rfl⟩
        obtain ⟨B7, hB7⟩ : ∃ B, X1.heap.size = B := ⟨_, rfl⟩
        rw [hX2, hB7]
        have k7 := Lib.hid (show Blk X2 B7 #[.string ⟨#[]⟩, .int .i64 0, .slice none 0 0] 24 by rw [← hX2, ← hB7]; exact Blk.new _ _ _)
        have b2 := Lib.hid (show Below W0.heap.size W0 X2 by rw [← hX2]; exact b1.out.alloc b1.out.size _)
        have s2 : Below X1.heap.size X1 X2 := by rw [← hX2]; exact below1 _ _
        have n7 := Lib.hid (show W0.heap.size ≤ B7 by rw [← hB7]; exact b1.out.size)
        have kO := Lib.hid (kO.out.keep s2)
        clear s2 hX2 hB7
        refine hK.out _ _ b2.out (fun _ => ?_)
        clear hK K'
        try simp only [Act.put, List.getElem_toArray, List.getElem_cons_succ, List.getElem_cons_zero, List.setIfInBounds_toArray, List.set_cons_zero, List.set_cons_succ]
        refine wpAnyH_ready (rs := [8]) (by kernel_rfl) (by simp) ?_
        refine AllReadyH.cons (o := _) rfl (fun K' hK => ?_) AllReadyH.nil
        go_simp
        obtain ⟨X3, hX3⟩ : ∃ X, X2.alloc (.cells #[.string ⟨#[]⟩, .int .i64 0, .slice none 0 0] 24) = X := ⟨_, rfl⟩
        obtain ⟨B8, hB8⟩ : ∃ B, X2.heap.size = B := ⟨_, rfl⟩
        rw [hX3, hB8]
        have k8 := Lib.hid (show Blk X3 B8 #[.string ⟨#[]⟩, .int .i64 0, .slice none 0 0] 24 by rw [← hX3, ← hB8]; exact Blk.new _ _ _)
        have b3 := Lib.hid (show Below W0.heap.size W0 X3 by rw [← hX3]; exact b2.out.alloc b2.out.size _)
        have s3 : Below X2.heap.size X2 X3 := by rw [← hX3]; exact below1 _ _
        have n8 := Lib.hid (show W0.heap.size ≤ B8 by rw [← hB8]; exact b2.out.size)
        have kO := Lib.hid (kO.out.keep s3)
        have ne := Lib.hid (show B7 ≠ B8 by have := k7.out.lt; omega)
        have k7 := Lib.hid (k7.out.below s3)
        clear s3 hX3 hB8
        refine hK.out _ _ b3.out (fun _ => ?_)
        clear hK K'
        try simp only [Act.put, List.getElem_toArray, List.getElem_cons_succ, List.getElem_cons_zero, List.setIfInBounds_toArray, List.set_cons_zero, List.set_cons_succ]
        have F := Lib.hid (And.intro k7.out (And.intro k8.out (And.intro ne.out (And.intro n7.out (And.intro n8.out (And.intro kO.out b3.out))))))
        clear k7 k8 ne n7 n8 kO b0 b1 b2 b3
        obtain ⟨i0, i1, i2, i3, i4, i5⟩ := F.out.1.six
        refine wpAnyH_ready (rs := [9]) (by kernel_rfl) (by simp) ?_
        refine AllReadyH.cons (o := _) rfl (fun K' hK => ?_) AllReadyH.nil
        go_simp
        clear i0 i1 i2 i3 i4 i5
        obtain ⟨Y1, hY1⟩ : ∃ Y, ((X3.setCell ⟨B7, 0, none⟩ (.string ⟨x.t.name.toArray⟩)).setCell ⟨B7, 1, none⟩ (.int .i64 x.t.keys)).setCell ⟨B7, 2, none⟩ (.slice vo x.t.cs.length vc) = Y := ⟨_, rfl⟩
        rw [hY1]
        have F1 := Lib.hid (mg_one F.out hY1)
        clear hY1
        refine hK.out _ _ F1.out.2.2.2 (fun _ => ?_)
        clear hK K'
        try simp only [Act.put, List.getElem_toArray, List.getElem_cons_succ, List.getElem_cons_zero, List.setIfInBounds_toArray, List.set_cons_zero, List.set_cons_succ]
        obtain ⟨i0, i1, i2, i3, i4, i5⟩ := F1.out.2.1.six
        refine wpAnyH_ready (rs := [10]) (by kernel_rfl) (by simp) ?_
        refine AllReadyH.cons (o := _) rfl (fun K' hK => ?_) AllReadyH.nil
        go_simp
        clear i0 i1 i2 i3 i4 i5
        obtain ⟨Y2, hY2⟩ : ∃ Y, ((Y1.setCell ⟨B8, 0, none⟩ (.string ⟨y.t.name.toArray⟩)).setCell ⟨B8, 1, none⟩ (.int .i64 y.t.keys)).setCell ⟨B8, 2, none⟩ (.slice y.ao y.t.cs.length y.cap) = Y := ⟨_, rfl⟩
        rw [hY2]
        have F2 := Lib.hid (mg_two (fo' := y.ao) F.out F1.out hY2)
        clear hY2
        refine hK.out _ _ F2.out.2.2.2 (fun _ => ?_)
        clear hK K'
        try simp only [Act.put, List.getElem_toArray, List.getElem_cons_succ, List.getElem_cons_zero, List.setIfInBounds_toArray, List.set_cons_zero, List.set_cons_succ]
        refine wpAnyH_done (by kernel_rfl) ?_ _
        go_wp2_with fail
        go_meet
        exact ⟨B7, B8, vo, vc, rfl, rfl, F2.out.1, F2.out.2.1, F.out.2.2.1, F.out.2.2.2.1, F.out.2.2.2.2.1, F2.out.2.2.1, F2.out.2.2.2⟩
      · go_simp
        obtain ⟨X2, hX2⟩ : ∃ X, X1.alloc (.cells #[.string ⟨#[]⟩, .int .i64 0, .slice none 0 0] 24) = X := ⟨_, rfl⟩
        obtain ⟨B8, hB8⟩ : ∃ B, X1.heap.size = B := ⟨_, rfl⟩
        rw [hX2, hB8]
        have k8 := Lib.hid (show Blk X2 B8 #[.string ⟨#[]⟩, .int .i64 0, .slice none 0 0] 24 by rw [← hX2, ← hB8]; exact Blk.new _ _ _)
        have b2 := Lib.hid (show Below W0.heap.size W0 X2 by rw [← hX2]; exact b1.out.alloc b1.out.size _)
        have s2 : Below X1.heap.size X1 X2 := by rw [← hX2]; exact below1 _ _
        have n8 := Lib.hid (show W0.heap.size ≤ B8 by rw [← hB8]; exact b1.out.size)
        have kO := Lib.hid (kO.out.keep s2)
        clear s2 hX2 hB8
        refine hK.out _ _ b2.out (fun _ => ?_)
        clear hK K'
        try simp only [Act.put, List.getElem_toArray, List.getElem_cons_succ, List.getElem_cons_zero, List.setIfInBounds_toArray, List.set_cons_zero, List.set_cons_succ]
        refine wpAnyH_ready (rs := [7]) (by kernel_rfl) (by simp) ?_
        refine AllReadyH.cons (o := _) rfl (fun K' hK => ?_) AllReadyH.nil
        go_simp
        obtain ⟨X3, hX3⟩ : ∃ X, X2.alloc (.cells #[.string ⟨#[]⟩, .int .i64 0, .slice none 0 0] 24) = X := ⟨_, rfl⟩
        obtain ⟨B7, hB7⟩ : ∃ B, X2.heap.size = B := ⟨_, rfl⟩
        rw [hX3, hB7]
        have k7 := Lib.hid (show Blk X3 B7 #[.string ⟨#[]⟩, .int .i64 0, .slice none 0 0] 24 by rw [← hX3, ← hB7]; exact Blk.new _ _ _)
        have b3 := Lib.hid (show Below W0.heap.size W0 X3 by rw [← hX3]; exact b2.out.alloc b2.out.size _)
        have s3 : Below X2.heap.size X2 X3 := by rw [← hX3]; exact below1 _ _
        have n7 := Lib.hid (show W0.heap.size ≤ B7 by rw [← hB7]; exact b2.out.size)
        have kO := Lib.hid (kO.out.keep s3)
        have ne := Lib.hid (show B7 ≠ B8 by have := k8.out.lt; omega)
        have k8 := Lib.hid (k8.out.below s3)
        clear s3 hX3 hB7
        refine hK.out _ _ b3.out (fun _ => ?_)
        clear hK K'
        try simp only [Act.put, List.getElem_toArray, List.getElem_cons_succ, List.getElem_cons_zero, List.setIfInBounds_toArray, List.set_cons_zero, List.set_cons_succ]
        have F := Lib.hid (And.intro k7.out (And.intro k8.out (And.intro ne.out (And.intro n7.out (And.intro n8.out (And.intro kO.out b3.out))))))
        clear k7 k8 ne n7 n8 kO b0 b1 b2 b3
        obtain ⟨i0, i1, i2, i3, i4, i5⟩ := F.out.1.six
        refine wpAnyH_ready (rs := [9]) (by kernel_rfl) (by simp) ?_
        refine AllReadyH.cons (o := _) rfl (fun K' hK => ?_) AllReadyH.nil
        go_simp
        clear i0 i1 i2 i3 i4 i5
        obtain ⟨Y1, hY1⟩ : ∃ Y, ((X3.setCell ⟨B7, 0, none⟩ (.string ⟨x.t.name.toArray⟩)).setCell ⟨B7, 1, none⟩ (.int .i64 x.t.keys)).setCell ⟨B7, 2, none⟩ (.slice vo x.t.cs.length vc) = Y := ⟨_, rfl⟩
        rw [hY1]
        have F1 := Lib.hid (mg_one F.out hY1)
        clear hY1
        refine hK.out _ _ F1.out.2.2.2 (fun _ => ?_)
        clear hK K'
        try simp only [Act.put, List.getElem_toArray, List.getElem_cons_succ, List.getElem_cons_zero, List.setIfInBounds_toArray, List.set_cons_zero, List.set_cons_succ]
        obtain ⟨i0, i1, i2, i3, i4, i5⟩ := F1.out.2.1.six
        refine wpAnyH_ready (rs := [10]) (by kernel_rfl) (by simp) ?_
        refine AllReadyH.cons (o := _) rfl (fun K' hK => ?_) AllReadyH.nil
        go_simp
        clear i0 i1 i2 i3 i4 i5
        obtain ⟨Y2, hY2⟩ : ∃ Y, ((Y1.setCell ⟨B8, 0, none⟩ (.string ⟨y.t.name.toArray⟩)).setCell ⟨B8, 1, none⟩ (.int .i64 y.t.keys)).setCell ⟨B8, 2, none⟩ (.slice y.ao y.t.cs.length y.cap) = Y := ⟨_, rfl⟩
        rw [hY2]
        have F2 := Lib.hid (mg_two (fo' := y.ao) F.out F1.out hY2)
        clear hY2
        refine hK.out _ _ F2.out.2.2.2 (fun _ => ?_)
        clear hK K'
        try simp only [Act.put, List.getElem_toArray, List.getElem_cons_succ, List.getElem_cons_zero, List.setIfInBounds_toArray, List.set_cons_zero, List.set_cons_succ]
        refine wpAnyH_done (by kernel_rfl) ?_ _
        go_wp2_with fail
        go_meet
        exact ⟨B7, B8, vo, vc, rfl, rfl, F2.out.1, F2.out.2.1, F.out.2.2.1, F.out.2.2.2.1, F.out.2.2.2.2.1, F2.out.2.2.1, F2.out.2.2.2⟩
    · go_simp
      obtain ⟨X1, hX1⟩ : ∃ X, X0.alloc (.cells #[.string ⟨#[]⟩, .int .i64 0, .slice none 0 0] 24) = X := ⟨_, rfl⟩
      obtain ⟨B7, hB7⟩ : ∃ B, X0.heap.size = B := ⟨_, rfl⟩
      rw [hX1, hB7]
      have k7 := Lib.hid (show Blk X1 B7 #[.string ⟨#[]⟩, .int .i64 0, .slice none 0 0] 24 by rw [← hX1, ← hB7]; exact Blk.new _ _ _)
      have b1 := Lib.hid (show Below W0.heap.size W0 X1 by rw [← hX1]; exact b0.out.alloc b0.out.size _)
      have s1 : Below X0.heap.size X0 X1 := by rw [← hX1]; exact below1 _ _
      have n7 := Lib.hid (show W0.heap.size ≤ B7 by rw [← hB7]; exact b0.out.size)
      clear s1 hX1 hB7
      refine hK.out _ _ b1.out (fun _ => ?_)
      clear hK K'
      try simp only [Act.put, List.getElem_toArray, List.getElem_cons_succ, List.getElem_cons_zero, List.setIfInBounds_toArray, List.set_cons_zero, List.set_cons_succ]
      refine wpAnyH_ready (rs := [3, 8]) (by kernel_rfl) (by simp) ?_
      refine AllReadyH.cons (o := _) rfl (fun K' hK => ?_) (AllReadyH.cons (o := _) rfl (fun K' hK => ?_) AllReadyH.nil)
      · go_simp
        refine (copied_is x.t.name x.t.keys x.t.cs x.ao x.cap _ ((H.out.2.1.1.below K0.out.1).below b1.out) (by have := H.out.2.2.2.1; omega)).mono ?_
        rintro e X2 ⟨vo, vc, rfl, hO, hb⟩
        have b2 := Lib.hid (step0 b1.out hb)
        have kO := Lib.hid (hO.base (show W0.heap.size ≤ X1.heap.size + 2 by have := b1.out.size; omega))
        have k7 := Lib.hid (k7.out.below hb)
        clear hO hb
        go_wp2_with fail
        refine hK.out _ _ b2.out (fun _ => ?_)
        clear hK K'
        try simp only [Act.put, List.getElem_toArray, List.getElem_cons_succ, List.getElem_cons_zero, List.setIfInBounds_toArray, List.set_cons_zero, List.set_cons_succ]
        refine wpAnyH_ready (rs := [8]) (by kernel_rfl) (by simp) ?_
        refine AllReadyH.cons (o := _) rfl (fun K' hK => ?_) AllReadyH.nil
        go_simp
        obtain ⟨X3, hX3⟩ : ∃ X, X2.alloc (.cells #[.string ⟨#[]⟩, .int .i64 0, .slice none 0 0] 24) = X := ⟨_, rfl⟩
        obtain ⟨B8, hB8⟩ : ∃ B, X2.heap.size = B := ⟨_, rfl⟩
        rw [hX3, hB8]
        have k8 := Lib.hid (show Blk X3 B8 #[.string ⟨#[]⟩, .int .i64 0, .slice none 0 0] 24 by rw [← hX3, ← hB8]; exact Blk.new _ _ _)
        have b3 := Lib.hid (show Below W0.heap.size W0 X3 by rw [← hX3]; exact b2.out.alloc b2.out.size _)
        have s3 : Below X2.heap.size X2 X3 := by rw [← hX3]; exact below1 _ _
        have n8 := Lib.hid (show W0.heap.size ≤ B8 by rw [← hB8]; exact b2.out.size)
        have kO := Lib.hid (kO.out.keep s3)
        have ne := Lib.hid (show B7 ≠ B8 by have := k7.out.lt; omega)
        have k7 := Lib.hid (k7.out.below s3)
        clear s3 hX3 hB8
        refine hK.out _ _ b3.out (fun _ => ?_)
        clear hK K'
        try simp only [Act.put, List.getElem_toArray, List.getElem_cons_succ, List.getElem_cons_zero, List.setIfInBounds_toArray, List.set_cons_zero, List.set_cons_succ]
        have F := Lib.hid (And.intro k7.out (And.intro k8.out (And.intro ne.out (And.intro n7.out (And.intro n8.out (And.intro kO.out b3.out))))))
        clear k7 k8 ne n7 n8 kO b0 b1 b2 b3
        obtain ⟨i0, i1, i2, i3, i4, i5⟩ := F.out.1.six
        refine wpAnyH_ready (rs := [9]) (by kernel_rfl) (by simp) ?_
        refine AllReadyH.cons (o := _) rfl (fun K' hK => ?_) AllReadyH.nil
        go_simp
        clear i0 i1 i2 i3 i4 i5
        obtain ⟨Y1, hY1⟩ : ∃ Y, ((X3.setCell ⟨B7, 0, none⟩ (.string ⟨x.t.name.toArray⟩)).setCell ⟨B7, 1, none⟩ (.int .i64 x.t.keys)).setCell ⟨B7, 2, none⟩ (.slice vo x.t.cs.length vc) = Y := ⟨_, rfl⟩
        rw [hY1]
        have F1 := Lib.hid (mg_one F.out hY1)
        clear hY1
        refine hK.out _ _ F1.out.2.2.2 (fun _ => ?_)
        clear hK K'
        try simp only [Act.put, List.getElem_toArray, List.getElem_cons_succ, List.getElem_cons_zero, List.setIfInBounds_toArray, List.set_cons_zero, List.set_cons_succ]
        obtain ⟨i0, i1, i2, i3, i4, i5⟩ := F1.out.2.1.six
        refine wpAnyH_ready (rs := [10]) (by kernel_rfl) (by simp) ?_
        refine AllReadyH.cons (o := _) rfl (fun K' hK => ?_) AllReadyH.nil
        go_simp
        clear i0 i1 i2 i3 i4 i5
        obtain ⟨Y2, hY2⟩ : ∃ Y, ((Y1.setCell ⟨B8, 0, none⟩ (.string ⟨y.t.name.toArray⟩)).setCell ⟨B8, 1, none⟩ (.int .i64 y.t.keys)).setCell ⟨B8, 2, none⟩ (.slice y.ao y.t.cs.length y.cap) = Y := ⟨_, rfl⟩
        rw [hY2]
        have F2 := Lib.hid (mg_two (fo' := y.ao) F.out F1.out hY2)
        clear hY2
        refine hK.out _ _ F2.out.2.2.2 (fun _ => ?_)
        clear hK K'
        try simp only [Act.put, List.getElem_toArray, List.getElem_cons_succ, List.getElem_cons_zero, List.setIfInBounds_toArray, List.set_cons_zero, List.set_cons_succ]
        refine wpAnyH_done (by kernel_rfl) ?_ _
        go_wp2_with fail
        go_meet
        exact ⟨B7, B8, vo, vc, rfl, rfl, F2.out.1, F2.out.2.1, F.out.2.2.1, F.out.2.2.2.1, F.out.2.2.2.2.1, F2.out.2.2.1, F2.out.2.2.2⟩
      · go_simp
        obtain ⟨X2, hX2⟩ : ∃ X, X1.alloc (.cells #[.string ⟨#[]⟩, .int .i64 0, .slice none 0 0] 24) = X := ⟨_, rfl⟩
        obtain ⟨B8, hB8⟩ : ∃ B, X1.heap.size = B := ⟨_, rfl⟩
        rw [hX2, hB8]
        have k8 := Lib.hid (show Blk X2 B8 #[.string ⟨#[]⟩, .int .i64 0, .slice none 0 0] 24 by rw [← hX2, ← hB8]; exact Blk.new _ _ _)
        have b2 := Lib.hid (show Below W0.heap.size W0 X2 by rw [← hX2]; exact b1.out.alloc b1.out.size _)
        have s2 : Below X1.heap.size X1 X2 := by rw [← hX2]; exact below1 _ _
        have n8 := Lib.hid (show W0.heap.size ≤ B8 by rw [← hB8]; exact b1.out.size)
        have ne := Lib.hid (show B7 ≠ B8 by have := k7.out.lt; omega)
        have k7 := Lib.hid (k7.out.below s2)
        clear s2 hX2 hB8
        refine hK.out _ _ b2.out (fun _ => ?_)
        clear hK K'
        try simp only [Act.put, List.getElem_toArray, List.getElem_cons_succ, List.getElem_cons_zero, List.setIfInBounds_toArray, List.set_cons_zero, List.set_cons_succ]
        refine wpAnyH_ready (rs := [3]) (by kernel_rfl) (by simp) ?_
        refine AllReadyH.cons (o := _) rfl (fun K' hK => ?_) AllReadyH.nil
        go_simp
        refine (copied_is x.t.name x.t.keys x.t.cs x.ao x.cap _ ((H.out.2.1.1.below K0.out.1).below b2.out) (by have := H.out.2.2.2.1; omega)).mono ?_
        rintro e X3 ⟨vo, vc, rfl, hO, hb⟩
        have b3 := Lib.hid (step0 b2.out hb)
        have kO := Lib.hid (hO.base (show W0.heap.size ≤ X2.heap.size + 2 by have := b2.out.size; omega))
        have k7 := Lib.hid (k7.out.below hb)
        have k8 := Lib.hid (k8.out.below hb)
        clear hO hb
        go_wp2_with fail
        refine hK.out _ _ b3.out (fun _ => ?_)
        clear hK K'
        try simp only [Act.put, List.getElem_toArray, List.getElem_cons_succ, List.getElem_cons_zero, List.setIfInBounds_toArray, List.set_cons_zero, List.set_cons_succ]
        have F := Lib.hid (And.intro k7.out (And.intro k8.out (And.intro ne.out (And.intro n7.out (And.intro n8.out (And.intro kO.out b3.out))))))
        clear k7 k8 ne n7 n8 kO b0 b1 b2 b3
        obtain ⟨i0, i1, i2, i3, i4, i5⟩ := F.out.1.six
        refine wpAnyH_ready (rs := [9]) (by kernel_rfl) (by simp) ?_
        refine AllReadyH.cons (o := _) rfl (fun K' hK => ?_) AllReadyH.nil
        go_simp
        clear i0 i1 i2 i3 i4 i5
        obtain ⟨Y1, hY1⟩ : ∃ Y, ((X3.setCell ⟨B7, 0, none⟩ (.string ⟨x.t.name.toArray⟩)).setCell ⟨B7, 1, none⟩ (.int .i64 x.t.keys)).setCell ⟨B7, 2, none⟩ (.slice vo x.t.cs.length vc) = Y := ⟨_, rfl⟩
        rw [hY1]
        have F1 := Lib.hid (mg_one F.out hY1)
        clear hY1
        refine hK.out _ _ F1.out.2.2.2 (fun _ => ?_)
        clear hK K'
        try simp only [Act.put, List.getElem_toArray, List.getElem_cons_succ, List.getElem_cons_zero, List.setIfInBounds_toArray, List.set_cons_zero, List.set_cons_succ]
        obtain ⟨i0, i1, i2, i3, i4, i5⟩ := F1.out.2.1.six
        refine wpAnyH_ready (rs := [10]) (by kernel_rfl) (by simp) ?_
        refine AllReadyH.cons (o := _) rfl (fun K' hK => ?_) AllReadyH.nil
        go_simp
        clear i0 i1 i2 i3 i4 i5
        obtain ⟨Y2, hY2⟩ : ∃ Y, ((Y1.setCell ⟨B8, 0, none⟩ (.string ⟨y.t.name.toArray⟩)).setCell ⟨B8, 1, none⟩ (.int .i64 y.t.keys)).setCell ⟨B8, 2, none⟩ (.slice y.ao y.t.cs.length y.cap) = Y := ⟨_, rfl⟩
        rw [hY2]
        have F2 := Lib.hid (mg_two (fo' := y.ao) F.out F1.out hY2)
        clear hY2
        refine hK.out _ _ F2.out.2.2.2 (fun _ => ?_)
        clear hK K'
        try simp only [Act.put, List.getElem_toArray, List.getElem_cons_succ, List.getElem_cons_zero, List.setIfInBounds_toArray, List.set_cons_zero, List.set_cons_succ]
        refine wpAnyH_done (by kernel_rfl) ?_ _
        go_wp2_with fail
        go_meet
        exact ⟨B7, B8, vo, vc, rfl, rfl, F2.out.1, F2.out.2.1, F.out.2.2.1, F.out.2.2.2.1, F.out.2.2.2.2.1, F2.out.2.2.1, F2.out.2.2.2⟩
    · go_simp
      obtain ⟨X1, hX1⟩ : ∃ X, X0.alloc (.cells #[.string ⟨#[]⟩, .int .i64 0, .slice none 0 0] 24) = X := ⟨_, rfl⟩
      obtain ⟨B8, hB8⟩ : ∃ B, X0.heap.size = B := ⟨_, rfl⟩
      rw [hX1, hB8]
      have k8 := Lib.hid (show Blk X1 B8 #[.string ⟨#[]⟩, .int .i64 0, .slice none 0 0] 24 by rw [← hX1, ← hB8]; exact Blk.new _ _ _)
      have b1 := Lib.hid (show Below W0.heap.size W0 X1 by rw [← hX1]; exact b0.out.alloc b0.out.size _)
      have s1 : Below X0.heap.size X0 X1 := by rw [← hX1]; exact below1 _ _
      have n8 := Lib.hid (show W0.heap.size ≤ B8 by rw [← hB8]; exact b0.out.size)
      clear s1 hX1 hB8
      refine hK.out _ _ b1.out (fun _ => ?_)
      clear hK K'
      try simp only [Act.put, List.getElem_toArray, List.getElem_cons_succ, List.getElem_cons_zero, List.setIfInBounds_toArray, List.set_cons_zero, List.set_cons_succ]
      refine wpAnyH_ready (rs := [3, 7]) (by kernel_rfl) (by simp) ?_
      refine AllReadyH.cons (o := _) rfl (fun K' hK => ?_) (AllReadyH.cons (o := _) rfl (fun K' hK => ?_) AllReadyH.nil)
      · go_simp
        refine (copied_is x.t.name x.t.keys x.t.cs x.ao x.cap _ ((H.out.2.1.1.below K0.out.1).below b1.out) (by have := H.out.2.2.2.1; omega)).mono ?_
        rintro e X2 ⟨vo, vc, rfl, hO, hb⟩
        have b2 := Lib.hid (step0 b1.out hb)
        have kO := Lib.hid (hO.base (show W0.heap.size ≤ X1.heap.size + 2 by have := b1.out.size; omega))
        have k8 := Lib.hid (k8.out.below hb)
        clear hO hb
        go_wp2_with fail
        refine hK.out _ _ b2.out (fun _ => ?_)
        clear hK K'
        try simp only [Act.put, List.getElem_toArray, List.getElem_cons_succ, List.getElem_cons_zero, List.setIfInBounds_toArray, List.set_cons_zero, List.set_cons_succ]
        refine wpAnyH_ready (rs := [7]) (by kernel_rfl) (by simp) ?_
        refine AllReadyH.cons (o := _) rfl (fun K' hK => ?_) AllReadyH.nil
        go_simp
        obtain ⟨X3, hX3⟩ : ∃ X, X2.alloc (.cells #[.string ⟨#[]⟩, .int .i64 0, .slice none 0 0] 24) = X := ⟨_, rfl⟩
        obtain ⟨B7, hB7⟩ : ∃ B, X2.heap.size = B := ⟨_, rfl⟩
        rw [hX3, hB7]
        have k7 := Lib.hid (show Blk X3 B7 #[.string ⟨#[]⟩, .int .i64 0, .slice none 0 0] 24 by rw [← hX3, ← hB7]; exact Blk.new _ _ _)
        have b3 := Lib.hid (show Below W0.heap.size W0 X3 by rw [← hX3]; exact b2.out.alloc b2.out.size _)
        have s3 : Below X2.heap.size X2 X3 := by rw [← hX3]; exact below1 _ _
        have n7 := Lib.hid (show W0.heap.size ≤ B7 by rw [← hB7]; exact b2.out.size)
        have kO := Lib.hid (kO.out.keep s3)
        have ne := Lib.hid (show B7 ≠ B8 by have := k8.out.lt; omega)
        have k8 := Lib.hid (k8.out.below s3)
        clear s3 hX3 hB7
        refine hK.out _ _ b3.out (fun _ => ?_)
        clear hK K'
        try simp only [Act.put, List.getElem_toArray, List.getElem_cons_succ, List.getElem_cons_zero, List.setIfInBounds_toArray, List.set_cons_zero, List.set_cons_succ]
        have F := Lib.hid (And.intro k7.out (And.intro k8.out (And.intro ne.out (And.intro n7.out (And.intro n8.out (And.intro kO.out b3.out))))))
        clear k7 k8 ne n7 n8 kO b0 b1 b2 b3
        obtain ⟨i0, i1, i2, i3, i4, i5⟩ := F.out.1.six
        refine wpAnyH_ready (rs := [9]) (by kernel_rfl) (by simp) ?_
        refine AllReadyH.cons (o := _) rfl (fun K' hK => ?_) AllReadyH.nil
        go_simp
        clear i0 i1 i2 i3 i4 i5
        obtain ⟨Y1, hY1⟩ : ∃ Y, ((X3.setCell ⟨B7, 0, none⟩ (.string ⟨x.t.name.toArray⟩)).setCell ⟨B7, 1, none⟩ (.int .i64 x.t.keys)).setCell ⟨B7, 2, none⟩ (.slice vo x.t.cs.length vc) = Y := ⟨_, rfl⟩
        rw [hY1]
        have F1 := Lib.hid (mg_one F.out hY1)
        clear hY1
        refine hK.out _ _ F1.out.2.2.2 (fun _ => ?_)
        clear hK K'
        try simp only [Act.put, List.getElem_toArray, List.getElem_cons_succ, List.getElem_cons_zero, List.setIfInBounds_toArray, List.set_cons_zero, List.set_cons_succ]
        obtain ⟨i0, i1, i2, i3, i4, i5⟩ := F1.out.2.1.six
        refine wpAnyH_ready (rs := [10]) (by kernel_rfl) (by simp) ?_
        refine AllReadyH.cons (o := _) rfl (fun K' hK => ?_) AllReadyH.nil
        go_simp
        clear i0 i1 i2 i3 i4 i5
        obtain ⟨Y2, hY2⟩ : ∃ Y, ((Y1.setCell ⟨B8, 0, none⟩ (.string ⟨y.t.name.toArray⟩)).setCell ⟨B8, 1, none⟩ (.int .i64 y.t.keys)).setCell ⟨B8, 2, none⟩ (.slice y.ao y.t.cs.length y.cap) = Y := ⟨_, rfl⟩
        rw [hY2]
        have F2 := Lib.hid (mg_two (fo' := y.ao) F.out F1.out hY2)
        clear hY2
        refine hK.out _ _ F2.out.2.2.2 (fun _ => ?_)
        clear hK K'
        try simp only [Act.put, List.getElem_toArray, List.getElem_cons_succ, List.getElem_cons_zero, List.setIfInBounds_toArray, List.set_cons_zero, List.set_cons_succ]
        refine wpAnyH_done (by kernel_rfl) ?_ _
        go_wp2_with fail
        go_meet
        exact ⟨B7, B8, vo, vc, rfl, rfl, F2.out.1, F2.out.2.1, F.out.2.2.1, F.out.2.2.2.1, F.out.2.2.2.2.1, F2.out.2.2.1, F2.out.2.2.2⟩
      · go_simp
        obtain ⟨X2, hX2⟩ : ∃ X, X1.alloc (.cells #[.string ⟨#[]⟩, .int .i64 0, .slice none 0 0] 24) = X := ⟨_, rfl⟩
        obtain ⟨B7, hB7⟩ : ∃ B, X1.heap.size = B := ⟨_, rfl⟩
        rw [hX2, hB7]
        have k7 := Lib.hid (show Blk X2 B7 #[.string ⟨#[]⟩, .int .i64 0, .slice none 0 0] 24 by rw [← hX2, ← hB7]; exact Blk.new _ _ _)
        have b2 := Lib.hid (show Below W0.heap.size W0 X2 by rw [← hX2]; exact b1.out.alloc b1.out.size _)
        have s2 : Below X1.heap.size X1 X2 := by rw [← hX2]; exact below1 _ _
        have n7 := Lib.hid (show W0.heap.size ≤ B7 by rw [← hB7]; exact b1.out.size)
        have ne := Lib.hid (show B7 ≠ B8 by have := k8.out.lt; omega)
        have k8 := Lib.hid (k8.out.below s2)
        clear s2 hX2 hB7
        refine hK.out _ _ b2.out (fun _ => ?_)
        clear hK K'
        try simp only [Act.put, List.getElem_toArray, List.getElem_cons_succ, List.getElem_cons_zero, List.setIfInBounds_toArray, List.set_cons_zero, List.set_cons_succ]
        refine wpAnyH_ready (rs := [3]) (by kernel_rfl) (by simp) ?_
        refine AllReadyH.cons (o := _) rfl (fun K' hK => ?_) AllReadyH.nil
        go_simp
        refine (copied_is x.t.name x.t.keys x.t.cs x.ao x.cap _ ((H.out.2.1.1.below K0.out.1).below b2.out) (by have := H.out.2.2.2.1; omega)).mono ?_
        rintro e X3 ⟨vo, vc, rfl, hO, hb⟩
        have b3 := Lib.hid (step0 b2.out hb)
        have kO := Lib.hid (hO.base (show W0.heap.size ≤ X2.heap.size + 2 by have := b2.out.size; omega))
        have k7 := Lib.hid (k7.out.below hb)
        have k8 := Lib.hid (k8.out.below hb)
        clear hO hb
        go_wp2_with fail
        refine hK.out _ _ b3.out (fun _ => ?_)
        clear hK K'
        try simp only [Act.put, List.getElem_toArray, List.getElem_cons_succ, List.getElem_cons_zero, List.setIfInBounds_toArray, List.set_cons_zero, List.set_cons_succ]
        have F := Lib.hid (And.intro k7.out (And.intro k8.out (And.intro ne.out (And.intro n7.out (And.intro n8.out (And.intro kO.out b3.out))))))
        clear k7 k8 ne n7 n8 kO b0 b1 b2 b3
        obtain ⟨i0, i1, i2, i3, i4, i5⟩ := F.out.1.six
        refine wpAnyH_ready (rs := [9]) (by kernel_rfl) (by simp) ?_
        refine AllReadyH.cons (o := _) rfl (fun K' hK => ?_) AllReadyH.nil
        go_simp
        clear i0 i1 i2 i3 i4 i5
        obtain ⟨Y1, hY1⟩ : ∃ Y, ((X3.setCell ⟨B7, 0, none⟩ (.string ⟨x.t.name.toArray⟩)).setCell ⟨B7, 1, none⟩ (.int .i64 x.t.keys)).setCell ⟨B7, 2, none⟩ (.slice vo x.t.cs.length vc) = Y := ⟨_, rfl⟩
        rw [hY1]
        have F1 := Lib.hid (mg_one F.out hY1)
        clear hY1
        refine hK.out _ _ F1.out.2.2.2 (fun _ => ?_)
        clear hK K'
        try simp only [Act.put, List.getElem_toArray, List.getElem_cons_succ, List.getElem_cons_zero, List.setIfInBounds_toArray, List.set_cons_zero, List.set_cons_succ]
        obtain ⟨i0, i1, i2, i3, i4, i5⟩ := F1.out.2.1.six
        refine wpAnyH_ready (rs := [10]) (by kernel_rfl) (by simp) ?_
        refine AllReadyH.cons (o := _) rfl (fun K' hK => ?_) AllReadyH.nil
        go_simp
        clear i0 i1 i2 i3 i4 i5
        obtain ⟨Y2, hY2⟩ : ∃ Y, ((Y1.setCell ⟨B8, 0, none⟩ (.string ⟨y.t.name.toArray⟩)).setCell ⟨B8, 1, none⟩ (.int .i64 y.t.keys)).setCell ⟨B8, 2, none⟩ (.slice y.ao y.t.cs.length y.cap) = Y := ⟨_, rfl⟩
        rw [hY2]
        have F2 := Lib.hid (mg_two (fo' := y.ao) F.out F1.out hY2)
        clear hY2
        refine hK.out _ _ F2.out.2.2.2 (fun _ => ?_)
        clear hK K'
        try simp only [Act.put, List.getElem_toArray, List.getElem_cons_succ, List.getElem_cons_zero, List.setIfInBounds_toArray, List.set_cons_zero, List.set_cons_succ]
        refine wpAnyH_done (by kernel_rfl) ?_ _
        go_wp2_with fail
        go_meet
        exact ⟨B7, B8, vo, vc, rfl, rfl, F2.out.1, F2.out.2.1, F.out.2.2.1, F.out.2.2.2.1, F.out.2.2.2.2.1, F2.out.2.2.1, F2.out.2.2.2⟩
  case rest =>
    obtain ⟨B7, B8, vo, vc, rfl, rfl, hM⟩ := hcut
    have M := Lib.hid hM
    clear hM
    rename World => X
    obtain ⟨Xd, hXd⟩ : ∃ Y, X.drew = Y := ⟨_, rfl⟩
    have bd : Below X.heap.size X Xd := hXd ▸ below_drew1 (Below.refl _ X)
    have Md := Lib.hid (show _ ∧ _ ∧ _ ∧ _ ∧ _ ∧ _ ∧ _ from ⟨M.out.1.below bd, M.out.2.1.below bd, M.out.2.2.1, M.out.2.2.2.1, M.out.2.2.2.2.1, M.out.2.2.2.2.2.1.keep bd, M.out.2.2.2.2.2.2.trans (bd.mono M.out.2.2.2.2.2.2.size)⟩)
    have box := (K0.out.2.1.below Md.out.2.2.2.2.2.2).cell 2
    simp at box
    have nb7 : B7 ≠ w.heap.size := by have := Md.out.2.2.2.1; have := K0.out.2.2.1; omega
    have nb8 : B8 ≠ w.heap.size := by have := Md.out.2.2.2.2.1; have := K0.out.2.2.1; omega
    clear bd M
    go_wp2_with fail
    refine wp_region_held_drew (S := fun v => v.cell? ⟨w.heap.size, 2, none⟩ = some (.string ⟨tn.toArray⟩)) (by kernel_rfl) (by rw [hXd]; exact box) (fun _ => ?_)
    rw [hXd]
    clear hXd
    refine wpAnyH_take (i := 0) (oi := _) (v := .pointer (some ⟨w.heap.size, 2, none⟩)) rfl (by kernel_rfl) (by kernel_rfl) (by kernel_rfl) (fun _ _ _ h => h) (Or.inl ⟨by rfl, by intro v hv; go_simp⟩) box ?_
    try simp only [Act.put, List.getElem_toArray, List.getElem_cons_succ, List.getElem_cons_zero, List.setIfInBounds_toArray, List.set_cons_zero, List.set_cons_succ]
    refine wpAnyH_take (i := 1) (oi := _) (v := .string ⟨tn.toArray⟩) rfl (by kernel_rfl) (by kernel_rfl) (by kernel_rfl) (fun _ _ _ h => h) (Or.inl ⟨by rfl, by intro v hv; clear box; go_simp⟩) box ?_
    try simp only [Act.put, List.getElem_toArray, List.getElem_cons_succ, List.getElem_cons_zero, List.setIfInBounds_toArray, List.set_cons_zero, List.set_cons_succ]
    refine wpAnyH_take (i := 2) (oi := _) (v := .pointer (some ⟨w.heap.size, 2, none⟩)) rfl (by kernel_rfl) (by kernel_rfl) (by kernel_rfl) (fun _ _ _ h => h) (Or.inl ⟨by rfl, by intro v hv; go_simp⟩) box ?_
    try simp only [Act.put, List.getElem_toArray, List.getElem_cons_succ, List.getElem_cons_zero, List.setIfInBounds_toArray, List.set_cons_zero, List.set_cons_succ]
    refine wpAnyH_take (i := 3) (oi := _) (v := .string ⟨tn.toArray⟩) rfl (by kernel_rfl) (by kernel_rfl) (by kernel_rfl) (fun _ _ _ h => h) (Or.inl ⟨by rfl, by intro v hv; clear box; go_simp⟩) box ?_
    try simp only [Act.put, List.getElem_toArray, List.getElem_cons_succ, List.getElem_cons_zero, List.setIfInBounds_toArray, List.set_cons_zero, List.set_cons_succ]
    refine wpAnyH_take (i := 4) (oi := _) (v := .pointer (some ⟨B7, 0, none⟩)) rfl (by kernel_rfl) (by kernel_rfl) (by kernel_rfl) (fun _ _ _ h => h) (Or.inl ⟨by rfl, by intro v hv; go_simp⟩) box ?_
    try simp only [Act.put, List.getElem_toArray, List.getElem_cons_succ, List.getElem_cons_zero, List.setIfInBounds_toArray, List.set_cons_zero, List.set_cons_succ]
    have i0 := Md.out.1.cell 0
    have i1 := Md.out.1.frozen 0
    simp at i0
    refine wpAnyH_ready (rs := [5]) (by kernel_rfl) (by simp) ?_
    refine AllReadyH.cons (o := _) rfl (fun K' hK => ?_) AllReadyH.nil
    go_simp
    clear i0 i1
    have box1 : (Xd.setCell ⟨B7, 0, none⟩ (.string ⟨tn.toArray⟩)).cell? ⟨w.heap.size, 2, none⟩ = some (.string ⟨tn.toArray⟩) := by rw [World.cell?_setCell_far _ _ _ _ nb7]; exact box
    have j0 := (Md.out.2.1.otherAt (fun e => Md.out.2.2.1 e.symm) 0 (.string ⟨tn.toArray⟩)).cell 0
    have j1 := (Md.out.2.1.otherAt (fun e => Md.out.2.2.1 e.symm) 0 (.string ⟨tn.toArray⟩)).frozen 0
    simp at j0
    refine hK.out _ _ box1 (fun _ => ?_)
    clear hK K'
    try simp only [Act.put, List.getElem_toArray, List.getElem_cons_succ, List.getElem_cons_zero, List.setIfInBounds_toArray, List.set_cons_zero, List.set_cons_succ]
    refine wpAnyH_take (i := 6) (oi := _) (v := .pointer (some ⟨B8, 0, none⟩)) rfl (by kernel_rfl) (by kernel_rfl) (by kernel_rfl) (fun _ _ _ h => h) (Or.inl ⟨by rfl, by intro v hv; go_simp⟩) box1 ?_
    try simp only [Act.put, List.getElem_toArray, List.getElem_cons_succ, List.getElem_cons_zero, List.setIfInBounds_toArray, List.set_cons_zero, List.set_cons_succ]
    refine wpAnyH_ready (rs := [7]) (by kernel_rfl) (by simp) ?_
    refine AllReadyH.cons (o := _) rfl (fun K' hK => ?_) AllReadyH.nil
    go_simp
    clear j0 j1
    refine hK.out _ _ (by show World.cell? _ _ = _; rw [World.cell?_setCell_far _ _ _ _ nb8]; exact box1) (fun _ => ?_)
    clear hK K'
    try simp only [Act.put, List.getElem_toArray, List.getElem_cons_succ, List.getElem_cons_zero, List.setIfInBounds_toArray, List.set_cons_zero, List.set_cons_succ]
    refine wpAnyH_done (by kernel_rfl) ?_ _
    obtain ⟨Y, hY⟩ : ∃ Y, (Xd.setCell ⟨B7, 0, none⟩ (.string ⟨tn.toArray⟩)).setCell ⟨B8, 0, none⟩ (.string ⟨tn.toArray⟩) = Y := ⟨_, rfl⟩
    rw [hY]
    have N := Lib.hid (mg_names Md.out hY)
    clear hY box box1 nb7 nb8
    obtain ⟨i0, i1, i2⟩ := N.out.1.t3
    obtain ⟨j0, j1, j2⟩ := N.out.2.1.t3
    have bY := Lib.hid (K0.out.1.trans (N.out.2.2.2.mono K0.out.1.size))
    go_wp2_with fail
    refine (tsame_is ⟨tn, x.t.keys, x.t.cs⟩ ⟨tn, y.t.keys, y.t.cs⟩ vo y.ao vc y.cap _ N.out.2.2.1.slc (H.out.2.2.1.1.below bY.out) (by have := H.out.2.2.2.1; simp only; omega) r H.out.2.2.2.2.1).mono ?_
    rintro e w5 ⟨rfl, hb⟩
    have b5 := Lib.hid (step0 bY.out hb)
    have k7 := N.out.1.below hb
    have kO := N.out.2.2.1.keep hb
    obtain ⟨u0, u1, u2⟩ := k7.t3
    have E5 := Lib.hid (And.intro k7 kO)
    clear hb k7 kO i0 i1 i2 j0 j1 j2
    cases r with
    | false =>
      go_wp2
      go_ret2
      exact ⟨rfl, b5.out⟩
    | true =>
      go_wp2
      go_ret2
      refine ⟨TR.one ⟨⟨tn, x.t.keys, x.t.cs⟩, vo, vc⟩ rfl b5.out.size (E5.out.2.base K0.out.1.size) H.out.2.1.2.2, b5.out.alloc b5.out.size _⟩

  end Go.Proofs.YtdonmbmahcjfbaaGreatDoor
