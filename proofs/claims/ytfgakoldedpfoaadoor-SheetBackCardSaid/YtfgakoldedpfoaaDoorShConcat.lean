/-
  slices.Grow of nothing and slices.Concat, of lines. Conditions: the bounds named in each theorem.
-/
import Derived.Test.YtfgakoldedpfoaaDoorShMem
import Derived.Lib.AppendZeros
namespace Go.Proofs.YtfgakoldedpfoaaDoor
open Go.RowKit
set_option linter.unusedVariables false

set_option maxRecDepth 1000000 in
set_option maxHeartbeats 2000000 in
theorem grow_is (N : Nat) (w : World) (hN : N ≤ 1000000) :
    Calls Tryd.prog 40 #[.slice none 0 0, .int .i64 (N : Int)] w fun e w' => ∃ v, e = .returned v ∧ OwL w' w.heap.size v [] ∧ Below w.heap.size w w' := by
  by_cases h0 : N = 0
  · subst h0
    clear hN
    go_enter Tryd.func40, Tryd.ntmps40
    go_wp2
    go_ret
    exact ⟨_, rfl, owl_nil _ _, Below.refl _ _⟩
  · obtain ⟨i0, hi, hz0, hz1, hz2⟩ := info_parts Tryd.infoL
    have happ := Lib.run_append_nil_zeros (P := Tryd.prog) w 25 3 25 54 i0 (.agg #[.string ⟨#[]⟩, .slice none 0 0]) .i64 .i64 Tryd.underlying25 Tryd.underlying3 hi hz0 N (by omega) (by rw [hz1]; decide) (by omega) (by rw [hz2]; omega)
    generalize hcap : grownCap w N 0 54 = cap at happ
    have hcapge : N ≤ cap := by rw [← hcap]; exact grownCap_ge w _ 0 _
    have hcaple : cap ≤ maxLen := by rw [← hcap]; exact grownCap_le_maxLen w _ 0 _ (by unfold maxLen; omega)
    generalize hZ : (Builtin.zeroCells (Value.agg #[.string ⟨#[]⟩, .slice none 0 0]).cells N ++ Builtin.zeroCells (Value.agg #[.string ⟨#[]⟩, .slice none 0 0]).cells (cap - N)) = Z at happ
    have hZs : Z.size = cap * 2 := by rw [← hZ]; simp [size_zeroCells, Value.cells]; omega
    have hO := World.ownsRow_made (base := w.heap.size) (e := 54) (size := 2) w.drew Z cap (Nat.le_refl _) hcaple hZs
    have K := Lib.hid (show OwL (w.drew.alloc (.cells Z 54)) w.heap.size (.slice (some ⟨w.heap.size, 0, none⟩) 0 cap) [] from hO)
    have c0 : ¬ cap = 0 := by omega
    have p0 : (0 : Int) < (N : Int) := by omega
    have p1 : ¬ (N : Int) < 0 := by omega
    have wN : wrap64 (N : Int) = (N : Int) := wrap_in _ (by omega) (by omega)
    rw [show (Value.int .i64 (N : Int)) = Value.int .i64 (wrap64 (N : Int)) from by rw [wN]] at happ
    have p2 : 0 < wrap64 (N : Int) := by rw [wN]; exact p0
    clear wN
    clear hcap hZ hcapge hcaple hZs hO h0 hN hz0 hz1 hz2 hi
    go_enter Tryd.func40, Tryd.ntmps40
    go_wp2_with (at_builtin; (refine Lib.wpList_append_run _ rfl _ _ _ _ rfl _ _ rfl rfl _ _ happ ?_))
    go_wp2
    go_ret
    exact ⟨_, rfl, K.out, below_drew1 (below1 _ _)⟩

/-! ### Slices of lines, one behind the other -/
structure PV where
  zs : List LV
  ao : Option Addr
  cap : Nat
def SlP (W : World) (ao : Option Addr) (ps : List PV) : Prop := ∀ (i : Nat) (p : PV), ps[i]? = some p → ∃ a, ao = some a ∧ W.cell? (a.add i) = some (.slice p.ao p.zs.length p.cap)
theorem SlP.below {W W' : World} {ao : Option Addr} {ps : List PV} (h : SlP W ao ps) (hb : Below W.heap.size W W') : SlP W' ao ps := by
  intro i x hi
  obtain ⟨a, ha, h0⟩ := h i x hi
  exact ⟨a, ha, keep0 h0 hb⟩
def FitP (W : World) (ps : List PV) : Prop := ∀ p ∈ ps, LS W p.zs p.ao p.cap
theorem FitP.below {W W' : World} {ps : List PV} (h : FitP W ps) (hb : Below W.heap.size W W') : FitP W' ps := fun p hp => (h p hp).below hb
def pcat (ps : List PV) : List LV := (ps.map PV.zs).flatten
theorem pcat_append (a b : List PV) : pcat (a ++ b) = pcat a ++ pcat b := by simp [pcat]
theorem pcat_next {ps : List PV} {j : Nat} (hj : j < ps.length) : pcat (ps.take (j + 1)) = pcat (ps.take j) ++ ps[j].zs := by
  rw [List.take_succ_eq_append_getElem hj, pcat_append]
  simp [pcat]
theorem pcat_room {ps : List PV} {j : Nat} (hj : j < ps.length) : (pcat (ps.take j)).length + ps[j].zs.length ≤ (pcat ps).length := by
  have h : pcat ps = pcat (ps.take (j + 1)) ++ pcat (ps.drop (j + 1)) := by rw [← pcat_append, List.take_append_drop]
  rw [h, pcat_next hj, List.length_append, List.length_append]
  omega

set_option maxRecDepth 1000000 in
set_option maxHeartbeats 4000000 in
theorem concat_is (ps : List PV) (m : Nat) (po : Option Addr) (pc : Nat) (w : World) (hm : ps.length = m) (h : SlP w po ps) (hf : FitP w ps) (hl : ps.length ≤ 1000) (hs : (pcat ps).length ≤ 100000) :
    Calls Tryd.prog 28 #[.slice po m pc] w fun e w' => ∃ v, e = .returned v ∧ OwL w' w.heap.size v (pcat ps) ∧ Below w.heap.size w w' := by
  subst hm
  have H := Lib.hid (And.intro h (And.intro hf (And.intro hl hs)))
  clear h hf hl hs
  go_enter Tryd.func28, Tryd.ntmps28
  go_wp2
  go_loopw [3, 11] (fun c i wr => ∃ j : Nat, c = .int .i64 ((pcat (ps.take j)).length : Int) ∧ i = .int .i64 j ∧ j ≤ ps.length ∧ w = wr) (fun _ i _ => ps.length - (intOf i).toNat)
  case atStart => exact ⟨0, rfl, rfl, Nat.zero_le _, rfl⟩
  case round =>
    obtain ⟨j, rfl, rfl, hj, rfl⟩ := hrel
    by_cases hlt : j < ps.length
    · obtain ⟨a, ha, y0⟩ := H.out.1 j ps[j] (List.getElem?_eq_getElem hlt)
      subst ha
      have hw : wrap64 ((j : Int) + 1) = (j : Int) + 1 := by have := H.out.2.2.1; exact wrap_in _ (by omega) (by omega)
      have hr := pcat_room hlt
      obtain ⟨M, hM⟩ : ∃ M, (pcat (ps.take j)).length = M := ⟨_, rfl⟩
      have hs : wrap64 ((M : Int) + (ps[j].zs.length : Int)) = (M : Int) + (ps[j].zs.length : Int) := by have := H.out.2.2.2; exact wrap_in _ (by omega) (by omega)
      have hneg : decide ((M : Int) + (ps[j].zs.length : Int) < 0) = false := by rw [decide_eq_false_iff_not]; omega
      have E := Lib.hid (show ((pcat (ps.take (j + 1))).length : Int) = (M : Int) + (ps[j].zs.length : Int) by rw [pcat_next hlt, List.length_append, hM]; omega)
      rw [hM]
      clear hr hM
      go_wp2
      go_roundw
      case rel => exact ⟨j + 1, by rw [E.out, hs], by go_num, hlt, trivial⟩
      case measure => rw [hw]; simp [intOf]; omega
    · obtain rfl : j = ps.length := by omega
      rw [List.take_length]
      go_wp2_with fail
      refine (grow_is (pcat ps).length _ (by have := H.out.2.2.2; omega)).mono ?_
      rintro e w2 ⟨v, rfl, hO, hb⟩
      have B := Lib.hid (And.intro hO hb)
      clear hO hb
      go_wp2
      go_loopw [6, 27] (fun v i wr => ∃ j : Nat, i = .int .i64 j ∧ j ≤ ps.length ∧ Below w.heap.size w wr ∧ OwL wr w.heap.size v (pcat (ps.take j))) (fun _ i _ => ps.length - (intOf i).toNat)
      case atStart => exact ⟨0, rfl, Nat.zero_le _, B.out.2, B.out.1⟩
      case round =>
        obtain ⟨j, rfl, hj, hb, hO⟩ := hrel
        have J := Lib.hid (And.intro hb hO)
        clear hb hO
        by_cases hlt : j < ps.length
        · obtain ⟨a, ha, y0⟩ := H.out.1.below J.out.1 j ps[j] (List.getElem?_eq_getElem hlt)
          subst ha
          have hw : wrap64 ((j : Int) + 1) = (j : Int) + 1 := by have := H.out.2.2.1; exact wrap_in _ (by omega) (by omega)
          have F := Lib.hid (And.intro ((H.out.2.1.below J.out.1) _ (List.getElem_mem hlt)) (And.intro (pcat_room hlt) (pcat_next hlt)))
          go_wp2_with (at_builtin; (refine appLs rfl _ _ rfl w.heap.size u6 (pcat (ps.take j)) ps[j].zs _ rfl J.out.2 ps[j].ao _ ps[j].cap rfl rfl F.out.1.1 F.out.1.2.2.2 (by have := F.out.2.1; have := H.out.2.2.2; omega) J.out.1.size ?_; intro v' w3 hown' hb' _ _; have K := Lib.hid (And.intro hown' (J.out.1.trans hb')); clear hown' hb'; go_frame))
          go_roundw
          case rel => exact ⟨j + 1, by go_num, hlt, K.out.2, by rw [F.out.2.2]; exact K.out.1⟩
          case measure => rw [hw]; simp [intOf]; omega
        · obtain rfl : j = ps.length := by omega
          have hO := J.out.2
          rw [List.take_length] at hO
          have ST := Lib.hid hO
          clear hO
          go_wp2
          go_ret
          exact ⟨_, rfl, ST.out, J.out.1⟩

end Go.Proofs.YtfgakoldedpfoaaDoor
