/-
  A change's bytes: checkChange, PutChange. Conditions: a change in memory that keeps a value's bounds.
-/
import Derived.Test.YtmgdciihpjifgaaGreatDoorQpOpMem
import Derived.Deep.RegionHeld3
namespace Go.Proofs.YtmgdciihpjifgaaGreatDoor
open Go.RowKit

theorem infoT5 {l : List Nm.S} (h : l.length = 5) : (Tryz.prog.info? 72).map (·.size) = some (sa l).size := by
  rw [sa_size, h]; kernel_rfl
theorem sa_one (l : List Nm.S) : (sa l).all (·.oneCell') = true := by
  unfold sa
  refine all_oneCell_toArray fun v hv => ?_
  obtain ⟨s, _, rfl⟩ := List.mem_map.1 hv
  rfl
theorem tx_len (c : Ch) : c.tx.length = 5 := rfl
theorem lng_no {l : List Nm.S} {j : Nat} (hj : j < l.length) (h : lng l = false) : l[j].length ≤ 16 := by
  unfold lng at h
  have := List.any_eq_false.1 h _ (List.getElem_mem hj)
  simpa using this
theorem lng_take {l : List Nm.S} {j : Nat} (hj : j < l.length) (h : lng (l.take j) = false) (g : ¬ 16 < l[j].length) : lng (l.take (j + 1)) = false := by
  unfold lng at *
  rw [List.take_succ_eq_append_getElem hj, List.any_append, h]
  simpa using g

theorem cc_1 (c : Ch) (no : Option Addr) (nc : Nat) (dO : Option Addr) (dc : Nat) (w : World) (h1 : c.kind < 1) :
    Calls Tryz.prog 28 #[.agg (c.a no nc dO dc)] w fun e w' => e = .returned (.int .i64 1) ∧ Below w.heap.size w w' := by
  go_enter Tryz.func28, Tryz.ntmps28
  go_wp2
  go_ret
  exact ⟨rfl, below1 _ _⟩

theorem cc_2 (c : Ch) (no : Option Addr) (nc : Nat) (dO : Option Addr) (dc : Nat) (w : World) (h1 : decide (c.kind < 1) = false) (h2 : 6 < c.kind) :
    Calls Tryz.prog 28 #[.agg (c.a no nc dO dc)] w fun e w' => e = .returned (.int .i64 1) ∧ Below w.heap.size w w' := by
  go_enter Tryz.func28, Tryz.ntmps28
  go_wp2
  go_ret
  exact ⟨rfl, below1 _ _⟩

theorem cc_3 (c : Ch) (no : Option Addr) (nc : Nat) (dO : Option Addr) (dc : Nat) (w : World) (h1 : decide (c.kind < 1) = false) (h2 : decide (6 < c.kind) = false) (h3 : c.type < 0) :
    Calls Tryz.prog 28 #[.agg (c.a no nc dO dc)] w fun e w' => e = .returned (.int .i64 1) ∧ Below w.heap.size w w' := by
  go_enter Tryz.func28, Tryz.ntmps28
  go_wp2
  go_ret
  exact ⟨rfl, below1 _ _⟩

theorem cc_4 (c : Ch) (no : Option Addr) (nc : Nat) (dO : Option Addr) (dc : Nat) (w : World) (h1 : decide (c.kind < 1) = false) (h2 : decide (6 < c.kind) = false) (h3 : decide (c.type < 0) = false) (h4 : 100 < c.type) :
    Calls Tryz.prog 28 #[.agg (c.a no nc dO dc)] w fun e w' => e = .returned (.int .i64 1) ∧ Below w.heap.size w w' := by
  go_enter Tryz.func28, Tryz.ntmps28
  go_wp2
  go_ret
  exact ⟨rfl, below1 _ _⟩

theorem cc_5 (c : Ch) (no : Option Addr) (nc : Nat) (dO : Option Addr) (dc : Nat) (w : World) (h1 : decide (c.kind < 1) = false) (h2 : decide (6 < c.kind) = false) (h3 : decide (c.type < 0) = false) (h4 : decide (100 < c.type) = false) (h5 : (8 : Int) < (c.names.length : Int)) :
    Calls Tryz.prog 28 #[.agg (c.a no nc dO dc)] w fun e w' => e = .returned (.int .i64 1) ∧ Below w.heap.size w w' := by
  go_enter Tryz.func28, Tryz.ntmps28
  go_wp2
  go_ret
  exact ⟨rfl, below1 _ _⟩

set_option maxHeartbeats 2000000 in
theorem cc_6 (c : Ch) (no : Option Addr) (nc : Nat) (dO : Option Addr) (dc : Nat) (w : World) (h1 : decide (c.kind < 1) = false) (h2 : decide (6 < c.kind) = false) (h3 : decide (c.type < 0) = false) (h4 : decide (100 < c.type) = false) (h5 : decide ((8 : Int) < (c.names.length : Int)) = false) (hL : lng c.tx = true) :
    Calls Tryz.prog 28 #[.agg (c.a no nc dO dc)] w fun e w' => e = .returned (.int .i64 8) ∧ Below w.heap.size w w' := by
  have HL := Lib.hid hL
  clear hL
  go_enter Tryz.func28, Tryz.ntmps28
  go_wp2_with ((refine (?_ : wpList _ _ _ (Oper.mk _ (Op.load 32 _) _ _ _ _ :: _) _ _)); refine wpList_load_blk rfl 32 _ rfl (w.heap.size) rfl (c.a no nc dO dc) _ (Blk.new w _ _) Tryz.underlying32 rfl (infoCh) ?_; go_frame)
  refine (textsOf_is c no nc dO dc _).mono ?_
  rintro e w1 ⟨rfl, hb⟩
  have B1 := Lib.hid (And.intro (step1 (Below.refl _ w) hb) ((Blk.new w (c.a no nc dO dc) 32).below hb))
  clear hb
  go_wp2_with ((refine (?_ : wpList _ _ _ (Oper.mk _ (Op.store 72 _ _) _ _ _ _ :: _) _ _)); refine wpList_store_blk rfl 72 _ _ rfl (w1.heap.size) (sa [[], [], [], [], []]) (sa c.tx) rfl rfl (Blk.new' _ _ _ _ (by first | rfl | simp)) (by first | rfl | simp [sa_size]) (infoT5 rfl) (sa_one _) ?_)
  intro w2 q2 r2
  have K := Lib.hid (And.intro (r2.below _ _ B1.out.1.size (B1.out.1.alloc B1.out.1.size _)) (And.intro ((B1.out.2.alloc _).wr r2 (by have := B1.out.2.lt; omega)) q2))
  clear B1 q2 r2
  have qt := K.out.2.2.cell
  have qc := K.out.2.1.cell
  go_wp2
  have L5 := Lib.hid (tx_len c)
  go_loop [33] (fun i => ∃ j : Nat, i = .int .i64 j ∧ j ≤ 5 ∧ lng (c.tx.take j) = false) (fun i => 5 - (intOf i).toNat)
  case atStart => exact ⟨0, rfl, by omega, rfl⟩
  case round =>
    obtain ⟨j, rfl, hj, hJ⟩ := hrel
    have J := Lib.hid hJ
    clear hJ
    by_cases hlt : j < 5
    · have hlt' : j < c.tx.length := hlt
      have hw : wrap64 ((j : Int) + 1) = (j : Int) + 1 := wrap_in _ (by omega) (by omega)
      have hx : (sa c.tx)[j]? = some (.string ⟨c.tx[j].toArray⟩) := sa_at hlt'
      by_cases g : 16 < c.tx[j].length
      · have q1 : (16 : Int) < (c.tx[j].length : Int) := by omega
        clear g
        go_wp2
        go_ret
        exact ⟨rfl, K.out.1⟩
      · have q1 : decide ((16 : Int) < (c.tx[j].length : Int)) = false := by rw [decide_eq_false_iff_not]; omega
        have X := Lib.hid (lng_take hlt' J.out g)
        clear g
        go_wp2
        go_round
        case rel => exact ⟨j + 1, by go_num, hlt, X.out⟩
        case measure => first | (rw [hw]; simp [intOf]; omega) | (simp [intOf]; omega)
    · exfalso
      have e := List.take_of_length_le (l := c.tx) (i := j) (by rw [tx_len]; omega)
      have := J.out
      rw [e, HL.out] at this
      cases this

set_option maxHeartbeats 2000000 in
theorem cc_7 (c : Ch) (no : Option Addr) (nc : Nat) (dO : Option Addr) (dc : Nat) (w : World) (hN : SlS w no c.names) (h1 : decide (c.kind < 1) = false) (h2 : decide (6 < c.kind) = false) (h3 : decide (c.type < 0) = false) (h4 : decide (100 < c.type) = false) (h5 : decide ((8 : Int) < (c.names.length : Int)) = false) (hL : lng c.tx = false) (hM : lng c.names = true) :
    Calls Tryz.prog 28 #[.agg (c.a no nc dO dc)] w fun e w' => e = .returned (.int .i64 8) ∧ Below w.heap.size w w' := by
  have HL := Lib.hid (And.intro hL hM)
  have HN := Lib.hid hN
  clear hL hM hN
  go_enter Tryz.func28, Tryz.ntmps28
  go_wp2_with ((refine (?_ : wpList _ _ _ (Oper.mk _ (Op.load 32 _) _ _ _ _ :: _) _ _)); refine wpList_load_blk rfl 32 _ rfl (w.heap.size) rfl (c.a no nc dO dc) _ (Blk.new w _ _) Tryz.underlying32 rfl (infoCh) ?_; go_frame)
  refine (textsOf_is c no nc dO dc _).mono ?_
  rintro e w1 ⟨rfl, hb⟩
  have B1 := Lib.hid (And.intro (step1 (Below.refl _ w) hb) ((Blk.new w (c.a no nc dO dc) 32).below hb))
  clear hb
  go_wp2_with ((refine (?_ : wpList _ _ _ (Oper.mk _ (Op.store 72 _ _) _ _ _ _ :: _) _ _)); refine wpList_store_blk rfl 72 _ _ rfl (w1.heap.size) (sa [[], [], [], [], []]) (sa c.tx) rfl rfl (Blk.new' _ _ _ _ (by first | rfl | simp)) (by first | rfl | simp [sa_size]) (infoT5 rfl) (sa_one _) ?_)
  intro w2 q2 r2
  have K := Lib.hid (And.intro (r2.below _ _ B1.out.1.size (B1.out.1.alloc B1.out.1.size _)) (And.intro ((B1.out.2.alloc _).wr r2 (by have := B1.out.2.lt; omega)) q2))
  clear B1 q2 r2
  have qt := K.out.2.2.cell
  have qc := K.out.2.1.cell
  go_wp2
  have L5 := Lib.hid (tx_len c)
  go_loop [33] (fun i => ∃ j : Nat, i = .int .i64 j ∧ j ≤ 5 ∧ lng (c.tx.take j) = false) (fun i => 5 - (intOf i).toNat)
  case atStart => exact ⟨0, rfl, by omega, rfl⟩
  case round =>
    obtain ⟨j, rfl, hj, hJ⟩ := hrel
    have J := Lib.hid hJ
    clear hJ
    by_cases hlt : j < 5
    · have hlt' : j < c.tx.length := hlt
      have hw : wrap64 ((j : Int) + 1) = (j : Int) + 1 := wrap_in _ (by omega) (by omega)
      have hx : (sa c.tx)[j]? = some (.string ⟨c.tx[j].toArray⟩) := sa_at hlt'
      have q1 : decide ((16 : Int) < (c.tx[j].length : Int)) = false := by have := lng_no hlt' HL.out.1; rw [decide_eq_false_iff_not]; omega
      have X := Lib.hid (lng_take hlt' J.out (by have := lng_no hlt' HL.out.1; omega))
      go_wp2
      go_round
      case rel => exact ⟨j + 1, by go_num, hlt, X.out⟩
      case measure => first | (rw [hw]; simp [intOf]; omega) | (simp [intOf]; omega)
    · obtain rfl : j = 5 := by omega
      clear J hlt hj
      go_wp2
      have LN := Lib.hid h5
      go_loop [45] (fun i => ∃ j : Nat, i = .int .i64 j ∧ j ≤ c.names.length ∧ lng (c.names.take j) = false) (fun i => c.names.length - (intOf i).toNat)
      case atStart => exact ⟨0, rfl, by omega, rfl⟩
      case round =>
        obtain ⟨j, rfl, hj, hJ⟩ := hrel
        have J := Lib.hid hJ
        clear hJ
        by_cases hlt : j < c.names.length
        · have hw : wrap64 ((j : Int) + 1) = (j : Int) + 1 := wrap_in _ (by omega) (by have := LN.out; rw [decide_eq_false_iff_not] at this; omega)
          obtain ⟨a, rfl, h0⟩ := (HN.out.below K.out.1) j c.names[j] (List.getElem?_eq_getElem hlt)
          by_cases g : 16 < c.names[j].length
          · have q1 : (16 : Int) < (c.names[j].length : Int) := by omega
            clear g
            go_wp2
            go_ret
            exact ⟨rfl, K.out.1⟩
          · have q1 : decide ((16 : Int) < (c.names[j].length : Int)) = false := by rw [decide_eq_false_iff_not]; omega
            have X := Lib.hid (lng_take hlt J.out g)
            clear g
            go_wp2
            go_round
            case rel => exact ⟨j + 1, by go_num, hlt, X.out⟩
            case measure => first | (rw [hw]; simp [intOf]; omega) | (simp [intOf]; omega)
        · exfalso
          have e := List.take_of_length_le (l := c.names) (i := j) (by omega)
          have := J.out
          rw [e, HL.out.2] at this
          cases this

set_option maxHeartbeats 2000000 in
theorem cc_8 (c : Ch) (no : Option Addr) (nc : Nat) (dO : Option Addr) (dc : Nat) (w : World) (hN : SlS w no c.names) (h1 : decide (c.kind < 1) = false) (h2 : decide (6 < c.kind) = false) (h3 : decide (c.type < 0) = false) (h4 : decide (100 < c.type) = false) (h5 : decide ((8 : Int) < (c.names.length : Int)) = false) (hL : lng c.tx = false) (hM : lng c.names = false) :
    Calls Tryz.prog 28 #[.agg (c.a no nc dO dc)] w fun e w' => e = .returned (.int .i64 0) ∧ Below w.heap.size w w' := by
  have HL := Lib.hid (And.intro hL hM)
  have HN := Lib.hid hN
  clear hL hM hN
  go_enter Tryz.func28, Tryz.ntmps28
  go_wp2_with ((refine (?_ : wpList _ _ _ (Oper.mk _ (Op.load 32 _) _ _ _ _ :: _) _ _)); refine wpList_load_blk rfl 32 _ rfl (w.heap.size) rfl (c.a no nc dO dc) _ (Blk.new w _ _) Tryz.underlying32 rfl (infoCh) ?_; go_frame)
  refine (textsOf_is c no nc dO dc _).mono ?_
  rintro e w1 ⟨rfl, hb⟩
  have B1 := Lib.hid (And.intro (step1 (Below.refl _ w) hb) ((Blk.new w (c.a no nc dO dc) 32).below hb))
  clear hb
  go_wp2_with ((refine (?_ : wpList _ _ _ (Oper.mk _ (Op.store 72 _ _) _ _ _ _ :: _) _ _)); refine wpList_store_blk rfl 72 _ _ rfl (w1.heap.size) (sa [[], [], [], [], []]) (sa c.tx) rfl rfl (Blk.new' _ _ _ _ (by first | rfl | simp)) (by first | rfl | simp [sa_size]) (infoT5 rfl) (sa_one _) ?_)
  intro w2 q2 r2
  have K := Lib.hid (And.intro (r2.below _ _ B1.out.1.size (B1.out.1.alloc B1.out.1.size _)) (And.intro ((B1.out.2.alloc _).wr r2 (by have := B1.out.2.lt; omega)) q2))
  clear B1 q2 r2
  have qt := K.out.2.2.cell
  have qc := K.out.2.1.cell
  go_wp2
  have L5 := Lib.hid (tx_len c)
  go_loop [33] (fun i => ∃ j : Nat, i = .int .i64 j ∧ j ≤ 5 ∧ lng (c.tx.take j) = false) (fun i => 5 - (intOf i).toNat)
  case atStart => exact ⟨0, rfl, by omega, rfl⟩
  case round =>
    obtain ⟨j, rfl, hj, hJ⟩ := hrel
    have J := Lib.hid hJ
    clear hJ
    by_cases hlt : j < 5
    · have hlt' : j < c.tx.length := hlt
      have hw : wrap64 ((j : Int) + 1) = (j : Int) + 1 := wrap_in _ (by omega) (by omega)
      have hx : (sa c.tx)[j]? = some (.string ⟨c.tx[j].toArray⟩) := sa_at hlt'
      have q1 : decide ((16 : Int) < (c.tx[j].length : Int)) = false := by have := lng_no hlt' HL.out.1; rw [decide_eq_false_iff_not]; omega
      have X := Lib.hid (lng_take hlt' J.out (by have := lng_no hlt' HL.out.1; omega))
      go_wp2
      go_round
      case rel => exact ⟨j + 1, by go_num, hlt, X.out⟩
      case measure => first | (rw [hw]; simp [intOf]; omega) | (simp [intOf]; omega)
    · obtain rfl : j = 5 := by omega
      clear J hlt hj
      go_wp2
      have LN := Lib.hid h5
      go_loop [45] (fun i => ∃ j : Nat, i = .int .i64 j ∧ j ≤ c.names.length ∧ lng (c.names.take j) = false) (fun i => c.names.length - (intOf i).toNat)
      case atStart => exact ⟨0, rfl, by omega, rfl⟩
      case round =>
        obtain ⟨j, rfl, hj, hJ⟩ := hrel
        have J := Lib.hid hJ
        clear hJ
        by_cases hlt : j < c.names.length
        · have hw : wrap64 ((j : Int) + 1) = (j : Int) + 1 := wrap_in _ (by omega) (by have := LN.out; rw [decide_eq_false_iff_not] at this; omega)
          obtain ⟨a, rfl, h0⟩ := (HN.out.below K.out.1) j c.names[j] (List.getElem?_eq_getElem hlt)
          have q1 : decide ((16 : Int) < (c.names[j].length : Int)) = false := by have := lng_no hlt HL.out.2; rw [decide_eq_false_iff_not]; omega
          have X := Lib.hid (lng_take hlt J.out (by have := lng_no hlt HL.out.2; omega))
          go_wp2
          go_round
          case rel => exact ⟨j + 1, by go_num, hlt, X.out⟩
          case measure => first | (rw [hw]; simp [intOf]; omega) | (simp [intOf]; omega)
        · obtain rfl : j = c.names.length := by omega
          go_wp2
          go_ret
          exact ⟨rfl, K.out.1⟩

theorem checkChange_is (c : Ch) (no : Option Addr) (nc : Nat) (dO : Option Addr) (dc : Nat) (E : Int) (w : World) (hN : SlS w no c.names) (h : c.ce = E) :
    Calls Tryz.prog 28 #[.agg (c.a no nc dO dc)] w fun e w' => e = .returned (.int .i64 E) ∧ Below w.heap.size w w' := by
  subst h
  by_cases h1 : c.kind < 1
  · rw [show c.ce = 1 from if_pos (.inl h1)]; exact cc_1 c no nc dO dc w h1
  by_cases h2 : 6 < c.kind
  · rw [show c.ce = 1 from if_pos (.inr (.inl h2))]; exact cc_2 c no nc dO dc w (by simpa using h1) h2
  by_cases h3 : c.type < 0
  · rw [show c.ce = 1 from if_pos (.inr (.inr (.inl h3)))]; exact cc_3 c no nc dO dc w (by simpa using h1) (by simpa using h2) h3
  by_cases h4 : 100 < c.type
  · rw [show c.ce = 1 from if_pos (.inr (.inr (.inr (.inl h4))))]; exact cc_4 c no nc dO dc w (by simpa using h1) (by simpa using h2) (by simpa using h3) h4
  by_cases h5 : 8 < c.names.length
  · rw [show c.ce = 1 from if_pos (.inr (.inr (.inr (.inr h5))))]; exact cc_5 c no nc dO dc w (by simpa using h1) (by simpa using h2) (by simpa using h3) (by simpa using h4) (by omega)
  have g5 : decide ((8 : Int) < (c.names.length : Int)) = false := by rw [decide_eq_false_iff_not]; omega
  have e : c.ce = if lng c.tx = true ∨ lng c.names = true then 8 else 0 := by unfold Ch.ce; rw [if_neg (by omega)]
  rw [e]
  by_cases h6 : lng c.tx = true
  · rw [if_pos (.inl h6)]; exact cc_6 c no nc dO dc w (by simpa using h1) (by simpa using h2) (by simpa using h3) (by simpa using h4) g5 h6
  by_cases h7 : lng c.names = true
  · rw [if_pos (.inr h7)]; exact cc_7 c no nc dO dc w hN (by simpa using h1) (by simpa using h2) (by simpa using h3) (by simpa using h4) g5 (by simpa using h6) h7
  rw [if_neg (by simp [h6, h7])]
  exact cc_8 c no nc dO dc w hN (by simpa using h1) (by simpa using h2) (by simpa using h3) (by simpa using h4) g5 (by simpa using h6) (by simpa using h7)

end Go.Proofs.YtmgdciihpjifgaaGreatDoor
