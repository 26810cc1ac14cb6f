/-
  Tables that are not too great: Few, and the law's example table. Conditions: the bounds named in each theorem.
-/
import Derived.Test.YtfgakoldedpfoaaDoorScFit
import Derived.Test.YtfgakoldedpfoaaDoorScSame
namespace Go.Proofs.YtfgakoldedpfoaaDoor
open Go.RowKit

def Tb (t : T) : Prop := t.cs.length ≤ 20 ∧ t.name.length ≤ 500 ∧ ∀ c ∈ t.cs, c.name.length ≤ 500 ∧ c.d.s.length ≤ 2000
set_option maxHeartbeats 4000000 in
theorem tfew_yes (nm : List UInt8) (ks : Int) (cs : List C) (ao : Option Addr) (cap : Nat) (w : World) (h : SlC w ao cs) (hl : cs.length ≤ 20) (hn : nm.length ≤ 500) (hs : ∀ c ∈ cs, c.name.length ≤ 500 ∧ c.d.s.length ≤ 2000) :
    Calls Tryd.prog 23 #[.agg #[.string ⟨nm.toArray⟩, .int .i64 ks, .slice ao cs.length cap]] w fun e w' => e = .returned (.int .i64 1) ∧ Below w.heap.size w w' := by
  have l1 : decide ((20 : Int) < (cs.length : Int)) = false := by rw [decide_eq_false_iff_not]; omega
  have l2 : decide ((500 : Int) < (nm.length : Int)) = false := by rw [decide_eq_false_iff_not]; omega
  have H := Lib.hid (And.intro h (And.intro hl hs))
  clear h hl hs hn
  go_enter Tryd.func23, Tryd.ntmps23
  go_wp2
  go_loopw [3] (fun i wr => ∃ j : Nat, i = .int .i64 j ∧ j ≤ cs.length ∧ Below w.heap.size w wr ∧ Blk wr w.heap.size #[.string ⟨nm.toArray⟩, .int .i64 ks, .slice ao cs.length cap] 24) (fun i _ => cs.length - (intOf i).toNat)
  case atStart => exact ⟨0, rfl, Nat.zero_le _, below1 _ _, Blk.new _ _ _⟩
  case round =>
    obtain ⟨j, rfl, hj, hbel, hbl⟩ := hrel
    obtain ⟨t0, t1, t2⟩ := hbl.t3
    have J := Lib.hid (And.intro hbel hbl)
    clear hbel hbl
    by_cases hlt : j < cs.length
    · obtain ⟨a, rfl, h0, h1, h2, h3, h4, h5, h6⟩ := H.out.1.below J.out.1 j cs[j] (List.getElem?_eq_getElem hlt)
      have hw : wrap64 ((j : Int) + 1) = (j : Int) + 1 := by have := H.out.2.1; exact wrap_in _ (by omega) (by omega)
      have HS := Lib.hid (H.out.2.2 _ (List.getElem_mem hlt))
      have q1 : decide ((500 : Int) < (cs[j].name.length : Int)) = false := by have := HS.out; rw [decide_eq_false_iff_not]; omega
      go_wp2_with fail
      refine (few_1 _ _ _ _ _ HS.out.2).mono ?_
      rintro e w1 ⟨rfl, hb⟩
      have K := Lib.hid (And.intro (step0 J.out.1 hb) (J.out.2.below hb))
      clear hb
      go_wp2
      go_roundw
      case rel => exact ⟨j + 1, by go_num, hlt, K.out.1, K.out.2⟩
      case measure => rw [hw]; simp [intOf]; omega
    · obtain rfl : j = cs.length := by omega
      go_wp2
      go_ret
      exact ⟨rfl, J.out.1⟩

set_option maxHeartbeats 4000000 in
theorem tfew_cols (nm : List UInt8) (ks : Int) (cs : List C) (ao : Option Addr) (cap : Nat) (w : World) (h : SlC w ao cs) (hl : cs.length ≤ 20) (hn : nm.length ≤ 500) (hs : ¬ ∀ c ∈ cs, c.name.length ≤ 500 ∧ c.d.s.length ≤ 2000) :
    Calls Tryd.prog 23 #[.agg #[.string ⟨nm.toArray⟩, .int .i64 ks, .slice ao cs.length cap]] w fun e w' => e = .returned (.int .i64 0) ∧ Below w.heap.size w w' := by
  have l1 : decide ((20 : Int) < (cs.length : Int)) = false := by rw [decide_eq_false_iff_not]; omega
  have l2 : decide ((500 : Int) < (nm.length : Int)) = false := by rw [decide_eq_false_iff_not]; omega
  have H := Lib.hid (And.intro h (And.intro hl hs))
  clear h hl hs hn
  go_enter Tryd.func23, Tryd.ntmps23
  go_wp2
  go_loopw [3] (fun i wr => ∃ j : Nat, i = .int .i64 j ∧ j ≤ cs.length ∧ Below w.heap.size w wr ∧ Blk wr w.heap.size #[.string ⟨nm.toArray⟩, .int .i64 ks, .slice ao cs.length cap] 24 ∧ ∀ c ∈ cs.take j, c.name.length ≤ 500 ∧ c.d.s.length ≤ 2000) (fun i _ => cs.length - (intOf i).toNat)
  case atStart => exact ⟨0, rfl, Nat.zero_le _, below1 _ _, Blk.new _ _ _, by simp⟩
  case round =>
    obtain ⟨j, rfl, hj, hbel, hbl, hall⟩ := hrel
    obtain ⟨t0, t1, t2⟩ := hbl.t3
    have J := Lib.hid (And.intro hbel (And.intro hbl hall))
    clear hbel hbl hall
    by_cases hlt : j < cs.length
    · obtain ⟨a, rfl, h0, h1, h2, h3, h4, h5, h6⟩ := H.out.1.below J.out.1 j cs[j] (List.getElem?_eq_getElem hlt)
      have hw : wrap64 ((j : Int) + 1) = (j : Int) + 1 := by have := H.out.2.1; exact wrap_in _ (by omega) (by omega)
      by_cases hn1 : cs[j].name.length ≤ 500
      · have q1 : decide ((500 : Int) < (cs[j].name.length : Int)) = false := by rw [decide_eq_false_iff_not]; omega
        by_cases hn2 : cs[j].d.s.length ≤ 2000
        · have HS := Lib.hid (And.intro hn1 hn2)
          clear hn1 hn2
          go_wp2_with fail
          refine (few_1 _ _ _ _ _ HS.out.2).mono ?_
          rintro e w1 ⟨rfl, hb⟩
          have K := Lib.hid (And.intro (step0 J.out.1 hb) (J.out.2.1.below hb))
          clear hb
          go_wp2
          go_roundw
          case rel => exact ⟨j + 1, by go_num, hlt, K.out.1, K.out.2, take_all hlt J.out.2.2 HS.out⟩
          case measure => rw [hw]; simp [intOf]; omega
        · have HS := Lib.hid hn2
          clear hn1 hn2
          go_wp2_with fail
          refine (few_0 _ _ _ _ _ (Nat.lt_of_not_le HS.out)).mono ?_
          rintro e w1 ⟨rfl, hb⟩
          have K := Lib.hid (step0 J.out.1 hb)
          clear hb
          go_wp2
          go_ret
          exact ⟨rfl, K.out⟩
      · have q1 : (500 : Int) < (cs[j].name.length : Int) := by omega
        clear hn1
        go_wp2
        go_ret
        exact ⟨rfl, J.out.1⟩
    · exfalso
      refine H.out.2.2 ?_
      have := J.out.2.2
      rwa [List.take_of_length_le (by omega)] at this

theorem tfew_many (nm : List UInt8) (ks : Int) (cs : List C) (ao : Option Addr) (cap : Nat) (w : World) (hl : 20 < (cs.length : Int)) :
    Calls Tryd.prog 23 #[.agg #[.string ⟨nm.toArray⟩, .int .i64 ks, .slice ao cs.length cap]] w fun e w' => e = .returned (.int .i64 0) ∧ Below w.heap.size w w' := by
  go_enter Tryd.func23, Tryd.ntmps23
  go_wp2
  go_ret
  exact ⟨rfl, below1 _ _⟩
theorem tfew_name (nm : List UInt8) (ks : Int) (cs : List C) (ao : Option Addr) (cap : Nat) (w : World) (hl : decide ((20 : Int) < (cs.length : Int)) = false) (hn : 500 < (nm.length : Int)) :
    Calls Tryd.prog 23 #[.agg #[.string ⟨nm.toArray⟩, .int .i64 ks, .slice ao cs.length cap]] w fun e w' => e = .returned (.int .i64 0) ∧ Below w.heap.size w w' := by
  go_enter Tryd.func23, Tryd.ntmps23
  go_wp2
  go_ret
  exact ⟨rfl, below1 _ _⟩
theorem few_t (t : T) (ao : Option Addr) (cap : Nat) (w : World) (h : SlC w ao t.cs) (ht : Tb t) :
    Calls Tryd.prog 23 #[.agg #[.string ⟨t.name.toArray⟩, .int .i64 t.keys, .slice ao t.cs.length cap]] w fun e w' => e = .returned (.int .i64 1) ∧ Below w.heap.size w w' := tfew_yes _ _ _ _ _ w h ht.1 ht.2.1 ht.2.2
theorem few_n (t : T) (ao : Option Addr) (cap : Nat) (w : World) (h : SlC w ao t.cs) (ht : ¬ Tb t) :
    Calls Tryd.prog 23 #[.agg #[.string ⟨t.name.toArray⟩, .int .i64 t.keys, .slice ao t.cs.length cap]] w fun e w' => e = .returned (.int .i64 0) ∧ Below w.heap.size w w' := by
  by_cases h1 : t.cs.length ≤ 20
  · by_cases h2 : t.name.length ≤ 500
    · exact tfew_cols _ _ _ _ _ w h h1 h2 fun h3 => ht ⟨h1, h2, h3⟩
    · exact tfew_name _ _ _ _ _ w (by rw [decide_eq_false_iff_not]; omega) (by omega)
  · exact tfew_many _ _ _ _ _ w (by omega)

/-- The statements' own table; with the key's column Null. -/
def tP (n : Bool) : T := ⟨[116], 1, [⟨[107], 2, n, ⟨0, 0, 0, []⟩⟩, ⟨[118], 5, true, ⟨0, 0, 0, []⟩⟩]⟩
def rowP (n : Bool) : Array Value := #[.string ⟨([107] : List UInt8).toArray⟩, .int .i64 2, .bool n, .int .i64 0, .int .i64 0, .int .u64 0, .string ⟨([] : List UInt8).toArray⟩, .string ⟨([118] : List UInt8).toArray⟩, .int .i64 5, .bool true, .int .i64 0, .int .i64 0, .int .u64 0, .string ⟨([] : List UInt8).toArray⟩]
theorem slP {W : World} {g : Nat} {n : Bool} (h : Blk W g (rowP n) 76) : SlC W (some ⟨g, 0, none⟩) (tP n).cs := by
  intro i c hi
  refine ⟨⟨g, 0, none⟩, rfl, ?_⟩
  match i, hi with
  | 0, hi =>
    obtain rfl : (⟨[107], 2, n, ⟨0, 0, 0, []⟩⟩ : C) = c := by simpa [tP] using hi
    rw [add_none]
    exact ⟨h.cell 0, h.cell 1, h.cell 2, h.cell 3, h.cell 4, h.cell 5, h.cell 6⟩
  | 1, hi =>
    obtain rfl : (⟨[118], 5, true, ⟨0, 0, 0, []⟩⟩ : C) = c := by simpa [tP] using hi
    rw [add_none]
    exact ⟨h.cell 7, h.cell 8, h.cell 9, h.cell 10, h.cell 11, h.cell 12, h.cell 13⟩
  | (i + 2), hi => simp [tP] at hi
theorem plain_is (w : World) : Calls Tryd.prog 24 #[] w fun e w' => ∃ g, e = .returned (.agg #[.string ⟨([116] : List UInt8).toArray⟩, .int .i64 1, .slice (some ⟨g, 0, none⟩) 2 2]) ∧ Blk w' g (rowP false) 76 ∧ w.heap.size ≤ g ∧ Below w.heap.size w w' := by
  go_enter Tryd.func24, Tryd.ntmps24
  go_wp2
  refine bodyPost_ret (v := .agg #[.string ⟨([116] : List UInt8).toArray⟩, .int .i64 1, .slice (some ⟨w.heap.size + 1, 0, none⟩) 2 2]) ?_ rfl ⟨w.heap.size + 1, rfl, ?_, by omega, below2s _ _ _⟩
  · simp [results, Tryd.results24, go_sem]
  · have := Blk.new (w.alloc (.cells #[.string ⟨([116] : List UInt8).toArray⟩, .int .i64 1, .slice (some ⟨w.heap.size + 1, 0, none⟩) 2 2] 24)) (rowP false) 76
    simpa [rowP] using this

theorem sl_pair {W : World} {g : Nat} {x y : V} (h : Blk W g #[.int .i64 x.k, .int .i64 x.n, .int .u64 x.b, .string ⟨x.s.toArray⟩, .int .i64 y.k, .int .i64 y.n, .int .u64 y.b, .string ⟨y.s.toArray⟩] 68) : Sl W (some ⟨g, 0, none⟩) [x, y] := by
  intro i c hi
  refine ⟨⟨g, 0, none⟩, rfl, ?_⟩
  match i, hi with
  | 0, hi =>
    obtain rfl : x = c := by simpa using hi
    rw [add_none]
    exact ⟨h.cell 0, h.cell 1, h.cell 2, h.cell 3⟩
  | 1, hi =>
    obtain rfl : y = c := by simpa using hi
    rw [add_none]
    exact ⟨h.cell 4, h.cell 5, h.cell 6, h.cell 7⟩
  | (i + 2), hi => simp at hi

end Go.Proofs.YtfgakoldedpfoaaDoor
