/-
  What awake answers: true. No condition.
-/
import Derived.Test.YtjmkodlmbkjegaaNmSet
import Derived.Test.YtjmkodlmbkjegaaNmCheck
namespace Go.Proofs.Ytjmkodlmbkjegaa
open Go.RowKit Nm

theorem without_x (l m r : List S) (n k : Nat) (ao bo : Option Addr) (ca cb : Nat) (w : World) (hn : l.length = n) (hk : m.length = k) (h : SlS w ao l) (h' : SlS w bo m) (hf : Fw l) (hg : Fw m) (hr : wo l m = r) :
    Calls Try.prog 15 #[.slice ao n ca, .slice bo k cb] w fun e w' => ∃ po cp, e = .returned (.slice po r.length cp) ∧ SlS w' po r ∧ Below w.heap.size w w' := by
  subst hr; exact without_is l m n k ao bo ca cb w hn hk h h' hf hg
theorem rwithout_x (l m r : List S) (n k : Nat) (ao bo : Option Addr) (ca cb : Nat) (w : World) (hn : l.length = n) (hk : m.length = k) (h : SlS w ao l) (h' : SlS w bo m) (hf : Fw l) (hg : Fw m) (hr : wo l m = r) :
    Calls Try.prog 16 #[.slice ao n ca, .slice bo k cb] w fun e w' => ∃ po cp, e = .returned (.slice po r.length cp) ∧ SlS w' po r ∧ Below w.heap.size w w' := by
  subst hr; exact rwithout_is l m n k ao bo ca cb w hn hk h h' hf hg

/-- A row of texts that was just laid. -/
theorem sl_new (w : World) (l : List S) (G : Nat) (hG : w.heap.size = G) : SlS (w.alloc (.cells (l.map tv).toArray 9)) (some ⟨G, 0, none⟩) l := by
  subst hG
  intro i x hi
  refine ⟨_, rfl, ?_⟩
  rw [add_none]
  have e : (w.alloc (.cells (l.map tv).toArray 9)).heap[w.heap.size]? = some (.cells (l.map tv).toArray 9) := (MapKept.heap_alloc w _).1
  unfold World.cell?
  rw [e]
  show (l.map tv).toArray[i]? = _
  rw [List.getElem?_toArray, List.getElem?_map, hi]
  rfl
abbrev ta : S := [97]
abbrev tb : S := [98]
abbrev tx : S := [120]
abbrev ty : S := [121]
theorem fw_lit (l : List S) (h : l.length ≤ 60 ∧ l.all (fun s => decide (s.length ≤ 500)) = true) : Fw l :=
  ⟨h.1, fun s hs => by have := List.all_eq_true.1 h.2 s hs; simpa using this⟩

set_option maxHeartbeats 4000000 in
theorem awake_any (w : World) :
    Calls Try.prog 8 #[] w fun e w' => e = .returned (.bool true) ∧ Below w.heap.size w w' := by
  go_enter Try.func8, Try.ntmps8
  go_wp2_with fail
  refine (without_x [ta, tb, ta] [ta] [tb] 3 1 _ _ 3 1 _ rfl rfl ((sl_new w [ta, tb, ta] _ rfl).below (below1 _ _)) (sl_new _ [ta] _ (by simp)) (fw_lit _ (by decide)) (fw_lit _ (by decide)) (by decide)).mono ?_
  rintro e w1 ⟨po, cp, rfl, hs, hb⟩
  have A1 := Lib.hid (And.intro (step1 (below1 w _) hb) hs)
  clear hs hb
  go_wp2_with fail
  refine (check_is [97, 95, 49] 0 _ (by decide)).mono ?_
  rintro e w' ⟨rfl, rfl⟩
  go_wp2_with fail
  refine (check_is [49, 97] 8 _ (by decide)).mono ?_
  rintro e w' ⟨rfl, rfl⟩
  go_wp2_with fail
  refine (check_is [] 8 _ (by decide)).mono ?_
  rintro e w' ⟨rfl, rfl⟩
  go_wp2_with fail
  refine (find_is [tx, ty, ty] ty 3 1 _ 3 _ rfl (sl_new w1 [tx, ty, ty] _ rfl) (by decide) (by decide)).mono ?_
  rintro e w2 ⟨rfl, hw2⟩
  have A2 := Lib.hid (show Below w.heap.size w w2 ∧ SlS w2 po [tb] from by rw [← hw2]; exact ⟨A1.out.1.alloc A1.out.1.size _, A1.out.2.below (below1 _ _)⟩)
  clear hw2
  go_wp2_with fail
  refine (find_is [] ty 0 (-1) _ 0 _ rfl (SlS.nil _ _) (by decide) (by decide)).mono ?_
  rintro e w' ⟨rfl, rfl⟩
  go_wp2_with fail
  refine (unlike_is [tx, ty] 2 true _ 2 _ rfl (sl_new w2 [tx, ty] _ rfl) (fw_lit _ (by decide)) (by decide)).mono ?_
  rintro e w3 ⟨rfl, hb⟩
  have A3 := Lib.hid (And.intro (step1 A2.out.1 hb) ((A2.out.2.below (below1 _ _)).below hb))
  clear hb
  go_wp2_with fail
  refine (unlike_is [tx, tx] 2 false _ 2 _ rfl (sl_new w3 [tx, tx] _ rfl) (fw_lit _ (by decide)) (by decide)).mono ?_
  rintro e w4 ⟨rfl, hb⟩
  have A4 := Lib.hid (And.intro (step1 A3.out.1 hb) ((A3.out.2.below (below1 _ _)).below hb))
  clear hb
  obtain ⟨a, rfl, c⟩ := A4.out.2 0 tb rfl
  have c' : w4.cell? a = some (.string ⟨tb.toArray⟩) := by rw [← c]; congr 1
  go_wp2
  go_ret
  exact ⟨rfl, A4.out.1⟩

end Go.Proofs.Ytjmkodlmbkjegaa
