/-
  What awake answers. No condition.
-/
import Derived.Test.YtcpcbnlgmhkdkaaRwPick
import Derived.Test.YtcpcbnlgmhkdkaaRwRefPut
import Derived.Test.YtcpcbnlgmhkdkaaRwAlike
namespace Go.Proofs.Ytcpcbnlgmhkdkaa
open Go.RowKit

theorem put_x (xs : List V) (T : List UInt8) (e : Int) (n : Nat) (ao : Option Addr) (cap : Nat) (w : World) (hn : xs.length = n) (h : Sl w ao xs) (ho : ∀ x ∈ xs, x.ok) (hT : pw xs = T) (he : pe xs = e) :
    Calls Try.prog 10 #[.slice ao n cap] w fun y w' => y = .returned (.tuple #[.string ⟨T.toArray⟩, .int .i64 e]) ∧ Below w.heap.size w w' := by
  subst hn hT he; exact rput_is xs ao cap w h ho
theorem dput_x (xs : List V) (T : List UInt8) (e : Int) (n : Nat) (ao : Option Addr) (cap : Nat) (w : World) (hn : xs.length = n) (h : Sl w ao xs) (ho : ∀ x ∈ xs, x.ok) (hT : pw xs = T) (he : pe xs = e) :
    Calls Try.prog 11 #[.slice ao n cap] w fun y w' => y = .returned (.tuple #[.string ⟨T.toArray⟩, .int .i64 e]) ∧ Below w.heap.size w w' := by
  subst hn hT he; exact dput_is xs ao cap w h ho
theorem RA.x {l : List UInt8} {w w' : World} {y : Ending} {xs : List V} {e : Int} (h : RA l w y w') (hr : ra l = (xs, e)) : ∃ ao cap, y = .returned (.tuple #[.slice ao xs.length cap, .int .i64 e]) ∧ Sl w' ao xs ∧ Below w.heap.size w w' := by
  obtain ⟨v, rfl, hO, hb⟩ := h
  rw [hr] at hO ⊢
  obtain ⟨ao, cap, rfl, hs⟩ := hO.sl
  exact ⟨ao, cap, rfl, hs, hb⟩
theorem read_x (l : List UInt8) (xs : List V) (e : Int) (w : World) (hl : l.length ≤ 1000000) (h : ra l = (xs, e)) :
    Calls Try.prog 12 #[.string ⟨l.toArray⟩] w fun y w' => ∃ ao cap, y = .returned (.tuple #[.slice ao xs.length cap, .int .i64 e]) ∧ Sl w' ao xs ∧ Below w.heap.size w w' :=
  (rread_is l w hl).mono fun _ _ g => g.x h
theorem dread_x (l : List UInt8) (xs : List V) (e : Int) (w : World) (hl : l.length ≤ 1000000) (h : ra l = (xs, e)) :
    Calls Try.prog 13 #[.string ⟨l.toArray⟩] w fun y w' => ∃ ao cap, y = .returned (.tuple #[.slice ao xs.length cap, .int .i64 e]) ∧ Sl w' ao xs ∧ Below w.heap.size w w' :=
  (dread_is l w hl).mono fun _ _ g => g.x h
theorem PK.x {xs : List V} {t : List Int} {w w' : World} {y : Ending} {ys : List V} {e : Int} (h : PK xs t w y w') (hr : pk xs t = (ys, e)) : ∃ ao cap, y = .returned (.tuple #[.slice ao ys.length cap, .int .i64 e]) ∧ Sl w' ao ys ∧ Below w.heap.size w w' := by
  obtain ⟨v, rfl, hO, hb⟩ := h
  rw [hr] at hO ⊢
  obtain ⟨ao, cap, rfl, hs⟩ := hO.sl
  exact ⟨ao, cap, rfl, hs, hb⟩
theorem pick_x (xs : List V) (t : List Int) (ys : List V) (e : Int) (n m : Nat) (ao bo : Option Addr) (ca cb : Nat) (w : World) (hn : xs.length = n) (hm : t.length = m) (hl : n ≤ 30) (hk : m ≤ 50) (ha : Sl w ao xs) (hb : SlI w bo t) (h : pk xs t = (ys, e)) :
    Calls Try.prog 18 #[.slice ao n ca, .slice bo m cb] w fun y w' => ∃ ao cap, y = .returned (.tuple #[.slice ao ys.length cap, .int .i64 e]) ∧ Sl w' ao ys ∧ Below w.heap.size w w' := by
  subst hn hm
  exact (pick_is xs t ao bo ca cb w hl hk ha hb).mono fun _ _ g => g.x h
theorem dpick_x (xs : List V) (t : List Int) (ys : List V) (e : Int) (n m : Nat) (ao bo : Option Addr) (ca cb : Nat) (w : World) (hn : xs.length = n) (hm : t.length = m) (hl : n ≤ 30) (hk : m ≤ 50) (ha : Sl w ao xs) (hb : SlI w bo t) (h : pk xs t = (ys, e)) :
    Calls Try.prog 19 #[.slice ao n ca, .slice bo m cb] w fun y w' => ∃ ao cap, y = .returned (.tuple #[.slice ao ys.length cap, .int .i64 e]) ∧ Sl w' ao ys ∧ Below w.heap.size w w' := by
  subst hn hm
  exact (dpick_is xs t ao bo ca cb w hl hk ha hb).mono fun _ _ g => g.x h
/-- A row that is not empty, in full. -/
theorem OwV.some {w : World} {b : Nat} {v : Value} {xs : List V} (h : OwV w b v xs) (hp : 0 < xs.length) : ∃ g cap, v = .slice (some ⟨g, 0, none⟩) xs.length cap ∧ xs.length ≤ cap ∧ Sl w (some ⟨g, 0, none⟩) xs := by
  obtain ⟨ao, cap, hv, hs⟩ := h.sl
  rcases h.2 with ⟨_, hn⟩ | ⟨g, cap', cur, hv', _, _, hc, _⟩
  · omega
  · rw [hv'] at hv
    simp at hv
    obtain ⟨rfl, rfl⟩ := hv
    exact ⟨g, cap', hv', hc, hs⟩

abbrev r2 : List V := [⟨0, 0, 0, []⟩, ⟨2, 1, 0, []⟩]
theorem r2_ok : ∀ x ∈ r2, x.ok := by
  intro x hx
  simp at hx
  rcases hx with rfl | rfl
  · exact ⟨⟨by decide, by decide⟩, by decide, by decide⟩
  · exact ⟨⟨by decide, by decide⟩, by decide, by decide⟩
theorem sl_r2 (w : World) : Sl (w.alloc (.cells #[.int .i64 0, .int .i64 0, .int .u64 0, .string ⟨([] : List UInt8).toArray⟩, .int .i64 2, .int .i64 1, .int .u64 0, .string ⟨([] : List UInt8).toArray⟩] 45)) (some ⟨w.heap.size, 0, none⟩) r2 := by
  intro i x hi
  refine ⟨_, rfl, ?_⟩
  rw [add_none]
  match i, hi with
  | 0, hi => simp at hi; subst hi; exact ⟨by simp, by simp, by simp, by simp⟩
  | 1, hi => simp at hi; subst hi; exact ⟨by simp, by simp, by simp, by simp⟩
  | i + 2, hi => simp at hi
theorem sl_i3 (w : World) : SlI (w.alloc (.cells #[.int .i64 1, .int .i64 1, .int .i64 0] 3)) (some ⟨w.heap.size, 0, none⟩) [1, 1, 0] := by
  intro i x hi
  refine ⟨_, rfl, ?_⟩
  rw [add_none]
  match i, hi with
  | 0, hi => simp at hi; subst hi; simp
  | 1, hi => simp at hi; subst hi; simp
  | 2, hi => simp at hi; subst hi; simp
  | i + 3, hi => simp at hi
theorem sl_i1 (w : World) : SlI (w.alloc (.cells #[.int .i64 2] 3)) (some ⟨w.heap.size, 0, none⟩) [2] := by
  intro i x hi
  refine ⟨_, rfl, ?_⟩
  rw [add_none]
  match i, hi with
  | 0, hi => simp at hi; subst hi; simp
  | i + 1, hi => simp at hi

theorem read_r2 (w : World) :
    Calls Try.prog 12 #[.string ⟨[2, 0, 2, 2].toArray⟩] w fun y w' => ∃ g cap, y = .returned (.tuple #[.slice (some ⟨g, 0, none⟩) 2 cap, .int .i64 0]) ∧ 2 ≤ cap ∧ Sl w' (some ⟨g, 0, none⟩) r2 ∧ Below w.heap.size w w' := by
  refine (rread_is _ w (by decide)).mono ?_
  rintro y w' ⟨v, rfl, hO, hb⟩
  have e : ra [2, 0, 2, 2] = (r2, 0) := by kernel_rfl
  rw [e] at hO ⊢
  obtain ⟨g, cap, rfl, hc, hs⟩ := hO.some (by decide)
  exact ⟨g, cap, rfl, hc, hs, hb⟩
theorem pick_r2 (g cap h : Nat) (w : World) (hs : Sl w (some ⟨g, 0, none⟩) r2) (ht : SlI w (some ⟨h, 0, none⟩) [1, 1, 0]) :
    Calls Try.prog 18 #[.slice (some ⟨g, 0, none⟩) 2 cap, .slice (some ⟨h, 0, none⟩) 3 3] w fun y w' => ∃ g' cap', y = .returned (.tuple #[.slice (some ⟨g', 0, none⟩) 3 cap', .int .i64 0]) ∧ w'.cell? ⟨g', 1, none⟩ = some (.int .i64 1) ∧ Below w.heap.size w w' := by
  refine (pick_is r2 [1, 1, 0] _ _ cap 3 w (by decide) (by decide) hs ht).mono ?_
  rintro y w' ⟨v, rfl, hO, hb⟩
  have e : pk r2 [1, 1, 0] = ([⟨2, 1, 0, []⟩, ⟨2, 1, 0, []⟩, ⟨0, 0, 0, []⟩], 0) := by kernel_rfl
  rw [e] at hO ⊢
  obtain ⟨g', cap', rfl, hc, hs⟩ := hO.some (by decide)
  obtain ⟨a, ha, c0, c1, c2, c3⟩ := hs 0 _ rfl
  obtain rfl : (⟨g', 0, none⟩ : Addr) = a := by simpa using ha
  rw [add_none] at c1
  exact ⟨g', cap', rfl, c1, hb⟩
theorem sl_cut {w : World} {ao : Option Addr} {xs : List V} (h : Sl w ao xs) (n : Nat) : Sl w ao (xs.take n) := by
  intro i x hi
  rw [List.getElem?_take] at hi
  split at hi
  · exact h i x hi
  · cases hi

set_option maxHeartbeats 4000000 in
theorem awake_any (w : World) :
    Calls Try.prog 9 #[] w fun e w' => e = .returned (.bool true) ∧ Below w.heap.size w w' := by
  go_enter Try.func9, Try.ntmps9
  go_wp2_with fail
  refine (put_x r2 [2, 0, 2, 2] 0 2 _ 2 _ rfl (sl_r2 w) r2_ok (by kernel_rfl) (by kernel_rfl)).mono ?_
  rintro e w1 ⟨rfl, hb⟩
  have A1 := Lib.hid (old_1 hb)
  clear hb
  go_wp2_with fail
  refine (read_r2 _).mono ?_
  rintro e w2 ⟨g, cap, rfl, hc, hs, hb⟩
  have A2 := Lib.hid (And.intro (step0 A1.out hb) hs)
  have hc1 : (1 : Int) ≤ (cap : Int) := by omega
  have hc2 : 1 ≤ cap := by omega
  have hc3 : ¬ cap = 0 := by omega
  clear hb hs hc
  go_wp2_with fail
  refine (read_x [1, 1, 2] [] 6 _ (by decide) (by kernel_rfl)).mono ?_
  rintro e w3 ⟨b3, k3, rfl, _, hb⟩
  have A3 := Lib.hid (And.intro (step0 A2.out.1 hb) (A2.out.2.below hb))
  clear hb
  go_wp2_with fail
  refine (read_x [1, 0, 122] [] 4 _ (by decide) (by kernel_rfl)).mono ?_
  rintro e w4 ⟨b4, k4, rfl, _, hb⟩
  have A4 := Lib.hid (And.intro (step0 A3.out.1 hb) (A3.out.2.below hb))
  clear hb
  go_wp2_with fail
  refine (pick_r2 g cap w4.heap.size _ (A4.out.2.below (below1 _ _)) (sl_i3 w4)).mono ?_
  rintro e w5 ⟨g5, k5, rfl, c5, hb⟩
  have A5 := Lib.hid (And.intro (step1 A4.out.1 hb) ((A4.out.2.below (below1 _ _)).below hb))
  clear hb
  go_wp2_with fail
  refine (pick_x r2 [2] [] 1 2 1 _ _ cap 1 _ rfl rfl (by decide) (by decide) (A5.out.2.below (below1 _ _)) (sl_i1 w5) (by kernel_rfl)).mono ?_
  rintro e w6 ⟨b6, k6, rfl, _, hb⟩
  have A6 := Lib.hid (And.intro (step1 A5.out.1 hb) ((A5.out.2.below (below1 _ _)).below hb))
  replace c5 := keep1 c5 hb
  clear hb
  obtain ⟨a, ha, d0, d1, d2, d3⟩ := A6.out.2 1 _ rfl
  obtain rfl : (⟨g, 0, none⟩ : Addr) = a := by simpa using ha
  rw [add_none] at d0 d1 d2 d3
  clear ha
  go_wp2_with fail
  refine (rowsCmp_is r2 (r2.take 1) 1 (some ⟨g, 0, none⟩) (some ⟨g, 0, none⟩) cap cap _ (by decide) (by decide) A6.out.2 (sl_cut A6.out.2 1) r2_ok (fun x hx => r2_ok x (List.mem_of_mem_take hx)) (by kernel_rfl)).mono ?_
  rintro e w7 ⟨rfl, hb⟩
  have A7 := Lib.hid (step0 A6.out.1 hb)
  clear hb
  go_wp2
  go_ret
  exact ⟨rfl, A7.out⟩

end Go.Proofs.Ytcpcbnlgmhkdkaa
