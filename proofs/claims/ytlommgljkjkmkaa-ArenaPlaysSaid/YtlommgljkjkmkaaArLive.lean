/-
  What Live of an arena of numbers answers, and what is answered of an arena that is none. Conditions: the bounds named in each theorem.
-/
import Derived.Test.YtlommgljkjkmkaaArGo
namespace Go.Proofs.Ytlommgljkjkmkaa.Gn
open Go.RowKit
set_option linter.unusedVariables false

theorem Arn.lf_at {β : Type} {a : Arn β} {i : Nat} {x : ASl β} (h : a.sl[i]? = some x) : a.lf i = if x.k then some ((i : Int), x.g) else none := by unfold Arn.lf; rw [h]

set_option maxHeartbeats 4000000 in
theorem live_is (a : Arn Int) (N : Int) (p : Nat) (M : Nat → Prop) (w : World) (ha : Ar w p M a) (hok : a.ok N) :
    Calls Try.prog 20 #[.pointer (some ⟨p, 0, none⟩)] w fun e w' => ∃ v, e = .returned v ∧ Rw elR w' w.heap.size v (a.lv a.sl.length) ∧ Below w.heap.size w w' := by
  obtain ⟨vs, vb, h1, h2, h3, h4⟩ := ha
  obtain ⟨so, sc, rfl, hjunk⟩ := h2.sl
  clear hjunk
  have c1 : w.cell? ⟨p, 1, none⟩ = some (.slice so a.sl.length sc) := h1.cell 1
  have hsz : a.sl.length ≤ 5000 := by have := hok.1; have := hok.2.1; omega
  have H := Lib.hid (And.intro h2 hsz)
  clear h1 h2 h3 h4 hok hsz
  go_enter Try.func20, Try.ntmps20
  go_wp2
  go_loopw [3, 13] (fun o3 o13 wr => ∃ (j : Nat), o13 = .int .i64 j ∧ j ≤ a.sl.length ∧ Rw elR wr w.heap.size o3 (a.lv j) ∧ Below w.heap.size w wr) (fun _ i _ => a.sl.length - (intOf i).toNat)
  case atStart => exact ⟨0, rfl, Nat.zero_le _, Rw.nil _ _, Below.refl _ _⟩
  case round =>
    obtain ⟨j, rfl, hj, hR, hbel⟩ := hrel
    by_cases hlt : j < a.sl.length
    · have hS := H.out.1.keep hbel
      obtain ⟨g, c, hv, hjunk⟩ := hS.open (by omega)
      clear hjunk
      injection hv with e1 e2 e3
      clear e2
      subst e1 e3
      obtain ⟨x, hx⟩ : ∃ x, a.sl[j] = x := ⟨_, rfl⟩
      have hx' : a.sl[j]? = some x := by rw [List.getElem?_eq_getElem hlt, hx]
      have d0 : wr.cell? ⟨g, j * 3, none⟩ = some (.int .i64 x.h) := hS.at hx' 0 rfl
      have d1 : wr.cell? ⟨g, j * 3 + 1, none⟩ = some (.int .i64 x.g) := hS.at hx' 1 rfl
      have d2 : wr.cell? ⟨g, j * 3 + 2, none⟩ = some (.bool x.k) := hS.at hx' 2 rfl
      have sz : a.sl.length < 4611686018427387904 := by have := H.out.2; omega
      have i0 : (0 : Int) ≤ (j : Int) := by omega
      have i1 : (j : Int) < (a.sl.length : Int) := by omega
      have hw : wrap64 ((j : Int) + 1) = (j : Int) + 1 := wrap_in _ (by omega) (by omega)
      have J := Lib.hid (And.intro hR (And.intro hbel hx'))
      clear hR hbel hx hx' hS hj
      cases hk : x.k with
      | false =>
        rw [hk] at d2
        go_wp2
        go_roundw
        case rel =>
          refine ⟨j + 1, by go_num, hlt, ?_, J.out.2.1.alloc J.out.2.1.size _⟩
          rw [Arn.lv_succ, Arn.lf_at J.out.2.2, hk]
          simp only [Bool.false_eq_true, if_false, List.append_nil]
          exact J.out.1.keep (below1 _ _)
        case measure => first | (rw [hw]; simp [intOf]; omega) | (simp [intOf]; omega)
      | true =>
        rw [hk] at d2
        have HK := Lib.hid hk
        clear hk
        go_wp2_with (at_builtin; refine appE elR rfl _ _ rfl w.heap.size _ (a.lv j) ((j : Int), x.g) _ rfl _ rfl (J.out.1.keep (below1 _ _)) (wr.heap.size + 1) (by simp) rfl (by have := Arn.lv_len a j; have := H.out.2; omega) (by have := J.out.2.1.size; simp; omega) ?_; intro v' w1 hown hgr hbk hbel; have Z := Lib.hid (And.intro hown ((J.out.2.1.alloc J.out.2.1.size _).trans hbel)); clear hown hgr hbk hbel; go_frame)
        go_roundw
        case rel =>
          refine ⟨j + 1, by go_num, hlt, ?_, Z.out.2⟩
          rw [Arn.lv_succ, Arn.lf_at J.out.2.2, HK.out]
          exact Z.out.1
        case measure => first | (rw [hw]; simp [intOf]; omega) | (simp [intOf]; omega)
    · obtain rfl : j = a.sl.length := by omega
      have J := Lib.hid (And.intro hR hbel)
      clear hR hbel hlt hj
      go_wp2
      go_ret
      exact ⟨_, rfl, J.out.1, J.out.2⟩

/-! ### None -/
set_option maxHeartbeats 1000000 in
theorem room_nil (w : World) : Calls Try.prog 17 #[.pointer none] w fun e w' => e = .returned (.int .i64 0) ∧ Below w.heap.size w w' := by
  go_enter Try.func17, Try.ntmps17
  go_wp2
  go_ret
  exact ⟨rfl, Below.refl _ _⟩
set_option maxHeartbeats 1000000 in
theorem live_nil (w : World) : Calls Try.prog 20 #[.pointer none] w fun e w' => e = .returned (.slice none 0 0) ∧ Below w.heap.size w w' := by
  go_enter Try.func20, Try.ntmps20
  go_wp2
  go_ret
  exact ⟨rfl, Below.refl _ _⟩
set_option maxHeartbeats 1000000 in
theorem right_nil (s g : Int) (w : World) : Calls Try.prog 24 #[.pointer none, .agg #[.int .i64 s, .int .i64 g]] w fun e w' => e = .returned (.bool false) ∧ Below w.heap.size w w' := by
  have hmx : Try.prog.follows .mixedOrders = true := by kernel_rfl
  go_enter Try.func24, Try.ntmps24
  go_wp2_with fail
  go_quiet (fail)
  go_wp2
  go_ret
  exact ⟨rfl, below_drewV _ (below1 _ _)⟩
set_option maxHeartbeats 1000000 in
theorem take_nil (x : Int) (w : World) : Calls Try.prog 11 #[.pointer none, .int .i64 x] w fun e w' => e = .returned (.tuple #[.agg #[.int .i64 0, .int .i64 0], .int .i64 20]) ∧ Below w.heap.size w w' := by
  go_enter Try.func11, Try.ntmps11
  go_wp2_with fail
  refine (room_nil _).mono ?_
  rintro _ w1 ⟨rfl, hb⟩
  have B1 := (Blk.new w #[.int .i64 0, .int .i64 0] 33).below hb
  have b0 := B1.cell 0
  have b1 := B1.cell 1
  simp at b0 b1
  have f0 := B1.frozen 0
  have f1 := B1.frozen 1
  have B := Lib.hid (And.intro B1 ((below1 w _).trans (hb.mono (below1 w _).size)))
  clear hb B1
  go_wp2
  have q := (B.out.1.setAt 0 (.int .i64 0)).setAt 1 (.int .i64 0)
  refine bodyPost_ret (v := .tuple #[.agg #[.int .i64 0, .int .i64 0], .int .i64 20]) ?_ rfl ⟨rfl, (B.out.2.setCell (p := ⟨w.heap.size, 0, none⟩) (Nat.le_refl _) _).setCell (p := ⟨w.heap.size, 1, none⟩) (Nat.le_refl _) _⟩
  have e0 := q.cell 0
  have e1 := q.cell 1
  simp [results, Try.results11, go_sem, e0, e1]
set_option maxHeartbeats 1000000 in
theorem get_nil (s g : Int) (w : World) : Calls Try.prog 13 #[.pointer none, .agg #[.int .i64 s, .int .i64 g]] w fun e w' => e = .returned (.tuple #[.int .i64 0, .bool false]) ∧ Below w.heap.size w w' := by
  go_enter Try.func13, Try.ntmps13
  go_wp2_with fail
  refine (right_nil s g _).mono ?_
  rintro _ w1 ⟨rfl, hb⟩
  have B := Lib.hid ((below1 w _).trans (hb.mono (below1 w _).size))
  clear hb
  go_wp2
  refine bodyPost_ret (v := .tuple #[.int .i64 0, .bool false]) (by simp [results, Try.results13, go_sem]) rfl ⟨rfl, ?_⟩
  exact B.out.alloc B.out.size _
set_option maxHeartbeats 1000000 in
theorem set_nil (s g x : Int) (w : World) : Calls Try.prog 14 #[.pointer none, .agg #[.int .i64 s, .int .i64 g], .int .i64 x] w fun e w' => e = .returned (.bool false) ∧ Below w.heap.size w w' := by
  go_enter Try.func14, Try.ntmps14
  go_wp2_with fail
  refine (right_nil s g _).mono ?_
  rintro _ w1 ⟨rfl, hb⟩
  have B := Lib.hid ((below1 w _).trans (hb.mono (below1 w _).size))
  clear hb
  go_wp2
  go_ret
  exact ⟨rfl, B.out⟩
set_option maxHeartbeats 1000000 in
theorem free_nil (s g : Int) (w : World) : Calls Try.prog 16 #[.pointer none, .agg #[.int .i64 s, .int .i64 g]] w fun e w' => e = .returned (.bool false) ∧ Below w.heap.size w w' := by
  go_enter Try.func16, Try.ntmps16
  go_wp2_with fail
  refine (right_nil s g _).mono ?_
  rintro _ w1 ⟨rfl, hb⟩
  have B := Lib.hid ((below1 w _).trans (hb.mono (below1 w _).size))
  clear hb
  go_wp2
  go_ret
  exact ⟨rfl, B.out⟩

end Go.Proofs.Ytlommgljkjkmkaa.Gn
