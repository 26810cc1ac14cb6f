/-
  The walk of law KeycodeOrder, where a row is too great or may not be. Conditions: those named in each theorem.
  The walk of law KeycodeOrder, where a row is empty. Conditions: those named in each theorem.
  The walk of law KeycodeOrder, where no row is empty. Conditions: those named in each theorem.
  The walk of law KeycodeOrder. Condition: the bounds of the values' fields.
-/
import Derived.Test.YtfemigdghdbbgaaKcAwake
import Derived.Test.YtfemigdghdbbgaaKcTwoRows
import Derived.Test.YtfemigdghdbbgaaVlCmp
import Derived.Laws.Cover1
import Derived.BigQuiet
import Derived.Deep.QuietTactic
import Derived.Deep.RegionHeld3
import Derived.Deep.DrawnRows
namespace Go.Proofs.Ytfemigdghdbbgaa
open Go.RowKit

/-- Not too many, and not too great. -/
def Fw (xs : List V) : Prop := xs.length ≤ 30 ∧ ∀ x ∈ xs, x.s.length ≤ 2000
theorem krow_x (xs : List V) (T : List UInt8) (r : Int) (ao : Option Addr) (cap : Nat) (w : World) (h : Sl w ao xs) (hl : xs.length ≤ 30) (ho : ∀ x ∈ xs, x.ok) (hT : rt xs = T) (hr : re xs = r) :
    Calls Try.prog 10 #[.slice ao xs.length cap] w fun e w' => e = .returned (.tuple #[.string ⟨T.toArray⟩, .int .i64 r]) ∧ Below w.heap.size w w' := by
  subst hT hr; exact krow_is xs ao cap w h hl ho
theorem cmpRow_x (xs ys : List V) (c : Int) (ao bo : Option Addr) (ca cb : Nat) (w : World) (hl : xs.length ≤ 30) (hm : ys.length ≤ 30) (ha : Sl w ao xs) (hb : Sl w bo ys) (oa : ∀ x ∈ xs, x.ok) (ob : ∀ x ∈ ys, x.ok) (hc : rc xs ys = c) :
    Calls Try.prog 23 #[.slice ao xs.length ca, .slice bo ys.length cb] w fun e w' => e = .returned (.int .i64 c) ∧ Below w.heap.size w w' := by
  subst hc; exact cmpRow_is xs ys ao bo ca cb w hl hm ha hb oa ob

set_option maxHeartbeats 1000000 in
theorem keycodeOrder_fx (xs ys : List V) (ao bo : Option Addr) (ca cb : Nat) (w : World) (ha : Sl w ao xs) (hf : ¬ Fw xs) :
    Calls Try.prog 7 #[.slice ao xs.length ca, .slice bo ys.length cb] w fun e w' => e = .returned (.bool true) ∧ Below w.heap.size w w' := by
  have H := Lib.hid (And.intro ha hf)
  clear ha hf
  go_enter Try.func7, Try.ntmps7
  go_wp2_with fail
  refine (few_no xs ao ca _ H.out.1 H.out.2).mono ?_
  rintro e w1 ⟨rfl, hb⟩
  have A1 := Lib.hid (hb)
  clear hb
  go_wp2_with fail
  refine (awake_any _).mono ?_
  rintro e w2 ⟨rfl, hb⟩
  have A2 := Lib.hid (step0 A1.out hb)
  clear hb
  go_wp2
  go_ret
  exact ⟨rfl, A2.out⟩


set_option maxHeartbeats 1000000 in
theorem keycodeOrder_fy (xs ys : List V) (ao bo : Option Addr) (ca cb : Nat) (w : World) (ha : Sl w ao xs) (hb : Sl w bo ys) (hf : Fw xs) (hg : ¬ Fw ys) :
    Calls Try.prog 7 #[.slice ao xs.length ca, .slice bo ys.length cb] w fun e w' => e = .returned (.bool true) ∧ Below w.heap.size w w' := by
  have H := Lib.hid (And.intro ha (And.intro hb (And.intro hf hg)))
  clear ha hb hf hg
  go_enter Try.func7, Try.ntmps7
  go_wp2_with fail
  refine (few_yes xs ao ca _ H.out.1 H.out.2.2.1.1 H.out.2.2.1.2).mono ?_
  rintro e w1 ⟨rfl, hb⟩
  have A1 := Lib.hid (hb)
  clear hb
  go_wp2_with fail
  refine (few_no ys bo cb _ (H.out.2.1.below A1.out) H.out.2.2.2).mono ?_
  rintro e w2 ⟨rfl, hb⟩
  have A2 := Lib.hid (step0 A1.out hb)
  clear hb
  go_wp2_with fail
  refine (awake_any _).mono ?_
  rintro e w3 ⟨rfl, hb⟩
  have A3 := Lib.hid (step0 A2.out hb)
  clear hb
  go_wp2
  go_ret
  exact ⟨rfl, A3.out⟩


set_option maxHeartbeats 1000000 in
theorem keycodeOrder_ex (xs ys : List V) (ao bo : Option Addr) (ca cb : Nat) (w : World) (ha : Sl w ao xs) (hb : Sl w bo ys) (oa : ∀ x ∈ xs, x.ok) (ob : ∀ x ∈ ys, x.ok) (T U : List UInt8) (r q : Int) (hf : Fw xs) (hg : Fw ys) (hT : rt xs = T) (hr : re xs = r) (hU : rt ys = U) (hq : re ys = q) (hz : r ≠ 0) :
    Calls Try.prog 7 #[.slice ao xs.length ca, .slice bo ys.length cb] w fun e w' => e = .returned (.bool true) ∧ Below w.heap.size w w' := by
  have z1 := bne_t hz
  have z2 := beq_f hz
  have H := Lib.hid (And.intro ha (And.intro hb (And.intro oa (And.intro ob (And.intro hf (And.intro hg (And.intro hT (And.intro hr (And.intro hU hq)))))))))
  clear ha hb oa ob hf hg hT hr hU hq
  go_enter Try.func7, Try.ntmps7
  go_wp2_with fail
  refine (few_yes xs ao ca _ H.out.1 H.out.2.2.2.2.1.1 H.out.2.2.2.2.1.2).mono ?_
  rintro e w1 ⟨rfl, hb⟩
  have A1 := Lib.hid (hb)
  clear hb
  go_wp2_with fail
  refine (few_yes ys bo cb _ (H.out.2.1.below A1.out) H.out.2.2.2.2.2.1.1 H.out.2.2.2.2.2.1.2).mono ?_
  rintro e w2 ⟨rfl, hb⟩
  have A2 := Lib.hid (step0 A1.out hb)
  clear hb
  go_wp2_with fail
  refine (krow_x xs T r ao ca _ (H.out.1.below A2.out) H.out.2.2.2.2.1.1 H.out.2.2.1 H.out.2.2.2.2.2.2.1 H.out.2.2.2.2.2.2.2.1).mono ?_
  rintro e w3 ⟨rfl, hb⟩
  have A3 := Lib.hid (step0 A2.out hb)
  clear hb
  go_wp2_with fail
  refine (krow_x ys U q bo cb _ (H.out.2.1.below A3.out) H.out.2.2.2.2.2.1.1 H.out.2.2.2.1 H.out.2.2.2.2.2.2.2.2.1 H.out.2.2.2.2.2.2.2.2.2).mono ?_
  rintro e w4 ⟨rfl, hb⟩
  have A4 := Lib.hid (step0 A3.out hb)
  clear hb
  go_wp2_with fail
  refine (awake_any _).mono ?_
  rintro e w5 ⟨rfl, hb⟩
  have A5 := Lib.hid (step0 A4.out hb)
  clear hb
  go_wp2
  go_ret
  exact ⟨rfl, A5.out⟩


set_option maxHeartbeats 1000000 in
theorem keycodeOrder_ey (xs ys : List V) (ao bo : Option Addr) (ca cb : Nat) (w : World) (ha : Sl w ao xs) (hb : Sl w bo ys) (oa : ∀ x ∈ xs, x.ok) (ob : ∀ x ∈ ys, x.ok) (T U : List UInt8) (q : Int) (hf : Fw xs) (hg : Fw ys) (hT : rt xs = T) (hr : re xs = 0) (hU : rt ys = U) (hq : re ys = q) (hz : q ≠ 0) :
    Calls Try.prog 7 #[.slice ao xs.length ca, .slice bo ys.length cb] w fun e w' => e = .returned (.bool true) ∧ Below w.heap.size w w' := by
  have z1 := bne_t hz
  have z2 := beq_f hz
  have H := Lib.hid (And.intro ha (And.intro hb (And.intro oa (And.intro ob (And.intro hf (And.intro hg (And.intro hT (And.intro hr (And.intro hU hq)))))))))
  clear ha hb oa ob hf hg hT hr hU hq
  go_enter Try.func7, Try.ntmps7
  go_wp2_with fail
  refine (few_yes xs ao ca _ H.out.1 H.out.2.2.2.2.1.1 H.out.2.2.2.2.1.2).mono ?_
  rintro e w1 ⟨rfl, hb⟩
  have A1 := Lib.hid (hb)
  clear hb
  go_wp2_with fail
  refine (few_yes ys bo cb _ (H.out.2.1.below A1.out) H.out.2.2.2.2.2.1.1 H.out.2.2.2.2.2.1.2).mono ?_
  rintro e w2 ⟨rfl, hb⟩
  have A2 := Lib.hid (step0 A1.out hb)
  clear hb
  go_wp2_with fail
  refine (krow_x xs T 0 ao ca _ (H.out.1.below A2.out) H.out.2.2.2.2.1.1 H.out.2.2.1 H.out.2.2.2.2.2.2.1 H.out.2.2.2.2.2.2.2.1).mono ?_
  rintro e w3 ⟨rfl, hb⟩
  have A3 := Lib.hid (step0 A2.out hb)
  clear hb
  go_wp2_with fail
  refine (krow_x ys U q bo cb _ (H.out.2.1.below A3.out) H.out.2.2.2.2.2.1.1 H.out.2.2.2.1 H.out.2.2.2.2.2.2.2.2.1 H.out.2.2.2.2.2.2.2.2.2).mono ?_
  rintro e w4 ⟨rfl, hb⟩
  have A4 := Lib.hid (step0 A3.out hb)
  clear hb
  go_wp2_with fail
  refine (awake_any _).mono ?_
  rintro e w5 ⟨rfl, hb⟩
  have A5 := Lib.hid (step0 A4.out hb)
  clear hb
  go_wp2
  go_ret
  exact ⟨rfl, A5.out⟩


end Go.Proofs.Ytfemigdghdbbgaa

namespace Go.Proofs.Ytfemigdghdbbgaa
open Go.RowKit

set_option maxHeartbeats 1000000 in
theorem keycodeOrder_nx (ys : List V) (ao bo : Option Addr) (ca cb : Nat) (w : World) (ha : Sl w ao []) (hb : Sl w bo ys) (oa : ∀ x ∈ ([] : List V), x.ok) (ob : ∀ x ∈ ys, x.ok) (T U : List UInt8) (c : Int) (B E : Bool) (hf : Fw []) (hg : Fw ys) (hT : rt [] = T) (hr : re [] = 0) (hU : rt ys = U) (hq : re ys = 0) (hc : rc [] ys = c) (f1 : decide (c < 0) = B) (f2 : Op.bytesLess T U = B) (f3 : (c == 0) = E) (f4 : (T == U) = E) :
    Calls Try.prog 7 #[.slice ao ([] : List V).length ca, .slice bo ys.length cb] w fun e w' => e = .returned (.bool true) ∧ Below w.heap.size w w' := by
  have hmx : Try.prog.follows .mixedOrders = true := by kernel_rfl
  have HC := Lib.hid hc
  clear hc
  have H := Lib.hid (And.intro ha (And.intro hb (And.intro oa (And.intro ob (And.intro hf (And.intro hg (And.intro hT (And.intro hr (And.intro hU hq)))))))))
  clear ha hb oa ob hf hg hT hr hU hq
  go_enter Try.func7, Try.ntmps7
  go_wp2_with fail
  refine (few_yes [] ao ca _ H.out.1 H.out.2.2.2.2.1.1 H.out.2.2.2.2.1.2).mono ?_
  rintro e w1 ⟨rfl, hb⟩
  have A1 := Lib.hid (hb)
  clear hb
  go_wp2_with fail
  refine (few_yes ys bo cb _ (H.out.2.1.below A1.out) H.out.2.2.2.2.2.1.1 H.out.2.2.2.2.2.1.2).mono ?_
  rintro e w2 ⟨rfl, hb⟩
  have A2 := Lib.hid (step0 A1.out hb)
  clear hb
  go_wp2_with fail
  refine (krow_x [] T 0 ao ca _ (H.out.1.below A2.out) H.out.2.2.2.2.1.1 H.out.2.2.1 H.out.2.2.2.2.2.2.1 H.out.2.2.2.2.2.2.2.1).mono ?_
  rintro e w3 ⟨rfl, hb⟩
  have A3 := Lib.hid (step0 A2.out hb)
  clear hb
  go_wp2_with fail
  refine (krow_x ys U 0 bo cb _ (H.out.2.1.below A3.out) H.out.2.2.2.2.2.1.1 H.out.2.2.2.1 H.out.2.2.2.2.2.2.2.2.1 H.out.2.2.2.2.2.2.2.2.2).mono ?_
  rintro e w4 ⟨rfl, hb⟩
  have A4 := Lib.hid (step0 A3.out hb)
  clear hb
  go_wp2_with fail
  refine (cmpRow_x [] ys c ao bo ca cb _ H.out.2.2.2.2.1.1 H.out.2.2.2.2.2.1.1 (H.out.1.below A4.out) (H.out.2.1.below A4.out) H.out.2.2.1 H.out.2.2.2.1 HC.out).mono ?_
  rintro e w5 ⟨rfl, hb⟩
  have A5 := Lib.hid (step0 A4.out hb)
  clear hb
  go_wp2
  go_quiet (fail)
  all_goals (go_wp2_with (go_at_call 9; refine (awake_any _).mono ?_; rintro e w6 ⟨rfl, hb⟩; have A6 := Lib.hid (step0 (below_drewV _ A5.out) hb); clear hb))
  all_goals go_ret
  all_goals exact ⟨rfl, A6.out⟩


set_option maxHeartbeats 1000000 in
theorem keycodeOrder_ny (xs : List V) (ao bo : Option Addr) (ca cb : Nat) (w : World) (ha : Sl w ao xs) (hb : Sl w bo []) (oa : ∀ x ∈ xs, x.ok) (ob : ∀ x ∈ ([] : List V), x.ok) (T U : List UInt8) (c : Int) (B E : Bool) (hf : Fw xs) (hg : Fw []) (hT : rt xs = T) (hr : re xs = 0) (hU : rt [] = U) (hq : re [] = 0) (hc : rc xs [] = c) (f1 : decide (c < 0) = B) (f2 : Op.bytesLess T U = B) (f3 : (c == 0) = E) (f4 : (T == U) = E) (h0 : 0 < xs.length) :
    Calls Try.prog 7 #[.slice ao xs.length ca, .slice bo ([] : List V).length cb] w fun e w' => e = .returned (.bool true) ∧ Below w.heap.size w w' := by
  have hn1 : (0 : Int) < (xs.length : Int) := by omega
  have hn2 : decide ((0 : Int) < (xs.length : Int)) = true := by rw [decide_eq_true_iff]; omega
  have hn3 : decide (0 < xs.length) = true := by rw [decide_eq_true_iff]; omega
  have hmx : Try.prog.follows .mixedOrders = true := by kernel_rfl
  have HC := Lib.hid hc
  clear hc
  have H := Lib.hid (And.intro ha (And.intro hb (And.intro oa (And.intro ob (And.intro hf (And.intro hg (And.intro hT (And.intro hr (And.intro hU hq)))))))))
  clear ha hb oa ob hf hg hT hr hU hq
  go_enter Try.func7, Try.ntmps7
  go_wp2_with fail
  refine (few_yes xs ao ca _ H.out.1 H.out.2.2.2.2.1.1 H.out.2.2.2.2.1.2).mono ?_
  rintro e w1 ⟨rfl, hb⟩
  have A1 := Lib.hid (hb)
  clear hb
  go_wp2_with fail
  refine (few_yes [] bo cb _ (H.out.2.1.below A1.out) H.out.2.2.2.2.2.1.1 H.out.2.2.2.2.2.1.2).mono ?_
  rintro e w2 ⟨rfl, hb⟩
  have A2 := Lib.hid (step0 A1.out hb)
  clear hb
  go_wp2_with fail
  refine (krow_x xs T 0 ao ca _ (H.out.1.below A2.out) H.out.2.2.2.2.1.1 H.out.2.2.1 H.out.2.2.2.2.2.2.1 H.out.2.2.2.2.2.2.2.1).mono ?_
  rintro e w3 ⟨rfl, hb⟩
  have A3 := Lib.hid (step0 A2.out hb)
  clear hb
  go_wp2_with fail
  refine (krow_x [] U 0 bo cb _ (H.out.2.1.below A3.out) H.out.2.2.2.2.2.1.1 H.out.2.2.2.1 H.out.2.2.2.2.2.2.2.2.1 H.out.2.2.2.2.2.2.2.2.2).mono ?_
  rintro e w4 ⟨rfl, hb⟩
  have A4 := Lib.hid (step0 A3.out hb)
  clear hb
  go_wp2_with fail
  refine (cmpRow_x xs [] c ao bo ca cb _ H.out.2.2.2.2.1.1 H.out.2.2.2.2.2.1.1 (H.out.1.below A4.out) (H.out.2.1.below A4.out) H.out.2.2.1 H.out.2.2.2.1 HC.out).mono ?_
  rintro e w5 ⟨rfl, hb⟩
  have A5 := Lib.hid (step0 A4.out hb)
  clear hb
  go_wp2
  go_quiet (fail)
  all_goals (go_wp2_with (go_at_call 9; refine (awake_any _).mono ?_; rintro e w6 ⟨rfl, hb⟩; have A6 := Lib.hid (step0 (below_drewV _ A5.out) hb); clear hb))
  all_goals go_ret
  all_goals exact ⟨rfl, A6.out⟩


end Go.Proofs.Ytfemigdghdbbgaa

namespace Go.Proofs.Ytfemigdghdbbgaa
open Go.RowKit

attribute [local go_sem ↓] Go.wp_at_zero Go.wp_at_succ

theorem two_at {W v : World} {a b : Addr} {x y : V} (h : Below W.heap.size W v) (hx : At W a x) (hy : At W b y) :
    Below W.heap.size W v ∧ v.cell? a = some (.int .i64 x.k) ∧ v.cell? ⟨a.block, a.off + 1, none⟩ = some (.int .i64 x.n) ∧ v.cell? ⟨a.block, a.off + 2, none⟩ = some (.int .u64 x.b) ∧ v.cell? ⟨a.block, a.off + 3, none⟩ = some (.string ⟨x.s.toArray⟩) ∧
      v.cell? b = some (.int .i64 y.k) ∧ v.cell? ⟨b.block, b.off + 1, none⟩ = some (.int .i64 y.n) ∧ v.cell? ⟨b.block, b.off + 2, none⟩ = some (.int .u64 y.b) ∧ v.cell? ⟨b.block, b.off + 3, none⟩ = some (.string ⟨y.s.toArray⟩) :=
  ⟨h, keep0 hx.1 h, keep0 hx.2.1 h, keep0 hx.2.2.1 h, keep0 hx.2.2.2 h, keep0 hy.1 h, keep0 hy.2.1 h, keep0 hy.2.2.1 h, keep0 hy.2.2.2 h⟩

set_option maxHeartbeats 1000000 in
theorem keycodeOrder_v0 (xs ys : List V) (a b : Addr) (ca cb : Nat) (w : World) (ha : Sl w (some a) xs) (hb : Sl w (some b) ys) (oa : ∀ x ∈ xs, x.ok) (ob : ∀ x ∈ ys, x.ok) (T U : List UInt8) (c : Int) (B E : Bool) (hf : Fw xs) (hg : Fw ys) (hT : rt xs = T) (hr : re xs = 0) (hU : rt ys = U) (hq : re ys = 0) (hc : rc xs ys = c) (f1 : decide (c < 0) = B) (f2 : Op.bytesLess T U = B) (f3 : (c == 0) = E) (f4 : (T == U) = E) (x y : V) (hx : xs[0]? = some x) (hy : ys[0]? = some y) (hv : x.vc y = 0) (px : 0 < xs.length) (py : 0 < ys.length) :
    Calls Try.prog 7 #[.slice (some a) xs.length ca, .slice (some b) ys.length cb] w fun e w' => e = .returned (.bool true) ∧ Below w.heap.size w w' := by
  have hn1 : (0 : Int) < (xs.length : Int) := by omega
  have hn2 : (0 : Int) < (ys.length : Int) := by omega
  have dx1 : decide ((0 : Int) < (xs.length : Int)) = true := by rw [decide_eq_true_iff]; omega
  have dx2 : decide (0 < xs.length) = true := by rw [decide_eq_true_iff]; omega
  have dy1 : decide ((0 : Int) < (ys.length : Int)) = true := by rw [decide_eq_true_iff]; omega
  have dy2 : decide (0 < ys.length) = true := by rw [decide_eq_true_iff]; omega
  have ox := oa x (List.mem_of_getElem? hx)
  have oy := ob y (List.mem_of_getElem? hy)
  have X := Lib.hid (And.intro hx (And.intro hy (And.intro hv (And.intro ox oy))))
  clear hx hy hv ox oy
  have hmx : Try.prog.follows .mixedOrders = true := by kernel_rfl
  have HC := Lib.hid hc
  clear hc
  have H := Lib.hid (And.intro ha (And.intro hb (And.intro oa (And.intro ob (And.intro hf (And.intro hg (And.intro hT (And.intro hr (And.intro hU hq)))))))))
  clear ha hb oa ob hf hg hT hr hU hq
  go_enter Try.func7, Try.ntmps7
  go_wp2_with fail
  refine (few_yes xs (some a) ca _ H.out.1 H.out.2.2.2.2.1.1 H.out.2.2.2.2.1.2).mono ?_
  rintro e w1 ⟨rfl, hb⟩
  have A1 := Lib.hid (hb)
  clear hb
  go_wp2_with fail
  refine (few_yes ys (some b) cb _ (H.out.2.1.below A1.out) H.out.2.2.2.2.2.1.1 H.out.2.2.2.2.2.1.2).mono ?_
  rintro e w2 ⟨rfl, hb⟩
  have A2 := Lib.hid (step0 A1.out hb)
  clear hb
  go_wp2_with fail
  refine (krow_x xs T 0 (some a) ca _ (H.out.1.below A2.out) H.out.2.2.2.2.1.1 H.out.2.2.1 H.out.2.2.2.2.2.2.1 H.out.2.2.2.2.2.2.2.1).mono ?_
  rintro e w3 ⟨rfl, hb⟩
  have A3 := Lib.hid (step0 A2.out hb)
  clear hb
  go_wp2_with fail
  refine (krow_x ys U 0 (some b) cb _ (H.out.2.1.below A3.out) H.out.2.2.2.2.2.1.1 H.out.2.2.2.1 H.out.2.2.2.2.2.2.2.2.1 H.out.2.2.2.2.2.2.2.2.2).mono ?_
  rintro e w4 ⟨rfl, hb⟩
  have A4 := Lib.hid (step0 A3.out hb)
  clear hb
  go_wp2_with fail
  refine (cmpRow_x xs ys c (some a) (some b) ca cb _ H.out.2.2.2.2.1.1 H.out.2.2.2.2.2.1.1 (H.out.1.below A4.out) (H.out.2.1.below A4.out) H.out.2.2.1 H.out.2.2.2.1 HC.out).mono ?_
  rintro e w5 ⟨rfl, hb⟩
  have A5 := Lib.hid (step0 A4.out hb)
  clear hb
  have s5 := H.out.1.below A5.out 0 _ X.out.1
  have t5 := H.out.2.1.below A5.out 0 _ X.out.2.1
  obtain ⟨a', ha, s5⟩ := s5
  obtain rfl : a = a' := by simpa using ha
  obtain ⟨b', hb', t5⟩ := t5
  obtain rfl : b = b' := by simpa using hb'
  have S5 := Lib.hid (And.intro (show At w5 a x from s5) (show At w5 b y from t5))
  clear ha hb' s5 t5
  go_wp2_with fail
  go_region_held3 (fun v => Below w5.heap.size w5 v ∧ v.cell? a = some (.int .i64 x.k) ∧ v.cell? ⟨a.block, a.off + 1, none⟩ = some (.int .i64 x.n) ∧ v.cell? ⟨a.block, a.off + 2, none⟩ = some (.int .u64 x.b) ∧ v.cell? ⟨a.block, a.off + 3, none⟩ = some (.string ⟨x.s.toArray⟩) ∧
      v.cell? b = some (.int .i64 y.k) ∧ v.cell? ⟨b.block, b.off + 1, none⟩ = some (.int .i64 y.n) ∧ v.cell? ⟨b.block, b.off + 2, none⟩ = some (.int .u64 y.b) ∧ v.cell? ⟨b.block, b.off + 3, none⟩ = some (.string ⟨y.s.toArray⟩)) (first | exact two_at (Below.refl _ _).drew S5.out.1 S5.out.2 | exact two_at (step0 ‹Below _ _ _ ∧ _›.1 hb) S5.out.1 S5.out.2)
    (first | (go_at_call 24; refine (vcmp_is _ _ _ _ _ _ _ _ 0 _ X.out.2.2.2.1.1 X.out.2.2.2.2.1 X.out.2.2.1).mono ?_; rintro e w6 ⟨rfl, hb⟩))
  have A6 := Lib.hid (step0 A5.out (show Below w5.heap.size w5 w6 from ‹Below w5.heap.size w5 w6 ∧ _›.1))
  go_wp2_with fail
  refine (awake_any _).mono ?_
  rintro e w7 ⟨rfl, hb⟩
  have A7 := Lib.hid (step0 A6.out hb)
  clear hb
  go_wp2
  go_ret
  exact ⟨rfl, A7.out⟩


set_option maxHeartbeats 1000000 in
theorem keycodeOrder_vl (xs ys : List V) (a b : Addr) (ca cb : Nat) (w : World) (ha : Sl w (some a) xs) (hb : Sl w (some b) ys) (oa : ∀ x ∈ xs, x.ok) (ob : ∀ x ∈ ys, x.ok) (T U : List UInt8) (c : Int) (B E : Bool) (hf : Fw xs) (hg : Fw ys) (hT : rt xs = T) (hr : re xs = 0) (hU : rt ys = U) (hq : re ys = 0) (hc : rc xs ys = c) (f1 : decide (c < 0) = B) (f2 : Op.bytesLess T U = B) (f3 : (c == 0) = E) (f4 : (T == U) = E) (x y : V) (v : Int) (hx : xs[0]? = some x) (hy : ys[0]? = some y) (hv : x.vc y = v) (px : 0 < xs.length) (py : 0 < ys.length) (hz : v ≠ 0) (Q R : List UInt8) (cx : x.ck = 0) (cy : y.ck = 0) (hQ : x.pt = Q) (hR : y.pt = R) (hl : R.length < Q.length) :
    Calls Try.prog 7 #[.slice (some a) xs.length ca, .slice (some b) ys.length cb] w fun e w' => e = .returned (.bool true) ∧ Below w.heap.size w w' := by
  have l1 : (R.length : Int) < (Q.length : Int) := by omega
  have l3 : R.length < Q.length := hl
  clear hl
  have v1 := bne_t hz
  have v2 := beq_f hz
  have Y := Lib.hid (And.intro cx (And.intro cy (And.intro hQ hR)))
  clear hz cx cy hQ hR
  have hn1 : (0 : Int) < (xs.length : Int) := by omega
  have hn2 : (0 : Int) < (ys.length : Int) := by omega
  have dx1 : decide ((0 : Int) < (xs.length : Int)) = true := by rw [decide_eq_true_iff]; omega
  have dx2 : decide (0 < xs.length) = true := by rw [decide_eq_true_iff]; omega
  have dy1 : decide ((0 : Int) < (ys.length : Int)) = true := by rw [decide_eq_true_iff]; omega
  have dy2 : decide (0 < ys.length) = true := by rw [decide_eq_true_iff]; omega
  have ox := oa x (List.mem_of_getElem? hx)
  have oy := ob y (List.mem_of_getElem? hy)
  have X := Lib.hid (And.intro hx (And.intro hy (And.intro hv (And.intro ox oy))))
  clear hx hy hv ox oy
  have hmx : Try.prog.follows .mixedOrders = true := by kernel_rfl
  have HC := Lib.hid hc
  clear hc
  have H := Lib.hid (And.intro ha (And.intro hb (And.intro oa (And.intro ob (And.intro hf (And.intro hg (And.intro hT (And.intro hr (And.intro hU hq)))))))))
  clear ha hb oa ob hf hg hT hr hU hq
  go_enter Try.func7, Try.ntmps7
  go_wp2_with fail
  refine (few_yes xs (some a) ca _ H.out.1 H.out.2.2.2.2.1.1 H.out.2.2.2.2.1.2).mono ?_
  rintro e w1 ⟨rfl, hb⟩
  have A1 := Lib.hid (hb)
  clear hb
  go_wp2_with fail
  refine (few_yes ys (some b) cb _ (H.out.2.1.below A1.out) H.out.2.2.2.2.2.1.1 H.out.2.2.2.2.2.1.2).mono ?_
  rintro e w2 ⟨rfl, hb⟩
  have A2 := Lib.hid (step0 A1.out hb)
  clear hb
  go_wp2_with fail
  refine (krow_x xs T 0 (some a) ca _ (H.out.1.below A2.out) H.out.2.2.2.2.1.1 H.out.2.2.1 H.out.2.2.2.2.2.2.1 H.out.2.2.2.2.2.2.2.1).mono ?_
  rintro e w3 ⟨rfl, hb⟩
  have A3 := Lib.hid (step0 A2.out hb)
  clear hb
  go_wp2_with fail
  refine (krow_x ys U 0 (some b) cb _ (H.out.2.1.below A3.out) H.out.2.2.2.2.2.1.1 H.out.2.2.2.1 H.out.2.2.2.2.2.2.2.2.1 H.out.2.2.2.2.2.2.2.2.2).mono ?_
  rintro e w4 ⟨rfl, hb⟩
  have A4 := Lib.hid (step0 A3.out hb)
  clear hb
  go_wp2_with fail
  refine (cmpRow_x xs ys c (some a) (some b) ca cb _ H.out.2.2.2.2.1.1 H.out.2.2.2.2.2.1.1 (H.out.1.below A4.out) (H.out.2.1.below A4.out) H.out.2.2.1 H.out.2.2.2.1 HC.out).mono ?_
  rintro e w5 ⟨rfl, hb⟩
  have A5 := Lib.hid (step0 A4.out hb)
  clear hb
  have s5 := H.out.1.below A5.out 0 _ X.out.1
  have t5 := H.out.2.1.below A5.out 0 _ X.out.2.1
  obtain ⟨a', ha, s5⟩ := s5
  obtain rfl : a = a' := by simpa using ha
  obtain ⟨b', hb', t5⟩ := t5
  obtain rfl : b = b' := by simpa using hb'
  have S5 := Lib.hid (And.intro (show At w5 a x from s5) (show At w5 b y from t5))
  clear ha hb' s5 t5
  go_wp2_with fail
  go_region_held3 (fun v => Below w5.heap.size w5 v ∧ v.cell? a = some (.int .i64 x.k) ∧ v.cell? ⟨a.block, a.off + 1, none⟩ = some (.int .i64 x.n) ∧ v.cell? ⟨a.block, a.off + 2, none⟩ = some (.int .u64 x.b) ∧ v.cell? ⟨a.block, a.off + 3, none⟩ = some (.string ⟨x.s.toArray⟩) ∧
      v.cell? b = some (.int .i64 y.k) ∧ v.cell? ⟨b.block, b.off + 1, none⟩ = some (.int .i64 y.n) ∧ v.cell? ⟨b.block, b.off + 2, none⟩ = some (.int .u64 y.b) ∧ v.cell? ⟨b.block, b.off + 3, none⟩ = some (.string ⟨y.s.toArray⟩)) (first | exact two_at (Below.refl _ _).drew S5.out.1 S5.out.2 | exact two_at (step0 ‹Below _ _ _ ∧ _›.1 hb) S5.out.1 S5.out.2)
    (first | (go_at_call 24; refine (vcmp_is _ _ _ _ _ _ _ _ v _ X.out.2.2.2.1.1 X.out.2.2.2.2.1 X.out.2.2.1).mono ?_; rintro e w6 ⟨rfl, hb⟩))
  have A6 := Lib.hid (step0 A5.out (show Below w5.heap.size w5 w6 from ‹Below w5.heap.size w5 w6 ∧ _›.1))
  obtain ⟨a', ha, d0, d1, d2, d3⟩ := H.out.1.below A6.out 0 _ X.out.1
  obtain rfl : a = a' := by simpa using ha
  obtain ⟨b', hb', e0, e1, e2, e3⟩ := H.out.2.1.below A6.out 0 _ X.out.2.1
  obtain rfl : b = b' := by simpa using hb'
  rw [show a.add (0 * 4) = a from rfl] at d0 d1 d2 d3
  rw [show b.add (0 * 4) = b from rfl] at e0 e1 e2 e3
  clear ha hb'
  go_wp2_with fail
  refine (kput_x _ _ _ _ Q _ X.out.2.2.2.1.1 X.out.2.2.2.1.2 Y.out.1 Y.out.2.2.1).mono ?_
  rintro e w7 ⟨rfl, hb⟩
  replace e0 := keep0 e0 hb
  replace e1 := keep0 e1 hb
  replace e2 := keep0 e2 hb
  replace e3 := keep0 e3 hb
  have A7 := Lib.hid (step0 A6.out hb)
  clear hb d0 d1 d2 d3
  go_wp2_with fail
  refine (kput_x _ _ _ _ R _ X.out.2.2.2.2.1 X.out.2.2.2.2.2 Y.out.2.1 Y.out.2.2.2).mono ?_
  rintro e w8 ⟨rfl, hb⟩
  have A8 := Lib.hid (step0 A7.out hb)
  clear hb e0 e1 e2 e3
  go_wp2_with fail
  refine (awake_any _).mono ?_
  rintro e w9 ⟨rfl, hb⟩
  have A9 := Lib.hid (step0 A8.out hb)
  clear hb
  go_wp2
  go_ret
  exact ⟨rfl, A9.out⟩


set_option maxHeartbeats 1000000 in
theorem keycodeOrder_vm (xs ys : List V) (a b : Addr) (ca cb : Nat) (w : World) (ha : Sl w (some a) xs) (hb : Sl w (some b) ys) (oa : ∀ x ∈ xs, x.ok) (ob : ∀ x ∈ ys, x.ok) (T U : List UInt8) (c : Int) (B E : Bool) (hf : Fw xs) (hg : Fw ys) (hT : rt xs = T) (hr : re xs = 0) (hU : rt ys = U) (hq : re ys = 0) (hc : rc xs ys = c) (f1 : decide (c < 0) = B) (f2 : Op.bytesLess T U = B) (f3 : (c == 0) = E) (f4 : (T == U) = E) (x y : V) (v : Int) (hx : xs[0]? = some x) (hy : ys[0]? = some y) (hv : x.vc y = v) (px : 0 < xs.length) (py : 0 < ys.length) (hz : v ≠ 0) (Q R : List UInt8) (cx : x.ck = 0) (cy : y.ck = 0) (hQ : x.pt = Q) (hR : y.pt = R) (hl : Q.length ≤ R.length) (hn : R.take Q.length ≠ Q) :
    Calls Try.prog 7 #[.slice (some a) xs.length ca, .slice (some b) ys.length cb] w fun e w' => e = .returned (.bool true) ∧ Below w.heap.size w w' := by
  have l1 : decide ((R.length : Int) < (Q.length : Int)) = false := by rw [decide_eq_false_iff_not]; omega
  have l2 : decide (R.length < Q.length) = false := by rw [decide_eq_false_iff_not]; omega
  have l3 : (Q.length : Int) ≤ (R.length : Int) := by omega
  have ct := cut_to R Q.length
  obtain ⟨P, hP⟩ : ∃ P, R.take Q.length = P := ⟨_, rfl⟩
  rw [hP] at ct hn
  have n1 : (P == Q) = false := by rw [beq_eq_false_iff_ne]; exact hn
  have n2 : ¬ P = Q := hn
  have n3 : (P != Q) = true := by simpa using hn
  clear hl hn hP
  have v1 := bne_t hz
  have v2 := beq_f hz
  have Y := Lib.hid (And.intro cx (And.intro cy (And.intro hQ hR)))
  clear hz cx cy hQ hR
  have hn1 : (0 : Int) < (xs.length : Int) := by omega
  have hn2 : (0 : Int) < (ys.length : Int) := by omega
  have dx1 : decide ((0 : Int) < (xs.length : Int)) = true := by rw [decide_eq_true_iff]; omega
  have dx2 : decide (0 < xs.length) = true := by rw [decide_eq_true_iff]; omega
  have dy1 : decide ((0 : Int) < (ys.length : Int)) = true := by rw [decide_eq_true_iff]; omega
  have dy2 : decide (0 < ys.length) = true := by rw [decide_eq_true_iff]; omega
  have ox := oa x (List.mem_of_getElem? hx)
  have oy := ob y (List.mem_of_getElem? hy)
  have X := Lib.hid (And.intro hx (And.intro hy (And.intro hv (And.intro ox oy))))
  clear hx hy hv ox oy
  have hmx : Try.prog.follows .mixedOrders = true := by kernel_rfl
  have HC := Lib.hid hc
  clear hc
  have H := Lib.hid (And.intro ha (And.intro hb (And.intro oa (And.intro ob (And.intro hf (And.intro hg (And.intro hT (And.intro hr (And.intro hU hq)))))))))
  clear ha hb oa ob hf hg hT hr hU hq
  go_enter Try.func7, Try.ntmps7
  go_wp2_with fail
  refine (few_yes xs (some a) ca _ H.out.1 H.out.2.2.2.2.1.1 H.out.2.2.2.2.1.2).mono ?_
  rintro e w1 ⟨rfl, hb⟩
  have A1 := Lib.hid (hb)
  clear hb
  go_wp2_with fail
  refine (few_yes ys (some b) cb _ (H.out.2.1.below A1.out) H.out.2.2.2.2.2.1.1 H.out.2.2.2.2.2.1.2).mono ?_
  rintro e w2 ⟨rfl, hb⟩
  have A2 := Lib.hid (step0 A1.out hb)
  clear hb
  go_wp2_with fail
  refine (krow_x xs T 0 (some a) ca _ (H.out.1.below A2.out) H.out.2.2.2.2.1.1 H.out.2.2.1 H.out.2.2.2.2.2.2.1 H.out.2.2.2.2.2.2.2.1).mono ?_
  rintro e w3 ⟨rfl, hb⟩
  have A3 := Lib.hid (step0 A2.out hb)
  clear hb
  go_wp2_with fail
  refine (krow_x ys U 0 (some b) cb _ (H.out.2.1.below A3.out) H.out.2.2.2.2.2.1.1 H.out.2.2.2.1 H.out.2.2.2.2.2.2.2.2.1 H.out.2.2.2.2.2.2.2.2.2).mono ?_
  rintro e w4 ⟨rfl, hb⟩
  have A4 := Lib.hid (step0 A3.out hb)
  clear hb
  go_wp2_with fail
  refine (cmpRow_x xs ys c (some a) (some b) ca cb _ H.out.2.2.2.2.1.1 H.out.2.2.2.2.2.1.1 (H.out.1.below A4.out) (H.out.2.1.below A4.out) H.out.2.2.1 H.out.2.2.2.1 HC.out).mono ?_
  rintro e w5 ⟨rfl, hb⟩
  have A5 := Lib.hid (step0 A4.out hb)
  clear hb
  have s5 := H.out.1.below A5.out 0 _ X.out.1
  have t5 := H.out.2.1.below A5.out 0 _ X.out.2.1
  obtain ⟨a', ha, s5⟩ := s5
  obtain rfl : a = a' := by simpa using ha
  obtain ⟨b', hb', t5⟩ := t5
  obtain rfl : b = b' := by simpa using hb'
  have S5 := Lib.hid (And.intro (show At w5 a x from s5) (show At w5 b y from t5))
  clear ha hb' s5 t5
  go_wp2_with fail
  go_region_held3 (fun v => Below w5.heap.size w5 v ∧ v.cell? a = some (.int .i64 x.k) ∧ v.cell? ⟨a.block, a.off + 1, none⟩ = some (.int .i64 x.n) ∧ v.cell? ⟨a.block, a.off + 2, none⟩ = some (.int .u64 x.b) ∧ v.cell? ⟨a.block, a.off + 3, none⟩ = some (.string ⟨x.s.toArray⟩) ∧
      v.cell? b = some (.int .i64 y.k) ∧ v.cell? ⟨b.block, b.off + 1, none⟩ = some (.int .i64 y.n) ∧ v.cell? ⟨b.block, b.off + 2, none⟩ = some (.int .u64 y.b) ∧ v.cell? ⟨b.block, b.off + 3, none⟩ = some (.string ⟨y.s.toArray⟩)) (first | exact two_at (Below.refl _ _).drew S5.out.1 S5.out.2 | exact two_at (step0 ‹Below _ _ _ ∧ _›.1 hb) S5.out.1 S5.out.2)
    (first | (go_at_call 24; refine (vcmp_is _ _ _ _ _ _ _ _ v _ X.out.2.2.2.1.1 X.out.2.2.2.2.1 X.out.2.2.1).mono ?_; rintro e w6 ⟨rfl, hb⟩))
  have A6 := Lib.hid (step0 A5.out (show Below w5.heap.size w5 w6 from ‹Below w5.heap.size w5 w6 ∧ _›.1))
  obtain ⟨a', ha, d0, d1, d2, d3⟩ := H.out.1.below A6.out 0 _ X.out.1
  obtain rfl : a = a' := by simpa using ha
  obtain ⟨b', hb', e0, e1, e2, e3⟩ := H.out.2.1.below A6.out 0 _ X.out.2.1
  obtain rfl : b = b' := by simpa using hb'
  rw [show a.add (0 * 4) = a from rfl] at d0 d1 d2 d3
  rw [show b.add (0 * 4) = b from rfl] at e0 e1 e2 e3
  clear ha hb'
  go_wp2_with fail
  refine (kput_x _ _ _ _ Q _ X.out.2.2.2.1.1 X.out.2.2.2.1.2 Y.out.1 Y.out.2.2.1).mono ?_
  rintro e w7 ⟨rfl, hb⟩
  replace e0 := keep0 e0 hb
  replace e1 := keep0 e1 hb
  replace e2 := keep0 e2 hb
  replace e3 := keep0 e3 hb
  have A7 := Lib.hid (step0 A6.out hb)
  clear hb d0 d1 d2 d3
  go_wp2_with fail
  refine (kput_x _ _ _ _ R _ X.out.2.2.2.2.1 X.out.2.2.2.2.2 Y.out.2.1 Y.out.2.2.2).mono ?_
  rintro e w8 ⟨rfl, hb⟩
  have A8 := Lib.hid (step0 A7.out hb)
  clear hb e0 e1 e2 e3
  go_wp2_with fail
  refine (awake_any _).mono ?_
  rintro e w9 ⟨rfl, hb⟩
  have A9 := Lib.hid (step0 A8.out hb)
  clear hb
  go_wp2
  go_ret
  exact ⟨rfl, A9.out⟩


end Go.Proofs.Ytfemigdghdbbgaa

namespace Go.Proofs.Ytfemigdghdbbgaa
open Go.RowKit

theorem keycodeOrder_walk (xs ys : List V) (ao bo : Option Addr) (ca cb : Nat) (w : World) (ha : Sl w ao xs) (hb : Sl w bo ys) (oa : ∀ x ∈ xs, x.ok) (ob : ∀ x ∈ ys, x.ok) :
    Calls Try.prog 7 #[.slice ao xs.length ca, .slice bo ys.length cb] w fun e w' => e = .returned (.bool true) ∧ Below w.heap.size w w' := by
  by_cases hf0 : ¬ Fw xs
  · exact keycodeOrder_fx xs ys ao bo ca cb w ha hf0
  have hf := Classical.not_not.1 hf0
  by_cases hg0 : ¬ Fw ys
  · exact keycodeOrder_fy xs ys ao bo ca cb w ha hb hf hg0
  have hg := Classical.not_not.1 hg0
  by_cases hr0 : ¬ (re xs = 0)
  · exact keycodeOrder_ex xs ys ao bo ca cb w ha hb oa ob _ _ _ _ hf hg rfl rfl rfl rfl hr0
  have hr := Classical.not_not.1 hr0
  by_cases hq0 : ¬ (re ys = 0)
  · exact keycodeOrder_ey xs ys ao bo ca cb w ha hb oa ob _ _ _ hf hg rfl hr rfl rfl hq0
  have hq := Classical.not_not.1 hq0
  have fx : ∀ x ∈ xs, x.ck = 0 ∧ x.ok := fun x hx => ⟨re_fine hr x hx, oa x hx⟩
  have fy : ∀ x ∈ ys, x.ck = 0 ∧ x.ok := fun x hx => ⟨re_fine hq x hx, ob x hx⟩
  obtain ⟨i1, i2⟩ := rc_iff xs ys fx fy
  rw [← rt_ok hr, ← rt_ok hq] at i1 i2
  obtain ⟨B, f1⟩ : ∃ B, decide (rc xs ys < 0) = B := ⟨_, rfl⟩
  obtain ⟨E, f3⟩ : ∃ E, (rc xs ys == 0) = E := ⟨_, rfl⟩
  have f2 : Op.bytesLess (rt xs) (rt ys) = B := by rw [Vl.less_eq, ← f1]; exact decide_eq_decide.2 i1.symm
  have f4 : (rt xs == rt ys) = E := by rw [← f3, Bool.eq_iff_iff, beq_iff_eq, beq_iff_eq]; exact i2.symm
  cases xs with
  | nil => exact keycodeOrder_nx ys ao bo ca cb w ha hb oa ob _ _ _ _ _ hf hg rfl hr rfl hq rfl f1 f2 f3 f4
  | cons x xs =>
    cases ys with
    | nil => exact keycodeOrder_ny (x :: xs) ao bo ca cb w ha hb oa ob _ _ _ _ _ hf hg rfl hr rfl hq rfl f1 f2 f3 f4 (by simp)
    | cons y ys =>
      obtain ⟨a, rfl, _⟩ := ha 0 x rfl
      obtain ⟨b, rfl, _⟩ := hb 0 y rfl
      by_cases hv : x.vc y = 0
      · exact keycodeOrder_v0 (x :: xs) (y :: ys) a b ca cb w ha hb oa ob _ _ _ _ _ hf hg rfl hr rfl hq rfl f1 f2 f3 f4 x y rfl rfl hv (by simp) (by simp)
      · obtain ⟨cx, ox⟩ := fx x (by simp)
        obtain ⟨cy, oy⟩ := fy y (by simp)
        have np := not_begins cx cy ox oy hv
        by_cases hl : y.pt.length < x.pt.length
        · exact keycodeOrder_vl (x :: xs) (y :: ys) a b ca cb w ha hb oa ob _ _ _ _ _ hf hg rfl hr rfl hq rfl f1 f2 f3 f4 x y _ rfl rfl rfl (by simp) (by simp) hv _ _ cx cy rfl rfl hl
        · exact keycodeOrder_vm (x :: xs) (y :: ys) a b ca cb w ha hb oa ob _ _ _ _ _ hf hg rfl hr rfl hq rfl f1 f2 f3 f4 x y _ rfl rfl rfl (by simp) (by simp) hv _ _ cx cy rfl rfl (by omega) (fun e => np (List.prefix_iff_eq_take.2 e.symm))

end Go.Proofs.Ytfemigdghdbbgaa
