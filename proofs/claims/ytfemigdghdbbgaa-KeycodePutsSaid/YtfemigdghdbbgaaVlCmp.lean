/-
  What Cmp answers of any two values; it writes nothing that was there. Condition: the bounds of Bits.
-/
import Derived.Test.YtfemigdghdbbgaaVlRefCmp
import Derived.Test.YtfemigdghdbbgaaVlOr
import Derived.Deep.RegionHeld3
import Derived.Deep.DrawnRows
namespace Go.Proofs.Ytfemigdghdbbgaa
open Go.RowKit
attribute [local go_sem ↓] Go.wp_at_zero Go.wp_at_succ

/-- Two boxes. -/
theorem two_keep {w1 w2 : World} {g h : Nat} {a b c d a' b' c' d' : Value} (hb : Below w1.heap.size w1 w2) (hg : g < w1.heap.size) (hh : h < w1.heap.size)
    (H : w1.cell? ⟨g, 0, none⟩ = some a ∧ w1.cell? ⟨g, 1, none⟩ = some b ∧ w1.cell? ⟨g, 2, none⟩ = some c ∧ w1.cell? ⟨g, 3, none⟩ = some d ∧
      w1.cell? ⟨h, 0, none⟩ = some a' ∧ w1.cell? ⟨h, 1, none⟩ = some b' ∧ w1.cell? ⟨h, 2, none⟩ = some c' ∧ w1.cell? ⟨h, 3, none⟩ = some d') :
    w2.cell? ⟨g, 0, none⟩ = some a ∧ w2.cell? ⟨g, 1, none⟩ = some b ∧ w2.cell? ⟨g, 2, none⟩ = some c ∧ w2.cell? ⟨g, 3, none⟩ = some d ∧
      w2.cell? ⟨h, 0, none⟩ = some a' ∧ w2.cell? ⟨h, 1, none⟩ = some b' ∧ w2.cell? ⟨h, 2, none⟩ = some c' ∧ w2.cell? ⟨h, 3, none⟩ = some d' := by
  rw [hb.cell (p := ⟨g, 0, none⟩) hg, hb.cell (p := ⟨g, 1, none⟩) hg, hb.cell (p := ⟨g, 2, none⟩) hg, hb.cell (p := ⟨g, 3, none⟩) hg,
    hb.cell (p := ⟨h, 0, none⟩) hh, hb.cell (p := ⟨h, 1, none⟩) hh, hb.cell (p := ⟨h, 2, none⟩) hh, hb.cell (p := ⟨h, 3, none⟩) hh]
  exact H

theorem below_two {w v : World} {o p q : Obj} (h : Below ((w.alloc o).alloc p).drew.heap.size ((w.alloc o).alloc p).drew v) : Below w.heap.size w (v.alloc q) :=
  have b2 := below2s w o p
  have b : Below w.heap.size w v := (show Below w.heap.size w ((w.alloc o).alloc p).drew from ⟨b2.os, b2.tape, b2.output, b2.size, b2.block⟩).trans (h.mono (by simp <;> omega))
  b.alloc b.size q

set_option maxHeartbeats 8000000 in
set_option maxRecDepth 100000 in
theorem vcmp_is (k n b : Int) (s : List UInt8) (k' n' b' : Int) (s' : List UInt8) (r : Int) (w : World) (hx : Rl.U b) (hy : Rl.U b') (h : Vl.vc k n b s k' n' b' s' = r) :
    Calls Try.prog 24 #[.agg #[.int .i64 k, .int .i64 n, .int .u64 b, .string ⟨s.toArray⟩], .agg #[.int .i64 k', .int .i64 n', .int .u64 b', .string ⟨s'.toArray⟩]] w fun e w' => e = .returned (.int .i64 r) ∧ Below w.heap.size w w' := by
  have H := Lib.hid h
  have U1 := Lib.hid hx
  have U2 := Lib.hid hy
  clear h hx hy
  go_enter Try.func24, Try.ntmps24
  go_wp2_with fail
  go_region_held3 (fun w' => w'.cell? ⟨w.heap.size, 0, none⟩ = some (.int .i64 k) ∧ w'.cell? ⟨w.heap.size, 1, none⟩ = some (.int .i64 n) ∧ w'.cell? ⟨w.heap.size, 2, none⟩ = some (.int .u64 b) ∧ w'.cell? ⟨w.heap.size, 3, none⟩ = some (.string ⟨s.toArray⟩) ∧
      w'.cell? ⟨w.heap.size + 1, 0, none⟩ = some (.int .i64 k') ∧ w'.cell? ⟨w.heap.size + 1, 1, none⟩ = some (.int .i64 n') ∧ w'.cell? ⟨w.heap.size + 1, 2, none⟩ = some (.int .u64 b') ∧ w'.cell? ⟨w.heap.size + 1, 3, none⟩ = some (.string ⟨s'.toArray⟩))
    (first | go_keep | (refine two_keep hb (by simp <;> omega) (by simp <;> omega) ?_; go_keep))
    (first
      | (go_at_call_of 40 (Value.int .i64 k); refine (compareInt_any k k' _).mono ?_; rintro e w'' ⟨rfl, rfl⟩)
      | (go_at_call_of 40 (Value.int .i64 n); refine (compareInt_any n n' _).mono ?_; rintro e w'' ⟨rfl, rfl⟩)
      | (go_at_call 41; refine (cmp_any b b' _ U1.out U2.out).mono ?_; rintro e w'' ⟨rfl, hb⟩)
      | (go_at_call 42; refine (compareStr_any s s' _).mono ?_; rintro e w'' ⟨rfl, rfl⟩)
      | (go_at_call 39; refine (or_is _ (Vl.ic k k') (Vl.ic n n') (Rl.cp b b') (Vl.sc s s') r _ ?_ ?_ ?_ ?_ H.out).mono ?_; simp; simp; simp; simp; rintro e w'' ⟨rfl, rfl⟩))
  go_wp2
  go_ret
  exact ⟨rfl, below_two hb⟩

end Go.Proofs.Ytfemigdghdbbgaa
