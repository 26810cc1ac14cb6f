/-
  What the document's own Ints answers of two rows that hold the same numbers: true. Conditions: the bounds named in each theorem.
-/
import Derived.Test.YtcehhphmmcoaaaaUtfRefAll
namespace Go.Proofs.Ytcehhphmmcoaaaa
open Go.RowKit

/-- A slice value that holds the numbers zs in a world: it has their length, and where there are any it leads to their cells. -/
def HoldsInts (w : World) (v : Value) (zs : List Int) : Prop :=
  ∃ a c, v = .slice a zs.length c ∧ (zs = [] ∨ ∃ g, a = some ⟨g, 0, none⟩ ∧ ∀ i, i < zs.length → w.cell? ⟨g, i, none⟩ = some (.int .i64 (zs.getD i 0)))

theorem holdsInts_of {w : World} {base : Nat} {e : TypeId} {v : Value} {zs : List Int} (h : w.ownsRow base e 1 v zs.length (zs.map (Value.int .i64))) : HoldsInts w v zs := by
  rcases h.2 with ⟨rfl, h0⟩ | ⟨g, cap, cur, rfl, _⟩
  · have : zs = [] := List.length_eq_zero_iff.1 h0
    subst this
    exact ⟨none, 0, rfl, .inl rfl⟩
  · refine ⟨_, _, rfl, .inr ⟨g, rfl, fun i hi => ?_⟩⟩
    have := h.cells (g := g) rfl i (.int .i64 (zs.getD i 0)) (by simp [List.getElem?_eq_getElem hi])
    rw [← this]
    congr 1
    simp [Addr.add]

set_option maxHeartbeats 400000 in
theorem ints_same (zs : List Int) (u v : Value) (w : World) (hu : HoldsInts w u zs) (hv : HoldsInts w v zs) (hl : zs.length ≤ 8796093022208) :
    Calls Try.prog 15 #[u, v] w fun e w' => e = .returned (.bool true) ∧ Below w.heap.size w w' := by
  obtain ⟨a, c, rfl, ha⟩ := hu
  obtain ⟨b, d, rfl, hb⟩ := hv
  by_cases hz : zs = []
  · subst hz
    clear ha hb
    go_enter Try.func15, Try.ntmps15
    go_wp2
    refine wp_loop_rounds 1 ?_
    rw [rounds_succ]
    go_wp2
    go_ret
    exact ⟨rfl, Below.refl _ _⟩
  obtain ⟨g, rfl, hg⟩ := ha.resolve_left hz
  obtain ⟨g', rfl, hg'⟩ := hb.resolve_left hz
  have Hg := Lib.hid hg
  have Hg' := Lib.hid hg'
  clear ha hb hz hg hg'
  generalize hn : zs.length = n at *
  have Hn := Lib.hid hn
  clear hn
  go_enter Try.func15, Try.ntmps15
  go_wp2
  go_loopw [5] (fun i wr => ∃ k d : Nat, i = .int .i64 k ∧ k ≤ n ∧ wr = w.drewN d) (fun i _ => n - (intOf i).toNat)
  case atStart => exact ⟨0, 0, rfl, Nat.zero_le _, rfl⟩
  case round =>
    obtain ⟨k, d, rfl, hk, rfl⟩ := hrel
    by_cases hlt : k < n
    · have c1 : w.cell? ⟨g, k, none⟩ = some (.int .i64 (zs.getD k 0)) := Hg.out k hlt
      have c2 : w.cell? ⟨g', k, none⟩ = some (.int .i64 (zs.getD k 0)) := Hg'.out k hlt
      generalize zs.getD k 0 = z at *
      have hlt' : (k : Int) < (n : Int) := by omega
      go_wp2_with fail
      go_quiet (fail)
      go_wp2_with fail
      go_roundw
      case rel => exact ⟨k + 1, _, by go_num, by omega, rfl⟩
      case measure => simp [intOf]; omega
    · go_wp2
      go_ret
      exact ⟨rfl, below_drewN (Below.refl _ _) _⟩

end Go.Proofs.Ytcehhphmmcoaaaa
