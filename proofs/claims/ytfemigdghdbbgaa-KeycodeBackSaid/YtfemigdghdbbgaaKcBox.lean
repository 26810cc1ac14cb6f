/-
  Boxes beside a row that is written on: what they hold behind an append and a store. Conditions: the bounds named in each theorem.
-/
import Derived.RangeFuncBox
import Derived.Test.YtfemigdghdbbgaaKcRow
namespace Go.Proofs.Ytfemigdghdbbgaa
open Go.RowKit

/-- A block of cells of a type. -/
def Blk (W : World) (B : Nat) (cs : Array Value) (t : TypeId) : Prop := W.heap[B]? = some (.cells cs t (0, 0))
theorem Blk.lt {W : World} {B : Nat} {cs : Array Value} {t : TypeId} (h : Blk W B cs t) : B < W.heap.size := (Array.getElem?_eq_some_iff.1 h).1
theorem Blk.cell {W : World} {B : Nat} {cs : Array Value} {t : TypeId} (h : Blk W B cs t) (i : Nat) : W.cell? ⟨B, i, none⟩ = cs[i]? := by
  simp [World.cell?, show W.heap[B]? = _ from h]
theorem Blk.new (W : World) (cs : Array Value) (t : TypeId) : Blk (W.alloc (.cells cs t)) W.heap.size cs t := World.alloc_heap_new W _
theorem Blk.kept {W W' : World} {row : Option Nat} {B : Nat} {cs : Array Value} {t : TypeId} (h : Blk W B cs t) (hg : W.grownBy W' row) (hne : some B ≠ row) : Blk W' B cs t := (hg.block B h.lt hne).trans h
theorem Blk.alloc {W : World} {B : Nat} {cs : Array Value} {t : TypeId} (h : Blk W B cs t) (o : Obj) : Blk (W.alloc o) B cs t := h.kept (World.grownBy_alloc W o none) (by simp)
theorem Blk.below {W W' : World} {B : Nat} {cs : Array Value} {t : TypeId} (h : Blk W B cs t) (hb : Below W.heap.size W W') : Blk W' B cs t := (hb.block B h.lt).trans h
theorem Blk.below' {W W' : World} {B n : Nat} {cs : Array Value} {t : TypeId} (h : Blk W B cs t) (hb : Below n W W') (hn : B < n) : Blk W' B cs t := (hb.block B hn).trans h
theorem Blk.other {W : World} {B B' : Nat} {cs : Array Value} {t : TypeId} (h : Blk W B cs t) (hne : B ≠ B') (u : Value) : Blk (W.setCell ⟨B', 0, none⟩ u) B cs t := h.kept (grownBy_setCell' W B' u) (fun e => hne (by cases e; rfl))
theorem Blk.not_row {W : World} {B : Nat} {cs : Array Value} {t : TypeId} (h : Blk W B cs t) (ht : t ≠ 5) {base : Nat} {v : Value} {l : List UInt8} (hr : Ow W base v l) : some B ≠ v.ownBlock := by
  rcases hr.2 with ⟨rfl, _⟩ | ⟨g, cap, cur, rfl, _, hgb, _⟩
  · simp [Value.ownBlock]
  · intro e'
    obtain rfl : B = g := by simpa [Value.ownBlock] using e'
    have := (show W.heap[B]? = _ from h).symm.trans hgb
    simp at this
    exact ht this.2
theorem Blk.boxed {W : World} {B : Nat} {v : Value} {t : TypeId} (h : Blk W B #[v] t) : Boxed W B t v := h

theorem Ow.succ {w : World} {b : Nat} {v : Value} {l : List UInt8} {x : UInt8} (h : Ow w b v (l ++ [x])) : ∃ g cap, v = .slice (some ⟨g, 0, none⟩) (l.length + 1) cap := by
  rcases h.shape with ⟨_, e⟩ | ⟨g, cap, e⟩
  · simp at e
  · exact ⟨g, cap, by simpa using e⟩
theorem Ow.sl {w : World} {b : Nat} {v : Value} {l : List UInt8} (h : Ow w b v l) : ∃ a m c, v = .slice a m c := by
  rcases h.shape with ⟨e, _⟩ | ⟨g, cap, e⟩
  · exact ⟨_, _, _, e⟩
  · exact ⟨_, _, _, e⟩
theorem Ow.kept {w w' : World} {b : Nat} {v : Value} {l : List UInt8} (h : Ow w b v l) {B : Nat} {cs : Array Value} {t : TypeId} (hB : Blk w B cs t) (ht : t ≠ 5) (hg : w.grownBy w' (some B)) : Ow w' b v l :=
  World.ownsRow.kept h hg (.inr (hB.not_row ht h).symm)

/-- What a row written on, and then stored back into its box, leaves. -/
theorem wrote {W w1 : World} {base B : Nat} {v v' : Value} {l l' : List UInt8} (hv : Blk W B #[v] 53) (hrow : Ow W base v l) (hb : base ≤ W.heap.size) (hB : base ≤ B) (hown : Ow w1 base v' l') (hg : W.grownBy w1 v.ownBlock) :
    Blk w1 B #[v] 53 ∧ Blk (w1.setCell ⟨B, 0, none⟩ v') B #[v'] 53 ∧ Ow (w1.setCell ⟨B, 0, none⟩ v') base v' l' ∧ Below base W (w1.setCell ⟨B, 0, none⟩ v') ∧ KeepsOthers W (w1.setCell ⟨B, 0, none⟩ v') ∧
      ∀ (C : Nat) (cs : Array Value) (t : TypeId), C ≠ B → t ≠ 5 → Blk W C cs t → Blk w1 C cs t ∧ Blk (w1.setCell ⟨B, 0, none⟩ v') C cs t := by
  have h1 : Blk w1 B #[v] 53 := hv.kept hg (hv.not_row (by decide) hrow)
  have hlt : ∀ j, v.ownBlock = some j → base ≤ j := fun j hj => (World.ownsRow.lt hrow j hj).1
  refine ⟨h1, Boxed.set v' h1.boxed, hown.kept h1 (by decide) (grownBy_setCell' w1 B v'), ?_, ?_, ?_⟩
  · exact ((Below.refl base W).grown hg hb hlt).setCell (p := ⟨B, 0, none⟩) hB v'
  · refine (KeepsOthers.of_grownBy hg fun j o ej hj => ?_).trans (KeepsOthers.setCell _ _ _)
    rcases hrow.2 with ⟨rfl, _⟩ | ⟨g, cap, cur, rfl, _, hgb, _⟩
    · simp [Value.ownBlock] at ej
    · obtain rfl : g = j := by simpa [Value.ownBlock] using ej
      rw [hgb] at hj; cases hj; rfl
  · intro C cs t hne ht hC
    have hC1 := hC.kept hg (hC.not_row ht hrow)
    exact ⟨hC1, hC1.other hne v'⟩

section
variable {ops : Array Oper} {rest : List Oper} {o : Oper} {a : Act} {Q : Exit → Act → World → Prop}
/-- A byte more: which blocks are kept. -/
theorem app1g (hgd : o.guard = none) (s x : Operand) (ho : o.op = .call { callee := .builtin .append, args := #[s, x], argTypes := #[53, 53] })
    (base : Nat) (v : Value) (l : List UInt8) (b : UInt8) (c : Int) (w0 : World) (hc : Value.int .u8 c = bv b) (hs : a.eval s = v) (hown : Ow w0 base v l)
    (hx : a.eval x = .slice (some ⟨w0.heap.size, 0, none⟩) 1 1) (hlen : l.length ≤ 1000000000) (hb : base ≤ w0.heap.size)
    (h : ∀ v' w', Ow w' base v' (l ++ [b]) → (w0.alloc (.cells #[.int .u8 c] 5)).grownBy w' v.ownBlock → wpList Try.prog ops Q rest (a.put o.dst v') w') : wpList Try.prog ops Q (o :: rest) a (w0.alloc (.cells #[.int .u8 c] 5)) := by
  obtain ⟨i0, hi, hz0, hz1, hz2⟩ := info_parts Try.infoU8
  refine wpList_append_own _ hgd s x 53 ho base 5 i0 (.int .u8 0) 1 1 Try.underlying53 hi hz0 hz1 hz2 rfl (by decide) v _ _ hs (hown.alloc _) ⟨w0.heap.size, 0, none⟩ 1 1 [.int .u8 c] hx rfl ?_ ?_ (by unfold maxLen; omega) (by omega) (by simp; omega) ?_
  · intro j u hj
    match j, hj with
    | 0, hj => simp at hj; subst hj; simp [Addr.add]
    | (j + 1), hj => simp at hj
  · intro u hu; simp at hu; subst hu; rfl
  · intro v' w' hown' hgrow _
    refine h v' w' ?_ hgrow
    unfold Ow
    rw [List.length_append, List.map_append, List.map_singleton, ← hc]; exact hown'
end

end Go.Proofs.Ytfemigdghdbbgaa
