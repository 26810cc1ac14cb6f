/-
  Rows of texts in memory: what a slice of texts holds, one that a call owns, a text more, one that came in as an argument. Conditions: the bounds named in each theorem.
-/
import Derived.Test.YtjmkodlmbkjegaaNmPlain
import Derived.LoopN
import Derived.Laws.OwnMore
import Derived.OwnWalk
import Derived.Deep.Slices
import Derived.Deep.Fields
import Derived.Carry
import Derived.ProofKit
import Derived.OpenShut
import Derived.ChangeOld
import Derived.Lib.SmallJoins
import Derived.Maps.OwnSet
import Derived.Maps.AppendAt
namespace Go.Proofs.Ytjmkodlmbkjegaa
open Go.RowKit Nm

theorem below1 (w : World) (o : Obj) : Below w.heap.size w (w.alloc o) := (Below.refl _ w).alloc (Nat.le_refl _) o
theorem below_drewN {B : Nat} {a w : World} (n : Nat) (h : Below B a w) : Below B a (w.drewN n) := ⟨h.os, h.tape, h.output, h.size, h.block⟩
theorem step1 {w a v : World} {o : Obj} (h : Below w.heap.size w a) (g : Below (a.alloc o).heap.size (a.alloc o) v) : Below w.heap.size w v := (h.alloc h.size o).trans (g.mono (h.alloc h.size o).size)
theorem step0 {w a v : World} (h : Below w.heap.size w a) (g : Below a.heap.size a v) : Below w.heap.size w v := h.trans (g.mono h.size)
theorem cell_lt {w : World} {p : Addr} {x : Value} (h : w.cell? p = some x) : p.block < w.heap.size := by
  rcases Nat.lt_or_ge p.block w.heap.size with e | e
  · exact e
  · exfalso
    unfold World.cell? at h
    simp [Array.getElem?_eq_none e] at h
theorem keep0 {a v : World} {p : Addr} {x : Value} (c : a.cell? p = some x) (h : Below a.heap.size a v) : v.cell? p = some x := (h.cell (cell_lt c)).trans c
theorem add_none (g j : Nat) : (⟨g, 0, none⟩ : Addr).add j = ⟨g, j, none⟩ := by
  unfold Addr.add
  split
  · rename_i h; rw [h]
  · simp

/-- A text as a value. -/
def tv (s : S) : Value := .string ⟨s.toArray⟩

/-- A slice of texts. -/
def SlS (W : World) (ao : Option Addr) (t : List S) : Prop := ∀ (i : Nat) (x : S), t[i]? = some x → ∃ a, ao = some a ∧ W.cell? (a.add i) = some (.string ⟨x.toArray⟩)
theorem SlS.below {W W' : World} {ao : Option Addr} {t : List S} (h : SlS W ao t) (hb : Below W.heap.size W W') : SlS W' ao t := by
  intro i x hi
  obtain ⟨a, ha, h0⟩ := h i x hi
  exact ⟨a, ha, keep0 h0 hb⟩
theorem SlS.nil (W : World) (ao : Option Addr) : SlS W ao [] := fun i x h => by simp at h

theorem Try.infoS : (Try.prog.info? 9).map (fun i => (i.zero, i.size, i.bytes)) = some (some (.string ⟨#[]⟩), 1, 16) := by kernel_rfl

/-- A row of texts that a call owns. -/
def OwS (w : World) (base : Nat) (v : Value) (l : List S) : Prop := w.ownsRow base 9 1 v l.length (l.map tv)
theorem ows_nil (w : World) (base : Nat) : OwS w base (.slice none 0 0) [] := World.ownsRow_nil _ _ _ _
theorem OwS.keep {w w' : World} {b : Nat} {v : Value} {l : List S} (h : OwS w b v l) (hb : Below w.heap.size w w') : OwS w' b v l := by
  refine ⟨h.1, ?_⟩
  rcases h.2 with hn | ⟨g, cap, cur, hv, hbg, hg, rest⟩
  · exact .inl hn
  · exact .inr ⟨g, cap, cur, hv, hbg, (hb.block g (Array.getElem?_eq_some_iff.1 hg).1).trans hg, rest⟩
theorem OwS.base {w : World} {b b' : Nat} {v : Value} {l : List S} (h : OwS w b v l) (hb : b' ≤ b) : OwS w b' v l := by
  refine ⟨h.1, ?_⟩
  rcases h.2 with hn | ⟨g, cap, cur, hv, hbg, rest⟩
  · exact .inl hn
  · exact .inr ⟨g, cap, cur, hv, Nat.le_trans hb hbg, rest⟩
theorem OwS.sl {w : World} {b : Nat} {v : Value} {l : List S} (h : OwS w b v l) : ∃ ao cap, v = .slice ao l.length cap ∧ SlS w ao l := by
  have h' := h
  rcases h.2 with ⟨hv, hn⟩ | ⟨g, cap, cur, hv, _⟩
  · have e := List.eq_nil_of_length_eq_zero hn
    subst e
    exact ⟨none, 0, hv, SlS.nil _ _⟩
  · refine ⟨some ⟨g, 0, none⟩, cap, hv, fun i x hi => ⟨⟨g, 0, none⟩, rfl, ?_⟩⟩
    exact World.ownsRow.cells h' (g := g) (by rw [hv]; rfl) i _ (by rw [List.getElem?_map, hi]; rfl)

section
variable {ops : Array Oper} {rest : List Oper} {o : Oper} {a : Act} {Q : Exit → Act → World → Prop}
/-- A text more. -/
theorem appS (hgd : o.guard = none) (s x : Operand) (ho : o.op = .call { callee := .builtin .append, args := #[s, x], argTypes := #[27, 27] })
    (base : Nat) (v : Value) (l : List S) (b : S) (w0 : World) (hs : a.eval s = v) (hown : OwS w0 base v l)
    (G : Nat) (hG : w0.heap.size = G) (hx : a.eval x = .slice (some ⟨G, 0, none⟩) 1 1) (hlen : l.length ≤ 1000000000) (hb : base ≤ w0.heap.size)
    (h : ∀ v' w', OwS w' base v' (l ++ [b]) → Below base w0 w' → wpList Try.prog ops Q rest (a.put o.dst v') w') : wpList Try.prog ops Q (o :: rest) a (w0.alloc (.cells #[.string ⟨b.toArray⟩] 9)) := by
  subst hG
  obtain ⟨i0, hi, hz0, hz1, hz2⟩ := info_parts Try.infoS
  refine wpList_append_own _ hgd s x 27 ho base 9 i0 _ 1 16 Try.underlying27 hi hz0 hz1 hz2 rfl (by decide) v _ _ hs (World.ownsRow.alloc hown _) ⟨w0.heap.size, 0, none⟩ 1 1 [tv b] hx rfl ?_ ?_ (by unfold maxLen; omega) (by omega) (by simp; omega) ?_
  · intro j u hj
    match j, hj with
    | 0, hj => simp [tv] at hj; subst hj; simp [Addr.add]
    | (j + 1), hj => simp at hj
  · intro u hu; simp at hu; subst hu; rfl
  · intro v' w' hown' hgrow _
    refine h v' w' ?_ (((Below.refl base w0).alloc hb _).grown hgrow (by simp; omega) (fun k hk => (World.ownsRow.lt hown k hk).1))
    unfold OwS
    rw [List.length_append, List.map_append]
    exact hown'
end

section
open Go.ChangeShapes Go.WideShapes Go.ChangeAt Go.Joins Go.Deep
variable {H : Type} {enc : TypeId × Value → H} {W : World}
/-- A slice of texts as an argument. -/
theorem open_texts {ao : Option Addr} {len cap : Nat} {d : DataW H} {p : List MemPlace} (h : DataW.Trod enc Try.prog W 0 (fun _ => true) true 27 (.slice ao len cap) d p) :
    ∃ t : List S, len = t.length ∧ SlS W ao t := by
  obtain ⟨fuel, hf⟩ := h
  rcases open_slice Try.underlying27 hf with ⟨hcs, _⟩ | ⟨a, l, c, m, n, D, Pl, hcs, _, hl, _, hm, _, hi⟩
  · simp [Value.cells] at hcs
    obtain ⟨rfl, rfl, rfl⟩ := hcs
    exact ⟨[], rfl, SlS.nil _ _⟩
  · simp [Value.cells] at hcs
    obtain ⟨rfl, rfl, rfl⟩ := hcs
    have hlm : len ≤ m := by rw [hm]; simpa using hl
    have one : ∀ i, i < len → ∃ x : S, W.cell? (a.add i) = some (.string ⟨x.toArray⟩) := fun i hil => by
      obtain ⟨cs, hc, ht⟩ := hi i (by omega)
      rw [show Try.prog.cellsOf 9 = 1 from by kernel_rfl, Nat.mul_one] at hc
      obtain ⟨x, e0, _, _⟩ := DataW.trod_string Try.underlying9 ht
      subst e0
      have := (World.cells?_some hc).2.2 0 (by decide)
      refine ⟨x.data.toList, ?_⟩
      cases x
      exact this
    have all : ∀ n, n ≤ len → ∃ t : List S, t.length = n ∧ ∀ (i : Nat) (x : S), t[i]? = some x → W.cell? (a.add i) = some (.string ⟨x.toArray⟩) := by
      intro n
      induction n with
      | zero => exact fun _ => ⟨[], rfl, fun i x h => by simp at h⟩
      | succ n ih =>
        intro hn
        obtain ⟨t, ht, hx⟩ := ih (by omega)
        obtain ⟨y, hy⟩ := one n (by omega)
        refine ⟨t ++ [y], by simp [ht], fun i x hi => ?_⟩
        by_cases g : i < n
        · rw [List.getElem?_append_left (by omega)] at hi
          exact hx i x hi
        · rw [List.getElem?_append_right (by omega)] at hi
          have e : i = n := by
            have := (List.getElem?_eq_some_iff.1 hi).1
            simp at this
            omega
          subst e
          rw [ht, Nat.sub_self] at hi
          obtain rfl : y = x := by simpa using hi
          exact hy
    obtain ⟨t, ht, hx⟩ := all len (Nat.le_refl _)
    exact ⟨t, ht.symm, fun i x hix => ⟨a, rfl, hx i x hix⟩⟩
end

end Go.Proofs.Ytjmkodlmbkjegaa
