/-
  What the document's escaped, Put and Row answer. Conditions: the bounds named in each theorem.
  What the document's Row answers. Conditions: the bounds named in each theorem.
-/
import Derived.Test.YtakpieiafoappaaDoorKcRows
import Derived.Test.YtakpieiafoappaaDoorVlRefCheck
import Derived.Test.YtakpieiafoappaaDoorUtfCount
namespace Go.Proofs.YtakpieiafoappaaDoor
open Go.RowKit

section
variable {ops : Array Oper} {rest : List Oper} {o : Oper} {a : Act} {Q : Exit → Act → World → Prop}
/-- Two zeros more. -/
theorem app00 (hgd : o.guard = none) (s x : Operand) (ho : o.op = .call { callee := .builtin .append, args := #[s, x], argTypes := #[50, 50] })
    (base : Nat) (v : Value) (l : List UInt8) (w0 : World) (hs : a.eval s = v) (hown : Ow w0 base v l)
    (hx : a.eval x = .slice (some ⟨w0.heap.size, 0, none⟩) 2 2) (hlen : l.length ≤ 1000000000) (hb : base ≤ w0.heap.size)
    (h : ∀ v' w', Ow w' base v' (l ++ [0, 0]) → Below base w0 w' → wpList Tryd.prog ops Q rest (a.put o.dst v') w') : wpList Tryd.prog ops Q (o :: rest) a (w0.alloc (.cells #[.int .u8 0, .int .u8 0] 5)) := by
  obtain ⟨i0, hi, hz0, hz1, hz2⟩ := info_parts Tryd.infoU8
  refine wpList_append_own _ hgd s x 50 ho base 5 i0 (.int .u8 0) 1 1 Tryd.underlying50 hi hz0 hz1 hz2 rfl (by decide) v _ _ hs (hown.alloc _) ⟨w0.heap.size, 0, none⟩ 2 2 [.int .u8 0, .int .u8 0] hx rfl ?_ ?_ (by unfold maxLen; omega) (by omega) (by simp; omega) ?_
  · intro j u hj
    match j, hj with
    | 0, hj => simp at hj; subst hj; simp [Addr.add]
    | 1, hj => simp at hj; subst hj; simp [Addr.add]
    | (j + 2), hj => simp at hj
  · intro u hu; simp at hu; subst hu; rfl
  · intro v' w' hown' hgrow _
    refine h v' w' ?_ (((Below.refl base w0).alloc hb _).grown hgrow (by simp; omega) (fun k hk => (World.ownsRow.lt hown k hk).1))
    unfold Ow
    rw [List.length_append, List.map_append]; exact hown'
end

theorem bv_byte (x : UInt8) : Value.int .u8 (x.toNat : Int) = bv x := rfl

theorem ow_new (W : World) (c : UInt8) : Ow (W.alloc (.cells #[bv c] 5)) 0 (.slice (some ⟨W.heap.size, 0, none⟩) 1 1) [c] :=
  ⟨rfl, .inr ⟨W.heap.size, 1, #[bv c], rfl, Nat.zero_le _, World.alloc_heap_new W _, Nat.le_refl _, by decide, rfl, rfl⟩⟩
/-- A byte alone, made a text. -/
theorem conv1 (W : World) (c : UInt8) (x : Int) (h : x = (c.toNat : Int)) : (convert 50 9 (.slice (some ⟨W.heap.size, 0, none⟩) 1 1)).run Tryd.prog (W.alloc (.cells #[.int .u8 x] 5)) = .ok (.string ⟨[c].toArray⟩) (W.alloc (.cells #[.int .u8 x] 5)) := by
  subst h; exact conv_own _ (ow_new W c)

theorem cat_list (a b : List UInt8) : ByteArray.mk a.toArray ++ ⟨b.toArray⟩ = ⟨(a ++ b).toArray⟩ := by
  apply ByteArray.ext; simp

end Go.Proofs.YtakpieiafoappaaDoor

namespace Go.Proofs.YtakpieiafoappaaDoor
open Go.RowKit

end Go.Proofs.YtakpieiafoappaaDoor
