/-
  Rows of bytes that a call owns: a byte more, a text more, made a text; in a plain walk and in a round. Conditions: the bounds named in each theorem.
-/
import Derived.Test.YtfemigdghdbbgaaBase
import Derived.Test.YtfemigdghdbbgaaKcPlain
import Derived.Below
import Derived.Lib.Hide
import Derived.Lib.AppendStr
import Derived.LoopN
import Derived.Laws.IdiomStrings
import Derived.Laws.AppendOwn
import Derived.OwnWalkIn
namespace Go.Proofs.Ytfemigdghdbbgaa
open Go.RowKit

theorem ret_str {a b : List UInt8} (h : a = b) : Ending.returned (.string ⟨a.toArray⟩) = .returned (.string ⟨b.toArray⟩) := by rw [h]
theorem ret_si {a b : List UInt8} {c d : Int} (h : a = b) (g : c = d) : Ending.returned (.tuple #[.string ⟨a.toArray⟩, .int .i64 c]) = .returned (.tuple #[.string ⟨b.toArray⟩, .int .i64 d]) := by rw [h, g]

theorem Try.infoU8 : (Try.prog.info? 5).map (fun i => (i.zero, i.size, i.bytes)) = some (some (.int .u8 0), 1, 1) := by kernel_rfl

/-- A byte as a cell. -/
def bv (b : UInt8) : Value := .int .u8 (b.toNat : Int)

/-- A row of bytes that a call owns. -/
def Ow (w : World) (base : Nat) (v : Value) (l : List UInt8) : Prop := w.ownsRow base 5 1 v l.length (l.map bv)

theorem ow_nil (w : World) (base : Nat) : Ow w base (.slice none 0 0) [] := World.ownsRow_nil _ _ _ _
theorem Ow.base {w : World} {b b' : Nat} {v : Value} {l : List UInt8} (h : Ow w b v l) (hb : b' ≤ b) : Ow w b' v l := by
  refine ⟨h.1, ?_⟩
  rcases h.2 with hn | ⟨g, cap, cur, hv, hbg, rest⟩
  · exact .inl hn
  · exact .inr ⟨g, cap, cur, hv, Nat.le_trans hb hbg, rest⟩
theorem Ow.keep {w w' : World} {b : Nat} {v : Value} {l : List UInt8} (h : Ow w b v l) (hb : Below w.heap.size w w') : Ow w' b v l := by
  refine ⟨h.1, ?_⟩
  rcases h.2 with hn | ⟨g, cap, cur, hv, hbg, hg, rest⟩
  · exact .inl hn
  · exact .inr ⟨g, cap, cur, hv, hbg, (hb.block g (Array.getElem?_eq_some_iff.1 hg).1).trans hg, rest⟩
theorem Ow.alloc {w : World} {b : Nat} {v : Value} {l : List UInt8} (h : Ow w b v l) (o : Obj) : Ow (w.alloc o) b v l := World.ownsRow.alloc h o
/-- Such a row is nil, or is written out. -/
theorem Ow.shape {w : World} {b : Nat} {v : Value} {l : List UInt8} (h : Ow w b v l) : (v = .slice none 0 0 ∧ l = []) ∨ ∃ g cap, v = .slice (some ⟨g, 0, none⟩) l.length cap := by
  rcases h.2 with ⟨hv, hn⟩ | ⟨g, cap, cur, hv, _⟩
  · exact .inl ⟨hv, List.eq_nil_of_length_eq_zero hn⟩
  · exact .inr ⟨g, cap, hv⟩

/-- It, made a text. -/
theorem conv_own {w : World} {base : Nat} {v : Value} (l : List UInt8) (h : Ow w base v l) :
    (convert 53 9 v).run Try.prog w = .ok (.string ⟨l.toArray⟩) w := by
  have h' := h
  rcases h.2 with ⟨rfl, h0⟩ | ⟨g, cap, cur, rfl, _, _, _, _, _, _⟩
  · have e := List.eq_nil_of_length_eq_zero h0
    subst e
    simp [convert, run_underlying Try.underlying53, run_underlying Try.underlying5, run_underlying Try.underlying9, go_sem, Conv.bytesToString]
    rfl
  · refine run_convert_bytes_back _ _ _ 5 _ _ _ Try.underlying53 Try.underlying5 Try.underlying9 ?_
    intro j hj
    refine World.ownsRow.cells h' rfl j _ ?_
    simp [List.getElem?_eq_getElem hj, bv]

theorem bv_of (n : Int) (h0 : 0 ≤ n) (h1 : n < 256) : Value.int .u8 n = bv (UInt8.ofNat n.toNat) := by
  unfold bv
  rw [UInt8.toNat_ofNat']
  congr 1
  omega

section
variable {ops : Array Oper} {rest : List Oper} {o : Oper} {a : Act} {Q : Exit → Act → World → Prop}

/-- A byte more. -/
theorem app1 (hgd : o.guard = none) (s x : Operand) (ho : o.op = .call { callee := .builtin .append, args := #[s, x], argTypes := #[53, 53] })
    (base : Nat) (v : Value) (l : List UInt8) (b : UInt8) (c : Int) (w0 : World) (hc : Value.int .u8 c = bv b) (hs : a.eval s = v) (hown : Ow w0 base v l)
    (hx : a.eval x = .slice (some ⟨w0.heap.size, 0, none⟩) 1 1) (hlen : l.length ≤ 1000000000) (hb : base ≤ w0.heap.size)
    (h : ∀ v' w', Ow w' base v' (l ++ [b]) → Below base w0 w' → wpList Try.prog ops Q rest (a.put o.dst v') w') : wpList Try.prog ops Q (o :: rest) a (w0.alloc (.cells #[.int .u8 c] 5)) := by
  obtain ⟨i0, hi, hz0, hz1, hz2⟩ := info_parts Try.infoU8
  refine wpList_append_own _ hgd s x 53 ho base 5 i0 (.int .u8 0) 1 1 Try.underlying53 hi hz0 hz1 hz2 rfl (by decide) v _ _ hs (hown.alloc _) ⟨w0.heap.size, 0, none⟩ 1 1 [.int .u8 c] hx rfl ?_ ?_ (by unfold maxLen; omega) (by omega) (by simp; omega) ?_
  · intro j u hj
    match j, hj with
    | 0, hj => simp at hj; subst hj; simp [Addr.add]
    | (j + 1), hj => simp at hj
  · intro u hu; simp at hu; subst hu; rfl
  · intro v' w' hown' hgrow _
    refine h v' w' ?_ (((Below.refl base w0).alloc hb _).grown hgrow (by simp; omega) (fun k hk => (World.ownsRow.lt hown k hk).1))
    unfold Ow
    rw [List.length_append, List.map_append, List.map_singleton, ← hc]; exact hown'

/-- A byte more, in a round. -/
theorem app1In {F : Fence} {n : Nat} (hgd : o.guard = none) (s x : Operand) (ho : o.op = .call { callee := .builtin .append, args := #[s, x], argTypes := #[53, 53] })
    (base : Nat) (v : Value) (l : List UInt8) (b : UInt8) (c : Int) (w0 : World) (hc : Value.int .u8 c = bv b) (hs : a.eval s = v) (hown : Ow w0 base v l)
    (hx : a.eval x = .slice (some ⟨w0.heap.size, 0, none⟩) 1 1) (hlen : l.length ≤ 1000000000) (hb : base ≤ w0.heap.size)
    (h : ∀ v' w', Ow w' base v' (l ++ [b]) → (w0.alloc (.cells #[.int .u8 c] 5)).grownBy w' v.ownBlock → wpListIn F n Try.prog ops Q rest (a.put o.dst v') w') : wpListIn F n Try.prog ops Q (o :: rest) a (w0.alloc (.cells #[.int .u8 c] 5)) := by
  obtain ⟨i0, hi, hz0, hz1, hz2⟩ := info_parts Try.infoU8
  refine wpListIn_append_own _ hgd s x 53 ho base 5 i0 (.int .u8 0) 1 1 Try.underlying53 hi hz0 hz1 hz2 rfl (by decide) v _ _ hs (hown.alloc _) ⟨w0.heap.size, 0, none⟩ 1 1 [.int .u8 c] hx rfl ?_ ?_ (by unfold maxLen; omega) (by omega) (by simp; omega) ?_
  · intro j u hj
    match j, hj with
    | 0, hj => simp at hj; subst hj; simp [Addr.add]
    | (j + 1), hj => simp at hj
  · intro u hu; simp at hu; subst hu; rfl
  · intro v' w' hown' hgrow _
    refine h v' w' ?_ hgrow
    unfold Ow
    rw [List.length_append, List.map_append, List.map_singleton, ← hc]; exact hown'

/-- A text more, in a round. -/
theorem appSIn {F : Fence} {n : Nat} (w : World) (hgd : o.guard = none) (s x : Operand) (ho : o.op = .call { callee := .builtin .append, args := #[s, x], argTypes := #[53, 9] })
    (base : Nat) (v : Value) (l m : List UInt8) (hs : a.eval s = v) (hown : Ow w base v l) (hx : a.eval x = .string ⟨m.toArray⟩) (hlen : l.length ≤ 1000000000) (hm : m.length ≤ 1000000000) (hb : base ≤ w.heap.size)
    (h : ∀ v' w', Ow w' base v' (l ++ m) → w.grownBy w' v.ownBlock → wpListIn F n Try.prog ops Q rest (a.put o.dst v') w') : wpListIn F n Try.prog ops Q (o :: rest) a w := by
  obtain ⟨i0, hi, hz0, hz1, hz2⟩ := info_parts Try.infoU8
  have hsz : (ByteArray.mk m.toArray).size = m.length := by simp [ByteArray.size]
  refine wpListIn_plain hgd fun K hK => ?_
  obtain ⟨v', w', hr, h2, h3, h4⟩ := Lib.run_append_own_string (P := Try.prog) w base 53 9 o.type 5 i0 Try.underlying53 Try.underlying9 hi hz0 hz1 hz2 v _ _ hown ⟨m.toArray⟩ (by rw [hsz]; unfold maxLen; omega) (by rw [hsz]; omega) hb
  unfold Oper.wpIn
  refine ⟨?_, ?_⟩
  · simp [Oper.about, ho, resolve, Target.leads, Sem.run_pure]
  · rw [Oper.semAt_plain F _ _ (by rw [ho]; intro c hc'; cases hc')]
    simp [execOp, ho, resolve, invoke, builtin, hs, hx, hr, Result.andThen]
    refine hK _ _ (h v' w' ?_ h3)
    unfold Ow
    rw [List.length_append, List.map_append]
    have e : m.map bv = Lib.strCells ⟨m.toArray⟩ := by simp [Lib.strCells, bv]
    rw [e, ← hsz]
    exact h2
end

end Go.Proofs.Ytfemigdghdbbgaa
