/-
 The plain mathematics of package keycode: bytes below others at a byte of both, numbers in bytes, escaped bytes. Conditions: the bounds named in each theorem.
 Rows of bytes that a call owns: a byte more, a text more, made a text; in a plain walk and in a round. Conditions: the bounds named in each theorem.
 Boxes beside a row that is written on: what they hold behind an append and a store. Conditions: the bounds named in each theorem.
 What putNumber and the document's Eight answer: a number in bytes, the highest first. Conditions: the bounds named in each theorem.
 strings.Builder: what a builder that a call has made holds behind WriteString, and what String tells. Conditions: the bounds named in each theorem.
-/
import Derived.Test.YtmgdciihpjifgaaGreatDoorQrBase
import Derived.Below
import Derived.Lib.Hide
import Derived.Lib.AppendStr
import Derived.LoopN
import Derived.Laws.IdiomStrings
import Derived.Laws.AppendOwn
import Derived.OwnWalkIn
import Derived.RangeFuncBox
import Derived.WalkSpells
import Derived.WalkLawsBesides
import Derived.Test.YtmgdciihpjifgaaGreatDoorShelf
import Derived.Shelf.Strings.Builder1
set_option maxHeartbeats 2000000
namespace Go.Proofs.YtmgdciihpjifgaaGreatDoor.Kc
def D (x y : List UInt8) : Prop := ∃ p a b t u, x = p ++ a :: t ∧ y = p ++ b :: u ∧ a < b
def bn : Nat → Nat → List UInt8
 | 0, _ => []
 | k + 1, n => UInt8.ofNat (n / 256 ^ k) :: bn k n
def nm (l : List UInt8) : Nat := l.foldl (fun a x => a * 256 + x.toNat) 0
theorem bn_len : ∀ (k n : Nat), (bn k n).length = k
 | 0, _ => rfl
 | k + 1, n => by rw [bn, List.length_cons, bn_len k n]
theorem nm_snoc (l : List UInt8) (x : UInt8) : nm (l ++ [x]) = nm l * 256 + x.toNat := by simp [nm]
theorem nm_lt (l : List UInt8) : nm l < 256 ^ l.length := by
 have h : ∀ (m : List UInt8), nm m.reverse < 256 ^ m.length := by
  intro m
  induction m with
  | nil => simp [nm]
  | cons x m ih =>
   rw [List.reverse_cons, nm_snoc, List.length_cons, Nat.pow_succ]
   have := x.toNat_lt
   omega
 have := h l.reverse
 simpa using this
theorem eq_of (a b : Nat) (h : a % 256 = b % 256) : UInt8.ofNat a = UInt8.ofNat b := by
 apply UInt8.toNat_inj.1
 rw [UInt8.toNat_ofNat', UInt8.toNat_ofNat']
 exact h
def pc (x : UInt8) : List UInt8 := if x = 0 then [0, 255] else [x]
def es : List UInt8 → List UInt8
 | [] => []
 | x :: l => pc x ++ es l
def esc (s : List UInt8) : List UInt8 := es s ++ [0, 0]
theorem pc_0 : pc 0 = [0, 255] := rfl
theorem pc_n {x : UInt8} (h : x ≠ 0) : pc x = [x] := by unfold pc; rw [if_neg h]
theorem pc_len (x : UInt8) : (pc x).length ≤ 2 := by unfold pc; split <;> simp
theorem es_append (s t : List UInt8) : es (s ++ t) = es s ++ es t := by
 induction s with
 | nil => rfl
 | cons x s ih => simp [es, ih]
theorem es_len (s : List UInt8) : (es s).length ≤ 2 * s.length := by
 induction s with
 | nil => simp [es]
 | cons x s ih => have := pc_len x; simp [es]; omega
def cons (x : UInt8) (r : List UInt8 × List UInt8 × Int) : List UInt8 × List UInt8 × Int := if r.2.2 = 0 then (x :: r.1, r.2.1, 0) else ([], [], r.2.2)
def un : List UInt8 → List UInt8 × List UInt8 × Int
 | [] => ([], [], 3)
 | [_] => ([], [], 3)
 | x :: y :: l => if x = 0 then (if y = 0 then ([], l, 0) else if y = 255 then cons 0 (un l) else ([], [], 4)) else cons x (un (y :: l))
theorem un_n {x : UInt8} (l : List UInt8) (h : x ≠ 0) : un (x :: l) = cons x (un l) := by
 cases l with
 | nil => simp [un, cons]
 | cons y l => rw [un, if_neg h]
theorem un_00 (l : List UInt8) : un (0 :: 0 :: l) = ([], l, 0) := by rw [un, if_pos rfl, if_pos rfl]
theorem un_0f (l : List UInt8) : un (0 :: 255 :: l) = cons 0 (un l) := by rw [un, if_pos rfl, if_neg (by decide), if_pos rfl]
theorem un_0x {y : UInt8} (l : List UInt8) (h : y ≠ 0) (g : y ≠ 255) : un (0 :: y :: l) = ([], [], 4) := by rw [un, if_pos rfl, if_neg h, if_neg g]
def pre (d : List UInt8) (r : List UInt8 × List UInt8 × Int) : List UInt8 × List UInt8 × Int := if r.2.2 = 0 then (d ++ r.1, r.2.1, 0) else ([], [], r.2.2)
theorem pre_cons (d : List UInt8) (x : UInt8) (r : List UInt8 × List UInt8 × Int) : pre d (cons x r) = pre (d ++ [x]) r := by
 unfold pre cons
 by_cases h : r.2.2 = 0
 ·simp [h]
 ·simp [h]
theorem un_fine : ∀ (l : List UInt8), ((un l).2.2 = 0 ∧ (un l).2.1.length < l.length ∧ (un l).1.length < l.length) ∨ ((un l).1 = [] ∧ (un l).2.1 = [] ∧ ((un l).2.2 = 3 ∨ (un l).2.2 = 4))
 | [] => by simp [un]
 | [_] => by simp [un]
 | x :: y :: l => by
  have h1 := un_fine l
  have h2 := un_fine (y :: l)
  by_cases hx : x = 0
  ·subst hx
   by_cases hy : y = 0
   ·subst hy; rw [un_00]; simp; omega
   ·by_cases hf : y = 255
    ·subst hf
     rw [un_0f]
     unfold cons
     rcases h1 with ⟨e, h3, h4⟩ | ⟨e1, e2, e3⟩
     ·rw [if_pos e]; simp; omega
     ·rw [if_neg (by omega)]; simp; omega
    ·rw [un_0x l hy hf]; simp
  ·rw [un_n _ hx]
   unfold cons
   rcases h2 with ⟨e, h3, h4⟩ | ⟨e1, e2, e3⟩
   ·rw [if_pos e]; simp at *; omega
   ·rw [if_neg (by omega)]; simp; omega
theorem pre_nil (l : List UInt8) : pre [] (un l) = un l := by
 unfold pre
 rcases un_fine l with ⟨e, _⟩ | ⟨e1, e2, e3⟩
 ·rw [if_pos e]; simp [← e]
 ·rw [if_neg (by omega)]
  exact Prod.ext e1.symm (Prod.ext e2.symm rfl)
end Go.Proofs.YtmgdciihpjifgaaGreatDoor.Kc
namespace Go.Proofs.YtmgdciihpjifgaaGreatDoor
open Go.RowKit
theorem ret_str {a b : List UInt8} (h : a = b) : Ending.returned (.string ⟨a.toArray⟩) = .returned (.string ⟨b.toArray⟩) := by rw [h]
theorem ret_si {a b : List UInt8} {c d : Int} (h : a = b) (g : c = d) : Ending.returned (.tuple #[.string ⟨a.toArray⟩, .int .i64 c]) = .returned (.tuple #[.string ⟨b.toArray⟩, .int .i64 d]) := by rw [h, g]
theorem Tryz.infoU8 : (Tryz.prog.info? 5).map (fun i => (i.zero, i.size, i.bytes)) = some (some (.int .u8 0), 1, 1) := by kernel_rfl
def bv (b : UInt8) : Value := .int .u8 (b.toNat : Int)
def Ow (w : World) (base : Nat) (v : Value) (l : List UInt8) : Prop := w.ownsRow base 5 1 v l.length (l.map bv)
theorem ow_nil (w : World) (base : Nat) : Ow w base (.slice none 0 0) [] := World.ownsRow_nil _ _ _ _
theorem Ow.keep {w w' : World} {b : Nat} {v : Value} {l : List UInt8} (h : Ow w b v l) (hb : Below w.heap.size w w') : Ow w' b v l := by
 refine ⟨h.1, ?_⟩
 rcases h.2 with hn | ⟨g, cap, cur, hv, hbg, hg, rest⟩
 ·exact .inl hn
 ·exact .inr ⟨g, cap, cur, hv, hbg, (hb.block g (Array.getElem?_eq_some_iff.1 hg).1).trans hg, rest⟩
theorem Ow.alloc {w : World} {b : Nat} {v : Value} {l : List UInt8} (h : Ow w b v l) (o : Obj) : Ow (w.alloc o) b v l := World.ownsRow.alloc h o
theorem Ow.shape {w : World} {b : Nat} {v : Value} {l : List UInt8} (h : Ow w b v l) : (v = .slice none 0 0 ∧ l = []) ∨ ∃ g cap, v = .slice (some ⟨g, 0, none⟩) l.length cap := by
 rcases h.2 with ⟨hv, hn⟩ | ⟨g, cap, cur, hv, _⟩
 ·exact .inl ⟨hv, List.eq_nil_of_length_eq_zero hn⟩
 ·exact .inr ⟨g, cap, hv⟩
theorem conv_own {w : World} {base : Nat} {v : Value} (l : List UInt8) (h : Ow w base v l) :
  (convert 102 9 v).run Tryz.prog w = .ok (.string ⟨l.toArray⟩) w := by
 have h' := h
 rcases h.2 with ⟨rfl, h0⟩ | ⟨g, cap, cur, rfl, _, _, _, _, _, _⟩
 ·have e := List.eq_nil_of_length_eq_zero h0
  subst e
  simp [convert, run_underlying Tryz.underlying102, run_underlying Tryz.underlying5, run_underlying Tryz.underlying9, go_sem, Conv.bytesToString]
  rfl
 ·refine run_convert_bytes_back _ _ _ 5 _ _ _ Tryz.underlying102 Tryz.underlying5 Tryz.underlying9 ?_
  intro j hj
  refine World.ownsRow.cells h' rfl j _ ?_
  simp [List.getElem?_eq_getElem hj, bv]
section
variable {ops : Array Oper} {rest : List Oper} {o : Oper} {a : Act} {Q : Exit → Act → World → Prop}
theorem app1 (hgd : o.guard = none) (s x : Operand) (ho : o.op = .call { callee := .builtin .append, args := #[s, x], argTypes := #[102, 102] })
  (base : Nat) (v : Value) (l : List UInt8) (b : UInt8) (c : Int) (w0 : World) (hc : Value.int .u8 c = bv b) (hs : a.eval s = v) (hown : Ow w0 base v l)
  (hx : a.eval x = .slice (some ⟨w0.heap.size, 0, none⟩) 1 1) (hlen : l.length ≤ 1000000000) (hb : base ≤ w0.heap.size)
  (h : ∀ v' w', Ow w' base v' (l ++ [b]) → Below base w0 w' → wpList Tryz.prog ops Q rest (a.put o.dst v') w') : wpList Tryz.prog ops Q (o :: rest) a (w0.alloc (.cells #[.int .u8 c] 5)) := by
 obtain ⟨i0, hi, hz0, hz1, hz2⟩ := info_parts Tryz.infoU8
 refine wpList_append_own _ hgd s x 102 ho base 5 i0 (.int .u8 0) 1 1 Tryz.underlying102 hi hz0 hz1 hz2 rfl (by decide) v _ _ hs (hown.alloc _) ⟨w0.heap.size, 0, none⟩ 1 1 [.int .u8 c] hx rfl ?_ ?_ (by unfold maxLen; omega) (by omega) (by simp; omega) ?_
 ·intro j u hj
  match j, hj with
  | 0, hj => simp at hj; subst hj; simp [Addr.add]
  | (j + 1), hj => simp at hj
 ·intro u hu; simp at hu; subst hu; rfl
 ·intro v' w' hown' hgrow _
  refine h v' w' ?_ (((Below.refl base w0).alloc hb _).grown hgrow (by simp; omega) (fun k hk => (World.ownsRow.lt hown k hk).1))
  unfold Ow
  rw [List.length_append, List.map_append, List.map_singleton, ← hc]; exact hown'
theorem appSIn {F : Fence} {n : Nat} (w : World) (hgd : o.guard = none) (s x : Operand) (ho : o.op = .call { callee := .builtin .append, args := #[s, x], argTypes := #[102, 9] })
  (base : Nat) (v : Value) (l m : List UInt8) (hs : a.eval s = v) (hown : Ow w base v l) (hx : a.eval x = .string ⟨m.toArray⟩) (hlen : l.length ≤ 1000000000) (hm : m.length ≤ 1000000000) (hb : base ≤ w.heap.size)
  (h : ∀ v' w', Ow w' base v' (l ++ m) → w.grownBy w' v.ownBlock → wpListIn F n Tryz.prog ops Q rest (a.put o.dst v') w') : wpListIn F n Tryz.prog ops Q (o :: rest) a w := by
 obtain ⟨i0, hi, hz0, hz1, hz2⟩ := info_parts Tryz.infoU8
 have hsz : (ByteArray.mk m.toArray).size = m.length := by simp [ByteArray.size]
 refine wpListIn_plain hgd fun K hK => ?_
 obtain ⟨v', w', hr, h2, h3, h4⟩ := Lib.run_append_own_string (P := Tryz.prog) w base 102 9 o.type 5 i0 Tryz.underlying102 Tryz.underlying9 hi hz0 hz1 hz2 v _ _ hown ⟨m.toArray⟩ (by rw [hsz]; unfold maxLen; omega) (by rw [hsz]; omega) hb
 unfold Oper.wpIn
 refine ⟨?_, ?_⟩
 ·simp [Oper.about, ho, resolve, Target.leads, Sem.run_pure]
 ·rw [Oper.semAt_plain F _ _ (by rw [ho]; intro c hc'; cases hc')]
  simp [execOp, ho, resolve, invoke, builtin, hs, hx, hr, Result.andThen]
  refine hK _ _ (h v' w' ?_ h3)
  unfold Ow
  rw [List.length_append, List.map_append]
  have e : m.map bv = Lib.strCells ⟨m.toArray⟩ := by simp [Lib.strCells, bv]
  rw [e, ← hsz]
  exact h2
end
end Go.Proofs.YtmgdciihpjifgaaGreatDoor
namespace Go.Proofs.YtmgdciihpjifgaaGreatDoor
open Go.RowKit
def Blk (W : World) (B : Nat) (cs : Array Value) (t : TypeId) : Prop := W.heap[B]? = some (.cells cs t (0, 0))
theorem Blk.lt {W : World} {B : Nat} {cs : Array Value} {t : TypeId} (h : Blk W B cs t) : B < W.heap.size := (Array.getElem?_eq_some_iff.1 h).1
theorem Blk.cell {W : World} {B : Nat} {cs : Array Value} {t : TypeId} (h : Blk W B cs t) (i : Nat) : W.cell? ⟨B, i, none⟩ = cs[i]? := by
 simp [World.cell?, show W.heap[B]? = _ from h]
theorem Blk.new (W : World) (cs : Array Value) (t : TypeId) : Blk (W.alloc (.cells cs t)) W.heap.size cs t := World.alloc_heap_new W _
theorem Blk.kept {W W' : World} {row : Option Nat} {B : Nat} {cs : Array Value} {t : TypeId} (h : Blk W B cs t) (hg : W.grownBy W' row) (hne : some B ≠ row) : Blk W' B cs t := (hg.block B h.lt hne).trans h
theorem Blk.alloc {W : World} {B : Nat} {cs : Array Value} {t : TypeId} (h : Blk W B cs t) (o : Obj) : Blk (W.alloc o) B cs t := h.kept (World.grownBy_alloc W o none) (by simp)
theorem Blk.below {W W' : World} {B : Nat} {cs : Array Value} {t : TypeId} (h : Blk W B cs t) (hb : Below W.heap.size W W') : Blk W' B cs t := (hb.block B h.lt).trans h
theorem Blk.below' {W W' : World} {B n : Nat} {cs : Array Value} {t : TypeId} (h : Blk W B cs t) (hb : Below n W W') (hn : B < n) : Blk W' B cs t := (hb.block B hn).trans h
theorem Blk.other {W : World} {B B' : Nat} {cs : Array Value} {t : TypeId} (h : Blk W B cs t) (hne : B ≠ B') (u : Value) : Blk (W.setCell ⟨B', 0, none⟩ u) B cs t := h.kept (grownBy_setCell' W B' u) (fun e => hne (by cases e; rfl))
theorem Blk.not_row {W : World} {B : Nat} {cs : Array Value} {t : TypeId} (h : Blk W B cs t) (ht : t ≠ 5) {base : Nat} {v : Value} {l : List UInt8} (hr : Ow W base v l) : some B ≠ v.ownBlock := by
 rcases hr.2 with ⟨rfl, _⟩ | ⟨g, cap, cur, rfl, _, hgb, _⟩
 ·simp [Value.ownBlock]
 ·intro e'
  obtain rfl : B = g := by simpa [Value.ownBlock] using e'
  have := (show W.heap[B]? = _ from h).symm.trans hgb
  simp at this
  exact ht this.2
theorem Blk.boxed {W : World} {B : Nat} {v : Value} {t : TypeId} (h : Blk W B #[v] t) : Boxed W B t v := h
theorem Ow.succ {w : World} {b : Nat} {v : Value} {l : List UInt8} {x : UInt8} (h : Ow w b v (l ++ [x])) : ∃ g cap, v = .slice (some ⟨g, 0, none⟩) (l.length + 1) cap := by
 rcases h.shape with ⟨_, e⟩ | ⟨g, cap, e⟩
 ·simp at e
 ·exact ⟨g, cap, by simpa using e⟩
theorem Ow.sl {w : World} {b : Nat} {v : Value} {l : List UInt8} (h : Ow w b v l) : ∃ a m c, v = .slice a m c := by
 rcases h.shape with ⟨e, _⟩ | ⟨g, cap, e⟩
 ·exact ⟨_, _, _, e⟩
 ·exact ⟨_, _, _, e⟩
theorem Ow.kept {w w' : World} {b : Nat} {v : Value} {l : List UInt8} (h : Ow w b v l) {B : Nat} {cs : Array Value} {t : TypeId} (hB : Blk w B cs t) (ht : t ≠ 5) (hg : w.grownBy w' (some B)) : Ow w' b v l :=
 World.ownsRow.kept h hg (.inr (hB.not_row ht h).symm)
theorem wrote {W w1 : World} {base B : Nat} {v v' : Value} {l l' : List UInt8} (hv : Blk W B #[v] 102) (hrow : Ow W base v l) (hb : base ≤ W.heap.size) (hB : base ≤ B) (hown : Ow w1 base v' l') (hg : W.grownBy w1 v.ownBlock) :
  Blk w1 B #[v] 102 ∧ Blk (w1.setCell ⟨B, 0, none⟩ v') B #[v'] 102 ∧ Ow (w1.setCell ⟨B, 0, none⟩ v') base v' l' ∧ Below base W (w1.setCell ⟨B, 0, none⟩ v') ∧ KeepsOthers W (w1.setCell ⟨B, 0, none⟩ v') ∧
   ∀ (C : Nat) (cs : Array Value) (t : TypeId), C ≠ B → t ≠ 5 → Blk W C cs t → Blk w1 C cs t ∧ Blk (w1.setCell ⟨B, 0, none⟩ v') C cs t := by
 have h1 : Blk w1 B #[v] 102 := hv.kept hg (hv.not_row (by decide) hrow)
 have hlt : ∀ j, v.ownBlock = some j → base ≤ j := fun j hj => (World.ownsRow.lt hrow j hj).1
 refine ⟨h1, Boxed.set v' h1.boxed, hown.kept h1 (by decide) (grownBy_setCell' w1 B v'), ?_, ?_, ?_⟩
 ·exact ((Below.refl base W).grown hg hb hlt).setCell (p := ⟨B, 0, none⟩) hB v'
 ·refine (KeepsOthers.of_grownBy hg fun j o ej hj => ?_).trans (KeepsOthers.setCell _ _ _)
  rcases hrow.2 with ⟨rfl, _⟩ | ⟨g, cap, cur, rfl, _, hgb, _⟩
  ·simp [Value.ownBlock] at ej
  ·obtain rfl : g = j := by simpa [Value.ownBlock] using ej
   rw [hgb] at hj; cases hj; rfl
 ·intro C cs t hne ht hC
  have hC1 := hC.kept hg (hC.not_row ht hrow)
  exact ⟨hC1, hC1.other hne v'⟩
section
variable {ops : Array Oper} {rest : List Oper} {o : Oper} {a : Act} {Q : Exit → Act → World → Prop}
theorem app1g (hgd : o.guard = none) (s x : Operand) (ho : o.op = .call { callee := .builtin .append, args := #[s, x], argTypes := #[102, 102] })
  (base : Nat) (v : Value) (l : List UInt8) (b : UInt8) (c : Int) (w0 : World) (hc : Value.int .u8 c = bv b) (hs : a.eval s = v) (hown : Ow w0 base v l)
  (hx : a.eval x = .slice (some ⟨w0.heap.size, 0, none⟩) 1 1) (hlen : l.length ≤ 1000000000) (hb : base ≤ w0.heap.size)
  (h : ∀ v' w', Ow w' base v' (l ++ [b]) → (w0.alloc (.cells #[.int .u8 c] 5)).grownBy w' v.ownBlock → wpList Tryz.prog ops Q rest (a.put o.dst v') w') : wpList Tryz.prog ops Q (o :: rest) a (w0.alloc (.cells #[.int .u8 c] 5)) := by
 obtain ⟨i0, hi, hz0, hz1, hz2⟩ := info_parts Tryz.infoU8
 refine wpList_append_own _ hgd s x 102 ho base 5 i0 (.int .u8 0) 1 1 Tryz.underlying102 hi hz0 hz1 hz2 rfl (by decide) v _ _ hs (hown.alloc _) ⟨w0.heap.size, 0, none⟩ 1 1 [.int .u8 c] hx rfl ?_ ?_ (by unfold maxLen; omega) (by omega) (by simp; omega) ?_
 ·intro j u hj
  match j, hj with
  | 0, hj => simp at hj; subst hj; simp [Addr.add]
  | (j + 1), hj => simp at hj
 ·intro u hu; simp at hu; subst hu; rfl
 ·intro v' w' hown' hgrow _
  refine h v' w' ?_ hgrow
  unfold Ow
  rw [List.length_append, List.map_append, List.map_singleton, ← hc]; exact hown'
end
end Go.Proofs.YtmgdciihpjifgaaGreatDoor
namespace Go.Proofs.YtmgdciihpjifgaaGreatDoor
open Go.RowKit
theorem dig (N : Nat) (D : Int) (d : Nat) (h : D = d) : Value.int .u8 ((N : Int) / D % 256) = bv (UInt8.ofNat (N / d)) := by
 subst h
 unfold bv
 rw [UInt8.toNat_ofNat', ← Int.natCast_ediv]
 generalize N / d = m
 congr 1
theorem dig0 (N : Nat) : Value.int .u8 ((N : Int) % 256) = bv (UInt8.ofNat (N / 256 ^ 0)) := by
 have := dig N 1 (256 ^ 0) rfl
 rwa [Int.ediv_one] at this
theorem putNumber_is (base : Nat) (v : Value) (l : List UInt8) (N k : Nat) (w : World) (hown : Ow w base v l) (hb : base ≤ w.heap.size) (hk : k ≤ 8) (hl : l.length ≤ 1000000) :
  Calls Tryz.prog 100 #[v, .int .u64 N, .int .i64 k] w fun e w' => ∃ v', e = .returned v' ∧ Ow w' base v' (l ++ Kc.bn k N) ∧ Below base w w' := by
 have H := zh (za hown (za hb (za hk hl)))
 have hk2 : (k : Int) ≤ 8 := by omega
 have hk3 : (0 : Int) ≤ k := by omega
 clear hown hb hk hl
 go_enter Tryz.func100, Tryz.ntmps100
 go_wp2
 go_loopw [0, 7] (fun o p wr => ∃ (j : Nat) (q : Int) (done : List UInt8), p = .int .i64 q ∧ Ow wr base o done ∧ Below base w wr ∧ done ++ Kc.bn j N = l ++ Kc.bn k N ∧ q = (j : Int) - 1 ∧ j ≤ 8) (fun _ p _ => (intOf p + 1).toNat)
 case atStart => exact ⟨k, (k : Int) - 1, l, by go_num, H.out.1, Below.refl _ _, rfl, rfl, H.out.2.2.1⟩
 case round =>
  obtain ⟨j, q, done, rfl, hown, hbel, hub, hq, hj⟩ := hrel
  have hr : done.length ≤ 1000008 := by
   have h1 := congrArg List.length hub
   rw [List.length_append, List.length_append, Kc.bn_len, Kc.bn_len] at h1
   have := H.out
   omega
  have hs : base ≤ wr.heap.size := Nat.le_trans H.out.2.1 hbel.size
  have J := zh (za hown (za hbel (za hub (za hr hs))))
  clear hown hbel hub hr hs
  have hc : j = 0 ∨ j = 1 ∨ j = 2 ∨ j = 3 ∨ j = 4 ∨ j = 5 ∨ j = 6 ∨ j = 7 ∨ j = 8 := by omega
  clear hj hk2 hk3
  rcases hc with rfl | rfl | rfl | rfl | rfl | rfl | rfl | rfl | rfl
  ·obtain rfl : q = -1 := hq
   go_wp2
   go_ret
   exact ⟨_, rfl, by have := J.out.2.2.1; rw [show Kc.bn 0 N = [] from rfl, List.append_nil] at this; rw [← this]; exact J.out.1, J.out.2.1⟩
  ·obtain rfl : q = 0 := hq
   go_wp2_with (at_builtin; refine app1 rfl _ _ rfl base u0 done _ _ _ (dig0 N) rfl J.out.1 rfl (by have := J.out.2.2.2.1; omega) J.out.2.2.2.2 ?_; intro v' w1 hown' hb'; have J' := zh (za hown' (J.out.2.1.trans hb')); clear hown' hb'; go_frame)
   go_roundw
   case rel => exact ⟨0, -1, done ++ [UInt8.ofNat (N / 256 ^ 0)], by go_num, J'.out.1, J'.out.2, by rw [← J.out.2.2.1]; simp [Kc.bn], by decide, by decide⟩
   case measure => simp [intOf]
  ·obtain rfl : q = 1 := hq
   go_wp2_with (at_builtin; refine app1 rfl _ _ rfl base u0 done _ _ _ (dig N 256 (256 ^ 1) rfl) rfl J.out.1 rfl (by have := J.out.2.2.2.1; omega) J.out.2.2.2.2 ?_; intro v' w1 hown' hb'; have J' := zh (za hown' (J.out.2.1.trans hb')); clear hown' hb'; go_frame)
   go_roundw
   case rel => exact ⟨1, 0, done ++ [UInt8.ofNat (N / 256 ^ 1)], by go_num, J'.out.1, J'.out.2, by rw [← J.out.2.2.1]; simp [Kc.bn], by decide, by decide⟩
   case measure => simp [intOf]
  ·obtain rfl : q = 2 := hq
   go_wp2_with (at_builtin; refine app1 rfl _ _ rfl base u0 done _ _ _ (dig N 65536 (256 ^ 2) rfl) rfl J.out.1 rfl (by have := J.out.2.2.2.1; omega) J.out.2.2.2.2 ?_; intro v' w1 hown' hb'; have J' := zh (za hown' (J.out.2.1.trans hb')); clear hown' hb'; go_frame)
   go_roundw
   case rel => exact ⟨2, 1, done ++ [UInt8.ofNat (N / 256 ^ 2)], by go_num, J'.out.1, J'.out.2, by rw [← J.out.2.2.1]; simp [Kc.bn], by decide, by decide⟩
   case measure => simp [intOf]
  ·obtain rfl : q = 3 := hq
   go_wp2_with (at_builtin; refine app1 rfl _ _ rfl base u0 done _ _ _ (dig N 16777216 (256 ^ 3) rfl) rfl J.out.1 rfl (by have := J.out.2.2.2.1; omega) J.out.2.2.2.2 ?_; intro v' w1 hown' hb'; have J' := zh (za hown' (J.out.2.1.trans hb')); clear hown' hb'; go_frame)
   go_roundw
   case rel => exact ⟨3, 2, done ++ [UInt8.ofNat (N / 256 ^ 3)], by go_num, J'.out.1, J'.out.2, by rw [← J.out.2.2.1]; simp [Kc.bn], by decide, by decide⟩
   case measure => simp [intOf]
  ·obtain rfl : q = 4 := hq
   go_wp2_with (at_builtin; refine app1 rfl _ _ rfl base u0 done _ _ _ (dig N 4294967296 (256 ^ 4) rfl) rfl J.out.1 rfl (by have := J.out.2.2.2.1; omega) J.out.2.2.2.2 ?_; intro v' w1 hown' hb'; have J' := zh (za hown' (J.out.2.1.trans hb')); clear hown' hb'; go_frame)
   go_roundw
   case rel => exact ⟨4, 3, done ++ [UInt8.ofNat (N / 256 ^ 4)], by go_num, J'.out.1, J'.out.2, by rw [← J.out.2.2.1]; simp [Kc.bn], by decide, by decide⟩
   case measure => simp [intOf]
  ·obtain rfl : q = 5 := hq
   go_wp2_with (at_builtin; refine app1 rfl _ _ rfl base u0 done _ _ _ (dig N 1099511627776 (256 ^ 5) rfl) rfl J.out.1 rfl (by have := J.out.2.2.2.1; omega) J.out.2.2.2.2 ?_; intro v' w1 hown' hb'; have J' := zh (za hown' (J.out.2.1.trans hb')); clear hown' hb'; go_frame)
   go_roundw
   case rel => exact ⟨5, 4, done ++ [UInt8.ofNat (N / 256 ^ 5)], by go_num, J'.out.1, J'.out.2, by rw [← J.out.2.2.1]; simp [Kc.bn], by decide, by decide⟩
   case measure => simp [intOf]
  ·obtain rfl : q = 6 := hq
   go_wp2_with (at_builtin; refine app1 rfl _ _ rfl base u0 done _ _ _ (dig N 281474976710656 (256 ^ 6) rfl) rfl J.out.1 rfl (by have := J.out.2.2.2.1; omega) J.out.2.2.2.2 ?_; intro v' w1 hown' hb'; have J' := zh (za hown' (J.out.2.1.trans hb')); clear hown' hb'; go_frame)
   go_roundw
   case rel => exact ⟨6, 5, done ++ [UInt8.ofNat (N / 256 ^ 6)], by go_num, J'.out.1, J'.out.2, by rw [← J.out.2.2.1]; simp [Kc.bn], by decide, by decide⟩
   case measure => simp [intOf]
  ·obtain rfl : q = 7 := hq
   go_wp2_with (at_builtin; refine app1 rfl _ _ rfl base u0 done _ _ _ (dig N 72057594037927936 (256 ^ 7) rfl) rfl J.out.1 rfl (by have := J.out.2.2.2.1; omega) J.out.2.2.2.2 ?_; intro v' w1 hown' hb'; have J' := zh (za hown' (J.out.2.1.trans hb')); clear hown' hb'; go_frame)
   go_roundw
   case rel => exact ⟨7, 6, done ++ [UInt8.ofNat (N / 256 ^ 7)], by go_num, J'.out.1, J'.out.2, by rw [← J.out.2.2.1]; simp [Kc.bn], by decide, by decide⟩
   case measure => simp [intOf]
theorem eight_is (N : Nat) (w : World) :
  Calls Tryz.prog 90 #[.int .u64 N] w fun e w' => e = .returned (.string ⟨(Kc.bn 8 N).toArray⟩) ∧ Below w.heap.size w w' := by
 go_enter Tryz.func90, Tryz.ntmps90
 go_wp2
 go_loopw [3, 4] (fun o p wr => ∃ (j : Nat) (q : Int) (done : List UInt8), p = .int .i64 q ∧ Ow wr w.heap.size o done ∧ Below w.heap.size w wr ∧ done ++ Kc.bn j N = Kc.bn 8 N ∧ q = 8 - (j : Int) ∧ j ≤ 8) (fun _ p _ => (8 - intOf p).toNat)
 case atStart => exact ⟨8, 0, [], rfl, ow_nil _ _, Below.refl _ _, rfl, rfl, by decide⟩
 case round =>
  obtain ⟨j, q, done, rfl, hown, hbel, hub, hq, hj⟩ := hrel
  have hr : done.length ≤ 8 := by
   have h1 := congrArg List.length hub
   rw [List.length_append, Kc.bn_len, Kc.bn_len] at h1
   omega
  have J := zh (za hown (za hbel (za hub (za hr hbel.size))))
  clear hown hbel hub hr
  have hc : j = 0 ∨ j = 1 ∨ j = 2 ∨ j = 3 ∨ j = 4 ∨ j = 5 ∨ j = 6 ∨ j = 7 ∨ j = 8 := by omega
  clear hj
  rcases hc with rfl | rfl | rfl | rfl | rfl | rfl | rfl | rfl | rfl
  ·obtain rfl : q = 8 := hq
   have cv := conv_own _ J.out.1
   go_wp2
   go_ret
   exact ⟨ret_str (by have := J.out.2.2.1; rw [show Kc.bn 0 N = [] from rfl, List.append_nil] at this; exact this), J.out.2.1⟩
  ·obtain rfl : q = 7 := hq
   go_wp2_with (at_builtin; refine app1 rfl _ _ rfl w.heap.size u3 done _ _ _ (dig0 N) rfl J.out.1 rfl (by have := J.out.2.2.2.1; omega) J.out.2.2.2.2 ?_; intro v' w1 hown' hb'; have J' := zh (za hown' (J.out.2.1.trans hb')); clear hown' hb'; go_frame)
   go_roundw
   case rel => exact ⟨0, 8, done ++ [UInt8.ofNat (N / 256 ^ 0)], by go_num, J'.out.1, J'.out.2, by rw [← J.out.2.2.1]; simp [Kc.bn], by decide, by decide⟩
   case measure => simp [intOf]
  ·obtain rfl : q = 6 := hq
   go_wp2_with (at_builtin; refine app1 rfl _ _ rfl w.heap.size u3 done _ _ _ (dig N 256 (256 ^ 1) rfl) rfl J.out.1 rfl (by have := J.out.2.2.2.1; omega) J.out.2.2.2.2 ?_; intro v' w1 hown' hb'; have J' := zh (za hown' (J.out.2.1.trans hb')); clear hown' hb'; go_frame)
   go_roundw
   case rel => exact ⟨1, 7, done ++ [UInt8.ofNat (N / 256 ^ 1)], by go_num, J'.out.1, J'.out.2, by rw [← J.out.2.2.1]; simp [Kc.bn], by decide, by decide⟩
   case measure => simp [intOf]
  ·obtain rfl : q = 5 := hq
   go_wp2_with (at_builtin; refine app1 rfl _ _ rfl w.heap.size u3 done _ _ _ (dig N 65536 (256 ^ 2) rfl) rfl J.out.1 rfl (by have := J.out.2.2.2.1; omega) J.out.2.2.2.2 ?_; intro v' w1 hown' hb'; have J' := zh (za hown' (J.out.2.1.trans hb')); clear hown' hb'; go_frame)
   go_roundw
   case rel => exact ⟨2, 6, done ++ [UInt8.ofNat (N / 256 ^ 2)], by go_num, J'.out.1, J'.out.2, by rw [← J.out.2.2.1]; simp [Kc.bn], by decide, by decide⟩
   case measure => simp [intOf]
  ·obtain rfl : q = 4 := hq
   go_wp2_with (at_builtin; refine app1 rfl _ _ rfl w.heap.size u3 done _ _ _ (dig N 16777216 (256 ^ 3) rfl) rfl J.out.1 rfl (by have := J.out.2.2.2.1; omega) J.out.2.2.2.2 ?_; intro v' w1 hown' hb'; have J' := zh (za hown' (J.out.2.1.trans hb')); clear hown' hb'; go_frame)
   go_roundw
   case rel => exact ⟨3, 5, done ++ [UInt8.ofNat (N / 256 ^ 3)], by go_num, J'.out.1, J'.out.2, by rw [← J.out.2.2.1]; simp [Kc.bn], by decide, by decide⟩
   case measure => simp [intOf]
  ·obtain rfl : q = 3 := hq
   go_wp2_with (at_builtin; refine app1 rfl _ _ rfl w.heap.size u3 done _ _ _ (dig N 4294967296 (256 ^ 4) rfl) rfl J.out.1 rfl (by have := J.out.2.2.2.1; omega) J.out.2.2.2.2 ?_; intro v' w1 hown' hb'; have J' := zh (za hown' (J.out.2.1.trans hb')); clear hown' hb'; go_frame)
   go_roundw
   case rel => exact ⟨4, 4, done ++ [UInt8.ofNat (N / 256 ^ 4)], by go_num, J'.out.1, J'.out.2, by rw [← J.out.2.2.1]; simp [Kc.bn], by decide, by decide⟩
   case measure => simp [intOf]
  ·obtain rfl : q = 2 := hq
   go_wp2_with (at_builtin; refine app1 rfl _ _ rfl w.heap.size u3 done _ _ _ (dig N 1099511627776 (256 ^ 5) rfl) rfl J.out.1 rfl (by have := J.out.2.2.2.1; omega) J.out.2.2.2.2 ?_; intro v' w1 hown' hb'; have J' := zh (za hown' (J.out.2.1.trans hb')); clear hown' hb'; go_frame)
   go_roundw
   case rel => exact ⟨5, 3, done ++ [UInt8.ofNat (N / 256 ^ 5)], by go_num, J'.out.1, J'.out.2, by rw [← J.out.2.2.1]; simp [Kc.bn], by decide, by decide⟩
   case measure => simp [intOf]
  ·obtain rfl : q = 1 := hq
   go_wp2_with (at_builtin; refine app1 rfl _ _ rfl w.heap.size u3 done _ _ _ (dig N 281474976710656 (256 ^ 6) rfl) rfl J.out.1 rfl (by have := J.out.2.2.2.1; omega) J.out.2.2.2.2 ?_; intro v' w1 hown' hb'; have J' := zh (za hown' (J.out.2.1.trans hb')); clear hown' hb'; go_frame)
   go_roundw
   case rel => exact ⟨6, 2, done ++ [UInt8.ofNat (N / 256 ^ 6)], by go_num, J'.out.1, J'.out.2, by rw [← J.out.2.2.1]; simp [Kc.bn], by decide, by decide⟩
   case measure => simp [intOf]
  ·obtain rfl : q = 0 := hq
   go_wp2_with (at_builtin; refine app1 rfl _ _ rfl w.heap.size u3 done _ _ _ (dig N 72057594037927936 (256 ^ 7) rfl) rfl J.out.1 rfl (by have := J.out.2.2.2.1; omega) J.out.2.2.2.2 ?_; intro v' w1 hown' hb'; have J' := zh (za hown' (J.out.2.1.trans hb')); clear hown' hb'; go_frame)
   go_roundw
   case rel => exact ⟨7, 1, done ++ [UInt8.ofNat (N / 256 ^ 7)], by go_num, J'.out.1, J'.out.2, by rw [← J.out.2.2.1]; simp [Kc.bn], by decide, by decide⟩
   case measure => simp [intOf]
end Go.Proofs.YtmgdciihpjifgaaGreatDoor
namespace Go.Proofs.YtmgdciihpjifgaaGreatDoor
open Go.RowKit Go.Shelf
theorem bu_info : (Tryz.prog.info? 132).map (·.size) = some 2 := by kernel_rfl
theorem bu_lies : liesAt Tryz.prog Tryz.prog.depth 132 (2 / Tryz.prog.cellsOf 132) 0 132 1 = true := by kernel_rfl
set_option maxRecDepth 100000 in
theorem bu_used (b : Nat) (w : World) (h0 : w.cell? ⟨b, 0, none⟩ = some (.pointer (some ⟨b, 0, none⟩))) :
  Calls Tryz.prog 109 #[.pointer (some ⟨b, 0, none⟩)] w fun e w' => e = .returned (.tuple #[]) ∧ w' = w := by
 obtain ⟨j, hj, _⟩ := Option.map_eq_some_iff.1 bu_info
 go_enter Tryz.func109, Tryz.ntmps109
 go_wp2
 rw [Lib.run_neq_ptr_same w _ Tryz.underlying130 hj]
 go_wp2
 go_end0
 exact ⟨rfl, rfl⟩
set_option maxRecDepth 100000 in
theorem bu_fresh (b : Nat) (w : World) (h0 : w.cell? ⟨b, 0, none⟩ = some (.pointer none)) (hsh : w.shape? b = some (132, 2)) (hfz : w.frozen? ⟨b, 0, none⟩ = false) :
  Calls Tryz.prog 109 #[.pointer (some ⟨b, 0, none⟩)] w fun e w' => e = .returned (.tuple #[]) ∧ w' = w.setCell ⟨b, 0, none⟩ (.pointer (some ⟨b, 0, none⟩)) := by
 obtain ⟨j, hj, hjs⟩ := Option.map_eq_some_iff.1 bu_info
 have h1 := Lib.run_to_unsafe w ⟨b, 0, none⟩ Tryz.underlying130 Tryz.underlying179 hj (by rw [hjs]; decide) hsh (Nat.zero_lt_succ 1)
 have h2 := @run_callFunc_extern Tryz.prog 130 _ Extern.AbiNoEscape.same Tryz.func130 (by kernel_rfl) (by kernel_rfl) (by kernel_rfl) (by kernel_rfl)
 have h3 := Lib.run_noEscape (P := Tryz.prog) w (.pointer (some ⟨b, 0, none⟩))
 have h4 := Lib.run_from_unsafe w ⟨b, 0, none⟩ Tryz.underlying179 Tryz.underlying130 hj hsh bu_lies
 go_enter Tryz.func109, Tryz.ntmps109
 go_wp2
 go_end0
 exact ⟨rfl, rfl⟩
def Bu (B b : Nat) (l : List UInt8) (w : World) : Prop := Lib.IsBuilder 132 5 B b (Lib.byteCells l) w
theorem Bu.new (w : World) : Bu w.heap.size w.heap.size [] (w.alloc (.cells #[.pointer none, .slice none 0 0] 132)) := Lib.fresh_isBuilder _ _ w
theorem Bu.keep {B b : Nat} {l : List UInt8} {w w' : World} (h : Bu B b l w) (hb : Below w.heap.size w w') : Bu B b l w' := by
 have k : ∀ p, Lib.BuilderAt 132 5 B b p (Lib.byteCells l) w → Lib.BuilderAt 132 5 B b p (Lib.byteCells l) w' := by
  rintro p ⟨h0, v, h1, h2, h3⟩
  refine ⟨h0, v, (hb.block b (Array.getElem?_eq_some_iff.1 h1).1).trans h1, ?_, h3⟩
  refine ⟨h2.1, ?_⟩
  rcases h2.2 with hn | ⟨g, cap, cur, hv, hbg, hg, rest⟩
  ·exact .inl hn
  ·exact .inr ⟨g, cap, cur, hv, hbg, (hb.block g (Array.getElem?_eq_some_iff.1 hg).1).trans hg, rest⟩
 rcases h with h | h
 ·exact .inl (k _ h)
 ·exact .inr (k _ h)
theorem bu_copy (B b : Nat) (l : List UInt8) (w : World) (h : Bu B b l w) :
  Calls Tryz.prog 109 #[.pointer (some ⟨b, 0, none⟩)] w fun e w' => e = .returned (.tuple #[]) ∧ Lib.BuilderAt 132 5 B b (.pointer (some ⟨b, 0, none⟩)) (Lib.byteCells l) w' ∧ Below B w w' := by
 rcases h with h | h
 ·refine (bu_fresh b w h.cell0 h.shape h.frozen0).mono ?_
  rintro e w' ⟨rfl, rfl⟩
  exact ⟨rfl, h.used _, (Below.refl B w).setCell (p := ⟨b, 0, none⟩) h.1 _⟩
 ·refine (bu_used b w h.cell0).mono ?_
  rintro e w' ⟨rfl, rfl⟩
  exact ⟨rfl, h, Below.refl B _⟩
set_option maxRecDepth 100000 in
theorem bu_write (B b : Nat) (l s : List UInt8) (w : World) (h : Bu B b l w) (hl : l.length ≤ 1000000000) (hs : s.length ≤ 1000000000) (hBw : B ≤ w.heap.size) :
  Calls Tryz.prog 83 #[.pointer (some ⟨b, 0, none⟩), .string ⟨s.toArray⟩] w fun e w' => e = .returned (.tuple #[.int .i64 s.length, .nilIface]) ∧ Bu B b (l ++ s) w' ∧ Below B w w' := by
 obtain ⟨i0, hi, hz0, hz1, hz2⟩ := info_parts Tryz.infoU8
 go_enter Tryz.func83, Tryz.ntmps83
 go_wp2_with fail
 refine (bu_copy B b l _ h).mono ?_
 rintro e w1 ⟨rfl, h1, hb1⟩
 obtain ⟨hB, v, hbk, hown, hne⟩ := h1
 have c0 : w1.cell? ⟨b, 0, none⟩ = some (.pointer (some ⟨b, 0, none⟩)) := by rw [Lib.cell_of_heap hbk]; rfl
 have c1 : w1.cell? ⟨b, 1, none⟩ = some v := by rw [Lib.cell_of_heap hbk]; rfl
 have hn : (Lib.byteCells l).length = l.length := Lib.byteCells_length l
 have hsz : (⟨s.toArray⟩ : ByteArray).size = s.length := by simp [ByteArray.size]
 go_wp2_with (at_builtin; refine Lib.wpList_append_own_string _ rfl _ _ 102 9 rfl B 5 i0 Tryz.underlying102 Tryz.underlying9 hi hz0 hz1 hz2 _ _ _ rfl hown ⟨s.toArray⟩ rfl ?c3 ?c4 ?c5 ?_)
 case c3 => unfold maxLen; omega
 case c4 => omega
 case c5 => have := hb1.size; omega
 intro v' w2 hown' hgrow _
 have hlt : b < w1.heap.size := (Array.getElem?_eq_some_iff.1 hbk).1
 have hb2 : w2.heap[b]? = some (.cells #[.pointer (some ⟨b, 0, none⟩), v] 132 (0, 0)) := by
  rw [hgrow.block b hlt (fun e => hne e.symm)]
  exact hbk
 have d0 : w2.cell? ⟨b, 0, none⟩ = some (.pointer (some ⟨b, 0, none⟩)) := by rw [Lib.cell_of_heap hb2]; rfl
 have d1 : w2.cell? ⟨b, 1, none⟩ = some v := by rw [Lib.cell_of_heap hb2]; rfl
 have f1 : w2.frozen? ⟨b, 1, none⟩ = false := Lib.frozen_of_heap hb2 1
 obtain ⟨ao, n', cap, rfl⟩ : ∃ ao n' cap, v' = .slice ao n' cap := by
  rcases hown'.2 with ⟨hv, _⟩ | ⟨g, cap, cur, hv, _⟩
  ·exact ⟨_, _, _, hv⟩
  ·exact ⟨_, _, _, hv⟩
 go_wp2
 go_ret2
 refine ⟨by simp, ?_, ?_⟩
 ·refine .inr ?_
  rw [Lib.byteCells_append]
  exact Lib.BuilderAt.put (T := 132) (e := 5) hB hb2 (bs' := Lib.byteCells l ++ Lib.byteCells s) (by simpa [Lib.strCells_length, Lib.strCells_eq, Lib.byteCells_length] using hown') (by decide)
 ·exact (hb1.grown hgrow (by have := hb1.size; omega) (fun k hk => (hown.lt k hk).1)).setCell (p := ⟨b, 1, none⟩) hB _
theorem bu_extra : Builder.Extra Tryz.prog Tryz.lays169_ren where
 sizeBuilder := by kernel_rfl
 liesBuilder := by kernel_rfl
 t5 := Tryz.underlying5
 a5 := Tryz.isAgg5
 z5 := Tryz.sizeOf5
 v5 := Tryz.zeroValue5
 infoByte := by kernel_rfl
 cellsByte := by kernel_rfl
 sizeByte := by kernel_rfl
 neB5 := by decide
theorem bu_string (B b : Nat) (l : List UInt8) (w : World) (h : Bu B b l w) (hBw : B ≤ w.heap.size) :
  Calls Tryz.prog 85 #[.pointer (some ⟨b, 0, none⟩)] w fun e w' => e = .returned (.string ⟨l.toArray⟩) ∧ Below B w w' :=
 Any.Builder_String_any Tryz.lays169 bu_extra B b l w h hBw
end Go.Proofs.YtmgdciihpjifgaaGreatDoor
