/-
 Rows of bytes that a call owns, made by append or out of a text (then a mark lies behind them): a byte more, a text more, made a text. Conditions: the bounds named in each theorem.
 What putNumber and the document's Eight answer: a number in bytes, the highest first. Conditions: the bounds named in each theorem.
-/
import Derived.Test.YtmgdciihpjifgaaGreatDoorQrKcReadBytes
import Derived.Test.YtmgdciihpjifgaaGreatDoorQrScPlain
import Derived.Test.YtmgdciihpjifgaaGreatDoorQrBase
import Derived.Test.YtmgdciihpjifgaaGreatDoorQrKcPutNum
import Derived.Below
import Derived.Lib.Hide
import Derived.Lib.AppendStr
import Derived.LoopN
import Derived.Laws.IdiomStrings
import Derived.Laws.AppendOwn
import Derived.WalkSpells
import Derived.WalkLawsBesides
set_option maxHeartbeats 400000
namespace Go.Proofs.YtmgdciihpjifgaaGreatDoor.Rk
open Go.RowKit
def Clear (n : Nat) (fz : Nat × Nat) : Prop := ∀ j, j < n → ¬ (fz.1 ≤ j ∧ j < fz.2)
theorem clear0 (n : Nat) : Clear n (0, 0) := fun _ _ h => absurd h.2 (Nat.not_lt_zero _)
def Ow (w : World) (base : Nat) (v : Value) (l : List UInt8) : Prop :=
 (v = .slice none 0 0 ∧ l = []) ∨
 ∃ g cap cur fz, v = .slice (some ⟨g, 0, none⟩) l.length cap ∧ base ≤ g ∧ w.heap[g]? = some (.cells cur 5 fz) ∧ Clear cap fz ∧ l.length ≤ cap ∧ cap ≤ maxLen ∧ cur.size = cap ∧ cur.toList.take l.length = l.map bv
theorem ow_of {w : World} {base : Nat} {v : Value} {l : List UInt8} (h : w.ownsRow base 5 1 v l.length (l.map bv)) : Ow w base v l := by
 rcases h.2 with ⟨hv, hn⟩ | ⟨g, cap, cur, hv, hb, hg, h1, h2, h3, h4⟩
 ·exact .inl ⟨hv, List.eq_nil_of_length_eq_zero hn⟩
 ·exact .inr ⟨g, cap, cur, (0, 0), hv, hb, hg, clear0 _, h1, h2, by rw [h3, Nat.mul_one], by rw [Nat.mul_one] at h4; exact h4⟩
theorem Ow.base {w : World} {b b' : Nat} {v : Value} {l : List UInt8} (h : Ow w b v l) (hb : b' ≤ b) : Ow w b' v l := by
 rcases h with hn | ⟨g, cap, cur, fz, hv, hbg, rest⟩
 ·exact .inl hn
 ·exact .inr ⟨g, cap, cur, fz, hv, Nat.le_trans hb hbg, rest⟩
theorem Ow.keep {w w' : World} {b : Nat} {v : Value} {l : List UInt8} (h : Ow w b v l) (hb : Below w.heap.size w w') : Ow w' b v l := by
 rcases h with hn | ⟨g, cap, cur, fz, hv, hbg, hg, rest⟩
 ·exact .inl hn
 ·exact .inr ⟨g, cap, cur, fz, hv, hbg, (hb.block g (Array.getElem?_eq_some_iff.1 hg).1).trans hg, rest⟩
theorem Ow.alloc {w : World} {b : Nat} {v : Value} {l : List UInt8} (h : Ow w b v l) (o : Obj) : Ow (w.alloc o) b v l := h.keep ((Below.refl _ w).alloc (Nat.le_refl _) o)
theorem Ow.lt {w : World} {b : Nat} {v : Value} {l : List UInt8} (h : Ow w b v l) : ∀ k, v.ownBlock = some k → b ≤ k := by
 intro k hk
 rcases h with ⟨rfl, _⟩ | ⟨g, cap, cur, fz, rfl, hb, _⟩
 ·simp [Value.ownBlock] at hk
 ·simp [Value.ownBlock] at hk; subst hk; exact hb
theorem Ow.in {w : World} {b : Nat} {v : Value} {l : List UInt8} (h : Ow w b v l) : ∀ k, v.ownBlock = some k → k < w.heap.size := by
 intro k hk
 rcases h with ⟨rfl, _⟩ | ⟨g, cap, cur, fz, rfl, hb, hg, _⟩
 ·simp [Value.ownBlock] at hk
 ·simp [Value.ownBlock] at hk; subst hk; exact (Array.getElem?_eq_some_iff.1 hg).1
def Gr (w : World) (v : Value) (w' : World) (v' : Value) : Prop := w.grownBy w' v.ownBlock ∧ ∀ g, v'.ownBlock = some g → v.ownBlock = some g ∨ w.heap.size ≤ g
theorem Gr.refl (w : World) (v : Value) : Gr w v w v := ⟨⟨rfl, rfl, rfl, Nat.le_refl _, fun _ _ _ => rfl⟩, fun _ h => .inl h⟩
theorem Gr.trans {w w1 w2 : World} {v v1 v2 : Value} (h : Gr w v w1 v1) (k : Gr w1 v1 w2 v2) : Gr w v w2 v2 := by
 refine ⟨⟨k.1.os.trans h.1.os, k.1.tape.trans h.1.tape, k.1.output.trans h.1.output, Nat.le_trans h.1.size k.1.size, fun j hj hne => ?_⟩, fun g hg => ?_⟩
 ·refine (k.1.block j (Nat.lt_of_lt_of_le hj h.1.size) (fun e => ?_)).trans (h.1.block j hj hne)
  rcases h.2 j e.symm with e' | e'
  ·exact hne e'.symm
  ·omega
 ·rcases k.2 g hg with e | e
  ·exact h.2 g e
  ·exact .inr (Nat.le_trans h.1.size e)
theorem Gr.below {w w' : World} {v v' : Value} {base : Nat} {l : List UInt8} (h : Gr w v w' v') (hO : Ow w base v l) (hb : base ≤ w.heap.size) : Below base w w' := (Below.refl base w).grown h.1 hb hO.lt
theorem Gr.cell {w w' : World} {v v' : Value} (h : Gr w v w' v') {p : Addr} {x : Value} (hc : w.cell? p = some x) (hne : ∀ k, v.ownBlock = some k → k ≠ p.block) : w'.cell? p = some x := h.1.cell hc (fun e => hne _ e.symm rfl)
theorem Gr.of {w w' : World} {v : Value} (h : Below w.heap.size w w') : Gr w v w' v := ⟨⟨h.os, h.tape, h.output, h.size, fun k hk _ => h.block k hk⟩, fun _ e => .inl e⟩
theorem Gr.alloc {w w' : World} {v v' : Value} {o : Obj} (h : Gr (w.alloc o) v w' v') : Gr w v w' v' := (Gr.of ((Below.refl _ w).alloc (Nat.le_refl _) o)).trans h
theorem Ow.cells {w : World} {g : Nat} {cur : Array Value} {fz : Nat × Nat} {l : List UInt8} (hg : w.heap[g]? = some (.cells cur 5 fz)) (ht : cur.toList.take l.length = l.map bv) :
  ∀ j u, (l.map bv)[j]? = some u → w.cell? ((⟨g, 0, none⟩ : Addr).add j) = some u := by
 intro j u hu
 rw [add_none]
 have : w.cell? ⟨g, j, none⟩ = cur[j]? := by simp [World.cell?, hg]
 rw [this]
 rw [← ht, List.getElem?_take] at hu
 split at hu
 ·simpa using hu
 ·cases hu
theorem conv_own {w : World} {base : Nat} {v : Value} (l : List UInt8) (h : Ow w base v l) :
  (convert 102 9 v).run Tryz.prog w = .ok (.string ⟨l.toArray⟩) w := by
 rcases h with ⟨rfl, rfl⟩ | ⟨g, cap, cur, fz, rfl, _, hg, _, _, _, _, ht⟩
 ·simp [convert, run_underlying Tryz.underlying102, run_underlying Tryz.underlying5, run_underlying Tryz.underlying9, go_sem, Conv.bytesToString]
  rfl
 ·refine run_convert_bytes_back _ _ _ 5 _ _ _ Tryz.underlying102 Tryz.underlying5 Tryz.underlying9 ?_
  intro j hj
  refine Ow.cells hg ht j _ ?_
  simp [List.getElem?_eq_getElem hj, bv]
theorem conv_to (l : List UInt8) (w : World) (hl : l.length ≤ 1000000) : ∃ v w', (convert 9 102 (.string ⟨l.toArray⟩)).run Tryz.prog w = .ok v w' ∧ Ow w' w.heap.size v l ∧ Below w.heap.size w w' := by
 have hr := run_bytes_of_string (P := Tryz.prog) w 9 102 5 ⟨l.toArray⟩ Tryz.underlying9 Tryz.underlying102 Tryz.underlying5
 have hsz : (ByteArray.mk l.toArray).size = l.length := by simp [ByteArray.size]
 have hge := grownCap_ge w l.length 0 5
 have hle := grownCap_le_maxLen w l.length 0 5 (by unfold maxLen; omega)
 rw [hsz] at hr
 have hbs : (bytesRow ⟨l.toArray⟩ (grownCap w l.length 0 5)).size = grownCap w l.length 0 5 := by
  simp [bytesRow, hsz]; omega
 refine ⟨_, _, hr, .inr ⟨w.heap.size, _, _, _, rfl, Nat.le_refl _, heap_alloc_new w.drew _, ?_, hge, hle, hbs, ?_⟩, ?_⟩
 ·intro j hj h
  rw [hbs] at h
  omega
 ·simp only [bytesRow, Array.toList_append]
  rw [List.take_append_of_le_length (by simp)]
  simp
  rw [List.take_of_length_le (by simp)]
  rfl
 ·exact (Below.drew (Below.refl _ w)).alloc (Nat.le_refl _) _
theorem lay (g o : Nat) (t : TypeId) (fz : Nat × Nat) : ∀ (vs : List Value) (i : Nat) (cur : Array Value) (w : World), w.heap[g]? = some (.cells cur t fz) → Clear cur.size fz → o + i + vs.length ≤ cur.size → (∀ v ∈ vs, v.oneCell' = true) →
  (storeCells ⟨g, o, none⟩ vs i).run Tryz.prog w = .ok () (w.setRow g (cur.toList.take (o + i) ++ vs ++ cur.toList.drop (o + i + vs.length)).toArray)
 | [], i, cur, w, hg, _, _, _ => by
  simp only [storeCells, List.append_nil, List.length_nil, Nat.add_zero, List.take_append_drop, Array.toArray_toList]
  rw [setRow_self w g cur t fz hg]
  rfl
 | v :: vs, i, cur, w, hg, hc, hl, h1 => by
  simp only [List.length_cons] at hl
  have hadd : (⟨g, o, none⟩ : Addr).add i = ⟨g, o + i, none⟩ := by
   unfold Addr.add
   split
   ·simp_all
   ·rfl
  have hcell : w.cell? ⟨g, o + i, none⟩ = some (cur[o + i]'(by omega)) := by simp [World.cell?, hg, show o + i < cur.size from by omega]
  have hfro : w.frozen? ⟨g, o + i, none⟩ = false := by
   have := hc (o + i) (by omega)
   cases fz with
   | mk a b =>
    have e : w.frozen? ⟨g, o + i, none⟩ = (decide (a ≤ o + i) && decide (o + i < b)) := by simp only [World.frozen?, hg]
    rw [e, Bool.and_eq_false_iff, decide_eq_false_iff_not, decide_eq_false_iff_not]
    simp only at this
    omega
  have hst : (store ((⟨g, o, none⟩ : Addr).add i) v).run Tryz.prog w = .ok () (w.setRow g (cur.setIfInBounds (o + i) v)) := by
   rw [hadd, run_store Tryz.prog w _ v _ (h1 v (by simp)), hcell]
   simp [hfro, setCell_eq_setRow w g (o + i) cur t fz v hg]
  have ih := lay g o t fz vs (i + 1) (cur.setIfInBounds (o + i) v) (w.setRow g (cur.setIfInBounds (o + i) v)) (setRow_heap w g cur _ t _ hg) (by simpa using hc) (by simp; omega) (fun x hx => h1 x (by simp [hx]))
  simp only [storeCells, Sem.run_bind, hst, Result.andThen_ok, ih, setRow_setRow]
  have e := list_seg_step cur.toList (o + i) v vs (by simp; omega)
  congr 3
  simpa [Array.toList_setIfInBounds, Nat.add_assoc] using e
theorem fits {w : World} {base g cap : Nat} {cur : Array Value} {fz : Nat × Nat} {l m : List UInt8} (hb : base ≤ g) (hg : w.heap[g]? = some (.cells cur 5 fz)) (hc : Clear cap fz) (hroom : l.length + m.length ≤ cap) (hm : cap ≤ maxLen) (hs : cur.size = cap) (ht : cur.toList.take l.length = l.map bv) :
  Ow (w.setRow g (cur.toList.take l.length ++ m.map bv ++ cur.toList.drop (l.length + m.length)).toArray) base (.slice (some ⟨g, 0, none⟩) (l.length + m.length) cap) (l ++ m) ∧
  w.grownBy (w.setRow g (cur.toList.take l.length ++ m.map bv ++ cur.toList.drop (l.length + m.length)).toArray) (some g) := by
 refine ⟨.inr ⟨g, cap, _, fz, by rw [List.length_append], hb, setRow_heap w g cur _ 5 _ hg, hc, by rw [List.length_append]; exact hroom, hm, ?_, ?_⟩, ⟨rfl, rfl, rfl, by simp, fun k _ hk => setRow_other w g k _ (fun e => hk (by simp [e]))⟩⟩
 ·simp only [List.size_toArray, List.length_append, List.length_take, List.length_drop, Array.length_toList, List.length_map]
  omega
 ·have e : (l ++ m).length = (cur.toList.take l.length ++ m.map bv).length := by rw [ht]; simp
  rw [e, List.take_left, ht, List.map_append]
theorem grows {w : World} {base cap : Nat} {row : Option Nat} {l m : List UInt8} (hb : base ≤ w.heap.size) (hm : l.length + m.length ≤ maxLen) :
  Ow (w.drew.alloc (.cells ((l.map bv).toArray ++ (m.map bv).toArray ++ Builtin.zeroCells (Value.int .u8 0).cells (grownCap w (l.length + m.length) cap 5 - (l.length + m.length))) 5)) base (.slice (some ⟨w.heap.size, 0, none⟩) (l.length + m.length) (grownCap w (l.length + m.length) cap 5)) (l ++ m) ∧
  w.grownBy (w.drew.alloc (.cells ((l.map bv).toArray ++ (m.map bv).toArray ++ Builtin.zeroCells (Value.int .u8 0).cells (grownCap w (l.length + m.length) cap 5 - (l.length + m.length))) 5)) row := by
 have hge := grownCap_ge w (l.length + m.length) cap 5
 have hle := grownCap_le_maxLen w (l.length + m.length) cap 5 hm
 have hz1 : (Value.int IntKind.u8 0).cells.size = 1 := rfl
 refine ⟨.inr ⟨w.heap.size, _, _, (0, 0), by rw [List.length_append], hb, heap_alloc_new w.drew _, clear0 _, by rw [List.length_append]; exact hge, hle, ?_, ?_⟩, ⟨rfl, rfl, rfl, by simp, fun k hk _ => Below.heap_alloc w.drew _ k hk⟩⟩
 ·simp only [Array.size_append, List.size_toArray, size_zeroCells, hz1, List.length_map]
  omega
 ·simp only [Array.toList_append, List.append_assoc]
  rw [← List.append_assoc, ← List.map_append]
  have e : (l ++ m).length = ((l ++ m).map bv).length := by simp
  rw [e]
  exact List.take_left
theorem one_cells (m : List UInt8) : ∀ u ∈ m.map bv, u.oneCell' = true := by
 intro u hu
 obtain ⟨b, _, rfl⟩ := List.mem_map.1 hu
 rfl
theorem run_appS (w : World) (base : Nat) (ty : TypeId) (v : Value) (l m : List UInt8) (hown : Ow w base v l) (hlen : l.length ≤ 1000000000) (hm : m.length ≤ 1000000000) (hb : base ≤ w.heap.size) :
  ∃ v' w', (Builtin.append_ #[102, 9] ty #[v, .string ⟨m.toArray⟩]).run Tryz.prog w = .ok v' w' ∧ Ow w' base v' (l ++ m) ∧ Gr w v w' v' := by
 obtain ⟨i0, hi, hz0, hz1, hz2⟩ := info_parts Tryz.infoU8
 have hsz : (ByteArray.mk m.toArray).size = m.length := by simp [ByteArray.size]
 have e : m.map bv = Lib.strCells ⟨m.toArray⟩ := by simp [Lib.strCells, bv]
 rcases hown with ⟨rfl, rfl⟩ | ⟨g, cap, cur, fz, rfl, hbg, hg, hc, hnc, hcm, hcs, ht⟩
 ·obtain ⟨v', w', hr, h2, h3, _⟩ := Lib.run_append_own_string (P := Tryz.prog) w w.heap.size 102 9 ty 5 i0 Tryz.underlying102 Tryz.underlying9 hi hz0 hz1 hz2 (.slice none 0 0) 0 [] (World.ownsRow_nil _ _ _ _) ⟨m.toArray⟩ (by rw [hsz]; unfold maxLen; omega) (by rw [hsz]; omega) (Nat.le_refl _)
  refine ⟨v', w', hr, (ow_of ?_ : Ow w' w.heap.size v' _).base hb, h3, fun g hg => .inr (World.ownsRow.lt h2 g hg).1⟩
  rw [List.nil_append, e, ← hsz, ← Nat.zero_add (ByteArray.mk m.toArray).size]
  exact h2
 ·by_cases hroom : l.length + m.length ≤ cap
  ·have hf := Lib.run_firstCells_string (P := Tryz.prog) w 1 ⟨m.toArray⟩
   have hst := lay g l.length 5 fz (m.map bv) 0 cur w hg (by rw [hcs]; exact hc) (by simp; omega) (one_cells m)
   rw [e] at hst
   simp only [Nat.add_zero, Lib.strCells_length, hsz] at hst
   have hr : (Builtin.append_ #[102, 9] ty #[.slice (some ⟨g, 0, none⟩) l.length cap, .string ⟨m.toArray⟩]).run Tryz.prog w = .ok (.slice (some ⟨g, 0, none⟩) (l.length + m.length) cap) (w.setRow g (cur.toList.take l.length ++ Lib.strCells ⟨m.toArray⟩ ++ cur.toList.drop (l.length + m.length)).toArray) := by
    rw [hsz] at hf
    simp [Builtin.append_, run_underlying Tryz.underlying102, run_underlying Tryz.underlying9, sizeOf, typeInfo, hi, hz1, Builtin.lenOf, hsz, hroom, hf, Addr.add_lit, hst]
   rw [← e] at hr
   have hq := fits hbg hg hc hroom hcm hcs ht
   exact ⟨_, _, hr, hq.1, hq.2, fun _ e => .inl e⟩
  ·have hr := Lib.run_append_grow_string (P := Tryz.prog) w 102 9 ty 5 i0 (.int .u8 0) Tryz.underlying102 Tryz.underlying9 hi hz0 ⟨g, 0, none⟩ l.length cap (l.map bv) (by rw [hz1]; simp) (Ow.cells hg ht) ⟨m.toArray⟩ (by rw [hsz]; omega) (by rw [hsz]; omega) (by rw [hsz, hz2]; exact growslice_fits (by omega) (by omega))
   rw [← e, hsz] at hr
   have hq := grows (w := w) (base := base) (cap := cap) (row := some g) (l := l) (m := m) hb (by unfold maxLen; omega)
   exact ⟨_, _, hr, hq.1, hq.2, fun g' e => .inr (by simp [Value.ownBlock] at e; omega)⟩
theorem run_app1 (w : World) (base : Nat) (ty : TypeId) (v : Value) (l : List UInt8) (b : UInt8) (ad : Addr) (hown : Ow w base v l) (hx : w.cell? ad = some (bv b)) (hlen : l.length ≤ 1000000000) (hb : base ≤ w.heap.size) :
  ∃ v' w', (Builtin.append_ #[102, 102] ty #[v, .slice (some ad) 1 1]).run Tryz.prog w = .ok v' w' ∧ Ow w' base v' (l ++ [b]) ∧ Gr w v w' v' := by
 obtain ⟨i0, hi, hz0, hz1, hz2⟩ := info_parts Tryz.infoU8
 have hnews : ∀ j u, [bv b][j]? = some u → w.cell? (ad.add j) = some u := by
  intro j u hj
  match j, hj with
  | 0, hj => simp at hj; subst hj; simpa [Addr.add] using hx
  | (j + 1), hj => simp at hj
 have h1 : ∀ u ∈ [bv b], u.oneCell' = true := one_cells [b]
 rcases hown with ⟨rfl, rfl⟩ | ⟨g, cap, cur, fz, rfl, hbg, hg, hc, hnc, hcm, hcs, ht⟩
 ·obtain ⟨v', w', hr, h2, h3, _⟩ := run_append_own (P := Tryz.prog) w w.heap.size 102 ty 5 i0 (.int .u8 0) 1 1 Tryz.underlying102 hi hz0 hz1 hz2 rfl (by decide) (.slice none 0 0) 0 [] (World.ownsRow_nil _ _ _ _) ad 1 1 [bv b] rfl hnews h1 (by unfold maxLen; omega) (by omega) (Nat.le_refl _)
  exact ⟨v', w', hr, (ow_of (l := [b]) h2 : Ow w' w.heap.size v' [b]).base hb, h3, fun g hg => .inr (World.ownsRow.lt h2 g hg).1⟩
 ·by_cases hroom : l.length + 1 ≤ cap
  ·have hf := run_firstCells_some (P := Tryz.prog) w 1 1 ad 1 1 [bv b] rfl hnews
   have hst := lay g l.length 5 fz ([b].map bv) 0 cur w hg (by rw [hcs]; exact hc) (by simp; omega) (one_cells [b])
   simp only [Nat.add_zero, List.length_map, List.length_cons, List.length_nil, Nat.zero_add] at hst
   have hr : (Builtin.append_ #[102, 102] ty #[.slice (some ⟨g, 0, none⟩) l.length cap, .slice (some ad) 1 1]).run Tryz.prog w = .ok (.slice (some ⟨g, 0, none⟩) (l.length + 1) cap) (w.setRow g (cur.toList.take l.length ++ [b].map bv ++ cur.toList.drop (l.length + 1)).toArray) := by
    simp only [List.map_cons, List.map_nil] at hst ⊢
    simp [Builtin.append_, run_underlying Tryz.underlying102, sizeOf, typeInfo, hi, hz1, Builtin.lenOf, hroom, hf, Addr.add_lit, hst]
   have hq := fits (m := [b]) hbg hg hc hroom hcm hcs ht
   exact ⟨_, _, hr, hq.1, hq.2, fun _ e => .inl e⟩
  ·have hr := run_append_grow (P := Tryz.prog) w 102 ty 5 i0 (.int .u8 0) Tryz.underlying102 hi hz0 ⟨g, 0, none⟩ l.length cap (l.map bv) (by rw [hz1]; simp) (Ow.cells hg ht) ad 1 1 [bv b] (by rw [hz1]; rfl) hnews (by omega) (by omega) (by rw [hz2]; exact growslice_fits (by omega) (by omega))
   have hq := grows (w := w) (base := base) (cap := cap) (row := some g) (l := l) (m := [b]) hb (by unfold maxLen; simp; omega)
   exact ⟨_, _, hr, hq.1, hq.2, fun g' e => .inr (by simp [Value.ownBlock] at e; omega)⟩
section
variable {ops : Array Oper} {rest : List Oper} {o : Oper} {a : Act} {Q : Exit → Act → World → Prop}
theorem app1 (hgd : o.guard = none) (s x : Operand) (ho : o.op = .call { callee := .builtin .append, args := #[s, x], argTypes := #[102, 102] })
  (base : Nat) (v : Value) (l : List UInt8) (b : UInt8) (c : Int) (w0 : World) (hc : Value.int .u8 c = bv b) (hs : a.eval s = v) (hown : Ow w0 base v l)
  (hx : a.eval x = .slice (some ⟨w0.heap.size, 0, none⟩) 1 1) (hlen : l.length ≤ 1000000000) (hb : base ≤ w0.heap.size)
  (h : ∀ v' w', Ow w' base v' (l ++ [b]) → Below base w0 w' → Gr w0 v w' v' → wpList Tryz.prog ops Q rest (a.put o.dst v') w') : wpList Tryz.prog ops Q (o :: rest) a (w0.alloc (.cells #[.int .u8 c] 5)) := by
 refine wpList_plain hgd fun K hK => ?_
 obtain ⟨v', w', hr, h2, h3⟩ := run_app1 (w0.alloc (.cells #[.int .u8 c] 5)) base o.type v l b ⟨w0.heap.size, 0, none⟩ (hown.alloc _) (by rw [← hc]; simp) hlen (by simp; omega)
 unfold Oper.wp execOp
 simp only [ho, resolve, invoke, builtin, Sem.run_bind, Sem.run_pure, Result.andThen_ok, List.map_toArray, List.map_cons, List.map_nil, hs, hx, hr]
 exact hK _ _ (h v' w' h2 (h3.alloc.below hown hb) h3.alloc)
theorem appS (w : World) (hgd : o.guard = none) (s x : Operand) (ho : o.op = .call { callee := .builtin .append, args := #[s, x], argTypes := #[102, 9] })
  (base : Nat) (v : Value) (l m : List UInt8) (hs : a.eval s = v) (hown : Ow w base v l) (hx : a.eval x = .string ⟨m.toArray⟩) (hlen : l.length ≤ 1000000000) (hm : m.length ≤ 1000000000) (hb : base ≤ w.heap.size)
  (h : ∀ v' w', Ow w' base v' (l ++ m) → Below base w w' → Gr w v w' v' → wpList Tryz.prog ops Q rest (a.put o.dst v') w') : wpList Tryz.prog ops Q (o :: rest) a w := by
 refine wpList_plain hgd fun K hK => ?_
 obtain ⟨v', w', hr, h2, h3⟩ := run_appS w base o.type v l m hown hlen hm hb
 unfold Oper.wp execOp
 simp only [ho, resolve, invoke, builtin, Sem.run_bind, Sem.run_pure, Result.andThen_ok, List.map_toArray, List.map_cons, List.map_nil, hs, hx, hr]
 exact hK _ _ (h v' w' h2 (h3.below hown hb) h3)
end
end Go.Proofs.YtmgdciihpjifgaaGreatDoor.Rk
namespace Go.Proofs.YtmgdciihpjifgaaGreatDoor.Rk
open Go.RowKit
theorem putNumber_is (base : Nat) (v : Value) (l : List UInt8) (N k : Nat) (w : World) (hown : Ow w base v l) (hb : base ≤ w.heap.size) (hk : k ≤ 8) (hl : l.length ≤ 1000000) :
  Calls Tryz.prog 100 #[v, .int .u64 N, .int .i64 k] w fun e w' => ∃ v', e = .returned v' ∧ Ow w' base v' (l ++ Kc.bn k N) ∧ Gr w v w' v' := by
 have H := zh (za hown (za hb (za hk hl)))
 have hk2 : (k : Int) ≤ 8 := by omega
 have hk3 : (0 : Int) ≤ k := by omega
 clear hown hb hk hl
 go_enter Tryz.func100, Tryz.ntmps100
 go_wp2
 go_loopw [0, 7] (fun o p wr => ∃ (j : Nat) (q : Int) (done : List UInt8), p = .int .i64 q ∧ Ow wr base o done ∧ Gr w v wr o ∧ done ++ Kc.bn j N = l ++ Kc.bn k N ∧ q = (j : Int) - 1 ∧ j ≤ 8) (fun _ p _ => (intOf p + 1).toNat)
 case atStart => exact ⟨k, (k : Int) - 1, l, by go_num, H.out.1, Gr.refl _ _, rfl, rfl, H.out.2.2.1⟩
 case round =>
  obtain ⟨j, q, done, rfl, hown, hbel, hub, hq, hj⟩ := hrel
  have hr : done.length ≤ 1000008 := by
   have h1 := congrArg List.length hub
   rw [List.length_append, List.length_append, Kc.bn_len, Kc.bn_len] at h1
   have := H.out
   omega
  have hs : base ≤ wr.heap.size := Nat.le_trans H.out.2.1 hbel.1.size
  have J := zh (za hown (za hbel (za hub (za hr hs))))
  clear hown hbel hub hr hs
  have hc : j = 0 ∨ j = 1 ∨ j = 2 ∨ j = 3 ∨ j = 4 ∨ j = 5 ∨ j = 6 ∨ j = 7 ∨ j = 8 := by omega
  clear hj hk2 hk3
  rcases hc with rfl | rfl | rfl | rfl | rfl | rfl | rfl | rfl | rfl
  ·obtain rfl : q = -1 := hq
   go_wp2
   go_ret
   exact ⟨_, rfl, by have := J.out.2.2.1; rw [show Kc.bn 0 N = [] from rfl, List.append_nil] at this; rw [← this]; exact J.out.1, J.out.2.1⟩
  ·obtain rfl : q = 0 := hq
   go_wp2_with (at_builtin; refine app1 rfl _ _ rfl base u0 done _ _ _ (dig0 N) rfl J.out.1 rfl (by have := J.out.2.2.2.1; omega) J.out.2.2.2.2 ?_; intro v' w1 hown' _ hb'; have J' := zh (za hown' (J.out.2.1.trans hb')); clear hown' hb'; go_frame)
   go_roundw
   case rel => exact ⟨0, -1, done ++ [UInt8.ofNat (N / 256 ^ 0)], by go_num, J'.out.1, J'.out.2, by rw [← J.out.2.2.1]; simp [Kc.bn], by decide, by decide⟩
   case measure => simp [intOf]
  ·obtain rfl : q = 1 := hq
   go_wp2_with (at_builtin; refine app1 rfl _ _ rfl base u0 done _ _ _ (dig N 256 (256 ^ 1) rfl) rfl J.out.1 rfl (by have := J.out.2.2.2.1; omega) J.out.2.2.2.2 ?_; intro v' w1 hown' _ hb'; have J' := zh (za hown' (J.out.2.1.trans hb')); clear hown' hb'; go_frame)
   go_roundw
   case rel => exact ⟨1, 0, done ++ [UInt8.ofNat (N / 256 ^ 1)], by go_num, J'.out.1, J'.out.2, by rw [← J.out.2.2.1]; simp [Kc.bn], by decide, by decide⟩
   case measure => simp [intOf]
  ·obtain rfl : q = 2 := hq
   go_wp2_with (at_builtin; refine app1 rfl _ _ rfl base u0 done _ _ _ (dig N 65536 (256 ^ 2) rfl) rfl J.out.1 rfl (by have := J.out.2.2.2.1; omega) J.out.2.2.2.2 ?_; intro v' w1 hown' _ hb'; have J' := zh (za hown' (J.out.2.1.trans hb')); clear hown' hb'; go_frame)
   go_roundw
   case rel => exact ⟨2, 1, done ++ [UInt8.ofNat (N / 256 ^ 2)], by go_num, J'.out.1, J'.out.2, by rw [← J.out.2.2.1]; simp [Kc.bn], by decide, by decide⟩
   case measure => simp [intOf]
  ·obtain rfl : q = 3 := hq
   go_wp2_with (at_builtin; refine app1 rfl _ _ rfl base u0 done _ _ _ (dig N 16777216 (256 ^ 3) rfl) rfl J.out.1 rfl (by have := J.out.2.2.2.1; omega) J.out.2.2.2.2 ?_; intro v' w1 hown' _ hb'; have J' := zh (za hown' (J.out.2.1.trans hb')); clear hown' hb'; go_frame)
   go_roundw
   case rel => exact ⟨3, 2, done ++ [UInt8.ofNat (N / 256 ^ 3)], by go_num, J'.out.1, J'.out.2, by rw [← J.out.2.2.1]; simp [Kc.bn], by decide, by decide⟩
   case measure => simp [intOf]
  ·obtain rfl : q = 4 := hq
   go_wp2_with (at_builtin; refine app1 rfl _ _ rfl base u0 done _ _ _ (dig N 4294967296 (256 ^ 4) rfl) rfl J.out.1 rfl (by have := J.out.2.2.2.1; omega) J.out.2.2.2.2 ?_; intro v' w1 hown' _ hb'; have J' := zh (za hown' (J.out.2.1.trans hb')); clear hown' hb'; go_frame)
   go_roundw
   case rel => exact ⟨4, 3, done ++ [UInt8.ofNat (N / 256 ^ 4)], by go_num, J'.out.1, J'.out.2, by rw [← J.out.2.2.1]; simp [Kc.bn], by decide, by decide⟩
   case measure => simp [intOf]
  ·obtain rfl : q = 5 := hq
   go_wp2_with (at_builtin; refine app1 rfl _ _ rfl base u0 done _ _ _ (dig N 1099511627776 (256 ^ 5) rfl) rfl J.out.1 rfl (by have := J.out.2.2.2.1; omega) J.out.2.2.2.2 ?_; intro v' w1 hown' _ hb'; have J' := zh (za hown' (J.out.2.1.trans hb')); clear hown' hb'; go_frame)
   go_roundw
   case rel => exact ⟨5, 4, done ++ [UInt8.ofNat (N / 256 ^ 5)], by go_num, J'.out.1, J'.out.2, by rw [← J.out.2.2.1]; simp [Kc.bn], by decide, by decide⟩
   case measure => simp [intOf]
  ·obtain rfl : q = 6 := hq
   go_wp2_with (at_builtin; refine app1 rfl _ _ rfl base u0 done _ _ _ (dig N 281474976710656 (256 ^ 6) rfl) rfl J.out.1 rfl (by have := J.out.2.2.2.1; omega) J.out.2.2.2.2 ?_; intro v' w1 hown' _ hb'; have J' := zh (za hown' (J.out.2.1.trans hb')); clear hown' hb'; go_frame)
   go_roundw
   case rel => exact ⟨6, 5, done ++ [UInt8.ofNat (N / 256 ^ 6)], by go_num, J'.out.1, J'.out.2, by rw [← J.out.2.2.1]; simp [Kc.bn], by decide, by decide⟩
   case measure => simp [intOf]
  ·obtain rfl : q = 7 := hq
   go_wp2_with (at_builtin; refine app1 rfl _ _ rfl base u0 done _ _ _ (dig N 72057594037927936 (256 ^ 7) rfl) rfl J.out.1 rfl (by have := J.out.2.2.2.1; omega) J.out.2.2.2.2 ?_; intro v' w1 hown' _ hb'; have J' := zh (za hown' (J.out.2.1.trans hb')); clear hown' hb'; go_frame)
   go_roundw
   case rel => exact ⟨7, 6, done ++ [UInt8.ofNat (N / 256 ^ 7)], by go_num, J'.out.1, J'.out.2, by rw [← J.out.2.2.1]; simp [Kc.bn], by decide, by decide⟩
   case measure => simp [intOf]
end Go.Proofs.YtmgdciihpjifgaaGreatDoor.Rk
