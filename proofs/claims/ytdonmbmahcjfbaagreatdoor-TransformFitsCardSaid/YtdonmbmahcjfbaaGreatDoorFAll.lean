/-
  What else the texts beneath tell, for the law TransformFits. Conditions: the bounds named in each theorem.
-/
import Derived.Test.YtdonmbmahcjfbaaGreatDoorBase
import Derived.Below
import Derived.Lib.Hide
import Derived.Lib.AppendStr
import Derived.LoopN
import Derived.Laws.IdiomStrings
import Derived.Laws.AppendOwn
import Derived.OwnWalkIn
import Derived.RangeFuncBox
import Derived.WalkSpells
import Derived.WalkLawsBesides
import Derived.Test.YtdonmbmahcjfbaaGreatDoorKcPutNum
import Derived.WalkKit
import Derived.Laws.BitsAllLaws
import Derived.Test.YtdonmbmahcjfbaaGreatDoorRealsKey
import Derived.Lib.BitFns
import Derived.Lib.TrailingZeros
import Derived.Test.YtdonmbmahcjfbaaGreatDoorRealsNum
import Derived.Test.YtdonmbmahcjfbaaGreatDoorUtfCount
import Derived.Laws.StructEq
import Derived.Laws.Cover1
import Derived.Test.YtdonmbmahcjfbaaGreatDoorVlSame
import Derived.Deep.QuietTactic
import Derived.BigQuiet
import Derived.Deep.RegionHeld3
import Derived.Deep.DrawnRows
import Derived.Test.YtdonmbmahcjfbaaGreatDoorVlWorld
import Derived.Test.YtdonmbmahcjfbaaGreatDoorKcVals
import Derived.Laws.OwnMore
import Derived.OwnWalk
import Derived.Deep.Slices
import Derived.Deep.Fields
import Derived.Carry
import Derived.ProofKit
import Derived.OpenShut
import Derived.ChangeOld
import Derived.Lib.SmallJoins
import Derived.Maps.OwnSet
import Derived.Maps.AppendAt
import Derived.Test.YtdonmbmahcjfbaaGreatDoorNmCheck
import Derived.Test.YtdonmbmahcjfbaaGreatDoorScPlain
import Derived.Test.YtdonmbmahcjfbaaGreatDoorScErr
import Derived.Test.YtdonmbmahcjfbaaGreatDoorVlRefCheck
import Derived.Test.YtdonmbmahcjfbaaGreatDoorScRow
import Derived.Test.YtdonmbmahcjfbaaGreatDoorScCheck
import Derived.Test.YtdonmbmahcjfbaaGreatDoorScSame
import Derived.Test.YtdonmbmahcjfbaaGreatDoorCvPlain
import Derived.Lib.SliceRun
import Derived.Stop.Asserts
import Derived.Deep.MidRow
import Derived.Test.YtdonmbmahcjfbaaGreatDoorChSrcs
import Derived.Test.YtdonmbmahcjfbaaGreatDoorKmRow
import Derived.Test.YtdonmbmahcjfbaaGreatDoorCvBy
import Derived.Test.YtdonmbmahcjfbaaGreatDoorCvBetween
import Derived.Test.YtdonmbmahcjfbaaGreatDoorCvTo
namespace Go.Proofs.YtdonmbmahcjfbaaGreatDoor.Kc

def esc (s : List UInt8) : List UInt8 := es s ++ [0, 0]

theorem pc_n {x : UInt8} (h : x ≠ 0) : pc x = [x] := by unfold pc; rw [if_neg h]
theorem pc_len (x : UInt8) : (pc x).length ≤ 2 := by unfold pc; split <;> simp
theorem es_len (s : List UInt8) : (es s).length ≤ 2 * s.length := by
  induction s with
  | nil => simp [es]
  | cons x s ih => have := pc_len x; simp [es]; omega

end Go.Proofs.YtdonmbmahcjfbaaGreatDoor.Kc

namespace Go.Proofs.YtdonmbmahcjfbaaGreatDoor
open Go.RowKit

theorem ret_si {a b : List UInt8} {c d : Int} (h : a = b) (g : c = d) : Ending.returned (.tuple #[.string ⟨a.toArray⟩, .int .i64 c]) = .returned (.tuple #[.string ⟨b.toArray⟩, .int .i64 d]) := by rw [h, g]

section
variable {ops : Array Oper} {rest : List Oper} {o : Oper} {a : Act} {Q : Exit → Act → World → Prop}

/-- A text more, in a round. -/
theorem appSIn {F : Fence} {n : Nat} (w : World) (hgd : o.guard = none) (s x : Operand) (ho : o.op = .call { callee := .builtin .append, args := #[s, x], argTypes := #[123, 9] })
    (base : Nat) (v : Value) (l m : List UInt8) (hs : a.eval s = v) (hown : Ow w base v l) (hx : a.eval x = .string ⟨m.toArray⟩) (hlen : l.length ≤ 1000000000) (hm : m.length ≤ 1000000000) (hb : base ≤ w.heap.size)
    (h : ∀ v' w', Ow w' base v' (l ++ m) → w.grownBy w' v.ownBlock → wpListIn F n Tryz.prog ops Q rest (a.put o.dst v') w') : wpListIn F n Tryz.prog ops Q (o :: rest) a w := by
  obtain ⟨i0, hi, hz0, hz1, hz2⟩ := info_parts Tryz.infoU8
  have hsz : (ByteArray.mk m.toArray).size = m.length := by simp [ByteArray.size]
  refine wpListIn_plain hgd fun K hK => ?_
  obtain ⟨v', w', hr, h2, h3, h4⟩ := Lib.run_append_own_string (P := Tryz.prog) w base 123 9 o.type 5 i0 Tryz.underlying123 Tryz.underlying9 hi hz0 hz1 hz2 v _ _ hown ⟨m.toArray⟩ (by rw [hsz]; unfold maxLen; omega) (by rw [hsz]; omega) hb
  unfold Oper.wpIn
  refine ⟨?_, ?_⟩
  · simp [Oper.about, ho, resolve, Target.leads, Sem.run_pure]
  · rw [Oper.semAt_plain F _ _ (by rw [ho]; intro c hc'; cases hc')]
    simp [execOp, ho, resolve, invoke, builtin, hs, hx, hr, Result.andThen]
    refine hK _ _ (h v' w' ?_ h3)
    unfold Ow
    rw [List.length_append, List.map_append]
    have e : m.map bv = Lib.strCells ⟨m.toArray⟩ := by simp [Lib.strCells, bv]
    rw [e, ← hsz]
    exact h2
end

end Go.Proofs.YtdonmbmahcjfbaaGreatDoor

namespace Go.Proofs.YtdonmbmahcjfbaaGreatDoor
open Go.RowKit

theorem Blk.below' {W W' : World} {B n : Nat} {cs : Array Value} {t : TypeId} (h : Blk W B cs t) (hb : Below n W W') (hn : B < n) : Blk W' B cs t := (hb.block B hn).trans h
theorem Blk.boxed {W : World} {B : Nat} {v : Value} {t : TypeId} (h : Blk W B #[v] t) : Boxed W B t v := h

/-- What a row written on, and then stored back into its box, leaves. -/
theorem wrote {W w1 : World} {base B : Nat} {v v' : Value} {l l' : List UInt8} (hv : Blk W B #[v] 123) (hrow : Ow W base v l) (hb : base ≤ W.heap.size) (hB : base ≤ B) (hown : Ow w1 base v' l') (hg : W.grownBy w1 v.ownBlock) :
    Blk w1 B #[v] 123 ∧ Blk (w1.setCell ⟨B, 0, none⟩ v') B #[v'] 123 ∧ Ow (w1.setCell ⟨B, 0, none⟩ v') base v' l' ∧ Below base W (w1.setCell ⟨B, 0, none⟩ v') ∧ KeepsOthers W (w1.setCell ⟨B, 0, none⟩ v') ∧
      ∀ (C : Nat) (cs : Array Value) (t : TypeId), C ≠ B → t ≠ 5 → Blk W C cs t → Blk w1 C cs t ∧ Blk (w1.setCell ⟨B, 0, none⟩ v') C cs t := by
  have h1 : Blk w1 B #[v] 123 := hv.kept hg (hv.not_row (by decide) hrow)
  have hlt : ∀ j, v.ownBlock = some j → base ≤ j := fun j hj => (World.ownsRow.lt hrow j hj).1
  refine ⟨h1, Boxed.set v' h1.boxed, hown.kept h1 (by decide) (grownBy_setCell' w1 B v'), ?_, ?_, ?_⟩
  · exact ((Below.refl base W).grown hg hb hlt).setCell (p := ⟨B, 0, none⟩) hB v'
  · refine (KeepsOthers.of_grownBy hg fun j o ej hj => ?_).trans (KeepsOthers.setCell _ _ _)
    rcases hrow.2 with ⟨rfl, _⟩ | ⟨g, cap, cur, rfl, _, hgb, _⟩
    · simp [Value.ownBlock] at ej
    · obtain rfl : g = j := by simpa [Value.ownBlock] using ej
      rw [hgb] at hj; cases hj; rfl
  · intro C cs t hne ht hC
    have hC1 := hC.kept hg (hC.not_row ht hrow)
    exact ⟨hC1, hC1.other hne v'⟩

section
variable {ops : Array Oper} {rest : List Oper} {o : Oper} {a : Act} {Q : Exit → Act → World → Prop}
/-- A byte more: which blocks are kept. -/
theorem app1g (hgd : o.guard = none) (s x : Operand) (ho : o.op = .call { callee := .builtin .append, args := #[s, x], argTypes := #[123, 123] })
    (base : Nat) (v : Value) (l : List UInt8) (b : UInt8) (c : Int) (w0 : World) (hc : Value.int .u8 c = bv b) (hs : a.eval s = v) (hown : Ow w0 base v l)
    (hx : a.eval x = .slice (some ⟨w0.heap.size, 0, none⟩) 1 1) (hlen : l.length ≤ 1000000000) (hb : base ≤ w0.heap.size)
    (h : ∀ v' w', Ow w' base v' (l ++ [b]) → (w0.alloc (.cells #[.int .u8 c] 5)).grownBy w' v.ownBlock → wpList Tryz.prog ops Q rest (a.put o.dst v') w') : wpList Tryz.prog ops Q (o :: rest) a (w0.alloc (.cells #[.int .u8 c] 5)) := by
  obtain ⟨i0, hi, hz0, hz1, hz2⟩ := info_parts Tryz.infoU8
  refine wpList_append_own _ hgd s x 123 ho base 5 i0 (.int .u8 0) 1 1 Tryz.underlying123 hi hz0 hz1 hz2 rfl (by decide) v _ _ hs (hown.alloc _) ⟨w0.heap.size, 0, none⟩ 1 1 [.int .u8 c] hx rfl ?_ ?_ (by unfold maxLen; omega) (by omega) (by simp; omega) ?_
  · intro j u hj
    match j, hj with
    | 0, hj => simp at hj; subst hj; simp [Addr.add]
    | (j + 1), hj => simp at hj
  · intro u hu; simp at hu; subst hu; rfl
  · intro v' w' hown' hgrow _
    refine h v' w' ?_ hgrow
    unfold Ow
    rw [List.length_append, List.map_append, List.map_singleton, ← hc]; exact hown'
end

end Go.Proofs.YtdonmbmahcjfbaaGreatDoor

namespace Go.Proofs.YtdonmbmahcjfbaaGreatDoor
open Go.RowKit

end Go.Proofs.YtdonmbmahcjfbaaGreatDoor

namespace Go.Proofs.YtdonmbmahcjfbaaGreatDoor.Rl

theorem cn_U (x : Int) (h : U x) : U (cn x) := by unfold U cn at *; split <;> omega
theorem ky_U (x : Int) (h : U x) : U (ky x) := by have := cn_U x h; unfold U ky at *; split <;> omega
theorem cn_cn (x : Int) : cn (cn x) = cn x := by
  have h : cl 9221120237041090560 = 1 := by decide
  by_cases g : cl x = 1
  · have e : cn x = 9221120237041090560 := by unfold cn; rw [if_pos g]
    rw [e]; decide
  · have e : cn x = x := by unfold cn; rw [if_neg g]
    rw [e, e]

end Go.Proofs.YtdonmbmahcjfbaaGreatDoor.Rl

namespace Go.Proofs.YtdonmbmahcjfbaaGreatDoor.Rl

theorem nat_xsign (x : Nat) (h : x < 2 ^ 63) : x ^^^ 2 ^ 63 = x + 2 ^ 63 := by
  have e : x ^^^ 2 ^ 63 = 2 ^ 63 ||| x := by
    apply Nat.eq_of_testBit_eq
    intro i
    rw [Nat.testBit_xor, Nat.testBit_or, Nat.testBit_two_pow]
    by_cases g : 63 = i
    · subst g; rw [Nat.testBit_lt_two_pow h]; rfl
    · simp [g]
  rw [e, nat_join 63 _ _ (by decide) h]
  omega

theorem nat_xsign' (x : Nat) (h : 2 ^ 63 ≤ x) (g : x < 2 ^ 64) : x ^^^ 2 ^ 63 = x - 2 ^ 63 := by
  have e := nat_xsign (x - 2 ^ 63) (by omega)
  have f : x = (x - 2 ^ 63) ^^^ 2 ^ 63 := by rw [e]; omega
  have k : x ^^^ 2 ^ 63 = ((x - 2 ^ 63) ^^^ 2 ^ 63) ^^^ 2 ^ 63 := by rw [← f]
  rw [k, Nat.xor_assoc, Nat.xor_self, Nat.xor_zero]

theorem xsign (x : Int) (h : U x) : bits .xor .u64 x 9223372036854775808 = if x < 9223372036854775808 then x + 9223372036854775808 else x - 9223372036854775808 := by
  have := u64_xor x 9223372036854775808 h.1 h.2 (by omega) (by omega)
  rw [this, show (9223372036854775808 : Int).toNat = 2 ^ 63 from rfl]
  unfold U at h
  split
  · rw [nat_xsign x.toNat (by omega)]; omega
  · rw [nat_xsign' x.toNat (by omega) (by omega)]; omega

theorem nat_xall (x : Nat) (h : x < 2 ^ 64) : (2 ^ 64 - 1) ^^^ x = 2 ^ 64 - (x + 1) := by
  apply Nat.eq_of_testBit_eq
  intro i
  rw [Nat.testBit_xor, Nat.testBit_two_pow_sub_succ h, Nat.testBit_two_pow_sub_one]
  by_cases g : i < 64
  · simp [g]
  · have : x.testBit i = false := Nat.testBit_lt_two_pow (Nat.lt_of_lt_of_le h (Nat.pow_le_pow_right (by decide) (by omega)))
    simp [g, this]

theorem xall (x : Int) (h : U x) : bits .xor .u64 IntKind.u64.max x = 18446744073709551615 - x := by
  have := u64_xor 18446744073709551615 x (by decide) (by decide) h.1 h.2
  show bits .xor .u64 18446744073709551615 x = _
  rw [this, show (18446744073709551615 : Int).toNat = 2 ^ 64 - 1 from rfl, nat_xall x.toNat (by unfold U at h; omega)]
  unfold U at h; omega

end Go.Proofs.YtdonmbmahcjfbaaGreatDoor.Rl

namespace Go.Proofs.YtdonmbmahcjfbaaGreatDoor
open Go.RowKit

end Go.Proofs.YtdonmbmahcjfbaaGreatDoor

namespace Go.Proofs.YtdonmbmahcjfbaaGreatDoor
open Go.RowKit

set_option maxHeartbeats 1000000 in
theorem key_any (x : Int) (w : World) (hx : Rl.U x) :
    Calls Tryz.prog 95 #[.int .u64 x] w fun e w' => e = .returned (.int .u64 (Rl.ky x)) ∧ w = w' := by
  have hc := Rl.cn_U x hx
  have h1 := Rl.asign _ hc
  have h2 := Rl.xsign _ hc
  have h3 := Rl.xall _ hc
  by_cases h : Rl.cn x < 9223372036854775808
  · rw [if_pos h] at h1 h2
    have e : Rl.ky x = Rl.cn x + 9223372036854775808 := by unfold Rl.ky; rw [if_pos h]
    rw [e]
    clear e h
    go_enter Tryz.func95, Tryz.ntmps95
    go_wp2_with fail
    refine (canon_any x _ hx).mono ?_
    rintro e w' ⟨rfl, rfl⟩
    go_wp2
    go_ret
    exact ⟨rfl, rfl⟩
  · rw [if_neg h] at h1 h2
    have e : Rl.ky x = 18446744073709551615 - Rl.cn x := by unfold Rl.ky; rw [if_neg h]
    rw [e]
    clear e h2
    go_enter Tryz.func95, Tryz.ntmps95
    go_wp2_with fail
    refine (canon_any x _ hx).mono ?_
    rintro e w' ⟨rfl, rfl⟩
    go_wp2
    go_ret
    exact ⟨rfl, rfl⟩

end Go.Proofs.YtdonmbmahcjfbaaGreatDoor

namespace Go.Proofs.YtdonmbmahcjfbaaGreatDoor.Rl
open Go

theorem fi_U (n : Int) (h : n.natAbs < 2 ^ 64) : U (fi n) := by
  have := mg_range n.natAbs h
  unfold fi U sg; split
  · split <;> omega
  · decide

end Go.Proofs.YtdonmbmahcjfbaaGreatDoor.Rl

namespace Go.Proofs.YtdonmbmahcjfbaaGreatDoor.Vl

theorem less_eq : ∀ (x y : List UInt8), Op.bytesLess x y = decide (x < y)
  | [], [] => by simp [Op.bytesLess]
  | _ :: _, [] => by simp [Op.bytesLess]
  | [], _ :: _ => by simp [Op.bytesLess]
  | a :: x, b :: y => by
    rw [Op.bytesLess, less_eq x y]
    rw [Bool.eq_iff_iff]
    simp [List.cons_lt_cons_iff]

end Go.Proofs.YtdonmbmahcjfbaaGreatDoor.Vl

namespace Go.Proofs.YtdonmbmahcjfbaaGreatDoor
open Go.RowKit

end Go.Proofs.YtdonmbmahcjfbaaGreatDoor

namespace Go.Proofs.YtdonmbmahcjfbaaGreatDoor
open Go.RowKit

end Go.Proofs.YtdonmbmahcjfbaaGreatDoor

namespace Go.Proofs.YtdonmbmahcjfbaaGreatDoor
open Go.RowKit

end Go.Proofs.YtdonmbmahcjfbaaGreatDoor

namespace Go.Proofs.YtdonmbmahcjfbaaGreatDoor
open Go.RowKit
attribute [local go_sem ↓] Go.wp_at_zero Go.wp_at_succ

end Go.Proofs.YtdonmbmahcjfbaaGreatDoor

namespace Go.Proofs.YtdonmbmahcjfbaaGreatDoor
open Go.RowKit

end Go.Proofs.YtdonmbmahcjfbaaGreatDoor

namespace Go.Proofs.YtdonmbmahcjfbaaGreatDoor
open Go.RowKit


theorem fresh {v : World} {g : Nat} {k n b : Int} {s : List UInt8} (hg : v.heap.size = g) :
    (v.alloc (Obj.cells #[.int .i64 k, .int .i64 n, .int .u64 b, .string ⟨(s : List UInt8).toArray⟩] 28)).cell? ⟨g, 0, none⟩ = some (.int .i64 k) ∧ (v.alloc (Obj.cells #[.int .i64 k, .int .i64 n, .int .u64 b, .string ⟨(s : List UInt8).toArray⟩] 28)).cell? ⟨g, 1, none⟩ = some (.int .i64 n) ∧ (v.alloc (Obj.cells #[.int .i64 k, .int .i64 n, .int .u64 b, .string ⟨(s : List UInt8).toArray⟩] 28)).cell? ⟨g, 2, none⟩ = some (.int .u64 b) ∧ (v.alloc (Obj.cells #[.int .i64 k, .int .i64 n, .int .u64 b, .string ⟨(s : List UInt8).toArray⟩] 28)).cell? ⟨g, 3, none⟩ = some (.string ⟨(s : List UInt8).toArray⟩) := by subst hg; simp

/-- What the boxes hold wherever only memory was made since. -/
theorem boxes_1 {w v : World} {k n b : Int} {s : List UInt8} (h : Below (w.alloc (Obj.cells #[.int .i64 k, .int .i64 n, .int .u64 b, .string ⟨(s : List UInt8).toArray⟩] 28)).heap.size (w.alloc (Obj.cells #[.int .i64 k, .int .i64 n, .int .u64 b, .string ⟨(s : List UInt8).toArray⟩] 28)) v) :
    Below (w.alloc (Obj.cells #[.int .i64 k, .int .i64 n, .int .u64 b, .string ⟨(s : List UInt8).toArray⟩] 28)).heap.size (w.alloc (Obj.cells #[.int .i64 k, .int .i64 n, .int .u64 b, .string ⟨(s : List UInt8).toArray⟩] 28)) v ∧ v.cell? ⟨w.heap.size, 0, none⟩ = some (.int .i64 k) ∧ v.cell? ⟨w.heap.size, 1, none⟩ = some (.int .i64 n) ∧ v.cell? ⟨w.heap.size, 2, none⟩ = some (.int .u64 b) ∧ v.cell? ⟨w.heap.size, 3, none⟩ = some (.string ⟨(s : List UInt8).toArray⟩) :=
  ⟨h, keep0 ((fresh rfl).1) h, keep0 ((fresh rfl).2.1) h, keep0 ((fresh rfl).2.2.1) h, keep0 ((fresh rfl).2.2.2) h⟩
end Go.Proofs.YtdonmbmahcjfbaaGreatDoor

namespace Go.Proofs.YtdonmbmahcjfbaaGreatDoor

/-- A value's bytes. -/
def pb (k n b : Int) (s : List UInt8) : List UInt8 :=
  if k = 1 then Kc.bn 1 n.toNat else if k = 2 then Kc.bn 8 (n + 9223372036854775808).toNat else if k = 3 then Kc.bn 8 (Rl.ky b).toNat
  else if k = 4 ∨ k = 5 then Kc.esc s else []
def pt (k n b : Int) (s : List UInt8) : List UInt8 := UInt8.ofNat k.toNat :: pb k n b s

theorem pt_len {k n b : Int} {s : List UInt8} (h : Vl.ck k n b s = 0) : (pt k n b s).length ≤ 131 ∧ 1 ≤ (pt k n b s).length := by
  have hs := (Vl.ck_ok h).2.2.2.2.2.2.2
  have he := Kc.es_len s
  have h1 := Kc.bn_len 1 n.toNat
  have h2 := Kc.bn_len 8 (n + 9223372036854775808).toNat
  have h3 := Kc.bn_len 8 (Rl.ky b).toNat
  unfold pt pb Kc.esc
  (repeat' split) <;> simp <;> omega

end Go.Proofs.YtdonmbmahcjfbaaGreatDoor

namespace Go.Proofs.YtdonmbmahcjfbaaGreatDoor
open Go.RowKit

end Go.Proofs.YtdonmbmahcjfbaaGreatDoor

namespace Go.Proofs.YtdonmbmahcjfbaaGreatDoor.Nm

theorem fi_lo (l : List S) (s : S) : fi l s < 0 ↔ s ∉ l := by
  unfold fi
  split <;> simp_all
end Go.Proofs.YtdonmbmahcjfbaaGreatDoor.Nm

namespace Go.Proofs.YtdonmbmahcjfbaaGreatDoor
open Go.RowKit _root_.Go.Proofs.YtdonmbmahcjfbaaGreatDoor.Nm

section
variable {ops : Array Oper} {rest : List Oper} {o : Oper} {a : Act} {Q : Exit → Act → World → Prop}
end

section
open Go.ChangeShapes Go.WideShapes Go.ChangeAt Go.Joins Go.Deep
variable {H : Type} {enc : TypeId × Value → H} {W : World}
end

end Go.Proofs.YtdonmbmahcjfbaaGreatDoor

namespace Go.Proofs.YtdonmbmahcjfbaaGreatDoor
open Go.RowKit _root_.Go.Proofs.YtdonmbmahcjfbaaGreatDoor.Nm

end Go.Proofs.YtdonmbmahcjfbaaGreatDoor

namespace Go.Proofs.YtdonmbmahcjfbaaGreatDoor
open Go.RowKit _root_.Go.Proofs.YtdonmbmahcjfbaaGreatDoor.Nm Go.Maps

/-! ### the set, as plain mathematics -/
/-! ### the set in memory -/
/-! ### the document's -/
end Go.Proofs.YtdonmbmahcjfbaaGreatDoor

namespace Go.Proofs.YtdonmbmahcjfbaaGreatDoor
open Go.RowKit _root_.Go.Proofs.YtdonmbmahcjfbaaGreatDoor.Nm

end Go.Proofs.YtdonmbmahcjfbaaGreatDoor

namespace Go.Proofs.YtdonmbmahcjfbaaGreatDoor
open Go.RowKit

theorem fs_all : ∀ {cs : List C} {vs : List V}, vs.length ≤ cs.length → fs cs vs = 0 → ∀ (j : Nat) (h : j < vs.length) (h' : j < cs.length), ft cs[j] vs[j] = 0
  | c :: cs, v :: vs, hl, h, 0, _, _ => by rw [fs] at h; split at h; assumption; (rename_i g; exact absurd h g)
  | c :: cs, v :: vs, hl, h, j + 1, h1, h2 => by
    rw [fs] at h
    split at h
    · exact fs_all (by simpa using hl) h j (by simpa using h1) (by simpa using h2)
    · rename_i g; exact absurd h g
  | [], v :: vs, hl, _, _, _, _ => by simp at hl
  | _, [], _, _, _, h1, _ => by simp at h1
theorem ft_ck {c : C} {v : V} (h : ft c v = 0) : v.ck = 0 := by
  unfold ft at h
  split at h
  · rename_i g; exact absurd h g
  · rename_i g; omega
/-- The values of a row that fits may be. -/
theorem fit_fine {t : T} {row : List V} (h : t.fit row = 0) : ∀ v ∈ row, v.ck = 0 := by
  obtain ⟨_, hl, hf⟩ := T.fit_ok h
  intro v hv
  obtain ⟨j, hj, rfl⟩ := List.getElem_of_mem hv
  exact ft_ck (fs_all (by omega) hf j hj (by omega))

theorem C.sm_iff (a b : C) : C.sm a b = true ↔ a = b := by
  obtain ⟨n, k, l, ⟨k1, n1, b1, s1⟩⟩ := a
  obtain ⟨n', k', l', ⟨k2, n2, b2, s2⟩⟩ := b
  unfold C.sm Vl.sm
  simp only [Bool.and_eq_true, decide_eq_true_eq, beq_iff_eq, C.mk.injEq, V.mk.injEq, and_assoc]
theorem csm_iff : ∀ (a b : List C), csm a b = true ↔ a = b
  | [], [] => by simp [csm]
  | [], _ :: _ => by simp [csm]
  | _ :: _, [] => by simp [csm]
  | a :: x, b :: y => by rw [csm, Bool.and_eq_true, C.sm_iff, csm_iff x y, List.cons.injEq]
theorem T.sm_iff (t u : T) : T.sm t u = true ↔ t = u := by
  obtain ⟨n, k, cs⟩ := t
  obtain ⟨n', k', cs'⟩ := u
  unfold T.sm
  simp only [Bool.and_eq_true, decide_eq_true_eq, csm_iff, T.mk.injEq, and_assoc]
theorem csm_len : ∀ (a b : List C), csm a b = true → a.length = b.length := fun a b h => by rw [(csm_iff a b).1 h]
theorem csm_at (a b : List C) (hl : a.length = b.length) : csm a b = true ↔ ∀ (j : Nat) (h : j < a.length) (h' : j < b.length), C.sm a[j] b[j] = true := by
  rw [csm_iff]
  constructor
  · rintro rfl j h h'; rw [C.sm_iff]
  · intro h
    refine List.ext_getElem hl fun j h1 h2 => ?_
    exact (C.sm_iff _ _).1 (h j h1 h2)

end Go.Proofs.YtdonmbmahcjfbaaGreatDoor

namespace Go.Proofs.YtdonmbmahcjfbaaGreatDoor
open Go.RowKit

theorem C.why_Why (c : C) : Why c.why c.ck := by
  by_cases h : c.ck = 0
  · exact .inl ⟨C.why_ok h, h⟩
  · exact .inr (.inl (C.why_bad rfl h))

theorem checkCol_is (c : C) (E : Int) (w : World) (hg : Env w) (ho : c.d.ok) (hE : c.ck = E) :
    Calls Tryz.prog 199 #[.agg #[.string ⟨c.name.toArray⟩, .int .i64 c.kind, .bool c.null, .int .i64 c.d.k, .int .i64 c.d.n, .int .u64 c.d.b, .string ⟨c.d.s.toArray⟩]] w fun e w' => e = .returned (.int .i64 E) ∧ Below w.heap.size w w' := by
  subst hE
  have hE := Lib.hid hg
  clear hg
  go_enter Tryz.func199, Tryz.ntmps199
  go_wp2_with fail
  refine (whyNoCol_is c _ ho).mono ?_
  rintro e w1 ⟨rfl, hb1⟩
  have HB := Lib.hid (step1 (Below.refl _ w) hb1)
  clear hb1
  go_wp2_with fail
  refine (errno_is _ _ _ (hE.out.keep HB.out) c.why_Why).mono ?_
  rintro e w2 ⟨rfl, hb2⟩
  have HB2 := Lib.hid (step0 HB.out hb2)
  clear hb2
  go_wp2
  go_ret
  exact ⟨rfl, HB2.out⟩

end Go.Proofs.YtdonmbmahcjfbaaGreatDoor

namespace Go.Proofs.YtdonmbmahcjfbaaGreatDoor
open Go.RowKit

theorem Tryz.infoC : (Tryz.prog.info? 30).map (fun i => (i.zero, i.size, i.bytes)) = some (some (.agg #[.string ⟨#[]⟩, .int .i64 0, .bool false, .int .i64 0, .int .i64 0, .int .u64 0, .string ⟨#[]⟩]), 7, 72) := by kernel_rfl

theorem ccs_append (a b : List C) : ccs (a ++ b) = ccs a ++ ccs b := by
  induction a with
  | nil => rfl
  | cons x a ih => simp [ccs, ih]
theorem owc_nil (w : World) (base : Nat) : OwC w base (.slice none 0 0) [] := World.ownsRow_nil _ _ _ _
section
variable {ops : Array Oper} {rest : List Oper} {o : Oper} {a : Act} {Q : Exit → Act → World → Prop}
/-- A column more. -/
theorem appC (hgd : o.guard = none) (s x : Operand) (ho : o.op = .call { callee := .builtin .append, args := #[s, x], argTypes := #[22, 22] })
    (base : Nat) (v : Value) (l : List C) (b : C) (w0 : World) (hs : a.eval s = v) (hown : OwC w0 base v l)
    (G : Nat) (hG : w0.heap.size = G) (hx : a.eval x = .slice (some ⟨G, 0, none⟩) 1 1) (hlen : l.length ≤ 1000000000) (hb : base ≤ w0.heap.size)
    (h : ∀ v' w', OwC w' base v' (l ++ [b]) → Below base w0 w' → wpList Tryz.prog ops Q rest (a.put o.dst v') w') : wpList Tryz.prog ops Q (o :: rest) a (w0.alloc (.cells #[.string ⟨b.name.toArray⟩, .int .i64 b.kind, .bool b.null, .int .i64 b.d.k, .int .i64 b.d.n, .int .u64 b.d.b, .string ⟨b.d.s.toArray⟩] 30)) := by
  subst hG
  obtain ⟨i0, hi, hz0, hz1, hz2⟩ := info_parts Tryz.infoC
  refine wpList_append_own _ hgd s x 22 ho base 30 i0 _ 7 72 Tryz.underlying22 hi hz0 hz1 hz2 rfl (by decide) v _ _ hs (World.ownsRow.alloc hown _) ⟨w0.heap.size, 0, none⟩ 1 1 b.cells hx rfl ?_ ?_ (by unfold maxLen; omega) (by omega) (by simp; omega) ?_
  · intro j u hj
    match j, hj with
    | 0, hj => simp [C.cells] at hj; subst hj; simp [Addr.add]
    | 1, hj => simp [C.cells] at hj; subst hj; simp [Addr.add]
    | 2, hj => simp [C.cells] at hj; subst hj; simp [Addr.add]
    | 3, hj => simp [C.cells] at hj; subst hj; simp [Addr.add]
    | 4, hj => simp [C.cells] at hj; subst hj; simp [Addr.add]
    | 5, hj => simp [C.cells] at hj; subst hj; simp [Addr.add]
    | 6, hj => simp [C.cells] at hj; subst hj; simp [Addr.add]
    | (j + 7), hj => simp [C.cells] at hj
  · intro u hu; simp [C.cells] at hu; rcases hu with rfl | rfl | rfl | rfl | rfl | rfl | rfl <;> rfl
  · intro v' w' hown' hgrow _
    refine h v' w' ?_ (((Below.refl base w0).alloc hb _).grown hgrow (by simp; omega) (fun k hk => (World.ownsRow.lt hown k hk).1))
    unfold OwC
    rw [List.length_append, ccs_append]
    have : ccs [b] = b.cells := by simp [ccs]
    rw [this]; exact hown'
end

end Go.Proofs.YtdonmbmahcjfbaaGreatDoor

namespace Go.Proofs.YtdonmbmahcjfbaaGreatDoor
open Go.RowKit

theorem ret_b {a b : Bool} (h : a = b) : Ending.returned (.bool a) = .returned (.bool b) := by rw [h]
set_option maxHeartbeats 1000000 in
theorem same_is (k n b : Int) (s : List UInt8) (k' n' b' : Int) (s' : List UInt8) (r : Bool) (w : World) (h : Vl.sm k n b s k' n' b' s' = r) :
    Calls Tryz.prog 212 #[.agg #[.int .i64 k, .int .i64 n, .int .u64 b, .string ⟨(s : List UInt8).toArray⟩], .agg #[.int .i64 k', .int .i64 n', .int .u64 b', .string ⟨(s' : List UInt8).toArray⟩]] w fun e w' => e = .returned (.bool r) ∧ Below w.heap.size w w' := by
  have E : ∀ w, (Op.equalIn 10000 28 (.agg #[.int .i64 k, .int .i64 n, .int .u64 b, .string ⟨(s : List UInt8).toArray⟩]) (.agg #[.int .i64 k', .int .i64 n', .int .u64 b', .string ⟨(s' : List UInt8).toArray⟩])).run Tryz.prog w = .ok r w := fun w => by rw [eq24, h]
  clear h
  go_enter Tryz.func212, Tryz.ntmps212
  go_wp2
  go_ret
  exact ⟨rfl, below2s _ _ _⟩

set_option maxHeartbeats 1000000 in
theorem sc_name (nm : List UInt8) (kd : Int) (nu : Bool) (k n b : Int) (s : List UInt8) (nm' : List UInt8) (kd' : Int) (nu' : Bool) (k' n' b' : Int) (s' : List UInt8) (h : (nm == nm') = false) (w : World) :
    Calls Tryz.prog 211 #[.agg #[.string ⟨nm.toArray⟩, .int .i64 kd, .bool nu, .int .i64 k, .int .i64 n, .int .u64 b, .string ⟨s.toArray⟩], .agg #[.string ⟨nm'.toArray⟩, .int .i64 kd', .bool nu', .int .i64 k', .int .i64 n', .int .u64 b', .string ⟨s'.toArray⟩]] w fun e w' => e = .returned (.bool false) ∧ Below w.heap.size w w' := by
  go_enter Tryz.func211, Tryz.ntmps211
  go_wp2
  go_ret
  exact ⟨rfl, below2s _ _ _⟩

set_option maxHeartbeats 1000000 in
theorem sc_kind (nm : List UInt8) (kd : Int) (nu : Bool) (k n b : Int) (s : List UInt8) (kd' : Int) (nu' : Bool) (k' n' b' : Int) (s' : List UInt8) (h : (kd == kd') = false) (w : World) :
    Calls Tryz.prog 211 #[.agg #[.string ⟨nm.toArray⟩, .int .i64 kd, .bool nu, .int .i64 k, .int .i64 n, .int .u64 b, .string ⟨s.toArray⟩], .agg #[.string ⟨nm.toArray⟩, .int .i64 kd', .bool nu', .int .i64 k', .int .i64 n', .int .u64 b', .string ⟨s'.toArray⟩]] w fun e w' => e = .returned (.bool false) ∧ Below w.heap.size w w' := by
  go_enter Tryz.func211, Tryz.ntmps211
  go_wp2
  go_ret
  exact ⟨rfl, below2s _ _ _⟩

set_option maxHeartbeats 1000000 in
theorem sc_null (nm : List UInt8) (kd : Int) (nu : Bool) (k n b : Int) (s : List UInt8) (nu' : Bool) (k' n' b' : Int) (s' : List UInt8) (h : (nu == nu') = false) (w : World) :
    Calls Tryz.prog 211 #[.agg #[.string ⟨nm.toArray⟩, .int .i64 kd, .bool nu, .int .i64 k, .int .i64 n, .int .u64 b, .string ⟨s.toArray⟩], .agg #[.string ⟨nm.toArray⟩, .int .i64 kd, .bool nu', .int .i64 k', .int .i64 n', .int .u64 b', .string ⟨s'.toArray⟩]] w fun e w' => e = .returned (.bool false) ∧ Below w.heap.size w w' := by
  go_enter Tryz.func211, Tryz.ntmps211
  go_wp2
  go_ret
  exact ⟨rfl, below2s _ _ _⟩

set_option maxHeartbeats 1000000 in
theorem sc_dflt (nm : List UInt8) (kd : Int) (nu : Bool) (k n b : Int) (s : List UInt8) (k' n' b' : Int) (s' : List UInt8) (r : Bool) (h : Vl.sm k n b s k' n' b' s' = r) (w : World) :
    Calls Tryz.prog 211 #[.agg #[.string ⟨nm.toArray⟩, .int .i64 kd, .bool nu, .int .i64 k, .int .i64 n, .int .u64 b, .string ⟨s.toArray⟩], .agg #[.string ⟨nm.toArray⟩, .int .i64 kd, .bool nu, .int .i64 k', .int .i64 n', .int .u64 b', .string ⟨s'.toArray⟩]] w fun e w' => e = .returned (.bool r) ∧ Below w.heap.size w w' := by
  go_enter Tryz.func211, Tryz.ntmps211
  go_wp2_with fail
  refine (same_is k n b s k' n' b' s' r _ h).mono ?_
  rintro e w1 ⟨rfl, hb⟩
  have B := Lib.hid (step1 (below1 w _) hb)
  clear hb
  go_wp2
  go_ret
  exact ⟨rfl, B.out⟩

theorem sameCol_is (x y : C) (r : Bool) (w : World) (h : C.sm x y = r) :
    Calls Tryz.prog 211 #[.agg #[.string ⟨x.name.toArray⟩, .int .i64 x.kind, .bool x.null, .int .i64 x.d.k, .int .i64 x.d.n, .int .u64 x.d.b, .string ⟨x.d.s.toArray⟩], .agg #[.string ⟨y.name.toArray⟩, .int .i64 y.kind, .bool y.null, .int .i64 y.d.k, .int .i64 y.d.n, .int .u64 y.d.b, .string ⟨y.d.s.toArray⟩]] w fun e w' => e = .returned (.bool r) ∧ Below w.heap.size w w' := by
  subst h
  obtain ⟨nm, kd, nu, ⟨k, n, b, s⟩⟩ := x
  obtain ⟨nm', kd', nu', ⟨k', n', b', s'⟩⟩ := y
  by_cases h1 : nm = nm'
  · by_cases h2 : kd = kd'
    · by_cases h3 : nu = nu'
      · subst h1 h2 h3
        exact sc_dflt nm kd nu k n b s k' n' b' s' _ (by unfold C.sm; simp) w
      · have e : C.sm ⟨nm, kd, nu, ⟨k, n, b, s⟩⟩ ⟨nm', kd', nu', ⟨k', n', b', s'⟩⟩ = false := by unfold C.sm; simp [h3]
        rw [e]; subst h1 h2
        exact sc_null nm kd nu k n b s nu' k' n' b' s' (by simpa using h3) w
    · have e : C.sm ⟨nm, kd, nu, ⟨k, n, b, s⟩⟩ ⟨nm', kd', nu', ⟨k', n', b', s'⟩⟩ = false := by unfold C.sm; simp [h2]
      rw [e]; subst h1
      exact sc_kind nm kd nu k n b s kd' nu' k' n' b' s' (by simpa using h2) w
  · have e : C.sm ⟨nm, kd, nu, ⟨k, n, b, s⟩⟩ ⟨nm', kd', nu', ⟨k', n', b', s'⟩⟩ = false := by unfold C.sm; simp [h1]
    rw [e]
    exact sc_name nm kd nu k n b s nm' kd' nu' k' n' b' s' (by simpa using h1) w

theorem csm_no {a b : List C} (j : Nat) (h : j < a.length) (h' : j < b.length) (hs : C.sm a[j] b[j] = false) : csm a b = false := by
  cases e : csm a b with
  | false => rfl
  | true =>
    have := (csm_iff a b).1 e
    subst this
    rw [(C.sm_iff _ _).2 rfl] at hs
    cases hs
theorem csm_yes {a b : List C} (hl : a.length = b.length) (h : ∀ (i : Nat), i < a.length → ∀ (h1 : i < a.length) (h2 : i < b.length), C.sm a[i] b[i] = true) : csm a b = true := (csm_at a b hl).2 fun j h1 h2 => h j h1 h1 h2
theorem sm_next {a b : List C} {j : Nat} (h : ∀ (i : Nat), i < j → ∀ (h1 : i < a.length) (h2 : i < b.length), C.sm a[i] b[i] = true) (hj : j < a.length) (hj' : j < b.length) (h0 : C.sm a[j] b[j] = true) :
    ∀ (i : Nat), i < j + 1 → ∀ (h1 : i < a.length) (h2 : i < b.length), C.sm a[i] b[i] = true := by
  intro i hi h1 h2
  by_cases e : i = j
  · subst e; exact h0
  · exact h i (by omega) h1 h2
set_option maxHeartbeats 4000000 in
theorem equalFunc_is (xs ys : List C) (ao bo : Option Addr) (ca cb : Nat) (w : World) (ha : SlC w ao xs) (hb : SlC w bo ys) (hl : xs.length ≤ 1000) (r : Bool) (hr : csm xs ys = r) :
    Calls Tryz.prog 210 #[.slice ao xs.length ca, .slice bo ys.length cb, .func (.func 211) #[] #[]] w fun e w' => e = .returned (.bool r) ∧ Below w.heap.size w w' := by
  subst hr
  have hmx : Tryz.prog.follows .mixedOrders = true := by kernel_rfl
  by_cases hne : xs.length = ys.length
  · have H := Lib.hid (And.intro ha (And.intro hb (And.intro hl hne)))
    have n1 : ((xs.length : Int) == (ys.length : Int)) = true := beq_t (by omega)
    have n2 : ((xs.length : Int) != (ys.length : Int)) = false := by simp [hne]
    have n3 : (xs.length != ys.length) = false := by simp [hne]
    clear ha hb hl hne
    go_enter Tryz.func210, Tryz.ntmps210
    go_wp2
    go_loopw [17] (fun i wr => ∃ j : Nat, i = .int .i64 j ∧ j ≤ xs.length ∧ (∀ (i : Nat), i < j → ∀ (h1 : i < xs.length) (h2 : i < ys.length), C.sm xs[i] ys[i] = true) ∧ Below w.heap.size w wr) (fun i _ => xs.length - (intOf i).toNat)
    case atStart => exact ⟨0, rfl, Nat.zero_le _, fun _ h => by omega, Below.refl _ _⟩
    case round =>
      obtain ⟨j, rfl, hj, hall, hbel⟩ := hrel
      have J := Lib.hid (And.intro hall hbel)
      clear hall hbel
      by_cases hlt : j < xs.length
      · have hlu : j < ys.length := by have := H.out.2.2.2; omega
        obtain ⟨a, rfl, a0, a1, a2, a3, a4, a5, a6⟩ := H.out.1.below J.out.2 j xs[j] (List.getElem?_eq_getElem hlt)
        obtain ⟨b, rfl, b0, b1, b2, b3, b4, b5, b6⟩ := (H.out.2.1.below J.out.2).below (below1 wr (.cells #[.string ⟨xs[j].name.toArray⟩, .int .i64 xs[j].kind, .bool xs[j].null, .int .i64 xs[j].d.k, .int .i64 xs[j].d.n, .int .u64 xs[j].d.b, .string ⟨xs[j].d.s.toArray⟩] 30)) j ys[j] (List.getElem?_eq_getElem hlu)
        have hw : wrap64 ((j : Int) + 1) = (j : Int) + 1 := by have := H.out.2.2.1; exact wrap_in _ (by omega) (by omega)
        cases hs : C.sm xs[j] ys[j] with
        | true =>
          have HE := Lib.hid hs
          clear hs
          go_wp2_with (go_at_call 211; refine (sameCol_is xs[j] ys[j] true _ HE.out).mono ?_; rintro e w1 ⟨rfl, hb1⟩; have K := Lib.hid (step0 ((J.out.2.alloc J.out.2.size _).alloc (J.out.2.alloc J.out.2.size _).size _) hb1); clear hb1)
          all_goals go_roundw
          all_goals first
            | exact ⟨j + 1, by go_num, hlt, sm_next J.out.1 hlt hlu HE.out, K.out⟩
            | (rw [hw]; simp [intOf]; omega)
        | false =>
          have HE := Lib.hid hs
          clear hs
          go_wp2_with (go_at_call 211; refine (sameCol_is xs[j] ys[j] false _ HE.out).mono ?_; rintro e w1 ⟨rfl, hb1⟩; have K := Lib.hid (step0 ((J.out.2.alloc J.out.2.size _).alloc (J.out.2.alloc J.out.2.size _).size _) hb1); clear hb1)
          all_goals go_ret
          all_goals exact ⟨ret_b (csm_no j hlt hlu HE.out).symm, K.out⟩
      · obtain rfl : j = xs.length := by omega
        have HN := Lib.hid (csm_yes H.out.2.2.2 J.out.1)
        go_wp2
        go_ret
        exact ⟨ret_b HN.out.symm, J.out.2⟩
  · have n2 : ((xs.length : Int) != (ys.length : Int)) = true := bne_t (by omega)
    have n3 : (xs.length != ys.length) = true := by simpa using hne
    have HN := Lib.hid (show csm xs ys = false from by
      cases e : csm xs ys with
      | false => rfl
      | true => exact absurd (csm_len _ _ e) hne)
    clear ha hb hl hne
    go_enter Tryz.func210, Tryz.ntmps210
    go_wp2
    go_ret
    exact ⟨ret_b HN.out.symm, Below.refl _ _⟩

theorem tsame_is_name (nm : List UInt8) (ks : Int) (cs : List C) (nm' : List UInt8) (ks' : Int) (ds : List C) (ao bo : Option Addr) (ca cb : Nat) (w : World) (h : (nm == nm') = false) :
    Calls Tryz.prog 209 #[.agg #[.string ⟨nm.toArray⟩, .int .i64 ks, .slice ao cs.length ca], .agg #[.string ⟨nm'.toArray⟩, .int .i64 ks', .slice bo ds.length cb]] w fun e w' => e = .returned (.bool false) ∧ Below w.heap.size w w' := by
  go_enter Tryz.func209, Tryz.ntmps209
  go_wp2
  go_ret
  exact ⟨rfl, below2s _ _ _⟩
theorem tsame_is_keys (nm : List UInt8) (ks : Int) (cs : List C) (ks' : Int) (ds : List C) (ao bo : Option Addr) (ca cb : Nat) (w : World) (h : (ks == ks') = false) :
    Calls Tryz.prog 209 #[.agg #[.string ⟨nm.toArray⟩, .int .i64 ks, .slice ao cs.length ca], .agg #[.string ⟨nm.toArray⟩, .int .i64 ks', .slice bo ds.length cb]] w fun e w' => e = .returned (.bool false) ∧ Below w.heap.size w w' := by
  go_enter Tryz.func209, Tryz.ntmps209
  go_wp2
  go_ret
  exact ⟨rfl, below2s _ _ _⟩
theorem tsame_is_cols (nm : List UInt8) (ks : Int) (cs : List C) (ds : List C) (ao bo : Option Addr) (ca cb : Nat) (w : World) (ha : SlC w ao cs) (hb : SlC w bo ds) (hl : cs.length ≤ 1000) (r : Bool) (hr : csm cs ds = r) :
    Calls Tryz.prog 209 #[.agg #[.string ⟨nm.toArray⟩, .int .i64 ks, .slice ao cs.length ca], .agg #[.string ⟨nm.toArray⟩, .int .i64 ks, .slice bo ds.length cb]] w fun e w' => e = .returned (.bool r) ∧ Below w.heap.size w w' := by
  have H := Lib.hid (And.intro ha (And.intro hb (And.intro hl hr)))
  clear ha hb hl hr
  go_enter Tryz.func209, Tryz.ntmps209
  go_wp2_with fail
  refine (equalFunc_is cs ds ao bo ca cb _ (H.out.1.below (below2s _ _ _)) (H.out.2.1.below (below2s _ _ _)) H.out.2.2.1 r H.out.2.2.2).mono ?_
  rintro e w1 ⟨rfl, hb⟩
  have B := Lib.hid (step1 (below1 w _) hb)
  clear hb
  go_wp2
  go_ret
  exact ⟨rfl, B.out⟩
theorem tsame_is (t u : T) (ao bo : Option Addr) (ca cb : Nat) (w : World) (ha : SlC w ao t.cs) (hb : SlC w bo u.cs) (hl : t.cs.length ≤ 1000) (r : Bool) (hr : T.sm t u = r) :
    Calls Tryz.prog 209 #[.agg #[.string ⟨t.name.toArray⟩, .int .i64 t.keys, .slice ao t.cs.length ca], .agg #[.string ⟨u.name.toArray⟩, .int .i64 u.keys, .slice bo u.cs.length cb]] w fun e w' => e = .returned (.bool r) ∧ Below w.heap.size w w' := by
  subst hr
  obtain ⟨nm, ks, cs⟩ := t
  obtain ⟨nm', ks', ds⟩ := u
  by_cases h1 : nm = nm'
  · by_cases h2 : ks = ks'
    · subst h1 h2
      exact tsame_is_cols nm ks cs ds ao bo ca cb w ha hb hl _ (by unfold T.sm; simp)
    · have e : T.sm ⟨nm, ks, cs⟩ ⟨nm', ks', ds⟩ = false := by unfold T.sm; simp [h2]
      rw [e]; subst h1
      exact tsame_is_keys nm ks cs ks' ds ao bo ca cb w (by simpa using h2)
  · have e : T.sm ⟨nm, ks, cs⟩ ⟨nm', ks', ds⟩ = false := by unfold T.sm; simp [h1]
    rw [e]
    exact tsame_is_name nm ks cs nm' ks' ds ao bo ca cb w (by simpa using h1)

end Go.Proofs.YtdonmbmahcjfbaaGreatDoor

namespace Go.Proofs.YtdonmbmahcjfbaaGreatDoor
open Go.RowKit

/-- The first error of tables; do texts rise; may tables be. -/
def tcl : List T → Int
  | [] => 0
  | t :: ts => if t.ck = 0 then tcl ts else t.ck
def rises : List Nm.S → Bool
  | a :: b :: l => decide (a < b) && rises (b :: l)
  | _ => true
def cka (l : List T) : Int := if 16 < l.length then 2 else if tcl l ≠ 0 then tcl l else if rises (nms l) = true then 0 else 12

def tat (l : List T) (s : Nm.S) : T := (l[(nms l).idxOf s]?).getD T0

def T.drp (t : T) (s : Nm.S) : List T × Int :=
  if Nm.fi t.cns s < t.keys then ([], 10) else ([⟨t.name, t.keys, t.cs.eraseIdx (Nm.fi t.cns s).toNat⟩], 0)
def C.re (c : C) (kind : Int) (v : V) : C := ⟨c.name, kind, c.null, v⟩
def T.ret (t : T) (s : Nm.S) (kind : Int) (v : V) : List T × Int :=
  if Nm.fi t.cns s < t.keys then ([], 10) else if Km.Cv.can (t.col s).kind kind = false then ([], 5)
  else ([⟨t.name, t.keys, t.cs.set (Nm.fi t.cns s).toNat ((t.col s).re kind v)⟩], 0)
def T.spl (t : T) (c : Ch) : List T × Int :=
  if Nm.ck c.to ≠ 0 then ([], Nm.ck c.to) else if Nm.ck c.also ≠ 0 then ([], Nm.ck c.also) else if c.to = c.also then ([], 12) else if t.bad c.names = true then ([], 10)
  else ([⟨c.to, t.keys, t.some c.names⟩, ⟨c.also, t.keys, t.rest c.names⟩], 0)
/-- Two as one. -/
def Ch.mrg (c : Ch) (a b : T) : List T × Int :=
  if c.table = c.other then ([], 12) else if Nm.ck c.to ≠ 0 then ([], Nm.ck c.to) else if a.keys = b.keys ∧ csm a.cs b.cs = true then ([⟨c.to, a.keys, a.cs⟩], 0) else ([], 11)
/-- What is there instead, whatever else is; with the question whether names are there. (v: what a retype makes of the column's Default.) -/
def Ch.bod (c : Ch) (v : V) (l : List T) : List T × Int :=
  if c.kind = 1 then c.df.new else if c.kind = 2 then (tat l c.table).add c.col else if c.kind = 3 then (tat l c.table).drp c.name
  else if c.kind = 4 then (tat l c.table).ret c.name c.type v else if c.kind = 5 then (tat l c.table).spl c else c.mrg (tat l c.table) (tat l c.other)
def lack (l : List T) (g : List Nm.S) : Bool := g.any fun s => decide (s ∉ nms l)
def Ch.tgt (c : Ch) (v : V) (l : List T) : List T × Int :=
  if cka l ≠ 0 then ([], cka l) else if c.kind < 1 ∨ 6 < c.kind then ([], 1) else if lack l c.src = true then ([], 9)
  else if (c.bod v l).2 ≠ 0 then ([], (c.bod v l).2) else if twice l c.src (c.bod v l).1 = true then ([], 12) else c.bod v l
/-! ### Tables that may be -/
theorem tcl_all {l : List T} (h : tcl l = 0) : ∀ t ∈ l, t.ck = 0 := by
  induction l with
  | nil => simp
  | cons c cs ih =>
    rw [tcl] at h
    split at h
    · rename_i g
      intro x hx
      rcases List.mem_cons.1 hx with rfl | hx
      · exact g
      · exact ih h x hx
    · rename_i g; exact absurd h g
theorem tcl_of {l : List T} (h : ∀ t ∈ l, t.ck = 0) : tcl l = 0 := by
  induction l with
  | nil => rfl
  | cons c cs ih => rw [tcl, if_pos (h c (List.mem_cons_self ..))]; exact ih fun x hx => h x (List.mem_cons_of_mem _ hx)
theorem tcl_stop (l : List T) (j : Nat) (hj : j < l.length) (h0 : ∀ t ∈ l.take j, t.ck = 0) (h1 : l[j].ck ≠ 0) : tcl l = l[j].ck := by
  induction l generalizing j with
  | nil => simp at hj
  | cons c cs ih =>
    cases j with
    | zero => rw [tcl, if_neg (show ¬ c.ck = 0 from h1)]; rfl
    | succ j =>
      rw [tcl, if_pos (h0 c (by simp))]
      exact ih j (by simpa using hj) (fun x hx => h0 x (by simp [hx])) h1
theorem ttake_all {l : List T} {j : Nat} (hj : j < l.length) {p : T → Prop} (h : ∀ c ∈ l.take j, p c) (h1 : p l[j]) : ∀ c ∈ l.take (j + 1), p c := by
  rw [List.take_succ_eq_append_getElem hj]
  intro x hx
  rcases List.mem_append.1 hx with g | g
  · exact h x g
  · obtain rfl := List.mem_singleton.1 g; exact h1
theorem rises_iff : ∀ (l : List Nm.S), rises l = true ↔ ∀ (i : Nat) (h : i + 1 < l.length), l[i] < l[i + 1]
  | [] => by simp [rises]
  | [a] => by simp [rises]
  | a :: b :: l => by
    rw [rises, Bool.and_eq_true, decide_eq_true_eq, rises_iff (b :: l)]
    constructor
    · rintro ⟨h1, h2⟩ i hi
      cases i with
      | zero => exact h1
      | succ i => exact h2 i (by simpa using hi)
    · intro h
      exact ⟨h 0 (by simp), fun i hi => h (i + 1) (by simpa using hi)⟩
theorem cka_ok {l : List T} (h : cka l = 0) : l.length ≤ 16 ∧ (∀ t ∈ l, t.ck = 0) ∧ rises (nms l) = true := by
  unfold cka at h
  split at h
  · omega
  · rename_i g0
    split at h
    · rename_i g1; exact absurd h g1
    · rename_i g1
      split at h
      · rename_i g2; exact ⟨by omega, tcl_all (by omega), g2⟩
      · omega
theorem cka_of {l : List T} (h0 : l.length ≤ 16) (h1 : ∀ t ∈ l, t.ck = 0) (h2 : rises (nms l) = true) : cka l = 0 := by
  unfold cka
  rw [if_neg (by omega), if_neg (by simp [tcl_of h1]), if_pos h2]

/-! ### Tables by their names -/
theorem idx_lt {l : List T} {s : Nm.S} (h : s ∈ nms l) : (nms l).idxOf s < l.length := by
  have := List.idxOf_lt_length_iff.2 h
  unfold nms at this ⊢
  simpa using this
theorem tat_name {l : List T} {s : Nm.S} (h : s ∈ nms l) : (tat l s).name = s := by
  have h0 := idx_lt h
  unfold tat
  rw [List.getElem?_eq_getElem h0, Option.getD_some]
  have h1 : (nms l)[(nms l).idxOf s]'(List.idxOf_lt_length_iff.2 h) = s := List.getElem_idxOf _
  have h2 : (nms l)[(nms l).idxOf s]'(List.idxOf_lt_length_iff.2 h) = l[(nms l).idxOf s].name := List.getElem_map T.name
  rw [← h2, h1]
theorem tat_mem {l : List T} {s : Nm.S} (h : s ∈ nms l) : tat l s ∈ l := by
  unfold tat
  rw [List.getElem?_eq_getElem (idx_lt h), Option.getD_some]
  exact List.getElem_mem _
end Go.Proofs.YtdonmbmahcjfbaaGreatDoor

namespace Go.Proofs.YtdonmbmahcjfbaaGreatDoor
open Go.RowKit

def TV0 : TV := ⟨T0, none, 0⟩
def tvs (xs : List TV) : List T := xs.map TV.t
theorem tvs_len (xs : List TV) : (tvs xs).length = xs.length := by simp [tvs]
theorem tvs_at {xs : List TV} {j : Nat} (h : j < xs.length) : (tvs xs)[j]'(by rw [tvs_len]; exact h) = xs[j].t := by simp [tvs]
theorem nms_len (xs : List TV) : (nms (tvs xs)).length = xs.length := by simp [nms, tvs]
theorem nms_at {xs : List TV} {j : Nat} (h : j < xs.length) : (nms (tvs xs))[j]'(by rw [nms_len]; exact h) = xs[j].t.name := by simp [nms, tvs]

theorem Tryz.infoT : (Tryz.prog.info? 24).map (fun i => (i.zero, i.size, i.bytes)) = some (some (.agg #[.string ⟨#[]⟩, .int .i64 0, .slice none 0 0]), 3, 48) := by kernel_rfl

theorem tcs_append (a b : List TV) : tcs (a ++ b) = tcs a ++ tcs b := by
  induction a with
  | nil => rfl
  | cons x a ih => simp [tcs, ih]
theorem tcs_len (a : List TV) : (tcs a).length = a.length * 3 := by
  induction a with
  | nil => rfl
  | cons x a ih => rw [tcs, List.length_append, ih]; simp [TV.cells]; omega
theorem owt_nil (w : World) (base : Nat) : OwT w base (.slice none 0 0) [] := World.ownsRow_nil _ _ _ _
theorem tcs_made (n : Nat) : (madeCells (Value.agg #[.string ⟨#[]⟩, .int .i64 0, .slice none 0 0]).cells (n * 3)).toList = tcs (List.replicate n TV0) := by
  have hz : (Value.agg #[.string ⟨#[]⟩, .int .i64 0, .slice none 0 0]).cells = #[.string ⟨#[]⟩, .int .i64 0, .slice none 0 0] := by simp [Value.cells]
  apply List.ext_getElem?
  intro m
  by_cases hm : m < n * 3
  · obtain ⟨i, j, rfl, hj⟩ : ∃ i j, m = i * 3 + j ∧ j < 3 := ⟨m / 3, m % 3, by omega, by omega⟩
    have hi : i < n := by omega
    rw [tcs_at (List.replicate n TV0) i TV0 j (by simp [hi]) hj, hz]
    have e : ∀ z : Array Value, (madeCells z (n * 3)).toList[i * 3 + j]? = some (z[(i * 3 + j) % z.size]!) := fun z => by simp [madeCells, hm]
    rw [e]
    show some ((#[.string ⟨#[]⟩, .int .i64 0, .slice none 0 0] : Array Value)[(i * 3 + j) % 3]!) = _
    rw [show (i * 3 + j) % 3 = j by omega]
    have c : j = 0 ∨ j = 1 ∨ j = 2 := by omega
    rcases c with rfl | rfl | rfl <;> rfl
  · rw [List.getElem?_eq_none (by simp [madeCells]; omega), List.getElem?_eq_none (by rw [tcs_len]; simp; omega)]
theorem set3 {b g : Nat} {w w3 : World} {o0 o1 o2 : Nat} {u0 u1 u2 : Value} (h : Below b w w3) (hg : b ≤ g) : Below b w (((w3.setCell ⟨g, o0, none⟩ u0).setCell ⟨g, o1, none⟩ u1).setCell ⟨g, o2, none⟩ u2) :=
  ((h.setCell (p := ⟨g, o0, none⟩) hg u0).setCell (p := ⟨g, o1, none⟩) hg u1).setCell (p := ⟨g, o2, none⟩) hg u2
theorem vset_next (done : List TV) (N j : Nat) (x : TV) (hd : done.length = j) (hj : j < N) : (done ++ List.replicate (N - j) TV0).set j x = (done ++ [x]) ++ List.replicate (N - (j + 1)) TV0 := by
  rw [List.set_append_right _ _ (by omega), hd, Nat.sub_self, show N - j = (N - (j + 1)) + 1 by omega, List.replicate_succ, List.set_cons_zero, List.append_assoc]
  rfl
/-- A row that the walk has just laid out: of one table, of two. -/
theorem owt_one (w : World) (x : TV) : OwT (w.alloc (.cells #[.string ⟨x.t.name.toArray⟩, .int .i64 x.t.keys, .slice x.ao x.t.cs.length x.cap] 24)) w.heap.size (.slice (some ⟨w.heap.size, 0, none⟩) 1 1) [x] := by
  refine ⟨rfl, .inr ⟨w.heap.size, 1, _, rfl, Nat.le_refl _, Blk.new w _ _, Nat.le_refl _, by unfold maxLen; decide, rfl, rfl⟩⟩
theorem owt_two (w : World) (x y : TV) : OwT (w.alloc (.cells #[.string ⟨x.t.name.toArray⟩, .int .i64 x.t.keys, .slice x.ao x.t.cs.length x.cap, .string ⟨y.t.name.toArray⟩, .int .i64 y.t.keys, .slice y.ao y.t.cs.length y.cap] 24)) w.heap.size (.slice (some ⟨w.heap.size, 0, none⟩) 2 2) [x, y] := by
  refine ⟨rfl, .inr ⟨w.heap.size, 2, _, rfl, Nat.le_refl _, Blk.new w _ _, Nat.le_refl _, by unfold maxLen; decide, rfl, rfl⟩⟩

/-! ### Blocks, once more -/
theorem ccs_one (cs : List C) : ∀ u ∈ ccs cs, u.oneCell' = true := by
  intro u hu
  induction cs with
  | nil => simp [ccs] at hu
  | cons c cs ih =>
    rw [ccs, List.mem_append] at hu
    rcases hu with hu | hu
    · simp [C.cells] at hu; rcases hu with rfl | rfl | rfl | rfl | rfl | rfl | rfl <;> rfl
    · exact ih hu

section
variable {ops : Array Oper} {rest : List Oper} {o : Oper} {a : Act} {Q : Exit → Act → World → Prop}
/-- A table more. -/
theorem appT (hgd : o.guard = none) (s x : Operand) (ho : o.op = .call { callee := .builtin .append, args := #[s, x], argTypes := #[54, 54] })
    (base : Nat) (v : Value) (l : List TV) (b : TV) (w0 : World) (hs : a.eval s = v) (hown : OwT w0 base v l)
    (G : Nat) (hG : w0.heap.size = G) (hx : a.eval x = .slice (some ⟨G, 0, none⟩) 1 1) (hlen : l.length ≤ 1000000000) (hb : base ≤ w0.heap.size)
    (h : ∀ v' w', OwT w' base v' (l ++ [b]) → w0.grownBy w' v.ownBlock → (v'.ownBlock = v.ownBlock ∨ ∃ k, v'.ownBlock = some k ∧ w0.heap.size ≤ k) → Below base w0 w' → wpList Tryz.prog ops Q rest (a.put o.dst v') w') : wpList Tryz.prog ops Q (o :: rest) a (w0.alloc (.cells #[.string ⟨b.t.name.toArray⟩, .int .i64 b.t.keys, .slice b.ao b.t.cs.length b.cap] 24)) := by
  subst hG
  obtain ⟨i0, hi, hz0, hz1, hz2⟩ := info_parts Tryz.infoT
  refine wpList_append_own_at _ hgd s x 54 ho base 24 i0 _ 3 48 Tryz.underlying54 hi hz0 hz1 hz2 rfl (by decide) v _ _ hs (World.ownsRow.alloc hown _) ⟨w0.heap.size, 0, none⟩ 1 1 b.cells hx rfl ?_ ?_ (by unfold maxLen; omega) (by omega) (by simp; omega) ?_
  · intro j u hj
    match j, hj with
    | 0, hj => simp [TV.cells] at hj; subst hj; simp [Addr.add]
    | 1, hj => simp [TV.cells] at hj; subst hj; simp [Addr.add]
    | 2, hj => simp [TV.cells] at hj; subst hj; simp [Addr.add]
    | (j + 3), hj => simp [TV.cells] at hj
  · intro u hu; simp [TV.cells] at hu; rcases hu with rfl | rfl | rfl <;> rfl
  · intro v' w' hown' hgrow _ hbk
    have hg0 : w0.grownBy w' v.ownBlock := by
      refine ⟨hgrow.os, hgrow.tape, hgrow.output, Nat.le_trans (by simp) hgrow.size, fun k hk hne => ?_⟩
      rw [hgrow.block k (by simp; omega) hne, Below.heap_alloc _ _ _ hk]
    refine h v' w' ?_ hg0 ?_ (((Below.refl base w0).alloc hb _).grown hgrow (by simp; omega) (fun k hk => (World.ownsRow.lt hown k hk).1))
    · unfold OwT
      rw [List.length_append, tcs_append]
      have : tcs [b] = b.cells := by simp [tcs]
      rw [this]; exact hown'
    · rcases hbk with e | e
      · exact .inl e
      · exact .inr ⟨_, e, by simp⟩
/-- So many tables made. -/
theorem makeV (w : World) (hgd : o.guard = none) (l c : Operand) (ho : o.op = Op.makeSlice 54 l c) (kl kc : IntKind) (L C : Int) (n : Nat) (hl : a.eval l = .int kl L) (hc : a.eval c = .int kc C) (hL : L = (n : Int)) (hC : C = (n : Int)) (hn : n ≤ 1000)
    (h : ∀ g w', w.heap.size = g → OwT w' w.heap.size (.slice (some ⟨g, 0, none⟩) n n) (List.replicate n TV0) → Below w.heap.size w w' → wpList Tryz.prog ops Q rest (a.put o.dst (.slice (some ⟨g, 0, none⟩) n n)) w') : wpList Tryz.prog ops Q (o :: rest) a w := by
  obtain ⟨i0, hi, hz0, hz1, hz2⟩ := info_parts Tryz.infoT
  refine wpList_make_full w hgd l c 54 ho w.heap.size 24 i0 _ 3 Tryz.underlying54 hi hz0 hz1 kl kc L C n hl hc hL hC (by rw [hz2]; omega) (by unfold maxLen; omega) (Nat.le_refl _) ?_
  intro w' hown hgr
  refine h _ w' rfl ?_ ((Below.refl _ w).grown hgr (Nat.le_refl _) (fun k hk => by cases hk))
  unfold OwT
  rw [List.length_replicate, ← tcs_made]
  exact hown
end

end Go.Proofs.YtdonmbmahcjfbaaGreatDoor

namespace Go.Proofs.YtdonmbmahcjfbaaGreatDoor
open Go.RowKit

/-! ### Find -/
set_option maxHeartbeats 1000000 in
theorem findc_is (nm s : Nm.S) (ks : Int) (ao : Option Addr) (n cap : Nat) (g : Nat) (w : World) (B : Bool) (hB : (nm == s) = B) (hc : w.cell? ⟨g, 0, none⟩ = some (.string ⟨s.toArray⟩)) :
    Calls Tryz.prog 44 #[.agg #[.string ⟨nm.toArray⟩, .int .i64 ks, .slice ao n cap], .pointer (some ⟨g, 0, none⟩)] w fun e w' => e = .returned (.bool B) ∧ Below w.heap.size w w' := by
  have hc' := keep0 hc (below1 w (.cells #[.string ⟨nm.toArray⟩, .int .i64 ks, .slice ao n cap] 24))
  clear hc
  go_enter Tryz.func44, Tryz.ntmps44
  go_wp2
  go_ret
  exact ⟨rfl, below1 _ _⟩

set_option maxHeartbeats 2000000 in
theorem indexT_is (xs : List TV) (s : Nm.S) (g : Nat) (ao : Option Addr) (cap : Nat) (w : World) (h : SlV w ao xs) (hl : xs.length ≤ 1000) (hc : w.cell? ⟨g, 0, none⟩ = some (.string ⟨s.toArray⟩)) :
    Calls Tryz.prog 43 #[.slice ao xs.length cap, .func (.func 44) #[] #[.pointer (some ⟨g, 0, none⟩)]] w fun e w' => e = .returned (.int .i64 (Nm.fi (nms (tvs xs)) s)) ∧ Below w.heap.size w w' := by
  have H := Lib.hid (And.intro h (And.intro hl hc))
  clear h hl hc
  go_enter Tryz.func43, Tryz.ntmps43
  go_wp2
  go_loopw [8] (fun i wr => ∃ j : Nat, i = .int .i64 j ∧ j ≤ xs.length ∧ Below w.heap.size w wr ∧ s ∉ (nms (tvs xs)).take j) (fun i _ => xs.length - (intOf i).toNat)
  case atStart => exact ⟨0, rfl, Nat.zero_le _, Below.refl _ _, by simp⟩
  case round =>
    obtain ⟨j, rfl, hj, hb, hn⟩ := hrel
    have J := Lib.hid (And.intro hb hn)
    clear hb hn
    by_cases hlt : j < xs.length
    · obtain ⟨a, rfl, h0, h1, h2⟩ := H.out.1.below J.out.1 j xs[j] (List.getElem?_eq_getElem hlt)
      have hw : wrap64 ((j : Int) + 1) = (j : Int) + 1 := by have := H.out.2.1; exact wrap_in _ (by omega) (by omega)
      have hln := nms_len xs
      have hat := nms_at hlt
      by_cases he : xs[j].t.name = s
      · have X := Lib.hid (Nm.fi_at (nms (tvs xs)) s j (by omega) (hat.trans he) J.out.2)
        have E := Lib.hid (leq_t he)
        clear he hln hat
        go_wp2_with fail
        refine (findc_is xs[j].t.name s xs[j].t.keys _ _ _ g _ true E.out (keep0 H.out.2.2 J.out.1)).mono ?_
        rintro e w1 ⟨rfl, hb⟩
        have K := Lib.hid (step0 J.out.1 hb)
        clear hb
        go_wp2
        go_ret
        exact ⟨ret_int X.out.symm, K.out⟩
      · have X := Lib.hid (Nm.take_none (l := nms (tvs xs)) (s := s) (by omega) J.out.2 (by rw [hat]; exact he))
        have E := Lib.hid (leq_f he)
        clear he hln hat
        go_wp2_with fail
        refine (findc_is xs[j].t.name s xs[j].t.keys _ _ _ g _ false E.out (keep0 H.out.2.2 J.out.1)).mono ?_
        rintro e w1 ⟨rfl, hb⟩
        have K := Lib.hid (step0 J.out.1 hb)
        clear hb
        go_wp2
        go_roundw
        case rel => exact ⟨j + 1, by go_num, hlt, K.out, X.out⟩
        case measure => rw [hw]; simp [intOf]; omega
    · obtain rfl : j = xs.length := by omega
      have X := Lib.hid (Nm.fi_none (nms (tvs xs)) s (by have := J.out.2; rwa [← nms_len xs, List.take_length] at this))
      go_wp2
      go_ret
      exact ⟨ret_int X.out.symm, J.out.1⟩

set_option maxHeartbeats 1000000 in
theorem cfind_is (xs : List TV) (s : Nm.S) (ao : Option Addr) (cap : Nat) (w : World) (F : Int) (h : SlV w ao xs) (hl : xs.length ≤ 1000) (hF : Nm.fi (nms (tvs xs)) s = F) :
    Calls Tryz.prog 19 #[.slice ao xs.length cap, .string ⟨s.toArray⟩] w fun e w' => e = .returned (.int .i64 F) ∧ Below w.heap.size w w' := by
  subst hF
  have H := Lib.hid (And.intro h hl)
  have hmf := @mf
  clear h hl
  go_enter Tryz.func19, Tryz.ntmps19
  go_wp2_with fail
  refine (indexT_is xs s w.heap.size ao cap _ (H.out.1.below (below1 _ _)) H.out.2 (by simp)).mono ?_
  rintro e w1 ⟨rfl, hb⟩
  have K := Lib.hid (step1 (Below.refl _ w) hb)
  clear hb
  go_wp2
  go_ret
  exact ⟨rfl, K.out⟩

/-! ### CheckAll -/
theorem riseAt {l : List T} {j : Nat} (hj : j + 1 < l.length) (h : rises (nms l) = true) : l[j].name < l[j + 1].name := by
  have := (rises_iff (nms l)).1 h j (by simpa [nms] using hj)
  simpa [nms] using this
theorem rise_none {l : List T} {j : Nat} (hj : j + 1 < l.length) (h : ¬ l[j].name < l[j + 1].name) : rises (nms l) = false := by
  cases e : rises (nms l) with
  | false => rfl
  | true => exact absurd (riseAt hj e) h
theorem cka_long {l : List T} (h : 16 < l.length) : cka l = 2 := by unfold cka; rw [if_pos h]
theorem cka_tab {l : List T} (h : ¬ 16 < l.length) (h1 : tcl l ≠ 0) : cka l = tcl l := by unfold cka; rw [if_neg h, if_pos h1]
theorem cka_rise {l : List T} (h : ¬ 16 < l.length) (h1 : ∀ t ∈ l, t.ck = 0) (h2 : rises (nms l) = false) : cka l = 12 := by unfold cka; rw [if_neg h, if_neg (by simp [tcl_of h1]), if_neg (by simp [h2])]
theorem cka_fine {l : List T} (h : ¬ 16 < l.length) (h1 : ∀ t ∈ l, t.ck = 0) (h2 : rises (nms l) = true) : cka l = 0 := cka_of (by omega) h1 h2
theorem rises_all {l : List T} (h : ∀ (i : Nat) (h : i + 1 < l.length), l[i].name < l[i + 1].name) : rises (nms l) = true := by
  rw [rises_iff]
  intro i hi
  have := h i (by simpa [nms] using hi)
  simpa [nms] using this

set_option maxHeartbeats 4000000 in
theorem checkAll_is (xs : List TV) (ao : Option Addr) (cap : Nat) (w : World) (hg : Env w) (h : SlV w ao xs) (hf : Fit w xs) (hl : xs.length ≤ 1000) (E : Int) (hE : cka (tvs xs) = E) :
    Calls Tryz.prog 38 #[.slice ao xs.length cap] w fun e w' => e = .returned (.int .i64 E) ∧ Below w.heap.size w w' := by
  subst hE
  have H := Lib.hid (And.intro h (And.intro hf (And.intro hl hg)))
  clear h hf hl hg
  by_cases h16 : 16 < xs.length
  · have X := Lib.hid (cka_long (l := tvs xs) (by rw [tvs_len]; exact h16))
    have d1 : decide ((16 : Int) < (xs.length : Int)) = true := by rw [decide_eq_true_iff]; omega
    clear h16
    go_enter Tryz.func38, Tryz.ntmps38
    go_wp2
    go_ret
    exact ⟨ret_int X.out.symm, Below.refl _ _⟩
  · have d1 : decide ((16 : Int) < (xs.length : Int)) = false := by rw [decide_eq_false_iff_not]; omega
    have H16 := Lib.hid h16
    clear h16
    go_enter Tryz.func38, Tryz.ntmps38
    go_wp2
    go_loopw [12] (fun i wr => ∃ j : Nat, i = .int .i64 j ∧ j ≤ xs.length ∧ Below w.heap.size w wr ∧ ∀ t ∈ (tvs xs).take j, t.ck = 0) (fun i _ => xs.length - (intOf i).toNat)
    case atStart => exact ⟨0, rfl, Nat.zero_le _, Below.refl _ _, by simp⟩
    case round =>
      obtain ⟨j, rfl, hj, hb, hn⟩ := hrel
      have J := Lib.hid (And.intro hb hn)
      clear hb hn
      by_cases hlt : j < xs.length
      · obtain ⟨a, rfl, h0, h1, h2⟩ := H.out.1.below J.out.1 j xs[j] (List.getElem?_eq_getElem hlt)
        have hw : wrap64 ((j : Int) + 1) = (j : Int) + 1 := by have := H.out.2.2.1; exact wrap_in _ (by omega) (by omega)
        have hat := Lib.hid (H.out.2.1.below J.out.1 xs[j] (List.getElem_mem hlt))
        by_cases hc : xs[j].t.ck = 0
        · have HC := Lib.hid hc
          clear hc
          go_wp2_with fail
          refine (check_t xs[j].t xs[j].ao xs[j].cap 0 _ (H.out.2.2.2.keep (J.out.1.alloc J.out.1.size _)) (hat.out.keep (below1 _ _)) HC.out).mono ?_
          rintro e w1 ⟨rfl, hb⟩
          have K := Lib.hid (step1 J.out.1 hb)
          clear hb
          go_wp2
          go_roundw
          case rel => exact ⟨j + 1, by go_num, hlt, K.out, ttake_all (l := tvs xs) (by rw [tvs_len]; exact hlt) J.out.2 (by rw [tvs_at hlt]; exact HC.out)⟩
          case measure => rw [hw]; simp [intOf]; omega
        · obtain ⟨E, hE⟩ : ∃ E, xs[j].t.ck = E := ⟨_, rfl⟩
          have e0 := bne_t (show ¬ E = 0 by omega)
          have HC := Lib.hid (And.intro hE hc)
          clear hc hE
          go_wp2_with fail
          refine (check_t xs[j].t xs[j].ao xs[j].cap E _ (H.out.2.2.2.keep (J.out.1.alloc J.out.1.size _)) (hat.out.keep (below1 _ _)) HC.out.1).mono ?_
          rintro e w1 ⟨rfl, hb⟩
          have K := Lib.hid (step1 J.out.1 hb)
          clear hb
          go_wp2
          go_ret
          refine ⟨?_, K.out⟩
          have e1 := tcl_stop (tvs xs) j (by rw [tvs_len]; exact hlt) J.out.2 (by rw [tvs_at hlt]; exact HC.out.2)
          rw [tvs_at hlt] at e1
          rw [cka_tab (by rw [tvs_len]; exact H16.out) (by rw [e1]; exact HC.out.2), e1, HC.out.1]
          rfl
      · obtain rfl : j = xs.length := by omega
        have hall := J.out.2
        rw [← tvs_len xs, List.take_length] at hall
        have HA := Lib.hid hall
        clear hall
        go_wp2
        go_loopw [6] (fun i wr => ∃ j : Nat, i = .int .i64 ((j : Int) + 1) ∧ (j = 0 ∨ j + 1 ≤ xs.length) ∧ Below w.heap.size w wr ∧ ∀ (k : Nat) (hk : k + 1 < (tvs xs).length), k + 1 ≤ j → (tvs xs)[k].name < (tvs xs)[k + 1].name) (fun i _ => xs.length + 1 - (intOf i).toNat)
        case atStart => exact ⟨0, rfl, .inl rfl, J.out.1, fun k _ hk => by omega⟩
        case round =>
          obtain ⟨j, rfl, hj, hb, hn⟩ := hrel
          have J2 := Lib.hid (And.intro hb hn)
          clear hb hn
          by_cases hlt : j + 1 < xs.length
          · obtain ⟨a, rfl, h0, h1, h2⟩ := H.out.1.below J2.out.1 j xs[j] (List.getElem?_eq_getElem (by omega))
            obtain ⟨a', ha', h3, h4, h5⟩ := H.out.1.below J2.out.1 (j + 1) xs[j + 1] (List.getElem?_eq_getElem hlt)
            obtain rfl := Option.some.inj ha'
            have hw : wrap64 ((j : Int) + 1 + 1) = (j : Int) + 1 + 1 := by have := H.out.2.2.1; exact wrap_in _ (by omega) (by omega)
            have hw0 : IntKind.i64.wrap (j : Int) = (j : Int) := by have := H.out.2.2.1; rw [IntKind.wrap_i64]; omega
            have i0 : (0 : Int) ≤ (j : Int) := by omega
            have i1 : (j : Int) < (xs.length : Int) := by omega
            have i2 : (0 : Int) ≤ (j : Int) + 1 := by omega
            have i3 : (j : Int) + 1 < (xs.length : Int) := by omega
            have i4 : ((j : Int) + 1).toNat = j + 1 := by omega
            by_cases hr : xs[j].t.name < xs[j + 1].t.name
            · have lt1 : Op.bytesLess xs[j].t.name xs[j + 1].t.name = true := by rw [Vl.less_eq]; simp [hr]
              have R := Lib.hid hr
              clear hr
              go_wp2
              go_quiet (fail)
              go_wp2
              go_roundw
              case rel =>
                refine ⟨j + 1, by go_num, .inr hlt, below_drewN _ J2.out.1, fun k hk hle => ?_⟩
                by_cases e : k + 1 ≤ j
                · exact J2.out.2 k hk e
                · obtain rfl : k = j := by omega
                  rw [tvs_at (by omega), tvs_at (by omega)]; exact R.out
              case measure => rw [hw]; simp [intOf]; omega
            · have lt1 : Op.bytesLess xs[j].t.name xs[j + 1].t.name = false := by rw [Vl.less_eq]; simpa using hr
              have R := Lib.hid hr
              clear hr
              go_wp2
              go_quiet (fail)
              go_wp2
              go_ret
              refine ⟨?_, below_drewN _ J2.out.1⟩
              rw [cka_rise (by rw [tvs_len]; exact H16.out) HA.out (rise_none (j := j) (by rw [tvs_len]; exact hlt) (by rw [tvs_at (by omega), tvs_at (by omega)]; exact R.out))]
              rfl
          · have X := Lib.hid (cka_fine (l := tvs xs) (by rw [tvs_len]; exact H16.out) HA.out (rises_all fun i hi => J2.out.2 i hi (by rw [tvs_len] at hi; omega)))
            go_wp2
            go_ret
            exact ⟨ret_int X.out.symm, J2.out.1⟩

end Go.Proofs.YtdonmbmahcjfbaaGreatDoor

namespace Go.Proofs.YtdonmbmahcjfbaaGreatDoor
open Go.RowKit

set_option maxHeartbeats 2000000 in
theorem clone_is (cs : List C) (ao : Option Addr) (cap : Nat) (w : World) (h : SlC w ao cs) (hl : cs.length ≤ 1000) :
    Calls Tryz.prog 196 #[.slice ao cs.length cap] w fun e w' => ∃ v, e = .returned v ∧ OwC w' w.heap.size v cs ∧ Below w.heap.size w w' := by
  have q : ∀ (w : World) (a : Option Addr) (n c n' c' : Nat), (binOp .eql 22 (.slice a n c) (.slice none n' c')).run Tryz.prog w = .ok (.bool a.isNone) w := fun w a n c n' c' => Lib.run_eql_slice_nil w _ _ a n c n' c' Tryz.underlying22
  cases ao with
  | none =>
    obtain rfl := h.none
    clear h hl
    go_enter Tryz.func196, Tryz.ntmps196
    go_wp2
    go_ret
    exact ⟨_, rfl, owc_nil _ _, Below.refl _ _⟩
  | some a =>
    obtain ⟨i0, hi, hz0, hz1, hz2⟩ := info_parts Tryz.infoC
    have H := Lib.hid (And.intro h hl)
    clear h hl
    go_enter Tryz.func196, Tryz.ntmps196
    go_wp2_with (at_builtin; refine wpList_append_own _ rfl _ _ 22 rfl w.heap.size 30 i0 _ 7 72 Tryz.underlying22 hi hz0 hz1 hz2 rfl (by decide) _ _ _ rfl (World.ownsRow_made w #[] 0 (Nat.le_refl _) (Nat.zero_le _) (by simp)) a cs.length cap (ccs cs) rfl ?qc1 ?qc2 ?qc3 ?qc4 ?qc5 ?qc6 ?_)
    case qc1 => exact ccs_len cs
    case qc2 =>
      intro j u hj
      exact keep0 (H.out.1.cell j u hj) (below1 _ _)
    case qc3 => exact ccs_one cs
    case qc4 => have := H.out.2; unfold maxLen; omega
    case qc5 => have := H.out.2; omega
    case qc6 => simp
    intro v' w' hown hgrow _
    have K := Lib.hid (show OwC w' w.heap.size v' cs from hown)
    have B := Lib.hid (((Below.refl _ w).alloc (Nat.le_refl _) _).grown hgrow (by simp) (fun k hk => by simp [Value.ownBlock] at hk; omega))
    clear hown hgrow
    go_wp2
    go_ret
    exact ⟨_, rfl, K.out, B.out⟩

set_option maxHeartbeats 2000000 in
theorem copied_is (nm : Nm.S) (ks : Int) (cs : List C) (ao : Option Addr) (cap : Nat) (w : World) (h : SlC w ao cs) (hl : cs.length ≤ 1000) :
    Calls Tryz.prog 195 #[.agg #[.string ⟨nm.toArray⟩, .int .i64 ks, .slice ao cs.length cap]] w fun e w' => ∃ vo vc, e = .returned (.agg #[.string ⟨nm.toArray⟩, .int .i64 ks, .slice vo cs.length vc]) ∧ OwC w' (w.heap.size + 2) (.slice vo cs.length vc) cs ∧ Below w.heap.size w w' := by
  have H := Lib.hid (And.intro h hl)
  clear h hl
  go_enter Tryz.func195, Tryz.ntmps195
  go_wp2_with fail
  refine (clone_is cs ao cap _ (H.out.1.below (below2s _ _ _)) H.out.2).mono ?_
  rintro e w3 ⟨v, rfl, hO, hb⟩
  obtain ⟨vo, vc, rfl, _, _⟩ := hO.sl
  have hO' : OwC w3 (w.heap.size + 2) (.slice vo cs.length vc) cs := by simpa using hO
  have q0 := ((Blk.new w _ _).alloc _).below hb
  have q1 := (Blk.new (w.alloc _) _ _).below hb
  have hsz : (w.alloc (.cells #[.string ⟨nm.toArray⟩, .int .i64 ks, .slice ao cs.length cap] 24)).heap.size = w.heap.size + 1 := by simp
  rw [hsz] at q1
  have qB := step0 (below2s w _ _) hb
  have c2 := q0.cell 2
  have f2 := q0.frozen 2
  have p0 := q0.setAt 2 (.slice vo cs.length vc)
  have p1 := q1.otherAt (show w.heap.size + 1 ≠ w.heap.size by omega) 2 (.slice vo cs.length vc)
  have pB := qB.setCell (p := ⟨w.heap.size, 2, none⟩) (Nat.le_refl _) (.slice vo cs.length vc)
  have pO := hO'.off 2 (.slice vo cs.length vc) (show w.heap.size < w.heap.size + 2 by omega)
  obtain ⟨W2, hW2⟩ : ∃ W2, w3.setCell ⟨w.heap.size, 2, none⟩ (.slice vo cs.length vc) = W2 := ⟨_, rfl⟩
  rw [hW2] at p0 p1 pB pO
  have d0 := p0.cell 0
  have d1 := p0.cell 1
  have d2 := p0.cell 2
  have g0 := p1.cell 0
  have g1 := p1.cell 1
  have g2 := p1.cell 2
  have h0 := p1.frozen 0
  have h1 := p1.frozen 1
  have h2 := p1.frozen 2
  simp at c2 d0 d1 d2 g0 g1 g2
  have PB := Lib.hid (And.intro pB pO)
  clear hb q0 q1 qB p0 p1 pB pO hO hO' hsz
  go_wp2
  refine bodyPost_ret (v := .agg #[.string ⟨nm.toArray⟩, .int .i64 ks, .slice vo cs.length vc]) ?_ rfl ⟨vo, vc, rfl, (((PB.out.2.off 0 _ (by omega)).off 1 _ (by omega)).off 2 _ (by omega)), set3 PB.out.1 (by omega)⟩
  simp [results, Tryz.results195, go_sem, g0, g1, g2]

set_option maxHeartbeats 1000000 in
theorem behind_is (nm : Nm.S) (K : Nat) (cs : List C) (s : Nm.S) (ao : Option Addr) (cap : Nat) (w : World) (h : SlC w ao cs) (hl : cs.length ≤ 1000) (F : Int) (hF : (if Nm.fi (cs.map C.name) s < (K : Int) then -1 else Nm.fi (cs.map C.name) s) = F) :
    Calls Tryz.prog 201 #[.agg #[.string ⟨nm.toArray⟩, .int .i64 (K : Int), .slice ao cs.length cap], .string ⟨s.toArray⟩] w fun e w' => e = .returned (.int .i64 F) ∧ Below w.heap.size w w' := by
  obtain ⟨X, hX⟩ : ∃ X, Nm.fi (cs.map C.name) s = X := ⟨_, rfl⟩
  rw [hX] at hF
  have H := Lib.hid (And.intro h (And.intro hl hX))
  clear h hl hX
  by_cases hk : X < (K : Int)
  · rw [if_pos hk] at hF
    subst hF
    have d1 : decide (X < (K : Int)) = true := by rw [decide_eq_true_iff]; exact hk
    clear hk
    go_enter Tryz.func201, Tryz.ntmps201
    go_wp2_with fail
    refine (find_t nm (K : Int) cs s ao cap _ (H.out.1.below (below1 _ _)) H.out.2.1 X H.out.2.2).mono ?_
    rintro e w1 ⟨rfl, hb⟩
    obtain ⟨t0, t1, t2⟩ := ((Blk.new w #[.string ⟨nm.toArray⟩, .int .i64 (K : Int), .slice ao cs.length cap] 24).below hb).t3
    have B := Lib.hid (step1 (Below.refl _ w) hb)
    clear hb
    go_wp2
    go_ret
    exact ⟨rfl, B.out⟩
  · rw [if_neg hk] at hF
    subst hF
    have d1 : decide (X < (K : Int)) = false := by rw [decide_eq_false_iff_not]; exact hk
    clear hk
    go_enter Tryz.func201, Tryz.ntmps201
    go_wp2_with fail
    refine (find_t nm (K : Int) cs s ao cap _ (H.out.1.below (below1 _ _)) H.out.2.1 X H.out.2.2).mono ?_
    rintro e w1 ⟨rfl, hb⟩
    obtain ⟨t0, t1, t2⟩ := ((Blk.new w #[.string ⟨nm.toArray⟩, .int .i64 (K : Int), .slice ao cs.length cap] 24).below hb).t3
    have B := Lib.hid (step1 (Below.refl _ w) hb)
    clear hb
    go_wp2
    go_ret
    exact ⟨rfl, B.out⟩

/-! ### without -/
def lftv (xs : List TV) (g : List Nm.S) : List TV := xs.filter (fun x => decide (x.t.name ∉ g))
theorem lftv_tvs (xs : List TV) (g : List Nm.S) : tvs (lftv xs g) = lft (tvs xs) g := by
  unfold tvs lftv lft
  rw [List.filter_map]
  rfl
theorem lftv_in {xs : List TV} {g : List Nm.S} {j : Nat} (hj : j < xs.length) (h : xs[j].t.name ∈ g) : lftv (xs.take (j + 1)) g = lftv (xs.take j) g := by
  unfold lftv; rw [List.take_succ_eq_append_getElem hj, List.filter_append]; simp [h]
theorem lftv_out {xs : List TV} {g : List Nm.S} {j : Nat} (hj : j < xs.length) (h : xs[j].t.name ∉ g) : lftv (xs.take (j + 1)) g = lftv (xs.take j) g ++ [xs[j]] := by
  unfold lftv; rw [List.take_succ_eq_append_getElem hj, List.filter_append]; simp [h]
theorem lftv_len (xs : List TV) (g : List Nm.S) (j : Nat) : (lftv (xs.take j) g).length ≤ j := by
  unfold lftv
  exact Nat.le_trans (List.length_filter_le _ _) (by simp; omega)

set_option maxHeartbeats 2000000 in
theorem cwithout_is (xs : List TV) (g : List Nm.S) (n k : Nat) (ao bo : Option Addr) (cap cb : Nat) (w : World) (hn : xs.length = n) (hk : g.length = k) (h : SlV w ao xs) (hg : SlS w bo g) (hl : xs.length ≤ 1000) (hgl : g.length ≤ 1000) :
    Calls Tryz.prog 42 #[.slice ao n cap, .slice bo k cb] w fun e w' => ∃ v, e = .returned v ∧ OwT w' w.heap.size v (lftv xs g) ∧ Below w.heap.size w w' := by
  subst hn hk
  have H := Lib.hid (And.intro h (And.intro hg (And.intro hl hgl)))
  clear h hg hl hgl
  go_enter Tryz.func42, Tryz.ntmps42
  go_wp2
  go_loopw [5, 10] (fun q i wr => ∃ j : Nat, i = .int .i64 j ∧ j ≤ xs.length ∧ Below w.heap.size w wr ∧ OwT wr w.heap.size q (lftv (xs.take j) g)) (fun _ i _ => xs.length - (intOf i).toNat)
  case atStart => exact ⟨0, rfl, Nat.zero_le _, Below.refl _ _, owt_nil _ _⟩
  case round =>
    obtain ⟨j, rfl, hj, hb, hO⟩ := hrel
    have J := Lib.hid (And.intro hb hO)
    clear hb hO
    by_cases hlt : j < xs.length
    · obtain ⟨a, rfl, h0, h1, h2⟩ := H.out.1.below J.out.1 j xs[j] (List.getElem?_eq_getElem hlt)
      have hw : wrap64 ((j : Int) + 1) = (j : Int) + 1 := by have := H.out.2.2.1; exact wrap_in _ (by omega) (by omega)
      obtain ⟨F, hF⟩ : ∃ F, Nm.fi g xs[j].t.name = F := ⟨_, rfl⟩
      by_cases hin : xs[j].t.name ∈ g
      · have d1 : decide (F < 0) = false := by rw [decide_eq_false_iff_not, ← hF, Nm.fi_lo]; simpa using hin
        have X := Lib.hid (And.intro hF (lftv_in hlt hin))
        clear hF hin
        go_wp2_with fail
        refine (find_is g xs[j].t.name _ F bo cb _ rfl (H.out.2.1.below (J.out.1.alloc J.out.1.size _)) (by have := H.out.2.2.2; omega) X.out.1).mono ?_
        rintro e w1 ⟨rfl, rfl⟩
        go_wp2
        go_roundw
        case rel => exact ⟨j + 1, by go_num, hlt, J.out.1.alloc J.out.1.size _, by rw [X.out.2]; exact J.out.2.keep (below1 _ _)⟩
        case measure => rw [hw]; simp [intOf]; omega
      · have d1 : decide (F < 0) = true := by rw [decide_eq_true_iff, ← hF, Nm.fi_lo]; exact hin
        have X := Lib.hid (And.intro hF (lftv_out hlt hin))
        clear hF hin
        go_wp2_with fail
        refine (find_is g xs[j].t.name _ F bo cb _ rfl (H.out.2.1.below (J.out.1.alloc J.out.1.size _)) (by have := H.out.2.2.2; omega) X.out.1).mono ?_
        rintro e w1 ⟨rfl, rfl⟩
        go_wp2_with (at_builtin; refine appT rfl _ _ rfl w.heap.size u5 (lftv (xs.take j) g) xs[j] (wr.alloc _) rfl (J.out.2.keep (below1 _ _)) (wr.heap.size + 1) (by simp) rfl (by have := lftv_len xs g j; have := H.out.2.2.1; omega) (by have := J.out.1.size; simp; omega) ?_; intro v' w2 hown' _ _ hb'; have K := Lib.hid (And.intro hown' ((J.out.1.alloc J.out.1.size _).trans hb')); clear hown' hb'; go_frame)
        go_roundw
        case rel => exact ⟨j + 1, by go_num, hlt, K.out.2, by rw [X.out.2]; exact K.out.1⟩
        case measure => rw [hw]; simp [intOf]; omega
    · obtain rfl : j = xs.length := by omega
      have hO := J.out.2
      rw [List.take_length] at hO
      have ST := Lib.hid hO
      clear hO
      go_wp2
      go_ret
      exact ⟨_, rfl, ST.out, J.out.1⟩

/-! ### ofNames -/
/-- The place of a name's table. -/
def tvat (xs : List TV) (s : Nm.S) : TV := (xs[(nms (tvs xs)).idxOf s]?).getD TV0
theorem tvat_t {xs : List TV} {s : Nm.S} (h : s ∈ nms (tvs xs)) : (tvat xs s).t = tat (tvs xs) s := by
  have h0 := idx_lt h
  have h1 : (nms (tvs xs)).idxOf s < xs.length := by rw [tvs_len] at h0; exact h0
  unfold tvat tat
  rw [List.getElem?_eq_getElem h1, List.getElem?_eq_getElem h0, Option.getD_some, Option.getD_some, tvs_at h1]
theorem tvat_mem {xs : List TV} {s : Nm.S} (h : s ∈ nms (tvs xs)) : tvat xs s ∈ xs := by
  have h0 := idx_lt h
  rw [tvs_len] at h0
  unfold tvat
  rw [List.getElem?_eq_getElem h0, Option.getD_some]
  exact List.getElem_mem _
theorem map_tvat_next {xs : List TV} {g : List Nm.S} {j : Nat} (hj : j < g.length) : (g.take (j + 1)).map (tvat xs) = (g.take j).map (tvat xs) ++ [tvat xs g[j]] := by
  rw [List.take_succ_eq_append_getElem hj, List.map_append]; rfl
theorem lack_stop {l : List T} {g : List Nm.S} {j : Nat} (hj : j < g.length) (h : g[j] ∉ nms l) : lack l g = true := by
  unfold lack
  rw [List.any_eq_true]
  exact ⟨g[j], List.getElem_mem hj, by simpa using h⟩
theorem lack_none {l : List T} {g : List Nm.S} (h : ∀ s ∈ g, s ∈ nms l) : lack l g = false := by
  unfold lack
  rw [List.any_eq_false]
  intro s hs; simpa using h s hs
theorem lack_all {l : List T} {g : List Nm.S} (h : lack l g = false) : ∀ s ∈ g, s ∈ nms l := by
  unfold lack at h
  rw [List.any_eq_false] at h
  intro s hs; simpa using h s hs
theorem stake_all {g : List Nm.S} {j : Nat} (hj : j < g.length) {p : Nm.S → Prop} (h : ∀ c ∈ g.take j, p c) (h1 : p g[j]) : ∀ c ∈ g.take (j + 1), p c := by
  rw [List.take_succ_eq_append_getElem hj]
  intro x hx
  rcases List.mem_append.1 hx with g | g
  · exact h x g
  · obtain rfl := List.mem_singleton.1 g; exact h1

set_option maxHeartbeats 4000000 in
theorem ofNames_is (xs : List TV) (g : List Nm.S) (n k : Nat) (ao bo : Option Addr) (cap cb : Nat) (w : World) (hn : xs.length = n) (hk : g.length = k) (h : SlV w ao xs) (hg : SlS w bo g) (hl : xs.length ≤ 1000) (hgl : g.length ≤ 1000) :
    Calls Tryz.prog 41 #[.slice ao n cap, .slice bo k cb] w fun e w' => ((lack (tvs xs) g = true ∧ e = .returned (.tuple #[.slice none 0 0, .int .i64 9])) ∨ (lack (tvs xs) g = false ∧ ∃ v, e = .returned (.tuple #[v, .int .i64 0]) ∧ OwT w' w.heap.size v (g.map (tvat xs)))) ∧ Below w.heap.size w w' := by
  subst hn hk
  have H := Lib.hid (And.intro h (And.intro hg (And.intro hl hgl)))
  clear h hg hl hgl
  go_enter Tryz.func41, Tryz.ntmps41
  go_wp2_with (refine makeV _ rfl _ _ rfl _ _ _ _ g.length rfl rfl rfl rfl H.out.2.2.2 ?_; intro G w1 hG hO hb; have S := Lib.hid (And.intro hO (And.intro hb hG)); clear hO hb hG; go_frame)
  go_loopw [15] (fun i wr => ∃ j : Nat, i = .int .i64 j ∧ j ≤ g.length ∧ Below w.heap.size w wr ∧ OwT wr w.heap.size (.slice (some ⟨G, 0, none⟩) g.length g.length) ((g.take j).map (tvat xs) ++ List.replicate (g.length - j) TV0) ∧ ∀ s ∈ g.take j, s ∈ nms (tvs xs)) (fun i _ => g.length - (intOf i).toNat)
  case atStart => exact ⟨0, rfl, Nat.zero_le _, S.out.2.1, S.out.1, by simp⟩
  case round =>
    obtain ⟨j, rfl, hj, hb, hO, hall⟩ := hrel
    have J := Lib.hid (And.intro hb (And.intro hO hall))
    clear hb hO hall
    by_cases hlt : j < g.length
    · obtain ⟨a, rfl, h0⟩ := H.out.2.1.below J.out.1 j g[j] (List.getElem?_eq_getElem hlt)
      have hw : wrap64 ((j : Int) + 1) = (j : Int) + 1 := by have := H.out.2.2.2; exact wrap_in _ (by omega) (by omega)
      obtain ⟨F, hF⟩ : ∃ F, Nm.fi (nms (tvs xs)) g[j] = F := ⟨_, rfl⟩
      by_cases hin : g[j] ∈ nms (tvs xs)
      · have h2 := hF
        rw [fi_mem hin] at h2
        have hlt2 := idx_lt hin
        rw [tvs_len] at hlt2
        obtain ⟨I, hI⟩ : ∃ I, (nms (tvs xs)).idxOf g[j] = I := ⟨_, rfl⟩
        rw [hI] at h2 hlt2
        have hx : xs[I] = tvat xs g[j] := by unfold tvat; rw [hI, List.getElem?_eq_getElem hlt2, Option.getD_some]
        have d1 : decide (F < 0) = false := by rw [decide_eq_false_iff_not]; omega
        have hd : ((g.take j).map (tvat xs)).length = j := by simp; omega
        have X := Lib.hid (And.intro hF (And.intro hin (And.intro hx hd)))
        subst h2
        have i0 : (0 : Int) ≤ (I : Int) := by omega
        have i1 : (I : Int) < (xs.length : Int) := by omega
        clear hF hin hI hx hd
        go_wp2_with fail
        refine (cfind_is xs g[j] ao cap _ (I : Int) (H.out.1.below J.out.1) H.out.2.2.1 X.out.1).mono ?_
        rintro e w2 ⟨rfl, hb⟩
        obtain ⟨a', ha', c0, c1, c2⟩ := H.out.1.below (step0 J.out.1 hb) I xs[I] (List.getElem?_eq_getElem hlt2)
        have hO2 := J.out.2.1.keep hb
        have hy : ((g.take j).map (tvat xs) ++ List.replicate (g.length - j) TV0)[j]? = some TV0 := by
          rw [List.getElem?_append_right (by rw [X.out.2.2.2]; exact Nat.le_refl _), List.getElem?_replicate, X.out.2.2.2, if_pos (by omega)]
        obtain ⟨hst, hbg, hgl, hfz⟩ := hO2.store (by simp; omega) j (by simp; omega) xs[I]
        obtain ⟨e0, e1, e2⟩ := hO2.at j TV0 hy
        have f0 := hfz (j * 3)
        have f1 := hfz (j * 3 + 1)
        have f2 := hfz (j * 3 + 2)
        have K := Lib.hid (And.intro hst (And.intro hbg (step0 J.out.1 hb)))
        subst ha'
        clear hb hO2 hy hst hbg hgl hfz
        go_wp2
        go_roundw
        case rel =>
          refine ⟨j + 1, by go_num, hlt, set3 K.out.2.2 K.out.2.1, ?_, stake_all hlt J.out.2.2 X.out.2.1⟩
          have e : ((g.take j).map (tvat xs) ++ List.replicate (g.length - j) TV0).set j xs[I] = (g.take (j + 1)).map (tvat xs) ++ List.replicate (g.length - (j + 1)) TV0 := by rw [vset_next _ g.length j _ X.out.2.2.2 hlt, X.out.2.2.1, ← map_tvat_next hlt]
          rw [← e]
          exact K.out.1
        case measure => rw [hw]; simp [intOf]; omega
      · have d1 : decide (F < 0) = true := by rw [decide_eq_true_iff, ← hF, Nm.fi_lo]; exact hin
        have X := Lib.hid (And.intro hF (lack_stop (l := tvs xs) hlt hin))
        clear hF hin
        go_wp2_with fail
        refine (cfind_is xs g[j] ao cap _ F (H.out.1.below J.out.1) H.out.2.2.1 X.out.1).mono ?_
        rintro e w2 ⟨rfl, hb⟩
        have K := Lib.hid (step0 J.out.1 hb)
        clear hb
        go_wp2
        go_ret2
        exact ⟨.inl ⟨X.out.2, rfl⟩, K.out⟩
    · obtain rfl : j = g.length := by omega
      have hO := J.out.2.1
      rw [Nat.sub_self, List.replicate_zero, List.append_nil, List.take_length] at hO
      have hall := J.out.2.2
      rw [List.take_length] at hall
      have ST := Lib.hid (And.intro hO (lack_none hall))
      clear hO hall
      go_wp2
      go_ret2
      exact ⟨.inr ⟨ST.out.2, _, rfl, ST.out.1⟩, J.out.1⟩

end Go.Proofs.YtdonmbmahcjfbaaGreatDoor

namespace Go.Proofs.YtdonmbmahcjfbaaGreatDoor
open Go.RowKit
set_option linter.unusedVariables false

end Go.Proofs.YtdonmbmahcjfbaaGreatDoor

namespace Go.Proofs.YtdonmbmahcjfbaaGreatDoor
open Go.RowKit
set_option linter.unusedVariables false

end Go.Proofs.YtdonmbmahcjfbaaGreatDoor

namespace Go.Proofs.YtdonmbmahcjfbaaGreatDoor.Km
open Go.RowKit

theorem ret_si {a b : List UInt8} {c d : Int} (h : a = b) (g : c = d) : Ending.returned (.tuple #[.string ⟨a.toArray⟩, .int .i64 c]) = .returned (.tuple #[.string ⟨b.toArray⟩, .int .i64 d]) := by rw [h, g]

section
variable {ops : Array Oper} {rest : List Oper} {o : Oper} {a : Act} {Q : Exit → Act → World → Prop}

end

end Go.Proofs.YtdonmbmahcjfbaaGreatDoor.Km

namespace Go.Proofs.YtdonmbmahcjfbaaGreatDoor.Km
open Go.RowKit

theorem fn_neq (fn : Fn) (first cap : Array Value) (w : World) : (binOp .neq 128 (.func fn first cap) .nilFunc).run Tryz.prog w = .ok (.bool true) w := by
  simp only [binOp]
  simp [Op.equal, Op.maxDepth, fn_eq]
theorem nil_neq (w : World) : (binOp .neq 128 .nilFunc .nilFunc).run Tryz.prog w = .ok (.bool false) w := by
  simp only [binOp]
  simp [Op.equal, Op.maxDepth, nil_eq]

set_option maxHeartbeats 400000 in
theorem bt_out1 (a b : Int) (w : World) (h : a < 1 ∨ 5 < a) :
    Calls Tryz.prog 71 #[.int .i64 a, .int .i64 b] w fun e w' => e = .returned .nilFunc ∧ w = w' := by
  have H := Lib.hid h
  clear h
  go_enter Tryz.func71, Tryz.ntmps71
  go_wp2_with fail
  refine (inTable_f a _ H.out).mono ?_
  rintro e w' ⟨rfl, rfl⟩
  go_wp2
  go_ret
  exact ⟨rfl, rfl⟩
set_option maxHeartbeats 400000 in
theorem bt_out2 (a b : Int) (w : World) (h0 : 1 ≤ a) (h1 : a ≤ 5) (h : b < 1 ∨ 5 < b) :
    Calls Tryz.prog 71 #[.int .i64 a, .int .i64 b] w fun e w' => e = .returned .nilFunc ∧ w = w' := by
  have H := Lib.hid (And.intro h0 (And.intro h1 h))
  clear h h0 h1
  go_enter Tryz.func71, Tryz.ntmps71
  go_wp2_with fail
  refine (inTable_t a _ H.out.1 H.out.2.1).mono ?_
  rintro e w' ⟨rfl, rfl⟩
  go_wp2_with fail
  refine (inTable_f b _ H.out.2.2).mono ?_
  rintro e w' ⟨rfl, rfl⟩
  go_wp2
  go_ret
  exact ⟨rfl, rfl⟩
end Go.Proofs.YtdonmbmahcjfbaaGreatDoor.Km

namespace Go.Proofs.YtdonmbmahcjfbaaGreatDoor.Km
open Go.RowKit

set_option maxHeartbeats 400000 in
theorem can_1_5 (w : World) :
    Calls Tryz.prog 204 #[.int .i64 1, .int .i64 5] w fun e w' => e = .returned (.bool true) ∧ Below w.heap.size w w' := by
  have fe := fn_neq
  have fz := nil_neq
  go_enter Tryz.func204, Tryz.ntmps204
  go_wp2_with fail
  refine (bt_1_5 _).mono ?_
  rintro x w2 ⟨g, rfl, -, hb⟩
  go_wp2
  go_ret
  exact ⟨rfl, hb⟩

set_option maxHeartbeats 400000 in
theorem can_3_4 (w : World) :
    Calls Tryz.prog 204 #[.int .i64 3, .int .i64 4] w fun e w' => e = .returned (.bool true) ∧ Below w.heap.size w w' := by
  have fe := fn_neq
  have fz := nil_neq
  go_enter Tryz.func204, Tryz.ntmps204
  go_wp2_with fail
  refine (bt_3_4 _).mono ?_
  rintro x w2 ⟨g, rfl, -, hb⟩
  go_wp2
  go_ret
  exact ⟨rfl, hb⟩

set_option maxHeartbeats 400000 in
theorem can_4_3 (w : World) :
    Calls Tryz.prog 204 #[.int .i64 4, .int .i64 3] w fun e w' => e = .returned (.bool true) ∧ Below w.heap.size w w' := by
  have fe := fn_neq
  have fz := nil_neq
  go_enter Tryz.func204, Tryz.ntmps204
  go_wp2_with fail
  refine (bt_4_3 _).mono ?_
  rintro x w2 ⟨g, rfl, -, hb⟩
  go_wp2
  go_ret
  exact ⟨rfl, hb⟩

set_option maxHeartbeats 400000 in
theorem can_4_5 (w : World) :
    Calls Tryz.prog 204 #[.int .i64 4, .int .i64 5] w fun e w' => e = .returned (.bool true) ∧ Below w.heap.size w w' := by
  have fe := fn_neq
  have fz := nil_neq
  go_enter Tryz.func204, Tryz.ntmps204
  go_wp2_with fail
  refine (bt_4_5 _).mono ?_
  rintro x w2 ⟨g, rfl, -, hb⟩
  go_wp2
  go_ret
  exact ⟨rfl, hb⟩

set_option maxHeartbeats 400000 in
theorem can_5_1 (w : World) :
    Calls Tryz.prog 204 #[.int .i64 5, .int .i64 1] w fun e w' => e = .returned (.bool true) ∧ Below w.heap.size w w' := by
  have fe := fn_neq
  have fz := nil_neq
  go_enter Tryz.func204, Tryz.ntmps204
  go_wp2_with fail
  refine (bt_5_1 _).mono ?_
  rintro x w2 ⟨g, rfl, -, hb⟩
  go_wp2
  go_ret
  exact ⟨rfl, hb⟩

set_option maxHeartbeats 400000 in
theorem can_5_4 (w : World) :
    Calls Tryz.prog 204 #[.int .i64 5, .int .i64 4] w fun e w' => e = .returned (.bool true) ∧ Below w.heap.size w w' := by
  have fe := fn_neq
  have fz := nil_neq
  go_enter Tryz.func204, Tryz.ntmps204
  go_wp2_with fail
  refine (bt_5_4 _).mono ?_
  rintro x w2 ⟨g, rfl, -, hb⟩
  go_wp2
  go_ret
  exact ⟨rfl, hb⟩

set_option maxHeartbeats 400000 in
theorem can_1_2 (w : World) :
    Calls Tryz.prog 204 #[.int .i64 1, .int .i64 2] w fun e w' => e = .returned (.bool true) ∧ Below w.heap.size w w' := by
  have fe := fn_neq
  have fz := nil_neq
  go_enter Tryz.func204, Tryz.ntmps204
  go_wp2_with fail
  refine (bt_1_2 _).mono ?_
  rintro x w2 ⟨gn, gt, rfl, -, -, hb⟩
  go_wp2
  go_ret
  exact ⟨rfl, hb⟩

set_option maxHeartbeats 400000 in
theorem can_1_3 (w : World) :
    Calls Tryz.prog 204 #[.int .i64 1, .int .i64 3] w fun e w' => e = .returned (.bool true) ∧ Below w.heap.size w w' := by
  have fe := fn_neq
  have fz := nil_neq
  go_enter Tryz.func204, Tryz.ntmps204
  go_wp2_with fail
  refine (bt_1_3 _).mono ?_
  rintro x w2 ⟨gn, gt, rfl, -, -, hb⟩
  go_wp2
  go_ret
  exact ⟨rfl, hb⟩

set_option maxHeartbeats 400000 in
theorem can_2_1 (w : World) :
    Calls Tryz.prog 204 #[.int .i64 2, .int .i64 1] w fun e w' => e = .returned (.bool true) ∧ Below w.heap.size w w' := by
  have fe := fn_neq
  have fz := nil_neq
  go_enter Tryz.func204, Tryz.ntmps204
  go_wp2_with fail
  refine (bt_2_1 _).mono ?_
  rintro x w2 ⟨gn, gt, rfl, -, -, hb⟩
  go_wp2
  go_ret
  exact ⟨rfl, hb⟩

set_option maxHeartbeats 400000 in
theorem can_2_3 (w : World) :
    Calls Tryz.prog 204 #[.int .i64 2, .int .i64 3] w fun e w' => e = .returned (.bool true) ∧ Below w.heap.size w w' := by
  have fe := fn_neq
  have fz := nil_neq
  go_enter Tryz.func204, Tryz.ntmps204
  go_wp2_with fail
  refine (bt_2_3 _).mono ?_
  rintro x w2 ⟨gn, gt, rfl, -, -, hb⟩
  go_wp2
  go_ret
  exact ⟨rfl, hb⟩

set_option maxHeartbeats 400000 in
theorem can_2_4 (w : World) :
    Calls Tryz.prog 204 #[.int .i64 2, .int .i64 4] w fun e w' => e = .returned (.bool true) ∧ Below w.heap.size w w' := by
  have fe := fn_neq
  have fz := nil_neq
  go_enter Tryz.func204, Tryz.ntmps204
  go_wp2_with fail
  refine (bt_2_4 _).mono ?_
  rintro x w2 ⟨gn, gt, rfl, -, -, hb⟩
  go_wp2
  go_ret
  exact ⟨rfl, hb⟩

set_option maxHeartbeats 400000 in
theorem can_2_5 (w : World) :
    Calls Tryz.prog 204 #[.int .i64 2, .int .i64 5] w fun e w' => e = .returned (.bool true) ∧ Below w.heap.size w w' := by
  have fe := fn_neq
  have fz := nil_neq
  go_enter Tryz.func204, Tryz.ntmps204
  go_wp2_with fail
  refine (bt_2_5 _).mono ?_
  rintro x w2 ⟨gn, gt, rfl, -, -, hb⟩
  go_wp2
  go_ret
  exact ⟨rfl, hb⟩

set_option maxHeartbeats 400000 in
theorem can_3_1 (w : World) :
    Calls Tryz.prog 204 #[.int .i64 3, .int .i64 1] w fun e w' => e = .returned (.bool true) ∧ Below w.heap.size w w' := by
  have fe := fn_neq
  have fz := nil_neq
  go_enter Tryz.func204, Tryz.ntmps204
  go_wp2_with fail
  refine (bt_3_1 _).mono ?_
  rintro x w2 ⟨gn, gt, rfl, -, -, hb⟩
  go_wp2
  go_ret
  exact ⟨rfl, hb⟩

set_option maxHeartbeats 400000 in
theorem can_3_2 (w : World) :
    Calls Tryz.prog 204 #[.int .i64 3, .int .i64 2] w fun e w' => e = .returned (.bool true) ∧ Below w.heap.size w w' := by
  have fe := fn_neq
  have fz := nil_neq
  go_enter Tryz.func204, Tryz.ntmps204
  go_wp2_with fail
  refine (bt_3_2 _).mono ?_
  rintro x w2 ⟨gn, gt, rfl, -, -, hb⟩
  go_wp2
  go_ret
  exact ⟨rfl, hb⟩

set_option maxHeartbeats 400000 in
theorem can_4_2 (w : World) :
    Calls Tryz.prog 204 #[.int .i64 4, .int .i64 2] w fun e w' => e = .returned (.bool true) ∧ Below w.heap.size w w' := by
  have fe := fn_neq
  have fz := nil_neq
  go_enter Tryz.func204, Tryz.ntmps204
  go_wp2_with fail
  refine (bt_4_2 _).mono ?_
  rintro x w2 ⟨gn, gt, rfl, -, -, hb⟩
  go_wp2
  go_ret
  exact ⟨rfl, hb⟩

set_option maxHeartbeats 400000 in
theorem can_5_2 (w : World) :
    Calls Tryz.prog 204 #[.int .i64 5, .int .i64 2] w fun e w' => e = .returned (.bool true) ∧ Below w.heap.size w w' := by
  have fe := fn_neq
  have fz := nil_neq
  go_enter Tryz.func204, Tryz.ntmps204
  go_wp2_with fail
  refine (bt_5_2 _).mono ?_
  rintro x w2 ⟨gn, gt, rfl, -, -, hb⟩
  go_wp2
  go_ret
  exact ⟨rfl, hb⟩

set_option maxHeartbeats 400000 in
theorem can_1_4 (w : World) :
    Calls Tryz.prog 204 #[.int .i64 1, .int .i64 4] w fun e w' => e = .returned (.bool false) ∧ Below w.heap.size w w' := by
  have fe := fn_neq
  have fz := nil_neq
  go_enter Tryz.func204, Tryz.ntmps204
  go_wp2_with fail
  refine (bt_1_4 _).mono ?_
  rintro x w2 ⟨rfl, hb⟩
  go_wp2
  go_ret
  exact ⟨rfl, hb⟩

set_option maxHeartbeats 400000 in
theorem can_3_5 (w : World) :
    Calls Tryz.prog 204 #[.int .i64 3, .int .i64 5] w fun e w' => e = .returned (.bool false) ∧ Below w.heap.size w w' := by
  have fe := fn_neq
  have fz := nil_neq
  go_enter Tryz.func204, Tryz.ntmps204
  go_wp2_with fail
  refine (bt_3_5 _).mono ?_
  rintro x w2 ⟨rfl, hb⟩
  go_wp2
  go_ret
  exact ⟨rfl, hb⟩

set_option maxHeartbeats 400000 in
theorem can_4_1 (w : World) :
    Calls Tryz.prog 204 #[.int .i64 4, .int .i64 1] w fun e w' => e = .returned (.bool false) ∧ Below w.heap.size w w' := by
  have fe := fn_neq
  have fz := nil_neq
  go_enter Tryz.func204, Tryz.ntmps204
  go_wp2_with fail
  refine (bt_4_1 _).mono ?_
  rintro x w2 ⟨rfl, hb⟩
  go_wp2
  go_ret
  exact ⟨rfl, hb⟩

set_option maxHeartbeats 400000 in
theorem can_5_3 (w : World) :
    Calls Tryz.prog 204 #[.int .i64 5, .int .i64 3] w fun e w' => e = .returned (.bool false) ∧ Below w.heap.size w w' := by
  have fe := fn_neq
  have fz := nil_neq
  go_enter Tryz.func204, Tryz.ntmps204
  go_wp2_with fail
  refine (bt_5_3 _).mono ?_
  rintro x w2 ⟨rfl, hb⟩
  go_wp2
  go_ret
  exact ⟨rfl, hb⟩

set_option maxHeartbeats 400000 in
theorem can_out1 (a b : Int) (w : World) (h : a < 1 ∨ 5 < a) :
    Calls Tryz.prog 204 #[.int .i64 a, .int .i64 b] w fun e w' => e = .returned (.bool false) ∧ Below w.heap.size w w' := by
  have fe := fn_neq
  have fz := nil_neq
  have H := Lib.hid h
  clear h
  go_enter Tryz.func204, Tryz.ntmps204
  go_wp2_with fail
  refine (bt_out1 a b _ H.out).mono ?_
  rintro x w2 ⟨rfl, rfl⟩
  go_wp2
  go_ret
  exact ⟨rfl, Below.refl _ _⟩

set_option maxHeartbeats 400000 in
theorem can_out2 (a b : Int) (w : World) (h0 : 1 ≤ a) (h1 : a ≤ 5) (h : b < 1 ∨ 5 < b) :
    Calls Tryz.prog 204 #[.int .i64 a, .int .i64 b] w fun e w' => e = .returned (.bool false) ∧ Below w.heap.size w w' := by
  have fe := fn_neq
  have fz := nil_neq
  have H := Lib.hid (And.intro h0 (And.intro h1 h))
  clear h0 h1 h
  go_enter Tryz.func204, Tryz.ntmps204
  go_wp2_with fail
  refine (bt_out2 a b _ H.out.1 H.out.2.1 H.out.2.2).mono ?_
  rintro x w2 ⟨rfl, rfl⟩
  go_wp2
  go_ret
  exact ⟨rfl, Below.refl _ _⟩

set_option maxHeartbeats 400000 in
theorem can_same (a : Int) (w : World) (h0 : 1 ≤ a) (h1 : a ≤ 5) :
    Calls Tryz.prog 204 #[.int .i64 a, .int .i64 a] w fun e w' => e = .returned (.bool true) ∧ Below w.heap.size w w' := by
  have fe := fn_neq
  have fz := nil_neq
  have H := Lib.hid (And.intro h0 h1)
  clear h0 h1
  go_enter Tryz.func204, Tryz.ntmps204
  go_wp2_with fail
  refine (bt_same a _ H.out.1 H.out.2).mono ?_
  rintro x w2 ⟨rfl, rfl⟩
  go_wp2
  go_ret
  exact ⟨rfl, Below.refl _ _⟩

/-- What Can answers, in all. -/
theorem can_any (a b : Int) (w : World) :
    Calls Tryz.prog 204 #[.int .i64 a, .int .i64 b] w fun e w' => e = .returned (.bool (Cv.can a b)) ∧ Below w.heap.size w w' := by
  by_cases ha : a < 1 ∨ 5 < a
  · rw [show Cv.can a b = false by unfold Cv.can; rw [decide_eq_false_iff_not]; omega]; exact can_out1 a b w ha
  by_cases hb : b < 1 ∨ 5 < b
  · rw [show Cv.can a b = false by unfold Cv.can; rw [decide_eq_false_iff_not]; omega]; exact can_out2 a b w (by omega) (by omega) hb
  by_cases hs : a = b
  · subst hs; rw [show Cv.can a a = true by unfold Cv.can; rw [decide_eq_true_eq]; omega]; exact can_same a w (by omega) (by omega)
  have ca : a = 1 ∨ a = 2 ∨ a = 3 ∨ a = 4 ∨ a = 5 := by omega
  have cb : b = 1 ∨ b = 2 ∨ b = 3 ∨ b = 4 ∨ b = 5 := by omega
  rcases ca with rfl | rfl | rfl | rfl | rfl <;> rcases cb with rfl | rfl | rfl | rfl | rfl
  · exact absurd rfl hs
  · exact can_1_2 w
  · exact can_1_3 w
  · exact can_1_4 w
  · exact can_1_5 w
  · exact can_2_1 w
  · exact absurd rfl hs
  · exact can_2_3 w
  · exact can_2_4 w
  · exact can_2_5 w
  · exact can_3_1 w
  · exact can_3_2 w
  · exact absurd rfl hs
  · exact can_3_4 w
  · exact can_3_5 w
  · exact can_4_1 w
  · exact can_4_2 w
  · exact can_4_3 w
  · exact absurd rfl hs
  · exact can_4_5 w
  · exact can_5_1 w
  · exact can_5_2 w
  · exact can_5_3 w
  · exact can_5_4 w
  · exact absurd rfl hs

end Go.Proofs.YtdonmbmahcjfbaaGreatDoor.Km
