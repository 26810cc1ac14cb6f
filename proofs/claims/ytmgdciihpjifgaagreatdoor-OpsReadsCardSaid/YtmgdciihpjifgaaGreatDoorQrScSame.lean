/-
 Are two tables the same: sameCol, Same by the library's EqualFunc, and the document's SameCol, SameCols, Same. Conditions: at most 1000 columns.
 What alike answers with each of its two likenesses, and what Same and Cmp of two rows answer. Conditions: the bounds named in each theorem.
-/
import Derived.Test.YtmgdciihpjifgaaGreatDoorQrScCheck
import Derived.Test.YtmgdciihpjifgaaGreatDoorQrVlSame
import Derived.Test.YtmgdciihpjifgaaGreatDoorQrScPlain
import Derived.Test.YtmgdciihpjifgaaGreatDoorQrVlWorld
import Derived.BigQuiet
import Derived.Deep.QuietTactic
set_option maxHeartbeats 4000000
namespace Go.Proofs.YtmgdciihpjifgaaGreatDoor
open Go.RowKit
theorem same_is (k n b : Int) (s : List UInt8) (k' n' b' : Int) (s' : List UInt8) (r : Bool) (w : World) (h : Vl.sm k n b s k' n' b' s' = r) :
  Calls Tryz.prog 81 #[.agg #[.int .i64 k, .int .i64 n, .int .u64 b, .string ⟨(s : List UInt8).toArray⟩], .agg #[.int .i64 k', .int .i64 n', .int .u64 b', .string ⟨(s' : List UInt8).toArray⟩]] w fun e w' => e = .returned (.bool r) ∧ Below w.heap.size w w' := by
 have E : ∀ w, (Op.equalIn 10000 25 (.agg #[.int .i64 k, .int .i64 n, .int .u64 b, .string ⟨(s : List UInt8).toArray⟩]) (.agg #[.int .i64 k', .int .i64 n', .int .u64 b', .string ⟨(s' : List UInt8).toArray⟩])).run Tryz.prog w = .ok r w := fun w => by rw [eq24, h]
 clear h
 go_enter Tryz.func81, Tryz.ntmps81
 go_wp2
 go_ret
 exact ⟨rfl, below2s _ _ _⟩
end Go.Proofs.YtmgdciihpjifgaaGreatDoor
namespace Go.Proofs.YtmgdciihpjifgaaGreatDoor.Rk
open Go.RowKit
theorem two_at {W v : World} {a b : Addr} {x y : V} (h : Below W.heap.size W v) (hx : At W a x) (hy : At W b y) :
  Below W.heap.size W v ∧ v.cell? a = some (.int .i64 x.k) ∧ v.cell? ⟨a.block, a.off + 1, none⟩ = some (.int .i64 x.n) ∧ v.cell? ⟨a.block, a.off + 2, none⟩ = some (.int .u64 x.b) ∧ v.cell? ⟨a.block, a.off + 3, none⟩ = some (.string ⟨x.s.toArray⟩) ∧
   v.cell? b = some (.int .i64 y.k) ∧ v.cell? ⟨b.block, b.off + 1, none⟩ = some (.int .i64 y.n) ∧ v.cell? ⟨b.block, b.off + 2, none⟩ = some (.int .u64 y.b) ∧ v.cell? ⟨b.block, b.off + 3, none⟩ = some (.string ⟨y.s.toArray⟩) :=
 ⟨h, keep0 hx.1 h, keep0 hx.2.1 h, keep0 hx.2.2.1 h, keep0 hx.2.2.2 h, keep0 hy.1 h, keep0 hy.2.1 h, keep0 hy.2.2.1 h, keep0 hy.2.2.2 h⟩
theorem alike_s (xs ys : List V) (ao bo : Option Addr) (ca cb : Nat) (w : World) (hl : xs.length ≤ 9223372036854775807) (hm : ys.length ≤ 9223372036854775807) (ha : Sl w ao xs) (hb : Sl w bo ys) :
  Calls Tryz.prog 80 #[.slice ao xs.length ca, .slice bo ys.length cb, .func (.func 81) #[] #[]] w fun e w' => e = .returned (.int .i64 (al V.sm xs ys)) ∧ Below w.heap.size w w' := by
 have H := zh (za ha (za hb (za hl hm)))
 have hmx : Tryz.prog.follows .mixedOrders = true := by kernel_rfl
 clear ha hb hl hm
 go_enter Tryz.func80, Tryz.ntmps80
 go_wp2
 go_loopw [7] (fun i wr => ∃ j : Nat, i = .int .i64 j ∧ j ≤ xs.length ∧ j ≤ ys.length ∧ Below w.heap.size w wr ∧ al V.sm xs ys = j + al V.sm (xs.drop j) (ys.drop j)) (fun i _ => xs.length - (intOf i).toNat)
 case atStart => exact ⟨0, rfl, Nat.zero_le _, Nat.zero_le _, Below.refl _ _, by rw [Nat.zero_add]; rfl⟩
 case round =>
  obtain ⟨j, rfl, hj, hk, hbel, hal⟩ := hrel
  have J := zh (za hbel (za hal (za hj hk)))
  clear hbel hal hj hk
  by_cases hlt : j < xs.length
  ·have t1 : decide ((j : Int) < (xs.length : Int)) = true := by rw [decide_eq_true_iff]; omega
   have t2 : decide (j < xs.length) = true := by rw [decide_eq_true_iff]; omega
   by_cases hlu : j < ys.length
   ·have t3 : decide ((j : Int) < (ys.length : Int)) = true := by rw [decide_eq_true_iff]; omega
    have t4 : decide (j < ys.length) = true := by rw [decide_eq_true_iff]; omega
    obtain ⟨a, rfl, sa⟩ := H.out.1.below J.out.1 j xs[j] (List.getElem?_eq_getElem hlt)
    obtain ⟨b, rfl, sb⟩ := H.out.2.1.below J.out.1 j ys[j] (List.getElem?_eq_getElem hlu)
    have S5 := zh (za sa sb)
    have hw : wrap64 ((j : Int) + 1) = (j : Int) + 1 := by have := H.out.2.2.1; exact wrap_in _ (by omega) (by omega)
    clear sa sb
    by_cases hs : V.sm xs[j] ys[j] = true
    ·have HE := zh hs
     have HN := zh (al_drop V.sm hlt hlu hs)
     clear hs
     go_wp2_with fail
     go_region_held3 (fun v => Below wr.heap.size wr v ∧ v.cell? (a.add (j * 4)) = some (.int .i64 xs[j].k) ∧ v.cell? ⟨(a.add (j * 4)).block, (a.add (j * 4)).off + 1, none⟩ = some (.int .i64 xs[j].n) ∧ v.cell? ⟨(a.add (j * 4)).block, (a.add (j * 4)).off + 2, none⟩ = some (.int .u64 xs[j].b) ∧ v.cell? ⟨(a.add (j * 4)).block, (a.add (j * 4)).off + 3, none⟩ = some (.string ⟨xs[j].s.toArray⟩) ∧
       v.cell? (b.add (j * 4)) = some (.int .i64 ys[j].k) ∧ v.cell? ⟨(b.add (j * 4)).block, (b.add (j * 4)).off + 1, none⟩ = some (.int .i64 ys[j].n) ∧ v.cell? ⟨(b.add (j * 4)).block, (b.add (j * 4)).off + 2, none⟩ = some (.int .u64 ys[j].b) ∧ v.cell? ⟨(b.add (j * 4)).block, (b.add (j * 4)).off + 3, none⟩ = some (.string ⟨ys[j].s.toArray⟩)) (first | exact two_at (Below.refl _ _).drew S5.out.1 S5.out.2 | exact two_at (step0 ‹Below _ _ _ ∧ _›.1 hb) S5.out.1 S5.out.2)
      (first | (go_at_call 81; refine (same_is _ _ _ _ _ _ _ _ true _ HE.out).mono ?_; rintro e w6 ⟨rfl, hb⟩))
     have A6 := zh (step0 J.out.1 (show Below wr.heap.size wr w6 from ‹Below wr.heap.size wr w6 ∧ _›.1))
     go_wp2
     go_roundw
     case rel => exact ⟨j + 1, by go_num, hlt, hlu, A6.out, by have h5 := J.out.2.1; have h6 := HN.out; omega⟩
     case measure => rw [hw]; simp [intOf]; omega
    ·have hs2 : V.sm xs[j] ys[j] = false := by simpa using hs
     have HE := zh hs2
     have HN := zh (show al V.sm xs ys = j from by rw [J.out.2.1, al_stop V.sm hlt hlu hs2, Nat.add_zero])
     clear hs hs2
     go_wp2_with fail
     go_region_held3 (fun v => Below wr.heap.size wr v ∧ v.cell? (a.add (j * 4)) = some (.int .i64 xs[j].k) ∧ v.cell? ⟨(a.add (j * 4)).block, (a.add (j * 4)).off + 1, none⟩ = some (.int .i64 xs[j].n) ∧ v.cell? ⟨(a.add (j * 4)).block, (a.add (j * 4)).off + 2, none⟩ = some (.int .u64 xs[j].b) ∧ v.cell? ⟨(a.add (j * 4)).block, (a.add (j * 4)).off + 3, none⟩ = some (.string ⟨xs[j].s.toArray⟩) ∧
       v.cell? (b.add (j * 4)) = some (.int .i64 ys[j].k) ∧ v.cell? ⟨(b.add (j * 4)).block, (b.add (j * 4)).off + 1, none⟩ = some (.int .i64 ys[j].n) ∧ v.cell? ⟨(b.add (j * 4)).block, (b.add (j * 4)).off + 2, none⟩ = some (.int .u64 ys[j].b) ∧ v.cell? ⟨(b.add (j * 4)).block, (b.add (j * 4)).off + 3, none⟩ = some (.string ⟨ys[j].s.toArray⟩)) (first | exact two_at (Below.refl _ _).drew S5.out.1 S5.out.2 | exact two_at (step0 ‹Below _ _ _ ∧ _›.1 hb) S5.out.1 S5.out.2)
      (first | (go_at_call 81; refine (same_is _ _ _ _ _ _ _ _ false _ HE.out).mono ?_; rintro e w6 ⟨rfl, hb⟩))
     have A6 := zh (step0 J.out.1 (show Below wr.heap.size wr w6 from ‹Below wr.heap.size wr w6 ∧ _›.1))
     go_wp2
     go_ret
     exact ⟨ret_int (by rw [HN.out]), A6.out⟩
   ·have t3 : decide ((j : Int) < (ys.length : Int)) = false := by rw [decide_eq_false_iff_not]; omega
    have t4 : decide (j < ys.length) = false := by rw [decide_eq_false_iff_not]; omega
    have HN := zh (show al V.sm xs ys = j from by rw [J.out.2.1, al_end V.sm (.inr hlu), Nat.add_zero])
    clear hlt hlu
    go_wp2_with fail
    go_quiet (fail)
    go_wp2
    go_ret
    exact ⟨ret_int (by rw [HN.out]), below_drewV _ J.out.1⟩
  ·have t1 : decide ((j : Int) < (xs.length : Int)) = false := by rw [decide_eq_false_iff_not]; omega
   have t2 : decide (j < xs.length) = false := by rw [decide_eq_false_iff_not]; omega
   have HN := zh (show al V.sm xs ys = j from by rw [J.out.2.1, al_end V.sm (.inl hlt), Nat.add_zero])
   clear hlt
   go_wp2_with fail
   go_quiet (fail)
   go_wp2
   go_ret
   exact ⟨ret_int (by rw [HN.out]), below_drewV _ J.out.1⟩
theorem rsame_eq (xs ys : List V) (h : xs.length = ys.length) : ((al V.sm xs ys : Int) == (xs.length : Int)) = rs xs ys := by
 have := rs_al xs ys h
 rw [Bool.eq_iff_iff, beq_iff_eq]
 constructor
 ·intro g; exact this.1 (by omega)
 ·intro g; have := this.2 g; omega
theorem rowsSame_is (xs ys : List V) (r : Bool) (ao bo : Option Addr) (ca cb : Nat) (w : World) (hl : xs.length ≤ 9223372036854775807) (hm : ys.length ≤ 9223372036854775807) (ha : Sl w ao xs) (hb : Sl w bo ys) (h : rs xs ys = r) :
  Calls Tryz.prog 54 #[.slice ao xs.length ca, .slice bo ys.length cb] w fun e w' => e = .returned (.bool r) ∧ Below w.heap.size w w' := by
 have H := zh (za ha (za hb (za hl hm)))
 clear ha hb hl hm
 by_cases hne : xs.length = ys.length
 ·have n1 : ((xs.length : Int) == (ys.length : Int)) = true := beq_t (by omega)
  have n3 : decide (xs.length = ys.length) = true := by rw [decide_eq_true_iff]; exact hne
  obtain ⟨A, hA⟩ : ∃ A, al V.sm xs ys = A := ⟨_, rfl⟩
  have n2 := (rsame_eq xs ys hne).trans h
  rw [hA] at n2
  have HA := zh hA
  clear hA hne h
  go_enter Tryz.func54, Tryz.ntmps54
  go_wp2_with fail
  refine (alike_s xs ys ao bo ca cb _ H.out.2.2.1 H.out.2.2.2 H.out.1 H.out.2.1).mono ?_
  rintro e w1 ⟨rfl, hb⟩
  have B := zh hb
  clear hb
  rw [HA.out]
  go_wp2
  go_ret
  exact ⟨rfl, B.out⟩
 ·have hf : rs xs ys = false := by
   cases g : rs xs ys with
   | false => rfl
   | true => exact absurd (rs_len xs ys g) hne
  rw [hf] at h
  subst h
  have n1 : ((xs.length : Int) == (ys.length : Int)) = false := beq_f (by omega)
  have n3 : decide (xs.length = ys.length) = false := by rw [decide_eq_false_iff_not]; exact hne
  clear hf
  go_enter Tryz.func54, Tryz.ntmps54
  go_wp2
  go_ret
  exact ⟨rfl, Below.refl _ _⟩
end Go.Proofs.YtmgdciihpjifgaaGreatDoor.Rk
