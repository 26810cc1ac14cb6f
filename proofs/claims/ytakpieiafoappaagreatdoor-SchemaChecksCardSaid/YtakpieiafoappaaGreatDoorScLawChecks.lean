/-
  The walk of law SchemaChecks. Condition: the library's variable errors.errorType holds the handle of the type error.
-/
import Derived.Test.YtakpieiafoappaaGreatDoorScAwake
namespace Go.Proofs.YtakpieiafoappaaGreatDoor
open Go.RowKit

theorem three {W v : World} {B : Nat} {u0 u1 u2 : Value} (h : Blk W B #[u0, u1, u2] 24) (hb : Below W.heap.size W v) :
    Below W.heap.size W v ∧ v.cell? ⟨B, 0, none⟩ = some u0 ∧ v.cell? ⟨B, 1, none⟩ = some u1 ∧ v.cell? ⟨B, 2, none⟩ = some u2 := ⟨hb, (h.below hb).cell 0, (h.below hb).cell 1, (h.below hb).cell 2⟩
theorem ten {W v : World} {B : Nat} {u0 u1 u2 : Value} {p : Addr} {c : C} (h : Blk W B #[u0, u1, u2] 24) (hc : AtC W p c) (hb : Below W.heap.size W v) :
    Below W.heap.size W v ∧ v.cell? ⟨B, 2, none⟩ = some u2 ∧ v.cell? p = some (.string ⟨c.name.toArray⟩) ∧ v.cell? ⟨p.block, p.off + 1, none⟩ = some (.int .i64 c.kind) ∧ v.cell? ⟨p.block, p.off + 2, none⟩ = some (.bool c.null) ∧ v.cell? ⟨p.block, p.off + 3, none⟩ = some (.int .i64 c.d.k) ∧ v.cell? ⟨p.block, p.off + 4, none⟩ = some (.int .i64 c.d.n) ∧ v.cell? ⟨p.block, p.off + 5, none⟩ = some (.int .u64 c.d.b) ∧ v.cell? ⟨p.block, p.off + 6, none⟩ = some (.string ⟨c.d.s.toArray⟩) :=
  ⟨hb, (h.below hb).cell 2, keep0 hc.1 hb, keep0 hc.2.1 hb, keep0 hc.2.2.1 hb, keep0 hc.2.2.2.1 hb, keep0 hc.2.2.2.2.1 hb, keep0 hc.2.2.2.2.2.1 hb, keep0 hc.2.2.2.2.2.2 hb⟩

set_option maxHeartbeats 8000000 in
theorem schemaChecks_walk (t : T) (name : List UInt8) (ao : Option Addr) (cap : Nat) (w : World) (h : At3 w t ao cap) (hg : Env w) :
    Calls Tryz.prog 3 #[.agg #[.string ⟨t.name.toArray⟩, .int .i64 t.keys, .slice ao t.cs.length cap], .string ⟨name.toArray⟩] w fun e w' => e = .returned (.bool true) ∧ Below w.heap.size w w' := by
  have hmx : Tryz.prog.follows .mixedOrders = true := by kernel_rfl
  have HG := Lib.hid hg
  have H := Lib.hid h
  clear hg h
  by_cases hf : Tb t
  · have HF := Lib.hid hf
    clear hf
    by_cases hn : name.length ≤ 500
    · have q1 : decide ((500 : Int) < (name.length : Int)) = false := by rw [decide_eq_false_iff_not]; omega
      clear hn
      go_enter Tryz.func3, Tryz.ntmps3
      go_wp2_with fail
      refine (few_t t ao cap _ (H.out.1.below (below1 _ _)) HF.out).mono ?_
      rintro e w1 ⟨rfl, hb⟩
      have b1 := (Blk.new w #[.string ⟨t.name.toArray⟩, .int .i64 t.keys, .slice ao t.cs.length cap] 24).below hb
      have B1 := Lib.hid (And.intro (step1 (Below.refl _ w) hb) b1)
      clear hb b1
      go_wp2
      go_loopw [5] (fun i wr => ∃ j : Nat, i = .int .i64 j ∧ j ≤ t.cs.length ∧ Below w.heap.size w wr ∧ Blk wr w.heap.size #[.string ⟨t.name.toArray⟩, .int .i64 t.keys, .slice ao t.cs.length cap] 24) (fun i _ => t.cs.length - (intOf i).toNat)
      case atStart => exact ⟨0, rfl, Nat.zero_le _, B1.out.1, B1.out.2⟩
      case round =>
        obtain ⟨j, rfl, hj, hbel, hbl⟩ := hrel
        obtain ⟨t0, t1, t2⟩ := hbl.t3
        have J := Lib.hid (And.intro hbel hbl)
        clear hbel hbl
        by_cases hlt : j < t.cs.length
        · obtain ⟨a, rfl, hat⟩ := H.out.1.below J.out.1 j t.cs[j] (List.getElem?_eq_getElem hlt)
          have HA := Lib.hid hat
          clear hat
          have hw : wrap64 ((j : Int) + 1) = (j : Int) + 1 := by have := HF.out.1; exact wrap_in _ (by omega) (by omega)
          obtain ⟨E, hE⟩ : ∃ E, t.cs[j].ck = E := ⟨_, rfl⟩
          have HE := Lib.hid hE
          clear hE
          have n1 : (E != E) = false := by simp
          go_wp2
          go_region_held3 (fun v => Below wr.heap.size wr v ∧ v.cell? ⟨w.heap.size, 2, none⟩ = some (.slice (some a) t.cs.length cap) ∧ v.cell? (a.add (j * 7)) = some (.string ⟨t.cs[j].name.toArray⟩) ∧ v.cell? ⟨(a.add (j * 7)).block, (a.add (j * 7)).off + 1, none⟩ = some (.int .i64 t.cs[j].kind) ∧ v.cell? ⟨(a.add (j * 7)).block, (a.add (j * 7)).off + 2, none⟩ = some (.bool t.cs[j].null) ∧ v.cell? ⟨(a.add (j * 7)).block, (a.add (j * 7)).off + 3, none⟩ = some (.int .i64 t.cs[j].d.k) ∧ v.cell? ⟨(a.add (j * 7)).block, (a.add (j * 7)).off + 4, none⟩ = some (.int .i64 t.cs[j].d.n) ∧ v.cell? ⟨(a.add (j * 7)).block, (a.add (j * 7)).off + 5, none⟩ = some (.int .u64 t.cs[j].d.b) ∧ v.cell? ⟨(a.add (j * 7)).block, (a.add (j * 7)).off + 6, none⟩ = some (.string ⟨t.cs[j].d.s.toArray⟩))
            (first | exact ten J.out.2 HA.out (Below.refl _ _).drew | exact ten J.out.2 HA.out (step0 ‹Below wr.heap.size wr _ ∧ _›.1 hb))
            (first
              | (go_at_call 9; refine (checkCol_is t.cs[j] E _ (HG.out.keep (step0 J.out.1 ‹Below wr.heap.size wr _ ∧ _›.1)) (H.out.2.2 _ (List.getElem_mem hlt)) HE.out).mono ?_; rintro e w2 ⟨rfl, hb⟩)
              | (go_at_call 10; refine (rcheckCol_is t.cs[j] E _ (H.out.2.2 _ (List.getElem_mem hlt)) HE.out).mono ?_; rintro e w3 ⟨rfl, hb⟩))
          have Z := Lib.hid (show Below wr.heap.size wr w3 from ‹Below wr.heap.size wr w3 ∧ _›.1)
          go_wp2
          go_roundw
          case rel => exact ⟨j + 1, by go_num, hlt, step0 J.out.1 Z.out, J.out.2.below Z.out⟩
          case measure => rw [hw]; simp [intOf]; omega
        · obtain rfl : j = t.cs.length := by omega
          obtain ⟨E, hE⟩ : ∃ E, t.ck = E := ⟨_, rfl⟩
          obtain ⟨F, hF⟩ : ∃ F, Nm.fi (t.cs.map C.name) name = F := ⟨_, rfl⟩
          have HE := Lib.hid (And.intro hE hF)
          clear hE hF
          go_wp2
          go_region_held3 (fun v => Below wr.heap.size wr v ∧ v.cell? ⟨w.heap.size, 0, none⟩ = some (.string ⟨t.name.toArray⟩) ∧ v.cell? ⟨w.heap.size, 1, none⟩ = some (.int .i64 t.keys) ∧ v.cell? ⟨w.heap.size, 2, none⟩ = some (.slice ao t.cs.length cap))
            (first | exact three J.out.2 (Below.refl _ _).drew | exact three J.out.2 (step0 ‹Below wr.heap.size wr _ ∧ _›.1 hb))
            (first
              | (go_at_call 11; refine (check_t t ao cap E _ (HG.out.keep (step0 J.out.1 ‹Below wr.heap.size wr _ ∧ _›.1)) (H.out.keep (step0 J.out.1 ‹Below wr.heap.size wr _ ∧ _›.1)) HE.out.1).mono ?_; rintro e w2 ⟨rfl, hb⟩)
              | (go_at_call 12; refine (rcheck_t t ao cap E _ (H.out.keep (step0 J.out.1 ‹Below wr.heap.size wr _ ∧ _›.1)) HE.out.1).mono ?_; rintro e w3 ⟨rfl, hb⟩)
              | (go_at_call 13; refine (find_t t.name t.keys t.cs name ao cap _ (H.out.1.below (step0 J.out.1 ‹Below wr.heap.size wr _ ∧ _›.1)) (by have := HF.out.1; omega) F HE.out.2).mono ?_; rintro e w4 ⟨rfl, hb⟩)
              | (go_at_call 14; refine (rfind_t t.name t.keys t.cs name ao cap _ (H.out.1.below (step0 J.out.1 ‹Below wr.heap.size wr _ ∧ _›.1)) (by have := HF.out.1; omega) F HE.out.2).mono ?_; rintro e w5 ⟨rfl, hb⟩)
              | (go_at_call 8; refine (awake_any _ (HG.out.keep (step0 J.out.1 ‹Below wr.heap.size wr _ ∧ _›.1))).mono ?_; rintro e w6 ⟨rfl, hb⟩))
          have Z := Lib.hid (step0 J.out.1 (show Below wr.heap.size wr w6 from ‹Below wr.heap.size wr w6 ∧ _›.1))
          go_wp2
          go_ret
          exact ⟨rfl, Z.out⟩
    · have q1 : (500 : Int) < (name.length : Int) := by omega
      clear hn
      go_enter Tryz.func3, Tryz.ntmps3
      go_wp2_with fail
      refine (few_t t ao cap _ (H.out.1.below (below1 _ _)) HF.out).mono ?_
      rintro e w1 ⟨rfl, hb⟩
      have B1 := Lib.hid (step1 (Below.refl _ w) hb)
      clear hb
      go_wp2_with fail
      refine (awake_any _ (HG.out.keep B1.out)).mono ?_
      rintro e u9 ⟨rfl, hb⟩
      have Z9 := Lib.hid (step0 B1.out hb)
      clear hb
      go_wp2
      go_ret
      exact ⟨rfl, Z9.out⟩
  · have HF := Lib.hid hf
    clear hf
    go_enter Tryz.func3, Tryz.ntmps3
    go_wp2_with fail
    refine (few_n t ao cap _ (H.out.1.below (below1 _ _)) HF.out).mono ?_
    rintro e w1 ⟨rfl, hb⟩
    have B1 := Lib.hid (step1 (Below.refl _ w) hb)
    clear hb
    go_wp2_with fail
    refine (awake_any _ (HG.out.keep B1.out)).mono ?_
    rintro e u9 ⟨rfl, hb⟩
    have Z9 := Lib.hid (step0 B1.out hb)
    clear hb
    go_wp2
    go_ret
    exact ⟨rfl, Z9.out⟩

end Go.Proofs.YtakpieiafoappaaGreatDoor
