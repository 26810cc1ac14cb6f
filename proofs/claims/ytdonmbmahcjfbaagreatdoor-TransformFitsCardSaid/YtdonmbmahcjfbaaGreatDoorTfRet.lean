/-
  A value less: slices.Delete of one value of a row that a call has made. Conditions: the bounds named in each theorem.
  The parts of transform.Row: a row copied, whether a name is there, a column behind the key, a row without a value, with another one, in two parts. Conditions: the bounds named in each theorem.
  A row with a value of another kind: retyped. Conditions: the bounds named in each theorem; the variables that convert.To reads as they are laid.
-/
import Derived.Test.YtdonmbmahcjfbaaGreatDoorTfMem
import Derived.Deep.RegionLaw
import Derived.Shelf.RegionOpenPlain
import Derived.OwnWalk
import Derived.Test.YtdonmbmahcjfbaaGreatDoorScCheck
import Derived.Deep.RegionHeldLaw
import Derived.Deep.RegionHeld3
import Derived.Test.YtdonmbmahcjfbaaGreatDoorCvTo
namespace Go.Proofs.YtdonmbmahcjfbaaGreatDoor
open Go.RowKit

/-- An append within a row's own room, in a region that draws its order. -/
theorem vstep_append_fits {P : Program} {ops : Array Oper} {o : Oper} {a : Act} {w : World} {K : Act → World → Prop} {Q : Exit → Act → World → Prop} {E : Prop}
    (hg : o.guard = none) (s x : Operand) (t : TypeId) (hop : o.op = Op.call { callee := Callee.builtin Builtin.append, args := #[s, x], argTypes := #[t, t] })
    (base : Nat) (e : TypeId) (i : TypeInfo) (size : Nat) (h1 : P.underlying t = some (.slice e)) (h2 : P.info? e = some i) (h4 : i.size = size)
    (g k cap : Nat) (xs : List Value) (hs : a.eval s = .slice (some ⟨g, 0, none⟩) k cap) (hown : w.ownsRow base e size (.slice (some ⟨g, 0, none⟩) k cap) k xs) (ad : Addr) (m c : Nat) (news : List Value) (hx : a.eval x = .slice (some ad) m c) (hn : news.length = m * size)
    (hc : ∀ j u, news[j]? = some u → w.cell? (ad.add j) = some u) (h1c : ∀ u ∈ news, u.oneCell' = true) (b1 : k + m ≤ cap)
    (hK : ∀ w', w'.ownsRow base e size (.slice (some ⟨g, 0, none⟩) (k + m) cap) (k + m) (xs ++ news) → w.grownBy w' (some g) → K (a.put o.dst (.slice (some ⟨g, 0, none⟩) (k + m) cap)) w') :
    if Region.wanted o (yielded ops a.tmps) = true then Oper.wp P o a w K Q else E := by
  have hw : Region.wanted o (yielded ops a.tmps) = true := by simp [Region.wanted, hg]
  rw [if_pos hw]
  obtain ⟨w', hrun, r1, r2⟩ := run_append_fits (P := P) w base t o.type e i size h1 h2 h4 g k cap xs hown ad m c news hn hc h1c b1
  unfold Oper.wp
  simp [execOp, hop, resolve, invoke, builtin, hs, hx, hrun, Result.andThen]
  exact hK w' r1 r2

/-- A row's own room: its cells are there; a store there leaves the row. -/
theorem OwV.room {w : World} {b g n cap : Nat} {l : List V} (h : OwV w b (.slice (some ⟨g, 0, none⟩) n cap) l) (k : Nat) (hk : k < cap * 4) : (w.cell? ⟨g, k, none⟩).isSome = true := by
  rcases h.2 with ⟨h', _⟩ | ⟨g', cap', cur, h', _, hg, _, _, hcs, _⟩
  · simp at h'
  · simp only [Value.slice.injEq, Option.some.injEq, Addr.mk.injEq, and_true] at h'
    obtain ⟨rfl, _, rfl⟩ := h'
    rw [cell_of_row w g k cur _ _ hg, Array.getElem?_eq_getElem (by omega)]
    rfl
theorem OwV.spare {w : World} {b g n cap : Nat} {l : List V} (h : OwV w b (.slice (some ⟨g, 0, none⟩) n cap) l) (hn : n = l.length) (k : Nat) (hk : n * 4 ≤ k) (u : Value) : OwV (w.setCell ⟨g, k, none⟩ u) b (.slice (some ⟨g, 0, none⟩) n cap) l ∧ w.grownBy (w.setCell ⟨g, k, none⟩ u) (some g) := by
  subst hn
  have h1 := World.ownsRow.stored h k u
  rw [List.set_eq_of_length_le (by rw [vcs_len]; exact hk)] at h1
  exact h1
theorem vgrown_trans {a b c : World} {row : Option Nat} (h : a.grownBy b row) (k : b.grownBy c row) : a.grownBy c row :=
  ⟨k.os.trans h.os, k.tape.trans h.tape, k.output.trans h.output, Nat.le_trans h.size k.size, fun i hi hne => (k.block i (Nat.lt_of_lt_of_le hi h.size) hne).trans (h.block i hi hne)⟩
/-- A beginning of such a row. -/
theorem OwV.pre {w : World} {b g n cap : Nat} {A R : List V} (h : OwV w b (.slice (some ⟨g, 0, none⟩) n cap) (A ++ R)) : OwV w b (.slice (some ⟨g, 0, none⟩) A.length cap) A := by
  refine ⟨vcs_len A, ?_⟩
  rcases h.2 with ⟨h', _⟩ | ⟨g', cap', cur, h', hb, hg, h1, h2, h3, h4⟩
  · simp at h'
  · simp only [Value.slice.injEq, Option.some.injEq, Addr.mk.injEq, and_true] at h'
    obtain ⟨rfl, _, rfl⟩ := h'
    rw [List.length_append] at h1 h4
    refine .inr ⟨g, cap, cur, rfl, hb, hg, by omega, h2, h3, ?_⟩
    have : (cur.toList.take ((A.length + R.length) * 4)).take (A.length * 4) = (vcs (A ++ R)).take (A.length * 4) := by rw [h4]
    rw [List.take_take, Nat.min_eq_left (by omega), vcs_append, List.take_append_of_le_length (by rw [vcs_len]; exact Nat.le_refl _)] at this
    rw [this, List.take_of_length_le (by rw [vcs_len]; exact Nat.le_refl _)]

theorem zeroV (w : World) : (zeroValue 28).run Tryz.prog w = .ok (.agg #[.int .i64 0, .int .i64 0, .int .u64 0, .string ⟨#[]⟩]) w := by kernel_rfl
set_option linter.unusedSimpArgs false in
/-- 'clear' of one value. -/
theorem run_clear_val (w : World) (ty : TypeId) (g o c : Nat) (hc : ∀ j, j < 4 → (w.cell? ⟨g, o + j, none⟩).isSome = true) (hf : ∀ j, j < 4 → w.frozen? ⟨g, o + j, none⟩ = false) :
    (Builtin.clear_ #[33] ty #[.slice (some ⟨g, o, none⟩) 1 c]).run Tryz.prog w = .ok (.tuple #[]) (w.setCells g o [.int .i64 0, .int .i64 0, .int .u64 0, .string ⟨#[]⟩]) := by
  have hst := run_storeCells_cells (P := Tryz.prog) g o [.int .i64 0, .int .i64 0, .int .u64 0, .string ⟨#[]⟩] 0 w (by simpa using hc) (by simpa using hf) (by decide)
  simp only [Nat.add_zero] at hst
  have hzc : (Builtin.zeroCells (Value.agg #[.int .i64 0, .int .i64 0, .int .u64 0, .string ⟨#[]⟩]).cells 1).toList = [.int .i64 0, .int .i64 0, .int .u64 0, .string ⟨#[]⟩] := by
    simp [Builtin.zeroCells, Value.cells]
    rfl
  simp [Builtin.clear_, run_underlying Tryz.underlying33, zeroV, hzc, hst]

theorem OwV.wiped {w : World} {b g n cap : Nat} {l : List V} (h : OwV w b (.slice (some ⟨g, 0, none⟩) n cap) l) (hn : n = l.length) : OwV (w.setCells g (n * 4) [.int .i64 0, .int .i64 0, .int .u64 0, .string ⟨#[]⟩]) b (.slice (some ⟨g, 0, none⟩) n cap) l ∧ w.grownBy (w.setCells g (n * 4) [.int .i64 0, .int .i64 0, .int .u64 0, .string ⟨#[]⟩]) (some g) := by
  have h0 := h.spare hn (n * 4) (by omega) (.int .i64 0)
  have h1 := h0.1.spare hn (n * 4 + 1) (by omega) (.int .i64 0)
  have h2 := h1.1.spare hn (n * 4 + 1 + 1) (by omega) (.int .u64 0)
  have h3 := h2.1.spare hn (n * 4 + 1 + 1 + 1) (by omega) (.string ⟨#[]⟩)
  exact ⟨h3.1, vgrown_trans h0.2 (vgrown_trans h1.2 (vgrown_trans h2.2 h3.2))⟩

set_option maxHeartbeats 4000000 in
set_option maxRecDepth 1000000 in
theorem vdelete_is (A R : List V) (c : V) (b g n cap : Nat) (w : World) (hn : n = A.length + R.length + 1) (hO : OwV w b (.slice (some ⟨g, 0, none⟩) n cap) (A ++ c :: R)) (hl : n ≤ 1000) :
    Calls Tryz.prog 50 #[.slice (some ⟨g, 0, none⟩) n cap, .int .i64 (A.length : Int), .int .i64 ((A.length : Int) + 1)] w fun e w' => e = .returned (.slice (some ⟨g, 0, none⟩) (A.length + R.length) cap) ∧ OwV w' b (.slice (some ⟨g, 0, none⟩) (A.length + R.length) cap) (A ++ R) ∧ w.grownBy w' (some g) := by
  have hmx : Tryz.prog.follows .mixedOrders = true := by kernel_rfl
  obtain ⟨i0, hi, hz0, hz1, hz2⟩ := info_parts Tryz.infoV
  have hcap : n ≤ cap := by
    obtain ⟨_, _, e, h1, _⟩ := hO.sl
    injection e with _ e2 e3
    rw [List.length_append, List.length_cons] at h1
    omega
  obtain ⟨k, hk⟩ : ∃ k, A.length = k := ⟨_, rfl⟩
  obtain ⟨m, hm⟩ : ∃ m, R.length = m := ⟨_, rfl⟩
  rw [hk, hm] at hn ⊢
  have e1 : ((k : Int) == (k : Int) + 1) = false := by rw [beq_eq_false_iff_ne]; omega
  have i0' : (0 : Int) ≤ (k : Int) := by omega
  have i1 : (k : Int) ≤ (k : Int) + 1 := by omega
  have i2 : (k : Int) + 1 ≤ (n : Int) := by omega
  have i3 : (n : Int) ≤ (cap : Int) := by omega
  have i4 : (0 : Int) ≤ (k : Int) + 1 := by omega
  have i5 : ((k : Int) + 1).toNat = k + 1 := by omega
  have i6 : (k : Int) ≤ (cap : Int) := by omega
  have hpre : w.drew.ownsRow b 28 4 (.slice (some ⟨g, 0, none⟩) k cap) k (vcs A) := by
    have := hO.pre
    unfold OwV at this
    rw [hk] at this
    exact this
  obtain ⟨AD, hA, hsrc⟩ : ∃ AD : Addr, (if cap = k + 1 then some (⟨g, 0, none⟩ : Addr) else some ⟨g, (k + 1) * 4, none⟩) = some AD ∧ (∀ t u, (vcs R)[t]? = some u → w.drew.cell? (AD.add t) = some u) := by
    by_cases h : cap = k + 1
    · refine ⟨⟨g, 0, none⟩, by simp [h], fun t u hu => ?_⟩
      have hm0 : R = [] := List.eq_nil_of_length_eq_zero (by omega)
      rw [hm0] at hu
      simp [vcs] at hu
    · refine ⟨⟨g, (k + 1) * 4, none⟩, by simp [h], fun t u hu => ?_⟩
      have h1 : (vcs (A ++ c :: R))[(k + 1) * 4 + t]? = some u := by
        have e : A ++ c :: R = (A ++ [c]) ++ R := by simp
        rw [e, vcs_append, List.getElem?_append_right (by rw [vcs_len]; simp; omega), vcs_len]
        have : (k + 1) * 4 + t - (A ++ [c]).length * 4 = t := by simp; omega
        rw [this]; exact hu
      have h2 := World.ownsRow.cells hO (g := g) rfl _ _ h1
      rw [add_none] at h2
      have e2 : (⟨g, (k + 1) * 4, none⟩ : Addr).add t = ⟨g, (k + 1) * 4 + t, none⟩ := by unfold Addr.add; split <;> simp_all
      rw [e2]
      exact h2
  have hnl : n - (k + 1) = m := by omega
  have hrl : (vcs R).length = m * 4 := by rw [vcs_len, hm]
  have H := Lib.hid (And.intro hO (And.intro hk (And.intro hm (And.intro hn (And.intro hl hcap)))))
  have S := Lib.hid (And.intro hpre (And.intro hsrc (And.intro hrl (vcs_one R))))
  clear hO hk hm hl hn hcap hpre hsrc hrl
  go_enter Tryz.func50, Tryz.ntmps50
  go_wp2_with fail
  go_region_law_o (refine vstep_append_fits rfl (.tmp 22) (.tmp 25) 33 rfl b 28 i0 4 Tryz.underlying33 hi hz1 g k cap (vcs A) (by simp [Act.eval, Act.put]) S.out.1 AD m (cap - (k + 1)) (vcs R) (by simp [Act.eval, Act.put]) S.out.2.2.1 S.out.2.1 S.out.2.2.2 (by have := H.out.2.2.2; omega) ?_; intro w1 hown hgrow)
  have hO1 : OwV w1 b (.slice (some ⟨g, 0, none⟩) (k + m) cap) (A ++ R) := by
    unfold OwV
    rw [List.length_append, vcs_append, H.out.2.1, H.out.2.2.1]
    exact hown
  have hkm : k + m = (A ++ R).length := by rw [List.length_append, H.out.2.1, H.out.2.2.1]
  have hw2 := hO1.wiped hkm
  have hcl : ∀ ty, (Builtin.clear_ #[33] ty #[.slice (some ⟨g, (k + m) * 4, none⟩) 1 (cap - (k + m))]).run Tryz.prog w1 = .ok (.tuple #[]) (w1.setCells g ((k + m) * 4) [.int .i64 0, .int .i64 0, .int .u64 0, .string ⟨#[]⟩]) :=
    fun ty => run_clear_val w1 ty g _ _ (fun j hj => hO1.room _ (by have := H.out.2.2.2; omega)) (fun j _ => World.ownsRow.frozenAt hown _)
  obtain ⟨W2, hW2⟩ : ∃ W2, w1.setCells g ((k + m) * 4) [.int .i64 0, .int .i64 0, .int .u64 0, .string ⟨#[]⟩] = W2 := ⟨_, rfl⟩
  rw [hW2] at hw2 hcl
  have j0 : (0 : Int) ≤ (k : Int) + (m : Int) := by omega
  have j1 : (k : Int) + (m : Int) ≤ (n : Int) := by have := H.out.2.2.2.1; omega
  have j2 : n - (k + m) = 1 := by have := H.out.2.2.2.1; omega
  have j3 : ¬ cap = k + m := by have := H.out.2.2.2; omega
  have j4 : ((k : Int) + (m : Int)).toNat = k + m := by omega
  have K := Lib.hid (And.intro hw2.1 (vgrown_trans hgrow hw2.2))
  clear hown hgrow hw2 hO1 hkm hW2
  go_wp2
  go_ret
  exact ⟨rfl, K.out.1, ⟨K.out.2.os, K.out.2.tape, K.out.2.output, K.out.2.size, K.out.2.block⟩⟩

end Go.Proofs.YtdonmbmahcjfbaaGreatDoor

namespace Go.Proofs.YtdonmbmahcjfbaaGreatDoor
open Go.RowKit
set_option linter.unusedVariables false

theorem contains_is (l : List Nm.S) (s : Nm.S) (n : Nat) (F : Bool) (ao : Option Addr) (cap : Nat) (w : World) (hn : l.length = n) (h : SlS w ao l) (hl : l.length ≤ 1000000) (hF : decide (s ∈ l) = F) :
    Calls Tryz.prog 25 #[.slice ao n cap, .string ⟨s.toArray⟩] w fun e w' => e = .returned (.bool F) ∧ w = w' := by
  subst hn hF
  by_cases hm : s ∈ l
  · have d : decide ((0 : Int) ≤ Nm.fi l s) = true := by rw [decide_eq_true_iff, fi_mem hm]; omega
    have H := Lib.hid (And.intro h (And.intro hl hm))
    clear h hl hm
    go_enter Tryz.func25, Tryz.ntmps25
    go_wp2_with fail
    refine (index_is l s ao cap _ H.out.1 H.out.2.1).mono ?_
    rintro e w' ⟨rfl, rfl⟩
    go_wp2
    go_ret
    exact ⟨ret_bool (by simp [H.out.2.2]), rfl⟩
  · have d : decide ((0 : Int) ≤ Nm.fi l s) = false := by rw [decide_eq_false_iff_not, Nm.fi_none l s hm]; omega
    have H := Lib.hid (And.intro h (And.intro hl hm))
    clear h hl hm
    go_enter Tryz.func25, Tryz.ntmps25
    go_wp2_with fail
    refine (index_is l s ao cap _ H.out.1 H.out.2.1).mono ?_
    rintro e w' ⟨rfl, rfl⟩
    go_wp2
    go_ret
    exact ⟨ret_bool (by simp [H.out.2.2]), rfl⟩

set_option maxHeartbeats 1000000 in
theorem vcopied_is (xs : List V) (n : Nat) (ao : Option Addr) (cap : Nat) (w : World) (hn : xs.length = n) (h : Sl w ao xs) (hl : xs.length ≤ 1000) :
    Calls Tryz.prog 27 #[.slice ao n cap] w fun e w' => ∃ g, e = .returned (.slice (some ⟨g, 0, none⟩) n n) ∧ OwV w' w.heap.size (.slice (some ⟨g, 0, none⟩) n n) xs ∧ Below w.heap.size w w' := by
  subst hn
  cases ao with
  | none =>
    obtain rfl := h.none
    clear h hl
    go_enter Tryz.func27, Tryz.ntmps27
    go_wp2_with (refine makeVals _ rfl _ _ rfl _ _ _ _ 0 rfl rfl (by simp) (by simp) (by omega) ?_)
    intro g w1 hg hO hb
    have K := Lib.hid (And.intro hO hb)
    have hr := fun ty => run_copyV_none w1 ty ⟨g, 0, none⟩ 0 cap
    clear hO hb hg
    go_wp2_with (at_builtin; refine Lib.wpList_copy_run _ rfl _ _ 33 33 rfl _ _ rfl rfl (hr _) ?_)
    go_wp2
    go_ret
    exact ⟨g, rfl, K.out.1, K.out.2⟩
  | some a =>
    have H := Lib.hid (And.intro h hl)
    clear h hl
    go_enter Tryz.func27, Tryz.ntmps27
    go_wp2_with (refine makeVals _ rfl _ _ rfl _ _ _ _ xs.length rfl rfl (by simp) (by simp) (by have := H.out.2; omega) ?_)
    intro g w1 hg hO hb
    obtain ⟨hO', hbg, cur, hcur, hsz⟩ := hO.laid (xs := xs) rfl
    have hr := fun ty => run_copyV w1 ty g xs.length xs.length a cap cur _ xs rfl hcur (fun j u hj => keep0 (H.out.1.cell j u hj) hb) hsz
    have hB := below_setRow hb hbg (vcs xs).toArray
    obtain ⟨W2, hW2⟩ : ∃ W2, w1.setRow g (vcs xs).toArray = W2 := ⟨_, rfl⟩
    rw [hW2] at hO' hB
    simp only [hW2] at hr
    have K := Lib.hid (And.intro hO' hB)
    clear hO hO' hb hg hcur hsz hB hbg
    go_wp2_with (at_builtin; refine Lib.wpList_copy_run _ rfl _ _ 33 33 rfl _ _ rfl rfl (hr _) ?_)
    go_wp2
    go_ret
    exact ⟨g, rfl, K.out.1, K.out.2⟩

set_option maxHeartbeats 1000000 in
theorem vbehind_is (nm : Nm.S) (K : Nat) (cs : List C) (s : Nm.S) (ao : Option Addr) (cap : Nat) (w : World) (h : SlC w ao cs) (hl : cs.length ≤ 1000) (F : Int) (hF : (if Nm.fi (cs.map C.name) s < (K : Int) then -1 else Nm.fi (cs.map C.name) s) = F) :
    Calls Tryz.prog 49 #[.agg #[.string ⟨nm.toArray⟩, .int .i64 (K : Int), .slice ao cs.length cap], .string ⟨s.toArray⟩] w fun e w' => e = .returned (.int .i64 F) ∧ Below w.heap.size w w' := by
  obtain ⟨X, hX⟩ : ∃ X, Nm.fi (cs.map C.name) s = X := ⟨_, rfl⟩
  rw [hX] at hF
  have H := Lib.hid (And.intro h (And.intro hl hX))
  clear h hl hX
  by_cases hk : X < (K : Int)
  · rw [if_pos hk] at hF
    subst hF
    have d1 : decide (X < (K : Int)) = true := by rw [decide_eq_true_iff]; exact hk
    clear hk
    go_enter Tryz.func49, Tryz.ntmps49
    go_wp2_with fail
    refine (find_t nm (K : Int) cs s ao cap _ (H.out.1.below (below1 _ _)) H.out.2.1 X H.out.2.2).mono ?_
    rintro e w1 ⟨rfl, hb⟩
    obtain ⟨t0, t1, t2⟩ := ((Blk.new w #[.string ⟨nm.toArray⟩, .int .i64 (K : Int), .slice ao cs.length cap] 24).below hb).t3
    have B := Lib.hid (step1 (Below.refl _ w) hb)
    clear hb
    go_wp2
    go_ret
    exact ⟨rfl, B.out⟩
  · rw [if_neg hk] at hF
    subst hF
    have d1 : decide (X < (K : Int)) = false := by rw [decide_eq_false_iff_not]; exact hk
    clear hk
    go_enter Tryz.func49, Tryz.ntmps49
    go_wp2_with fail
    refine (find_t nm (K : Int) cs s ao cap _ (H.out.1.below (below1 _ _)) H.out.2.1 X H.out.2.2).mono ?_
    rintro e w1 ⟨rfl, hb⟩
    obtain ⟨t0, t1, t2⟩ := ((Blk.new w #[.string ⟨nm.toArray⟩, .int .i64 (K : Int), .slice ao cs.length cap] 24).below hb).t3
    have B := Lib.hid (step1 (Below.refl _ w) hb)
    clear hb
    go_wp2
    go_ret
    exact ⟨rfl, B.out⟩


set_option maxHeartbeats 2000000 in
theorem dropped_bad (nm : Nm.S) (K : Nat) (cs : List C) (s : Nm.S) (ao : Option Addr) (cap : Nat) (xs : List V) (n : Nat) (bo : Option Addr) (bc : Nat) (w : World) (hn : xs.length = n) (h : SlC w ao cs) (hl : cs.length ≤ 1000) (hx : Sl w bo xs) (hxl : xs.length = cs.length) (hf : Nm.fi (cs.map C.name) s < (K : Int)) :
    Calls Tryz.prog 28 #[.agg #[.string ⟨nm.toArray⟩, .int .i64 (K : Int), .slice ao cs.length cap], .string ⟨s.toArray⟩, .slice bo n bc] w fun e w' => e = .returned (.tuple #[.slice none 0 0, .int .i64 10]) ∧ Below w.heap.size w w' := by
  have H := Lib.hid (And.intro h (And.intro hl hf))
  clear h hl hx hf
  go_enter Tryz.func28, Tryz.ntmps28
  go_wp2_with fail
  refine (vbehind_is nm K cs s ao cap _ (H.out.1.below (below1 _ _)) H.out.2.1 (-1) (by rw [if_pos H.out.2.2])).mono ?_
  rintro e w1 ⟨rfl, hb⟩
  have B := Lib.hid (step1 (Below.refl _ w) hb)
  clear hb
  go_wp2
  go_ret2
  exact ⟨rfl, B.out⟩

set_option maxHeartbeats 2000000 in
theorem dropped_ok (nm : Nm.S) (K : Nat) (cs : List C) (s : Nm.S) (ao : Option Addr) (cap : Nat) (xs : List V) (n : Nat) (bo : Option Addr) (bc : Nat) (w : World) (hn : xs.length = n) (h : SlC w ao cs) (hl : cs.length ≤ 1000) (hx : Sl w bo xs) (hxl : xs.length = cs.length) (I : Nat) (hf : Nm.fi (cs.map C.name) s = (I : Int)) (hKI : K ≤ I) (hI : I < cs.length) :
    Calls Tryz.prog 28 #[.agg #[.string ⟨nm.toArray⟩, .int .i64 (K : Int), .slice ao cs.length cap], .string ⟨s.toArray⟩, .slice bo n bc] w fun e w' => RR w w' e ([xs.eraseIdx I], 0) ∧ Below w.heap.size w w' := by
  subst hn
  obtain ⟨A, c, R, hA, hcs, her⟩ : ∃ A c R, A.length = I ∧ xs = A ++ c :: R ∧ xs.eraseIdx I = A ++ R := by
    refine ⟨xs.take I, xs[I], xs.drop (I + 1), by simp; omega, ?_, ?_⟩
    · rw [List.getElem_cons_drop, List.take_append_drop]
    · exact List.eraseIdx_eq_take_drop_succ ..
  have hlen : xs.length = A.length + R.length + 1 := by rw [hcs, List.length_append, List.length_cons]; omega
  have hw : wrap64 ((A.length : Int) + 1) = (A.length : Int) + 1 := wrap_in _ (by omega) (by omega)
  have d0 : decide ((A.length : Int) < 0) = false := by rw [decide_eq_false_iff_not]; omega
  have H := Lib.hid (And.intro h (And.intro hl (And.intro hf (And.intro hKI (And.intro hA (And.intro hcs (And.intro her (And.intro hlen (And.intro hx hxl)))))))))
  clear h hx hl hf hKI hI hA hcs her hlen hxl
  go_enter Tryz.func28, Tryz.ntmps28
  go_wp2_with fail
  refine (vbehind_is nm K cs s ao cap _ (H.out.1.below (below1 _ _)) H.out.2.1 (A.length : Int) (by rw [H.out.2.2.1, if_neg (by have := H.out.2.2.2.1; omega), H.out.2.2.2.2.1])).mono ?_
  rintro e w1 ⟨rfl, hb⟩
  have B1 := Lib.hid (step1 (Below.refl _ w) hb)
  clear hb
  go_wp2_with fail
  refine (vcopied_is xs _ bo bc _ rfl (H.out.2.2.2.2.2.2.2.2.1.below B1.out) (by have := H.out.2.1; have := H.out.2.2.2.2.2.2.2.2.2; omega)).mono ?_
  rintro e w2 ⟨g, rfl, hO, hb⟩
  have B2 := Lib.hid (And.intro hO (step0 B1.out hb))
  clear hO hb
  go_wp2_with fail
  refine (vdelete_is A R c w1.heap.size g xs.length xs.length _ H.out.2.2.2.2.2.2.2.1 (by rw [← H.out.2.2.2.2.2.1]; exact B2.out.1) (by have := H.out.2.1; have := H.out.2.2.2.2.2.2.2.2.2; omega)).mono ?_
  rintro e w3 ⟨rfl, hO, hgr⟩
  have B3 := Lib.hid (And.intro hO (B2.out.2.grown hgr (by have := B2.out.2.size; omega) (fun k hk => by
    obtain rfl := Option.some.inj hk
    exact Nat.le_trans B1.out.size (World.ownsRow.lt B2.out.1 _ rfl).1)))
  clear hO hgr
  go_wp2
  go_ret2
  refine ⟨⟨_, _, [⟨A ++ R, some ⟨g, 0, none⟩, xs.length⟩], rfl, ?_, ?_, ?_, at_new B3.out.2.size⟩, ?_⟩
  · rw [H.out.2.2.2.2.2.2.1]; rfl
  · have := slr_one w3 ⟨A ++ R, some ⟨g, 0, none⟩, xs.length⟩
    simp only [List.length_append] at this
    exact this
  · refine FitR.one ?_
    simp only [List.length_append]
    exact (B3.out.1.base B1.out.size).keep (below1 _ _)
  · exact B3.out.2.alloc B3.out.2.size _

theorem vap {W : World} {b : Nat} {v : Value} {l : List V} (h : OwV W b v l) : ∀ k, v.ownBlock = some k → k < W.heap.size := fun k hk => (World.ownsRow.lt h k hk).2

set_option maxHeartbeats 4000000 in
set_option maxRecDepth 100000 in
theorem vparts_is (nm : Nm.S) (K : Nat) (cs : List C) (ns : List Nm.S) (ao no : Option Addr) (cap nc : Nat) (xs : List V) (n : Nat) (a : Addr) (bc : Nat) (w : World) (hn : xs.length = n) (h : SlC w ao cs) (hl : cs.length ≤ 30) (hx : Sl w (some a) xs) (hxl : xs.length = cs.length) (hK : K ≤ cs.length) (hcb : n ≤ bc) (hs : SlS w no ns) (hnl : ns.length ≤ 1000) :
    Calls Tryz.prog 30 #[.agg #[.string ⟨nm.toArray⟩, .int .i64 (K : Int), .slice ao cs.length cap], .slice no ns.length nc, .slice (some a) n bc] w fun e w' => ∃ o1 c1 o2 c2, e = .returned (.tuple #[.slice o1 (vsm cs ns K xs).length c1, .slice o2 (vrs cs ns K xs).length c2]) ∧ OwV w' w.heap.size (.slice o1 (vsm cs ns K xs).length c1) (vsm cs ns K xs) ∧ OwV w' w.heap.size (.slice o2 (vrs cs ns K xs).length c2) (vrs cs ns K xs) ∧ Below w.heap.size w w' := by
  have hmx : Tryz.prog.follows .mixedOrders = true := by kernel_rfl
  subst hn
  have i0 : (0 : Int) ≤ (K : Int) := by omega
  have i1 : (K : Int) ≤ (bc : Int) := by omega
  have i2 : K ≤ bc := by omega
  have H := Lib.hid (And.intro h (And.intro hl (And.intro hx (And.intro hxl (And.intro hK (And.intro hs hnl))))))
  have HT := Lib.hid (show (xs.take K).length = K by simp; omega)
  clear h hl hx hxl hK hs hnl hcb
  obtain ⟨W1, hW1⟩ : ∃ W1, w.alloc (.cells #[.string ⟨nm.toArray⟩, .int .i64 (K : Int), .slice ao cs.length cap] 24) = W1 := ⟨_, rfl⟩
  have p0 := Blk.new w #[.string ⟨nm.toArray⟩, .int .i64 (K : Int), .slice ao cs.length cap] 24
  have hB1 : Below w.heap.size w W1 := hW1 ▸ below1 _ _
  rw [hW1] at p0
  have K1 := Lib.hid (And.intro hB1 p0)
  clear hB1 p0
  go_enter Tryz.func30, Tryz.ntmps30
  go_wp2_with fail
  clear hW1
  go_region_held3 (fun v => Below W1.heap.size W1 v ∧ v.cell? ⟨w.heap.size, 1, none⟩ = some (.int .i64 (K : Int)))
    (first | exact ⟨(Below.refl _ _).drew, K1.out.2.cell 1⟩ | exact ⟨step0 ‹Below W1.heap.size W1 _ ∧ _›.1 hb, (K1.out.2.below (step0 ‹Below W1.heap.size W1 _ ∧ _›.1 hb)).cell 1⟩)
    (first | (go_at_call 27; refine (vcopied_is (xs.take K) K (some a) bc _ HT.out ((H.out.2.2.1.below (step0 K1.out.1 ‹Below W1.heap.size W1 _ ∧ _›.1)).take K) (by have := HT.out; have := H.out.2; omega)).mono ?_; rintro e w5 ⟨g, rfl, hO, hb⟩))
  rename_i w4 g1 hO1 hb1 hHeld
  have hbW : Below W1.heap.size W1 w5 := hHeld.1
  have hne : g1 ≠ g := by
    have e1 := (World.ownsRow.lt hO1 g1 rfl).2
    have e2 := (World.ownsRow.lt hO g rfl).1
    omega
  have r1 := (hO1.base (b' := W1.heap.size) (Nat.le_refl _)).keep hb
  have r2 := hO.base (b' := W1.heap.size) hb1.size
  have S := Lib.hid (And.intro hbW (And.intro r1 (And.intro r2 hne)))
  have c1 := (K1.out.2.below hbW).cell 1
  simp at c1
  clear hO1 hb1 hO hb hHeld hbW r1 r2 hne
  go_wp2
  go_loopw [6, 7, 8] (fun p q i wr => ∃ j : Nat, i = .int .i64 j ∧ K ≤ j ∧ j ≤ xs.length ∧ Below W1.heap.size W1 wr ∧ OwV wr W1.heap.size p (vsm (cs.take j) ns K (xs.take j)) ∧ OwV wr W1.heap.size q (vrs (cs.take j) ns K (xs.take j)) ∧ ∀ k, p.ownBlock = some k → q.ownBlock ≠ some k) (fun _ _ i _ => xs.length - (intOf i).toNat)
  case atStart =>
    refine ⟨K, rfl, Nat.le_refl _, by have := H.out.2.2.2; omega, S.out.1, ?_, ?_, ?_⟩
    · rw [(vsm_0 cs xs ns K).1]; exact S.out.2.1
    · rw [(vsm_0 cs xs ns K).2]; exact S.out.2.2.1
    · intro k hk hq
      have e1 : g1 = k := Option.some.inj hk
      have e2 : g = k := Option.some.inj hq
      exact S.out.2.2.2 (e1.trans e2.symm)
  case round =>
    obtain ⟨j, rfl, hj0, hj, hb, r1, r2, hd⟩ := hrel
    have J := Lib.hid (And.intro hj0 (And.intro hj (And.intro hb (And.intro r1 (And.intro r2 hd)))))
    have q8 := K1.out.2.below hb
    obtain ⟨t0, t1, t2⟩ := q8.t3
    clear hj0 hj hb r1 r2 hd q8 c1
    by_cases hlt : j < xs.length
    · have hlc : j < cs.length := by have := H.out.2.2.2; omega
      have hw : wrap64 ((j : Int) + 1) = (j : Int) + 1 := by have := H.out.2; exact wrap_in _ (by omega) (by omega)
      obtain ⟨b, rfl, x0, _⟩ := (H.out.1.below (step0 K1.out.1 J.out.2.2.1)) j cs[j] (List.getElem?_eq_getElem hlc)
      obtain ⟨a', ha', y0, y1, y2, y3⟩ := (H.out.2.2.1.below (step0 K1.out.1 J.out.2.2.1)) j xs[j] (List.getElem?_eq_getElem hlt)
      cases ha'
      have g0 : (0 : Int) ≤ (j : Int) := by omega
      have g2 : (j : Int) < (cs.length : Int) := by omega
      have g3 : (j : Int) < (xs.length : Int) := by omega
      by_cases hin : cs[j].name ∈ ns
      · have X := Lib.hid (And.intro (decide_eq_true hin) (vsm_in H.out.2.2.2.1 J.out.1 hlt hin))
        clear hin
        go_wp2_with fail
        refine (contains_is ns cs[j].name _ true no nc _ rfl (H.out.2.2.2.2.2.1.below (step0 K1.out.1 J.out.2.2.1)) (by have := H.out.2; omega) X.out.1).mono ?_
        rintro e w6 ⟨rfl, rfl⟩
        go_wp2_with (at_builtin; refine appVg rfl _ _ rfl W1.heap.size u6 (vsm (cs.take j) ns K (xs.take j)) xs[j] wr rfl J.out.2.2.2.1 wr.heap.size rfl rfl (by have := (vsm_len (cs.take j) ns K (xs.take j)).1; have := H.out.2; have := J.out.2.1; simp at *; omega) J.out.2.2.1.size ?_; intro v' w7 hown' hgr hbk hb'; have Z := Lib.hid (And.intro hown' (And.intro (J.out.2.2.1.trans hb') (And.intro (J.out.2.2.2.2.1.apart hgr (fun k hk e => J.out.2.2.2.2.2 k e hk)) (And.intro hbk hgr)))); clear hown' hb' hgr hbk; go_frame)
        go_roundw
        case rel =>
          refine ⟨j + 1, by go_num, by have := J.out.1; omega, hlt, Z.out.2.1, ?_, ?_, ?_⟩
          · rw [X.out.2.1]; exact Z.out.1
          · rw [X.out.2.2]; exact Z.out.2.2.1
          · intro k hk hq
            rcases Z.out.2.2.2.1 with e | ⟨k', e, hk'⟩
            · exact J.out.2.2.2.2.2 k (e ▸ hk) hq
            · rw [e] at hk
              obtain rfl := Option.some.inj hk
              have := vap J.out.2.2.2.2.1 k' hq
              omega
        case measure => rw [hw]; simp [intOf]; omega
      · have X := Lib.hid (And.intro (decide_eq_false hin) (vsm_out H.out.2.2.2.1 J.out.1 hlt hin))
        clear hin
        go_wp2_with fail
        refine (contains_is ns cs[j].name _ false no nc _ rfl (H.out.2.2.2.2.2.1.below (step0 K1.out.1 J.out.2.2.1)) (by have := H.out.2; omega) X.out.1).mono ?_
        rintro e w6 ⟨rfl, rfl⟩
        go_wp2_with (at_builtin; refine appVg rfl _ _ rfl W1.heap.size u7 (vrs (cs.take j) ns K (xs.take j)) xs[j] wr rfl J.out.2.2.2.2.1 wr.heap.size rfl rfl (by have := (vsm_len (cs.take j) ns K (xs.take j)).2; have := H.out.2; have := J.out.2.1; simp at *; omega) J.out.2.2.1.size ?_; intro v' w7 hown' hgr hbk hb'; have Z := Lib.hid (And.intro hown' (And.intro (J.out.2.2.1.trans hb') (And.intro (J.out.2.2.2.1.apart hgr (fun k hk e => J.out.2.2.2.2.2 k hk e)) (And.intro hbk hgr)))); clear hown' hb' hgr hbk; go_frame)
        go_roundw
        case rel =>
          refine ⟨j + 1, by go_num, by have := J.out.1; omega, hlt, Z.out.2.1, ?_, ?_, ?_⟩
          · rw [X.out.2.1]; exact Z.out.2.2.1
          · rw [X.out.2.2]; exact Z.out.1
          · intro k hk hq
            rcases Z.out.2.2.2.1 with e | ⟨k', e, hk'⟩
            · exact J.out.2.2.2.2.2 k hk (e ▸ hq)
            · rw [e] at hq
              obtain rfl := Option.some.inj hq
              have := vap J.out.2.2.2.1 k' hk
              omega
        case measure => rw [hw]; simp [intOf]; omega
    · obtain rfl : j = xs.length := by have := J.out.2.1; omega
      have q1 := J.out.2.2.2.1
      have q2 := J.out.2.2.2.2.1
      rw [List.take_length, List.take_of_length_le (by have := H.out.2.2.2.1; omega)] at q1 q2
      obtain ⟨o1, c1, rfl, _, _⟩ := q1.sl
      obtain ⟨o2, c2, rfl, _, _⟩ := q2.sl
      have ST := Lib.hid (And.intro (q1.base K1.out.1.size) (q2.base K1.out.1.size))
      clear q1 q2
      go_wp2
      go_ret2
      exact ⟨o1, c1, o2, c2, rfl, ST.out.1, ST.out.2, step0 K1.out.1 J.out.2.2.1⟩

end Go.Proofs.YtdonmbmahcjfbaaGreatDoor

namespace Go.Proofs.YtdonmbmahcjfbaaGreatDoor
open Go.RowKit
set_option linter.unusedVariables false

theorem slr_one' (w : World) (B : Nat) (hB : w.heap.size = B) (y : RV) : SlR (w.alloc (.cells #[.slice y.ao y.xs.length y.cap] 33)) (some ⟨B, 0, none⟩) [y] := hB ▸ slr_one w y
theorem put4' {w W : World} {B : Nat} (h : Below w.heap.size w W) (hB : w.heap.size ≤ B) (o : Nat) (a b c d : Value) :
    Below w.heap.size w ((((W.setCell ⟨B, o, none⟩ a).setCell ⟨B, o + 1, none⟩ b).setCell ⟨B, o + 2, none⟩ c).setCell ⟨B, o + 3, none⟩ d) :=
  (((h.setCell (p := ⟨B, o, none⟩) hB a).setCell (p := ⟨B, o + 1, none⟩) hB b).setCell (p := ⟨B, o + 2, none⟩) hB c).setCell (p := ⟨B, o + 3, none⟩) hB d

set_option maxHeartbeats 2000000 in
theorem retyped_bad (nm : Nm.S) (K : Nat) (cs : List C) (s : Nm.S) (kd : Int) (ao : Option Addr) (cap : Nat) (xs : List V) (n : Nat) (bo : Option Addr) (bc : Nat) (w : World) (hg : Km.Env w) (hn : xs.length = n) (h : SlC w ao cs) (hl : cs.length ≤ 1000) (hx : Sl w bo xs) (hxl : xs.length = cs.length) (hf : Nm.fi (cs.map C.name) s < (K : Int)) :
    Calls Tryz.prog 29 #[.agg #[.string ⟨nm.toArray⟩, .int .i64 (K : Int), .slice ao cs.length cap], .string ⟨s.toArray⟩, .int .i64 kd, .slice bo n bc] w fun e w' => e = .returned (.tuple #[.slice none 0 0, .int .i64 10]) ∧ Below w.heap.size w w' := by
  have H := Lib.hid (And.intro h (And.intro hl hf))
  clear h hl hx hf hg
  go_enter Tryz.func29, Tryz.ntmps29
  go_wp2_with fail
  refine (vbehind_is nm K cs s ao cap _ (H.out.1.below (below1 _ _)) H.out.2.1 (-1) (by rw [if_pos H.out.2.2])).mono ?_
  rintro e w1 ⟨rfl, hb⟩
  have B := Lib.hid (step1 (Below.refl _ w) hb)
  clear hb
  go_wp2
  go_ret2
  exact ⟨rfl, B.out⟩

set_option maxHeartbeats 2000000 in
theorem retyped_err (nm : Nm.S) (K : Nat) (cs : List C) (s : Nm.S) (kd : Int) (ao : Option Addr) (cap : Nat) (xs : List V) (n : Nat) (bo : Option Addr) (bc : Nat) (w : World) (hg : Km.Env w) (hn : xs.length = n) (h : SlC w ao cs) (hl : cs.length ≤ 1000) (hx : Sl w bo xs) (hxl : xs.length = cs.length) (I : Nat) (hf : Nm.fi (cs.map C.name) s = (I : Int)) (hKI : K ≤ I) (hI : I < xs.length) (x : V) (hxI : xs[I] = x) (ho : x.ok) (k1 n1 b1 : Int) (s1 : List UInt8) (E : Int) (hr : Km.Cv.to x.k x.n x.b x.s kd = ⟨k1, n1, b1, s1, E⟩) (hE : ¬ E = 0) :
    Calls Tryz.prog 29 #[.agg #[.string ⟨nm.toArray⟩, .int .i64 (K : Int), .slice ao cs.length cap], .string ⟨s.toArray⟩, .int .i64 kd, .slice bo n bc] w fun e w' => e = .returned (.tuple #[.slice none 0 0, .int .i64 E]) ∧ Below w.heap.size w w' := by
  have e0 := bne_t hE
  clear hE
  subst hn
  obtain ⟨a, rfl, _⟩ := hx I xs[I] (List.getElem?_eq_getElem hI)
  have d0 : decide ((I : Int) < 0) = false := by rw [decide_eq_false_iff_not]; omega
  have H := Lib.hid (And.intro h (And.intro hl (And.intro hf (And.intro hKI (And.intro hx (And.intro hxl (And.intro hg (And.intro ho hr))))))))
  clear h hx hl hf hKI hxl hg ho hr
  go_enter Tryz.func29, Tryz.ntmps29
  go_wp2_with fail
  refine (vbehind_is nm K cs s ao cap _ (H.out.1.below (below1 _ _)) H.out.2.1 (I : Int) (by rw [H.out.2.2.1, if_neg (by have := H.out.2.2.2.1; omega)])).mono ?_
  rintro e w1 ⟨rfl, hb⟩
  have B1 := Lib.hid (step1 (Below.refl _ w) hb)
  clear hb
  obtain ⟨a', ha', a0, a1, a2, a3⟩ := (H.out.2.2.2.2.1.below B1.out) I xs[I] (List.getElem?_eq_getElem hI)
  obtain rfl := Option.some.inj ha'
  rw [hxI] at a0 a1 a2 a3
  go_wp2_with fail
  refine (Km.to_l x.k x.n x.b x.s kd k1 n1 b1 E s1 _ (H.out.2.2.2.2.2.2.1.below B1.out) H.out.2.2.2.2.2.2.2.1.1 H.out.2.2.2.2.2.2.2.1.2 H.out.2.2.2.2.2.2.2.2).mono ?_
  rintro e w2 ⟨rfl, hb⟩
  have B2 := Lib.hid (step0 B1.out hb)
  clear hb a0 a1 a2 a3
  go_wp2
  go_ret2
  exact ⟨rfl, B2.out.alloc B2.out.size _⟩

set_option maxHeartbeats 2000000 in
theorem retyped_ok (nm : Nm.S) (K : Nat) (cs : List C) (s : Nm.S) (kd : Int) (ao : Option Addr) (cap : Nat) (xs : List V) (n : Nat) (bo : Option Addr) (bc : Nat) (w : World) (hg : Km.Env w) (hn : xs.length = n) (h : SlC w ao cs) (hl : cs.length ≤ 1000) (hx : Sl w bo xs) (hxl : xs.length = cs.length) (I : Nat) (hf : Nm.fi (cs.map C.name) s = (I : Int)) (hKI : K ≤ I) (hI : I < xs.length) (x : V) (hxI : xs[I] = x) (ho : x.ok) (y : V) (hr : Km.Cv.to x.k x.n x.b x.s kd = ⟨y.k, y.n, y.b, y.s, 0⟩) :
    Calls Tryz.prog 29 #[.agg #[.string ⟨nm.toArray⟩, .int .i64 (K : Int), .slice ao cs.length cap], .string ⟨s.toArray⟩, .int .i64 kd, .slice bo n bc] w fun e w' => RR w w' e ([xs.set I y], 0) ∧ Below w.heap.size w w' := by
  subst hn
  obtain ⟨a, rfl, _⟩ := hx I xs[I] (List.getElem?_eq_getElem hI)
  have d0 : decide ((I : Int) < 0) = false := by rw [decide_eq_false_iff_not]; omega
  have H := Lib.hid (And.intro h (And.intro hl (And.intro hf (And.intro hKI (And.intro hx (And.intro hxl (And.intro hg (And.intro ho hr))))))))
  clear h hx hl hf hKI hxl hg ho hr
  go_enter Tryz.func29, Tryz.ntmps29
  go_wp2_with fail
  refine (vbehind_is nm K cs s ao cap _ (H.out.1.below (below1 _ _)) H.out.2.1 (I : Int) (by rw [H.out.2.2.1, if_neg (by have := H.out.2.2.2.1; omega)])).mono ?_
  rintro e w1 ⟨rfl, hb⟩
  have B1 := Lib.hid (step1 (Below.refl _ w) hb)
  clear hb
  obtain ⟨a', ha', a0, a1, a2, a3⟩ := (H.out.2.2.2.2.1.below B1.out) I xs[I] (List.getElem?_eq_getElem hI)
  obtain rfl := Option.some.inj ha'
  rw [hxI] at a0 a1 a2 a3
  go_wp2_with fail
  refine (Km.to_l x.k x.n x.b x.s kd y.k y.n y.b 0 y.s _ (H.out.2.2.2.2.2.2.1.below B1.out) H.out.2.2.2.2.2.2.2.1.1 H.out.2.2.2.2.2.2.2.1.2 H.out.2.2.2.2.2.2.2.2).mono ?_
  rintro e w2 ⟨rfl, hb⟩
  have B2 := Lib.hid (step0 B1.out hb)
  clear hb a0 a1 a2 a3
  go_wp2_with fail
  refine (vcopied_is xs _ (some a) bc _ rfl (H.out.2.2.2.2.1.below (B2.out.alloc B2.out.size _)) (by have := H.out.2.1; have := H.out.2.2.2.2.2.1; omega)).mono ?_
  rintro e w3 ⟨g, rfl, hO, hb⟩
  have q0 := (Blk.new w2 #[.int .i64 y.k, .int .i64 y.n, .int .u64 y.b, .string ⟨y.s.toArray⟩] 28).below hb
  have b0 := q0.cell 0
  have b1 := q0.cell 1
  have b2 := q0.cell 2
  have b3 := q0.cell 3
  simp at b0 b1 b2 b3
  obtain ⟨d0, d1, d2, d3⟩ := hO.at I x (by rw [List.getElem?_eq_getElem hI, hxI])
  have hst := hO.store rfl I hI y
  have fz := hst.2.2.2
  have f0 := fz (I * 4)
  have f1 := fz (I * 4 + 1)
  have f2 := fz (I * 4 + 2)
  have f3 := fz (I * 4 + 3)
  have hB3 := step1 B2.out hb
  have hgw : w.heap.size ≤ g := Nat.le_trans (B2.out.alloc B2.out.size _).size hst.2.1
  have hB4 := put4' hB3 hgw (I * 4) (.int .i64 y.k) (.int .i64 y.n) (.int .u64 y.b) (.string ⟨y.s.toArray⟩)
  have S := Lib.hid (And.intro hst.1 (And.intro hB4 (B2.out.alloc B2.out.size (.cells #[.int .i64 y.k, .int .i64 y.n, .int .u64 y.b, .string ⟨y.s.toArray⟩] 28)).size))
  have i0 : (0 : Int) ≤ (I : Int) := by omega
  have i1 : (I : Int) < (xs.length : Int) := by omega
  clear hO hb q0 hst fz hB3 hgw hB4
  go_wp2
  go_ret2
  refine ⟨⟨_, _, [⟨xs.set I y, some ⟨g, 0, none⟩, xs.length⟩], rfl, rfl, ?_, FitR.one ?_, at_new (by have := S.out.2.1.size; simpa [World.setCell] using this)⟩, S.out.2.1.alloc S.out.2.1.size _⟩
  · have := slr_one' ((((w3.setCell ⟨g, I * 4, none⟩ (.int .i64 y.k)).setCell ⟨g, I * 4 + 1, none⟩ (.int .i64 y.n)).setCell ⟨g, I * 4 + 2, none⟩ (.int .u64 y.b)).setCell ⟨g, I * 4 + 3, none⟩ (.string ⟨y.s.toArray⟩)) w3.heap.size (by simp [World.setCell]) ⟨xs.set I y, some ⟨g, 0, none⟩, xs.length⟩
    simp only [List.length_set] at this
    exact this
  · simp only [List.length_set]
    exact (S.out.1.base S.out.2.2).keep (below1 _ _)

end Go.Proofs.YtdonmbmahcjfbaaGreatDoor
