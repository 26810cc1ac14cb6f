/-
  Rows of rows of values in memory; such as a call owns; rows held against rows: the document's SameRow, Same, All. Conditions: the bounds named in each theorem.
-/
import Derived.Test.YtfgakoldedpfoaaDoorTfVals
import Derived.Test.YtfgakoldedpfoaaDoorScFit
import Derived.Test.YtfgakoldedpfoaaDoorVlRefCheck
import Derived.Deep.RegionHeld3
import Derived.Maps.AppendAt
import Derived.Laws.CopyOwn
import Derived.Lib.SlBuf
namespace Go.Proofs.YtfgakoldedpfoaaDoor
open Go.RowKit

theorem OwV.kept {w w' : World} {row : Option Nat} {b : Nat} {v : Value} {l : List V} (h : OwV w b v l) (hg : w.grownBy w' row) (hr : ∀ g cur fz, row = some g → w.heap[g]? ≠ some (.cells cur 68 fz)) : OwV w' b v l := by
  refine ⟨h.1, ?_⟩
  rcases h.2 with hn | ⟨k, cap, cur, hv, hbg, hk, rest⟩
  · exact .inl hn
  · exact .inr ⟨k, cap, cur, hv, hbg, (hg.block k (Array.getElem?_eq_some_iff.1 hk).1 (fun e => hr k cur _ e.symm hk)).trans hk, rest⟩
/-- A row beside another one's block. -/
theorem OwV.slv {w : World} {b n cap : Nat} {ao : Option Addr} {l : List V} (h : OwV w b (.slice ao n cap) l) : Sl w ao l := by
  obtain ⟨_, _, e, _, hsl⟩ := h.sl
  injection e with e1 _ _
  rw [e1]
  exact hsl
theorem Sl.none {W : World} {xs : List V} (h : Sl W none xs) : xs = [] := by
  cases xs with
  | nil => rfl
  | cons c cs =>
    obtain ⟨a, ha, _⟩ := h 0 c rfl
    cases ha
/-! ### A row as a slice -/
structure RV where
  xs : List V
  ao : Option Addr
  cap : Nat
def RV.val (y : RV) : Value := .slice y.ao y.xs.length y.cap
def rxs (ys : List RV) : List (List V) := ys.map RV.xs
def SlR (W : World) (ao : Option Addr) (ys : List RV) : Prop := ∀ (i : Nat) (y : RV), ys[i]? = some y → ∃ a, ao = some a ∧ W.cell? (a.add i) = some (.slice y.ao y.xs.length y.cap)
theorem SlR.below {W W' : World} {ao : Option Addr} {ys : List RV} (h : SlR W ao ys) (hb : Below W.heap.size W W') : SlR W' ao ys := by
  intro i x hi
  obtain ⟨a, ha, h0⟩ := h i x hi
  exact ⟨a, ha, keep0 h0 hb⟩
theorem SlR.nil (W : World) (ao : Option Addr) : SlR W ao [] := fun i x h => by simp at h
def InR (W : World) (ys : List RV) : Prop := ∀ y ∈ ys, Sl W y.ao y.xs
theorem InR.below {W W' : World} {ys : List RV} (h : InR W ys) (hb : Below W.heap.size W W') : InR W' ys := fun y hy => (h y hy).below hb
theorem Tryd.infoR : (Tryd.prog.info? 43).map (fun i => (i.zero, i.size, i.bytes)) = some (some (.slice none 0 0), 1, 24) := by kernel_rfl
/-- A list of rows that a call owns. -/
def OwR (w : World) (base : Nat) (v : Value) (l : List RV) : Prop := w.ownsRow base 43 1 v l.length (l.map RV.val)
theorem owr_nil (w : World) (base : Nat) : OwR w base (.slice none 0 0) [] := World.ownsRow_nil _ _ _ _
theorem OwR.keep {w w' : World} {b : Nat} {v : Value} {l : List RV} (h : OwR w b v l) (hb : Below w.heap.size w w') : OwR w' b v l := by
  refine ⟨h.1, ?_⟩
  rcases h.2 with hn | ⟨g, cap, cur, hv, hbg, hg, rest⟩
  · exact .inl hn
  · exact .inr ⟨g, cap, cur, hv, hbg, (hb.block g (Array.getElem?_eq_some_iff.1 hg).1).trans hg, rest⟩
theorem OwR.base {w : World} {b b' : Nat} {v : Value} {l : List RV} (h : OwR w b v l) (hb : b' ≤ b) : OwR w b' v l := by
  refine ⟨h.1, ?_⟩
  rcases h.2 with hn | ⟨g, cap, cur, hv, hbg, rest⟩
  · exact .inl hn
  · exact .inr ⟨g, cap, cur, hv, Nat.le_trans hb hbg, rest⟩
theorem OwR.kept {w w' : World} {row : Option Nat} {b : Nat} {v : Value} {l : List RV} (h : OwR w b v l) (hg : w.grownBy w' row) (hr : ∀ g cur fz, row = some g → w.heap[g]? ≠ some (.cells cur 43 fz)) : OwR w' b v l := by
  refine ⟨h.1, ?_⟩
  rcases h.2 with hn | ⟨k, cap, cur, hv, hbg, hk, rest⟩
  · exact .inl hn
  · exact .inr ⟨k, cap, cur, hv, hbg, (hg.block k (Array.getElem?_eq_some_iff.1 hk).1 (fun e => hr k cur _ e.symm hk)).trans hk, rest⟩
theorem OwR.apart {w w' : World} {row : Option Nat} {b : Nat} {v : Value} {l : List RV} (h : OwR w b v l) (hg : w.grownBy w' row) (hr : ∀ k, v.ownBlock = some k → row ≠ some k) : OwR w' b v l := by
  refine ⟨h.1, ?_⟩
  rcases h.2 with hn | ⟨k, cap, cur, hv, hbg, hk, rest⟩
  · exact .inl hn
  · exact .inr ⟨k, cap, cur, hv, hbg, (hg.block k (Array.getElem?_eq_some_iff.1 hk).1 (fun e => hr k (by rw [hv]; rfl) e.symm)).trans hk, rest⟩
/-- A block that such a row owns bears its own type. -/
theorem OwR.type {w : World} {b : Nat} {v : Value} {l : List RV} (h : OwR w b v l) {t : TypeId} (ht : t ≠ 43) : ∀ g cur fz, v.ownBlock = some g → w.heap[g]? ≠ some (.cells cur t fz) := by
  intro g cur fz hv he
  rcases h.2 with ⟨hn, _⟩ | ⟨k, cap, cur', hv', _, hk, _⟩
  · rw [hn] at hv; cases hv
  · rw [hv'] at hv
    obtain rfl : k = g := Option.some.inj hv
    rw [hk] at he
    have := Option.some.inj he
    injection this with _ e _
    exact ht e.symm
theorem OwR.sl {w : World} {b : Nat} {v : Value} {l : List RV} (h : OwR w b v l) : ∃ ao cap, v = .slice ao l.length cap ∧ l.length ≤ cap ∧ SlR w ao l := by
  have h' := h
  rcases h.2 with ⟨hv, hn⟩ | ⟨g, cap, cur, hv, _, hg, h1, _⟩
  · have e := List.eq_nil_of_length_eq_zero hn
    subst e
    exact ⟨none, 0, hv, Nat.le_refl _, fun i x hi => by simp at hi⟩
  · refine ⟨some ⟨g, 0, none⟩, cap, hv, ?_, fun i x hi => ⟨⟨g, 0, none⟩, rfl, ?_⟩⟩
    · first | exact h1 | omega
    · exact World.ownsRow.cells h' (g := g) (by rw [hv]; rfl) i _ (by rw [List.getElem?_map, hi]; rfl)
theorem OwR.lt {w : World} {b : Nat} {v : Value} {l : List RV} (h : OwR w b v l) : ∀ k, v.ownBlock = some k → b ≤ k ∧ k < w.heap.size := fun k hk => World.ownsRow.lt h k hk
/-- One row more, in a region that draws its order. -/
theorem step_appR {ops : Array Oper} {o : Oper} {a : Act} {W : World} {K : Act → World → Prop} {Q : Exit → Act → World → Prop} {E : Prop} (hgd : o.guard = none) (s x : Operand) (ho : o.op = .call { callee := .builtin .append, args := #[s, x], argTypes := #[33, 33] })
    (base : Nat) (v : Value) (l : List RV) (b : RV) (G : Nat) (hs : a.eval s = v) (hx : a.eval x = .slice (some ⟨G, 0, none⟩) 1 1) (hown : OwR W base v l)
    (hG : Blk W G #[.slice b.ao b.xs.length b.cap] 43) (hlen : l.length ≤ 1000000000) (hb : base ≤ W.heap.size)
    (h : ∀ v' w', OwR w' base v' (l ++ [b]) → W.grownBy w' v.ownBlock → (v'.ownBlock = v.ownBlock ∨ v'.ownBlock = some W.heap.size) → K (a.put o.dst v') w') :
    if Region.wanted o (yielded ops a.tmps) = true then Oper.wp Tryd.prog o a W K Q else E := by
  have hw : Region.wanted o (yielded ops a.tmps) = true := by simp [Region.wanted, hgd]
  rw [if_pos hw]
  obtain ⟨i0, hi, hz0, hz1, hz2⟩ := info_parts Tryd.infoR
  obtain ⟨v', w', hrun, r1, r2, _, r4⟩ := run_append_own_at (P := Tryd.prog) W base 33 o.type 43 i0 _ 1 24 Tryd.underlying33 hi hz0 hz1 hz2 rfl (by decide) v _ _ hown ⟨G, 0, none⟩ 1 1 [b.val] rfl (by
    intro j u hj
    match j, hj with
    | 0, hj => simp [RV.val] at hj; subst hj; exact hG.cell 0
    | (j + 1), hj => simp at hj) (by intro u hu; simp [RV.val] at hu; subst hu; rfl) (by unfold maxLen; omega) (by omega) hb
  unfold Oper.wp execOp
  simp only [ho, resolve, invoke, builtin, Sem.run_bind, Sem.run_pure, Result.andThen_ok, List.map_toArray, List.map_cons, List.map_nil, hs, hx, hrun]
  refine h v' w' ?_ r2 r4
  unfold OwR
  rw [List.length_append, List.map_append]
  exact r1
def V.sm (x y : V) : Bool := Vl.sm x.k x.n x.b x.s y.k y.n y.b y.s
theorem V.sm_self (x : V) : x.sm x = true := by unfold V.sm Vl.sm; simp
def vls : List V → List V → Bool
  | [], [] => true
  | [], _ :: _ => false
  | _ :: _, [] => false
  | x :: xs, y :: ys => x.sm y && vls xs ys
theorem vls_len : ∀ (xs ys : List V), vls xs ys = true → xs.length = ys.length
  | [], [], _ => rfl
  | [], _ :: _, h => by simp [vls] at h
  | _ :: _, [], h => by simp [vls] at h
  | x :: xs, y :: ys, h => by
    rw [vls, Bool.and_eq_true] at h
    simp [vls_len xs ys h.2]
theorem vls_self : ∀ (xs : List V), vls xs xs = true
  | [] => rfl
  | x :: xs => by rw [vls, V.sm_self, vls_self xs]; rfl
theorem vls_drop {xs ys : List V} {j : Nat} (h1 : j < xs.length) (h2 : j < ys.length) (h : xs[j].sm ys[j] = true) : vls (xs.drop j) (ys.drop j) = vls (xs.drop (j + 1)) (ys.drop (j + 1)) := by
  rw [List.drop_eq_getElem_cons h1, List.drop_eq_getElem_cons h2, vls, h, Bool.true_and]
theorem vls_stop {xs ys : List V} {j : Nat} (h1 : j < xs.length) (h2 : j < ys.length) (h : xs[j].sm ys[j] = false) : vls (xs.drop j) (ys.drop j) = false := by
  rw [List.drop_eq_getElem_cons h1, List.drop_eq_getElem_cons h2, vls, h, Bool.false_and]
theorem vls_end {xs ys : List V} {j : Nat} (h1 : j = xs.length) (h2 : j = ys.length) : vls (xs.drop j) (ys.drop j) = true := by
  rw [List.drop_of_length_le (by omega), List.drop_of_length_le (by omega)]; rfl

set_option maxHeartbeats 2000000 in
theorem sameRow_is (xs ys : List V) (ao bo : Option Addr) (ca cb : Nat) (w : World) (hl : xs.length ≤ 1000000) (ha : Sl w ao xs) (hb : Sl w bo ys) :
    Calls Tryd.prog 37 #[.slice ao xs.length ca, .slice bo ys.length cb] w fun e w' => e = .returned (.bool (vls xs ys)) ∧ Below w.heap.size w w' := by
  have hmx : Tryd.prog.follows .mixedOrders = true := by kernel_rfl
  by_cases hne : xs.length = ys.length
  · have H := Lib.hid (And.intro ha (And.intro hb (And.intro hl hne)))
    have n1 : ((xs.length : Int) == (ys.length : Int)) = true := beq_t (by omega)
    have n2 : ((xs.length : Int) != (ys.length : Int)) = false := by simp [hne]
    clear ha hb hl hne
    go_enter Tryd.func37, Tryd.ntmps37
    go_wp2
    go_loopw [5] (fun i wr => ∃ j : Nat, i = .int .i64 j ∧ j ≤ xs.length ∧ Below w.heap.size w wr ∧ vls xs ys = vls (xs.drop j) (ys.drop j)) (fun i _ => xs.length - (intOf i).toNat)
    case atStart => exact ⟨0, rfl, Nat.zero_le _, Below.refl _ _, rfl⟩
    case round =>
      obtain ⟨j, rfl, hj, hbel, hrs⟩ := hrel
      have J := Lib.hid (And.intro hbel hrs)
      clear hbel hrs
      by_cases hlt : j < xs.length
      · have hlu : j < ys.length := by have := H.out.2.2.2; omega
        obtain ⟨a, rfl, a0, a1, a2, a3⟩ := H.out.1.below J.out.1 j xs[j] (List.getElem?_eq_getElem hlt)
        obtain ⟨b, rfl, b0, b1, b2, b3⟩ := H.out.2.1.below J.out.1 j ys[j] (List.getElem?_eq_getElem hlu)
        have hw : wrap64 ((j : Int) + 1) = (j : Int) + 1 := by have := H.out.2.2.1; exact wrap_in _ (by omega) (by omega)
        by_cases hs : xs[j].sm ys[j] = true
        · have HE := Lib.hid hs
          have HN := Lib.hid (vls_drop hlt hlu hs)
          clear hs
          go_wp2
          go_region_with (go_at_call 48; refine (rsame_is _ _ _ _ _ _ _ _ true _ HE.out).mono ?_; rintro e w1 ⟨rfl, hb1⟩; have K := Lib.hid (step0 (below_drew1 J.out.1) hb1); clear hb1)
          all_goals go_wp2
          all_goals go_roundw
          all_goals first
            | exact ⟨j + 1, by go_num, hlt, K.out, J.out.2.trans HN.out⟩
            | (rw [hw]; simp [intOf]; omega)
        · have hs2 : xs[j].sm ys[j] = false := by simpa using hs
          have HE := Lib.hid hs2
          have HN := Lib.hid (J.out.2.trans (vls_stop hlt hlu hs2))
          clear hs hs2
          go_wp2
          go_region_with (go_at_call 48; refine (rsame_is _ _ _ _ _ _ _ _ false _ HE.out).mono ?_; rintro e w1 ⟨rfl, hb1⟩; have K := Lib.hid (step0 (below_drew1 J.out.1) hb1); clear hb1)
          all_goals go_wp2
          all_goals go_ret
          all_goals exact ⟨ret_bool HN.out.symm, K.out⟩
      · obtain rfl : j = xs.length := by omega
        have HN := Lib.hid (J.out.2.trans (vls_end rfl H.out.2.2.2))
        go_wp2
        go_ret
        exact ⟨ret_bool HN.out.symm, J.out.1⟩
  · have hf : vls xs ys = false := by
      cases h : vls xs ys with
      | false => rfl
      | true => exact absurd (vls_len xs ys h) hne
    have n1 : ((xs.length : Int) == (ys.length : Int)) = false := beq_f (by omega)
    have n2 : ((xs.length : Int) != (ys.length : Int)) = true := bne_t (by omega)
    rw [hf]
    clear ha hb hl hne hf
    go_enter Tryd.func37, Tryd.ntmps37
    go_wp2
    go_ret
    exact ⟨rfl, Below.refl _ _⟩

theorem same06 (xs ys : List V) (r : Bool) (ao bo : Option Addr) (ca cb : Nat) (w : World) (hl : xs.length ≤ 1000000) (ha : Sl w ao xs) (hb : Sl w bo ys) (h : vls xs ys = r) :
    Calls Tryd.prog 21 #[.slice ao xs.length ca, .slice bo ys.length cb] w fun e w' => e = .returned (.bool r) ∧ Below w.heap.size w w' := by
  subst h
  have H := Lib.hid (And.intro hl (And.intro ha hb))
  clear hl ha hb
  go_enter Tryd.func21, Tryd.ntmps21
  go_wp2_with fail
  refine (sameRow_is xs ys ao bo ca cb _ H.out.1 H.out.2.1 H.out.2.2).mono ?_
  rintro e w1 ⟨rfl, hb⟩
  have B := Lib.hid hb
  clear hb
  go_wp2
  go_ret
  exact ⟨rfl, B.out⟩

theorem vls_true (xs ys : List V) (h : xs = ys) : vls xs ys = true := by
  subst h
  exact vls_self xs

set_option maxHeartbeats 2000000 in
/-- Rows that are the same, one by one. -/
theorem all_same (xs ys : List RV) (ao bo : Option Addr) (ca cb : Nat) (w : World) (hl : xs.length ≤ 1000000) (ha : SlR w ao xs) (hb : SlR w bo ys) (ia : InR w xs) (ib : InR w ys) (h30 : ∀ x ∈ xs, x.xs.length ≤ 1000000) (he : rxs xs = rxs ys) :
    Calls Tryd.prog 9 #[.slice ao xs.length ca, .slice bo ys.length cb] w fun e w' => e = .returned (.bool true) ∧ Below w.heap.size w w' := by
  have hmx : Tryd.prog.follows .mixedOrders = true := by kernel_rfl
  have hne : xs.length = ys.length := by have := congrArg List.length he; simpa [rxs] using this
  have n1 : ((xs.length : Int) == (ys.length : Int)) = true := beq_t (by omega)
  have n2 : ((xs.length : Int) != (ys.length : Int)) = false := by simp [hne]
  have H := Lib.hid (And.intro ha (And.intro hb (And.intro hl (And.intro hne (And.intro ia (And.intro ib (And.intro h30 he)))))))
  clear ha hb hl hne ia ib h30 he
  go_enter Tryd.func9, Tryd.ntmps9
  go_wp2
  go_loopw [5] (fun i wr => ∃ j : Nat, i = .int .i64 j ∧ j ≤ xs.length ∧ Below w.heap.size w wr) (fun i _ => xs.length - (intOf i).toNat)
  case atStart => exact ⟨0, rfl, Nat.zero_le _, Below.refl _ _⟩
  case round =>
    obtain ⟨j, rfl, hj, hbel⟩ := hrel
    have J := Lib.hid hbel
    clear hbel
    by_cases hlt : j < xs.length
    · have hlu : j < ys.length := by have := H.out.2.2.2.1; omega
      have g2 : (j : Int) < (ys.length : Int) := by omega
      obtain ⟨a, rfl, a0⟩ := H.out.1.below J.out j xs[j] (List.getElem?_eq_getElem hlt)
      obtain ⟨b, rfl, b0⟩ := H.out.2.1.below J.out j ys[j] (List.getElem?_eq_getElem hlu)
      have hw : wrap64 ((j : Int) + 1) = (j : Int) + 1 := by have := H.out.2.2.1; exact wrap_in _ (by omega) (by omega)
      have hs : vls xs[j].xs ys[j].xs = true := vls_true _ _ (by
        have h1 := congrArg (fun l => l[j]?) H.out.2.2.2.2.2.2.2
        simp only [rxs, List.getElem?_map, List.getElem?_eq_getElem hlt, List.getElem?_eq_getElem hlu, Option.map_some, Option.some.injEq] at h1
        exact h1)
      obtain ⟨x, hx⟩ : ∃ x, xs[j] = x := ⟨_, rfl⟩
      obtain ⟨y, hy⟩ : ∃ y, ys[j] = y := ⟨_, rfl⟩
      rw [hx, hy] at hs
      rw [hx] at a0
      rw [hy] at b0
      have HE := Lib.hid (And.intro hs (And.intro (H.out.2.2.2.2.1 x (hx ▸ List.getElem_mem hlt)) (And.intro (H.out.2.2.2.2.2.1 y (hy ▸ List.getElem_mem hlu)) (H.out.2.2.2.2.2.2.1 x (hx ▸ List.getElem_mem hlt)))))
      clear hs hx hy
      go_wp2_with fail
      go_region_held3 (fun v => Below wr.heap.size wr v ∧ v.cell? (a.add j) = some (.slice x.ao x.xs.length x.cap) ∧ v.cell? (b.add j) = some (.slice y.ao y.xs.length y.cap))
        (first | exact ⟨(Below.refl _ _).drew, a0, b0⟩ | exact ⟨step0 ‹Below wr.heap.size wr _ ∧ _›.1 hb1, keep0 a0 (step0 ‹Below wr.heap.size wr _ ∧ _›.1 hb1), keep0 b0 (step0 ‹Below wr.heap.size wr _ ∧ _›.1 hb1)⟩)
        (first | (go_at_call 21; refine (same06 x.xs y.xs true x.ao y.ao x.cap y.cap _ HE.out.2.2.2 (HE.out.2.1.below (step0 J.out ‹Below wr.heap.size wr _ ∧ _›.1)) (HE.out.2.2.1.below (step0 J.out ‹Below wr.heap.size wr _ ∧ _›.1)) HE.out.1).mono ?_; rintro e w1 ⟨rfl, hb1⟩))
      have Z := Lib.hid (show Below wr.heap.size wr w1 from ‹Below wr.heap.size wr w1 ∧ _›.1)
      go_wp2
      go_roundw
      case rel => exact ⟨j + 1, by go_num, hlt, step0 J.out Z.out⟩
      case measure => rw [hw]; simp [intOf]; omega
    · obtain rfl : j = xs.length := by omega
      go_wp2
      go_ret
      exact ⟨rfl, J.out⟩

end Go.Proofs.YtfgakoldedpfoaaDoor
