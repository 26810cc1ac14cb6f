/-
  What the document's Row tells of any table, change and row. Conditions: a table and a row of at most 30 values in memory that keep a value's bounds.
  Rows held against rows: the document's SameRow, Same, All. Conditions: the bounds named in each theorem.
  Law TransformOne, walked. Conditions: the arguments in memory; the listed variables as they are laid.
-/
import Derived.Test.YtdonmbmahcjfbaaGreatDoorTfRefA
import Derived.Test.YtdonmbmahcjfbaaGreatDoorTfRefB
import Derived.Test.YtdonmbmahcjfbaaGreatDoorTfRefC
import Derived.Test.YtdonmbmahcjfbaaGreatDoorTfRefD
import Derived.Test.YtdonmbmahcjfbaaGreatDoorTfMem
import Derived.Test.YtdonmbmahcjfbaaGreatDoorVlRefCheck
import Derived.Deep.RegionHeld3
import Derived.Test.YtdonmbmahcjfbaaGreatDoorTfAwake
namespace Go.Proofs.YtdonmbmahcjfbaaGreatDoor
open Go.RowKit
set_option linter.unusedVariables false
set_option linter.unusedSimpArgs false

set_option maxHeartbeats 4000000 in
set_option maxRecDepth 100000 in
theorem rrow_n1g (c : Ch) (no : Option Addr) (nc : Nat) (dO : Option Addr) (dc : Nat) (tn : Nm.S) (ks : Int) (tc : List C) (ao : Option Addr) (cap : Nat) (xs : List V) (n : Nat) (hn : xs.length = n) (bo : Option Addr) (bc : Nat) (w : World) (hT : At3 w (⟨tn, ks, tc⟩ : T) ao cap) (hx : Sl w bo xs) (hm : xs.length ≤ 30) (ho : ∀ x ∈ xs, x.ok) (E : Int) (hE : (⟨tn, ks, tc⟩ : T).fit xs = E) (hE0 : ¬ E = 0) :
    Calls Tryz.prog 11 #[.agg #[.string ⟨tn.toArray⟩, .int .i64 ks, .slice ao tc.length cap], .agg #[.int .i64 c.kind, .string ⟨c.table.toArray⟩, .string ⟨c.other.toArray⟩, .string ⟨c.to.toArray⟩, .string ⟨c.also.toArray⟩, .string ⟨c.name.toArray⟩, .int .i64 c.type, .slice no c.names.length nc, .string ⟨c.col.name.toArray⟩, .int .i64 c.col.kind, .bool c.col.null, .int .i64 c.col.d.k, .int .i64 c.col.d.n, .int .u64 c.col.d.b, .string ⟨c.col.d.s.toArray⟩, .string ⟨c.df.name.toArray⟩, .int .i64 c.df.keys, .slice dO c.df.cs.length dc], .slice bo n bc] w fun e w' => e = .returned (.tuple #[.slice none 0 0, .int .i64 E]) ∧ Below w.heap.size w w' := by
  have hmx : Tryz.prog.follows .mixedOrders = true := by kernel_rfl
  subst hn
  have e0 := bne_t hE0
  have H := Lib.hid (And.intro hT (And.intro hx (And.intro hm (And.intro ho (And.intro hE hE0)))))
  clear hT hx hm ho
  go_enter Tryz.func11, Tryz.ntmps11
  go_wp2_with fail
  refine (rfits_t (⟨tn, ks, tc⟩ : T) xs ao bo cap bc _ (H.out.1.keep (below2s _ _ _)) (H.out.2.1.below (below2s _ _ _)) H.out.2.2.1 H.out.2.2.2.1 E H.out.2.2.2.2.1).mono ?_
  rintro e w1 ⟨rfl, hb⟩
  have B := Lib.hid (step0 (below2s w _ _) hb)
  clear hb hE hE0
  go_wp2
  go_ret2
  exact ⟨rfl, B.out⟩


/-- What the document's Row tells of any table, change and row. -/
theorem rrow_is (c : Ch) (no : Option Addr) (nc : Nat) (dO : Option Addr) (dc : Nat) (t : T) (ao : Option Addr) (cap : Nat) (xs : List V) (n : Nat) (hn : xs.length = n) (bo : Option Addr) (bc : Nat) (w : World) (hT : At3 w t ao cap) (hx : Sl w bo xs) (hm : xs.length ≤ 30) (ho : ∀ x ∈ xs, x.ok) (hns : SlS w no c.names) (hnl : c.names.length ≤ 1000) (R : List (List V) × Int) (hR : c.row t xs = R) :
    Calls Tryz.prog 11 #[.agg #[.string ⟨t.name.toArray⟩, .int .i64 t.keys, .slice ao t.cs.length cap], .agg #[.int .i64 c.kind, .string ⟨c.table.toArray⟩, .string ⟨c.other.toArray⟩, .string ⟨c.to.toArray⟩, .string ⟨c.also.toArray⟩, .string ⟨c.name.toArray⟩, .int .i64 c.type, .slice no c.names.length nc, .string ⟨c.col.name.toArray⟩, .int .i64 c.col.kind, .bool c.col.null, .int .i64 c.col.d.k, .int .i64 c.col.d.n, .int .u64 c.col.d.b, .string ⟨c.col.d.s.toArray⟩, .string ⟨c.df.name.toArray⟩, .int .i64 c.df.keys, .slice dO c.df.cs.length dc], .slice bo n bc] w fun e w' => RR w w' e R ∧ Below w.heap.size w w' := by
  subst hR
  by_cases hE : t.fit xs = 0
  case neg =>
    refine (rrow_n1g c no nc dO dc t.name t.keys t.cs ao cap xs n hn bo bc w hT hx hm ho _ rfl hE).mono ?_
    rintro e w1 ⟨rfl, hb⟩
    exact ⟨RR.bad (row_bad hE), hb⟩
  by_cases hs : t.name ∈ c.src
  case neg =>
    rw [row_none hE hs]
    obtain ⟨hck, _, _⟩ := T.fit_ok hE
    obtain ⟨_, _, _, hk0, _, _, _⟩ := T.ck_ok hck
    obtain ⟨tn, tk, tc⟩ := t
    simp only at hk0 hs
    obtain ⟨K, rfl⟩ : ∃ K : Nat, tk = (K : Int) := ⟨tk.toNat, by omega⟩
    refine (rrow_n2 c no nc dO dc tn K tc ao cap xs n hn bo bc w hT hx hm ho hE hs).mono ?_
    rintro e w1 ⟨rfl, hb⟩
    exact ⟨RR.bad rfl, hb⟩
  rw [row_bod hE hs]
  have hk := src_kind hs
  obtain ⟨hck, hlen, _⟩ := T.fit_ok hE
  obtain ⟨_, _, hc8, hk0, _, hk1, _⟩ := T.ck_ok hck
  obtain ⟨tn, tk, tc⟩ := t
  simp only at hk0 hk1 hlen hc8 ⊢
  obtain ⟨K, rfl⟩ : ∃ K : Nat, tk = (K : Int) := ⟨tk.toNat, by omega⟩
  obtain ⟨ck, tb, ot, tn', al, nm, ty, ns, col, df⟩ := c
  simp only at hk hns hnl ⊢
  have hK : ck = 2 ∨ ck = 3 ∨ ck = 4 ∨ ck = 5 ∨ ck = 6 := by omega
  have fl := fi_lt (tc.map C.name) nm
  rw [List.length_map] at fl
  have bad3 : ∀ {kd : Int} {R : List (List V) × Int}, R = ([], 10) → (∀ e w', (e = .returned (.tuple #[.slice none 0 0, .int .i64 10]) ∧ Below w.heap.size w w') → RR w w' e R ∧ Below w.heap.size w w') := by
    rintro kd R h e w' ⟨rfl, hb⟩
    exact ⟨RR.bad h, hb⟩
  rcases hK with rfl | rfl | rfl | rfl | rfl
  · exact rrow_2 ⟨2, tb, ot, tn', al, nm, ty, ns, col, df⟩ no nc dO dc tn K tc ao cap xs n hn bo bc w hT hx hm ho hE hlen (by omega) hns hnl hs
  · show Calls _ _ _ _ fun e w' => RR w w' e (T.rdrp ⟨tn, (K : Int), tc⟩ nm xs) ∧ _
    unfold T.rdrp
    by_cases hf : Nm.fi (T.cns ⟨tn, (K : Int), tc⟩) nm < (K : Int)
    · rw [if_pos hf]
      exact (rrow_3n ⟨3, tb, ot, tn', al, nm, ty, ns, col, df⟩ no nc dO dc tn K tc ao cap xs n hn bo bc w hT hx hm ho hE hlen (by omega) hns hnl hs hf).mono fun e w' h => bad3 (kd := 0) rfl e w' h
    · rw [if_neg hf]
      obtain ⟨I, hI⟩ : ∃ I : Nat, Nm.fi (tc.map C.name) nm = (I : Int) := ⟨(Nm.fi (tc.map C.name) nm).toNat, by have : ¬ Nm.fi (tc.map C.name) nm < (K : Int) := hf; omega⟩
      have hKI : ¬ Nm.fi (tc.map C.name) nm < (K : Int) := hf
      rw [hI] at hKI fl
      show Calls _ _ _ _ fun e w' => RR w w' e ([xs.eraseIdx (Nm.fi (tc.map C.name) nm).toNat], 0) ∧ _
      rw [hI, Int.toNat_natCast]
      exact rrow_3 ⟨3, tb, ot, tn', al, nm, ty, ns, col, df⟩ no nc dO dc tn K tc ao cap xs n hn bo bc w hT hx hm ho hE hlen (by omega) hns hnl hs I hI (by omega) (by omega)
  · show Calls _ _ _ _ fun e w' => RR w w' e (T.rret ⟨tn, (K : Int), tc⟩ nm ty xs) ∧ _
    unfold T.rret
    by_cases hf : Nm.fi (T.cns ⟨tn, (K : Int), tc⟩) nm < (K : Int)
    · rw [if_pos hf]
      exact (rrow_4n ⟨4, tb, ot, tn', al, nm, ty, ns, col, df⟩ no nc dO dc tn K tc ao cap xs n hn bo bc w hT hx hm ho hE hlen (by omega) hns hnl hs hf).mono fun e w' h => bad3 (kd := 0) rfl e w' h
    · rw [if_neg hf]
      obtain ⟨I, hI⟩ : ∃ I : Nat, Nm.fi (tc.map C.name) nm = (I : Int) := ⟨(Nm.fi (tc.map C.name) nm).toNat, by have : ¬ Nm.fi (tc.map C.name) nm < (K : Int) := hf; omega⟩
      have hKI : ¬ Nm.fi (tc.map C.name) nm < (K : Int) := hf
      rw [hI] at hKI fl
      have hIx : I < xs.length := by omega
      have hv : T.vat ⟨tn, (K : Int), tc⟩ nm xs = xs[I] := by
        show (xs[(Nm.fi (tc.map C.name) nm).toNat]?).getD _ = _
        rw [hI, Int.toNat_natCast, List.getElem?_eq_getElem hIx]
        rfl
      rw [hv]
      obtain ⟨⟨k1, n1, b1, s1, E⟩, hr⟩ : ∃ r, Km.Cv.to xs[I].k xs[I].n xs[I].b xs[I].s ty = r := ⟨_, rfl⟩
      have hE1 : xs[I].toE ty = E := by unfold V.toE; rw [hr]
      rw [hE1]
      by_cases h0 : E = 0
      · subst h0
        rw [if_neg (by simp)]
        have hy : xs[I].to ty = ⟨k1, n1, b1, s1⟩ := by unfold V.to; rw [hr]
        show Calls _ _ _ _ fun e w' => RR w w' e ([xs.set (Nm.fi (tc.map C.name) nm).toNat (xs[I].to ty)], 0) ∧ _
        rw [hI, Int.toNat_natCast, hy]
        exact rrow_4 ⟨4, tb, ot, tn', al, nm, ty, ns, col, df⟩ no nc dO dc tn K tc ao cap xs n hn bo bc w hT hx hm ho hE hlen (by omega) hns hnl hs I hI (by omega) hIx xs[I] rfl ⟨k1, n1, b1, s1⟩ hr
      · rw [if_pos h0]
        refine (rrow_4e ⟨4, tb, ot, tn', al, nm, ty, ns, col, df⟩ no nc dO dc tn K tc ao cap xs n hn bo bc w hT hx hm ho hE hlen (by omega) hns hnl hs I hI (by omega) hIx xs[I] rfl k1 n1 b1 s1 E hr h0).mono ?_
        rintro e w1 ⟨rfl, hb⟩
        exact ⟨RR.bad rfl, hb⟩
  · exact rrow_5 ⟨5, tb, ot, tn', al, nm, ty, ns, col, df⟩ no nc dO dc tn K tc ao cap xs n hn bo bc w hT hx hm ho hE hlen (by omega) hns hnl hs (by omega)
  · exact rrow_6 ⟨6, tb, ot, tn', al, nm, ty, ns, col, df⟩ no nc dO dc tn K tc ao cap xs n hn bo bc w hT hx hm ho hE hlen (by omega) hns hnl hs

end Go.Proofs.YtdonmbmahcjfbaaGreatDoor

namespace Go.Proofs.YtdonmbmahcjfbaaGreatDoor
open Go.RowKit

def V.sm (x y : V) : Bool := Vl.sm x.k x.n x.b x.s y.k y.n y.b y.s
theorem V.sm_self (x : V) : x.sm x = true := by unfold V.sm Vl.sm; simp
def vls : List V → List V → Bool
  | [], [] => true
  | [], _ :: _ => false
  | _ :: _, [] => false
  | x :: xs, y :: ys => x.sm y && vls xs ys
theorem vls_len : ∀ (xs ys : List V), vls xs ys = true → xs.length = ys.length
  | [], [], _ => rfl
  | [], _ :: _, h => by simp [vls] at h
  | _ :: _, [], h => by simp [vls] at h
  | x :: xs, y :: ys, h => by
    rw [vls, Bool.and_eq_true] at h
    simp [vls_len xs ys h.2]
theorem vls_self : ∀ (xs : List V), vls xs xs = true
  | [] => rfl
  | x :: xs => by rw [vls, V.sm_self, vls_self xs]; rfl
theorem vls_drop {xs ys : List V} {j : Nat} (h1 : j < xs.length) (h2 : j < ys.length) (h : xs[j].sm ys[j] = true) : vls (xs.drop j) (ys.drop j) = vls (xs.drop (j + 1)) (ys.drop (j + 1)) := by
  rw [List.drop_eq_getElem_cons h1, List.drop_eq_getElem_cons h2, vls, h, Bool.true_and]
theorem vls_stop {xs ys : List V} {j : Nat} (h1 : j < xs.length) (h2 : j < ys.length) (h : xs[j].sm ys[j] = false) : vls (xs.drop j) (ys.drop j) = false := by
  rw [List.drop_eq_getElem_cons h1, List.drop_eq_getElem_cons h2, vls, h, Bool.false_and]
theorem vls_end {xs ys : List V} {j : Nat} (h1 : j = xs.length) (h2 : j = ys.length) : vls (xs.drop j) (ys.drop j) = true := by
  rw [List.drop_of_length_le (by omega), List.drop_of_length_le (by omega)]; rfl

set_option maxHeartbeats 2000000 in
theorem sameRow_is (xs ys : List V) (ao bo : Option Addr) (ca cb : Nat) (w : World) (hl : xs.length ≤ 1000000) (ha : Sl w ao xs) (hb : Sl w bo ys) :
    Calls Tryz.prog 62 #[.slice ao xs.length ca, .slice bo ys.length cb] w fun e w' => e = .returned (.bool (vls xs ys)) ∧ Below w.heap.size w w' := by
  have hmx : Tryz.prog.follows .mixedOrders = true := by kernel_rfl
  by_cases hne : xs.length = ys.length
  · have H := Lib.hid (And.intro ha (And.intro hb (And.intro hl hne)))
    have n1 : ((xs.length : Int) == (ys.length : Int)) = true := beq_t (by omega)
    have n2 : ((xs.length : Int) != (ys.length : Int)) = false := by simp [hne]
    clear ha hb hl hne
    go_enter Tryz.func62, Tryz.ntmps62
    go_wp2
    go_loopw [5] (fun i wr => ∃ j : Nat, i = .int .i64 j ∧ j ≤ xs.length ∧ Below w.heap.size w wr ∧ vls xs ys = vls (xs.drop j) (ys.drop j)) (fun i _ => xs.length - (intOf i).toNat)
    case atStart => exact ⟨0, rfl, Nat.zero_le _, Below.refl _ _, rfl⟩
    case round =>
      obtain ⟨j, rfl, hj, hbel, hrs⟩ := hrel
      have J := Lib.hid (And.intro hbel hrs)
      clear hbel hrs
      by_cases hlt : j < xs.length
      · have hlu : j < ys.length := by have := H.out.2.2.2; omega
        obtain ⟨a, rfl, a0, a1, a2, a3⟩ := H.out.1.below J.out.1 j xs[j] (List.getElem?_eq_getElem hlt)
        obtain ⟨b, rfl, b0, b1, b2, b3⟩ := H.out.2.1.below J.out.1 j ys[j] (List.getElem?_eq_getElem hlu)
        have hw : wrap64 ((j : Int) + 1) = (j : Int) + 1 := by have := H.out.2.2.1; exact wrap_in _ (by omega) (by omega)
        by_cases hs : xs[j].sm ys[j] = true
        · have HE := Lib.hid hs
          have HN := Lib.hid (vls_drop hlt hlu hs)
          clear hs
          go_wp2
          go_region_with (go_at_call 84; refine (rsame_is _ _ _ _ _ _ _ _ true _ HE.out).mono ?_; rintro e w1 ⟨rfl, hb1⟩; have K := Lib.hid (step0 (below_drew1 J.out.1) hb1); clear hb1)
          all_goals go_wp2
          all_goals go_roundw
          all_goals first
            | exact ⟨j + 1, by go_num, hlt, K.out, J.out.2.trans HN.out⟩
            | (rw [hw]; simp [intOf]; omega)
        · have hs2 : xs[j].sm ys[j] = false := by simpa using hs
          have HE := Lib.hid hs2
          have HN := Lib.hid (J.out.2.trans (vls_stop hlt hlu hs2))
          clear hs hs2
          go_wp2
          go_region_with (go_at_call 84; refine (rsame_is _ _ _ _ _ _ _ _ false _ HE.out).mono ?_; rintro e w1 ⟨rfl, hb1⟩; have K := Lib.hid (step0 (below_drew1 J.out.1) hb1); clear hb1)
          all_goals go_wp2
          all_goals go_ret
          all_goals exact ⟨ret_bool HN.out.symm, K.out⟩
      · obtain rfl : j = xs.length := by omega
        have HN := Lib.hid (J.out.2.trans (vls_end rfl H.out.2.2.2))
        go_wp2
        go_ret
        exact ⟨ret_bool HN.out.symm, J.out.1⟩
  · have hf : vls xs ys = false := by
      cases h : vls xs ys with
      | false => rfl
      | true => exact absurd (vls_len xs ys h) hne
    have n1 : ((xs.length : Int) == (ys.length : Int)) = false := beq_f (by omega)
    have n2 : ((xs.length : Int) != (ys.length : Int)) = true := bne_t (by omega)
    rw [hf]
    clear ha hb hl hne hf
    go_enter Tryz.func62, Tryz.ntmps62
    go_wp2
    go_ret
    exact ⟨rfl, Below.refl _ _⟩

theorem same06 (xs ys : List V) (r : Bool) (ao bo : Option Addr) (ca cb : Nat) (w : World) (hl : xs.length ≤ 1000000) (ha : Sl w ao xs) (hb : Sl w bo ys) (h : vls xs ys = r) :
    Calls Tryz.prog 36 #[.slice ao xs.length ca, .slice bo ys.length cb] w fun e w' => e = .returned (.bool r) ∧ Below w.heap.size w w' := by
  subst h
  have H := Lib.hid (And.intro hl (And.intro ha hb))
  clear hl ha hb
  go_enter Tryz.func36, Tryz.ntmps36
  go_wp2_with fail
  refine (sameRow_is xs ys ao bo ca cb _ H.out.1 H.out.2.1 H.out.2.2).mono ?_
  rintro e w1 ⟨rfl, hb⟩
  have B := Lib.hid hb
  clear hb
  go_wp2
  go_ret
  exact ⟨rfl, B.out⟩

theorem vls_true (xs ys : List V) (h : xs = ys) : vls xs ys = true := by
  subst h
  exact vls_self xs

set_option maxHeartbeats 2000000 in
/-- Rows that are the same, one by one. -/
theorem all_same (xs ys : List RV) (ao bo : Option Addr) (ca cb : Nat) (w : World) (hl : xs.length ≤ 1000000) (ha : SlR w ao xs) (hb : SlR w bo ys) (ia : InR w xs) (ib : InR w ys) (h30 : ∀ x ∈ xs, x.xs.length ≤ 1000000) (he : rxs xs = rxs ys) :
    Calls Tryz.prog 12 #[.slice ao xs.length ca, .slice bo ys.length cb] w fun e w' => e = .returned (.bool true) ∧ Below w.heap.size w w' := by
  have hmx : Tryz.prog.follows .mixedOrders = true := by kernel_rfl
  have hne : xs.length = ys.length := by have := congrArg List.length he; simpa [rxs] using this
  have n1 : ((xs.length : Int) == (ys.length : Int)) = true := beq_t (by omega)
  have n2 : ((xs.length : Int) != (ys.length : Int)) = false := by simp [hne]
  have H := Lib.hid (And.intro ha (And.intro hb (And.intro hl (And.intro hne (And.intro ia (And.intro ib (And.intro h30 he)))))))
  clear ha hb hl hne ia ib h30 he
  go_enter Tryz.func12, Tryz.ntmps12
  go_wp2
  go_loopw [5] (fun i wr => ∃ j : Nat, i = .int .i64 j ∧ j ≤ xs.length ∧ Below w.heap.size w wr) (fun i _ => xs.length - (intOf i).toNat)
  case atStart => exact ⟨0, rfl, Nat.zero_le _, Below.refl _ _⟩
  case round =>
    obtain ⟨j, rfl, hj, hbel⟩ := hrel
    have J := Lib.hid hbel
    clear hbel
    by_cases hlt : j < xs.length
    · have hlu : j < ys.length := by have := H.out.2.2.2.1; omega
      have g2 : (j : Int) < (ys.length : Int) := by omega
      obtain ⟨a, rfl, a0⟩ := H.out.1.below J.out j xs[j] (List.getElem?_eq_getElem hlt)
      obtain ⟨b, rfl, b0⟩ := H.out.2.1.below J.out j ys[j] (List.getElem?_eq_getElem hlu)
      have hw : wrap64 ((j : Int) + 1) = (j : Int) + 1 := by have := H.out.2.2.1; exact wrap_in _ (by omega) (by omega)
      have hs : vls xs[j].xs ys[j].xs = true := vls_true _ _ (by
        have h1 := congrArg (fun l => l[j]?) H.out.2.2.2.2.2.2.2
        simp only [rxs, List.getElem?_map, List.getElem?_eq_getElem hlt, List.getElem?_eq_getElem hlu, Option.map_some, Option.some.injEq] at h1
        exact h1)
      obtain ⟨x, hx⟩ : ∃ x, xs[j] = x := ⟨_, rfl⟩
      obtain ⟨y, hy⟩ : ∃ y, ys[j] = y := ⟨_, rfl⟩
      rw [hx, hy] at hs
      rw [hx] at a0
      rw [hy] at b0
      have HE := Lib.hid (And.intro hs (And.intro (H.out.2.2.2.2.1 x (hx ▸ List.getElem_mem hlt)) (And.intro (H.out.2.2.2.2.2.1 y (hy ▸ List.getElem_mem hlu)) (H.out.2.2.2.2.2.2.1 x (hx ▸ List.getElem_mem hlt)))))
      clear hs hx hy
      go_wp2_with fail
      go_region_held3 (fun v => Below wr.heap.size wr v ∧ v.cell? (a.add j) = some (.slice x.ao x.xs.length x.cap) ∧ v.cell? (b.add j) = some (.slice y.ao y.xs.length y.cap))
        (first | exact ⟨(Below.refl _ _).drew, a0, b0⟩ | exact ⟨step0 ‹Below wr.heap.size wr _ ∧ _›.1 hb1, keep0 a0 (step0 ‹Below wr.heap.size wr _ ∧ _›.1 hb1), keep0 b0 (step0 ‹Below wr.heap.size wr _ ∧ _›.1 hb1)⟩)
        (first | (go_at_call 36; refine (same06 x.xs y.xs true x.ao y.ao x.cap y.cap _ HE.out.2.2.2 (HE.out.2.1.below (step0 J.out ‹Below wr.heap.size wr _ ∧ _›.1)) (HE.out.2.2.1.below (step0 J.out ‹Below wr.heap.size wr _ ∧ _›.1)) HE.out.1).mono ?_; rintro e w1 ⟨rfl, hb1⟩))
      have Z := Lib.hid (show Below wr.heap.size wr w1 from ‹Below wr.heap.size wr w1 ∧ _›.1)
      go_wp2
      go_roundw
      case rel => exact ⟨j + 1, by go_num, hlt, step0 J.out Z.out⟩
      case measure => rw [hw]; simp [intOf]; omega
    · obtain rfl : j = xs.length := by omega
      go_wp2
      go_ret
      exact ⟨rfl, J.out⟩

end Go.Proofs.YtdonmbmahcjfbaaGreatDoor

namespace Go.Proofs.YtdonmbmahcjfbaaGreatDoor
open Go.RowKit
set_option linter.unusedVariables false
set_option linter.unusedSimpArgs false

theorem wpList_load_g {P : Program} {ops : Array Oper} {rest : List Oper} {op : Oper} {a : Act} {w : World} {Q : Exit → Act → World → Prop} (hw : Region.wanted op (yielded ops a.tmps) = true) (ty : TypeId) (x : Operand) (ho : op.op = .load ty x)
    (b o : Nat) (hx : a.eval x = .pointer (some ⟨b, o, none⟩)) (cs : List Value) (d : TypeDesc) (hc : w.rangeAt b o cs)
    (hu : P.underlying ty = some d) (hd : d.isRow = true) (hi : (P.info? ty).map (·.size) = some cs.length)
    (h : wpList P ops Q rest (a.put op.dst (.agg cs.toArray)) w) : wpList P ops Q (op :: rest) a w :=
  wpList_step fun K hK => by rw [if_pos hw]; exact wp_load_mid ty x ho b o hx cs d hc hu hd hi (hK _ _ h)

theorem row_small {c : Ch} {t : T} {row : List V} (h : row.length ≤ 30) : (c.row t row).1.length ≤ 2 ∧ ∀ x ∈ (c.row t row).1, x.length ≤ 31 := by
  have e1 := List.length_eraseIdx_le row (Nm.fi t.cns c.name).toNat
  have e2 := vsm_len t.cs c.names t.keys.toNat row
  unfold Ch.row Ch.rbod T.rdrp T.rret
  repeat' split
  all_goals simp
  all_goals omega

end Go.Proofs.YtdonmbmahcjfbaaGreatDoor
