/-
  Are two tables the same: sameCol, Same by the library's EqualFunc, and the document's SameCol, SameCols, Same. Conditions: at most 1000 columns.
  What alike answers with each of its two likenesses, and what Same and Cmp of two rows answer. Conditions: the bounds named in each theorem.
-/
import Derived.Test.YtmgdciihpjifgaaGreatDoorQcScCheck
import Derived.Test.YtmgdciihpjifgaaGreatDoorQcVlSame
import Derived.Test.YtmgdciihpjifgaaGreatDoorQcScPlain
import Derived.Test.YtmgdciihpjifgaaGreatDoorQcVlWorld
import Derived.BigQuiet
import Derived.Deep.QuietTactic
set_option maxHeartbeats 4000000
namespace Go.Proofs.YtmgdciihpjifgaaGreatDoor
open Go.RowKit
theorem ret_b {a b : Bool} (h : a = b) : Ending.returned (.bool a) = .returned (.bool b) := by rw [h]
theorem same_is (k n b : Int) (s : List UInt8) (k' n' b' : Int) (s' : List UInt8) (r : Bool) (w : World) (h : Vl.sm k n b s k' n' b' s' = r) :
    Calls Tryz.prog 81 #[.agg #[.int .i64 k, .int .i64 n, .int .u64 b, .string ⟨(s : List UInt8).toArray⟩], .agg #[.int .i64 k', .int .i64 n', .int .u64 b', .string ⟨(s' : List UInt8).toArray⟩]] w fun e w' => e = .returned (.bool r) ∧ Below w.heap.size w w' := by
  have E : ∀ w, (Op.equalIn 10000 25 (.agg #[.int .i64 k, .int .i64 n, .int .u64 b, .string ⟨(s : List UInt8).toArray⟩]) (.agg #[.int .i64 k', .int .i64 n', .int .u64 b', .string ⟨(s' : List UInt8).toArray⟩])).run Tryz.prog w = .ok r w := fun w => by rw [eq24, h]
  clear h
  go_enter Tryz.func81, Tryz.ntmps81
  go_wp2
  go_ret
  exact ⟨rfl, below2s _ _ _⟩
theorem rsc_name (nm : List UInt8) (kd : Int) (nu : Bool) (k n b : Int) (s : List UInt8) (nm' : List UInt8) (kd' : Int) (nu' : Bool) (k' n' b' : Int) (s' : List UInt8) (h : (nm == nm') = false) (w : World) :
    Calls Tryz.prog 44 #[.agg #[.string ⟨nm.toArray⟩, .int .i64 kd, .bool nu, .int .i64 k, .int .i64 n, .int .u64 b, .string ⟨s.toArray⟩], .agg #[.string ⟨nm'.toArray⟩, .int .i64 kd', .bool nu', .int .i64 k', .int .i64 n', .int .u64 b', .string ⟨s'.toArray⟩]] w fun e w' => e = .returned (.bool false) ∧ Below w.heap.size w w' := by
  go_enter Tryz.func44, Tryz.ntmps44
  go_wp2
  go_ret
  exact ⟨rfl, below2s _ _ _⟩
theorem rsc_kind (nm : List UInt8) (kd : Int) (nu : Bool) (k n b : Int) (s : List UInt8) (kd' : Int) (nu' : Bool) (k' n' b' : Int) (s' : List UInt8) (h : (kd == kd') = false) (w : World) :
    Calls Tryz.prog 44 #[.agg #[.string ⟨nm.toArray⟩, .int .i64 kd, .bool nu, .int .i64 k, .int .i64 n, .int .u64 b, .string ⟨s.toArray⟩], .agg #[.string ⟨nm.toArray⟩, .int .i64 kd', .bool nu', .int .i64 k', .int .i64 n', .int .u64 b', .string ⟨s'.toArray⟩]] w fun e w' => e = .returned (.bool false) ∧ Below w.heap.size w w' := by
  go_enter Tryz.func44, Tryz.ntmps44
  go_wp2
  go_ret
  exact ⟨rfl, below2s _ _ _⟩
theorem rsc_null (nm : List UInt8) (kd : Int) (nu : Bool) (k n b : Int) (s : List UInt8) (nu' : Bool) (k' n' b' : Int) (s' : List UInt8) (h : (nu == nu') = false) (w : World) :
    Calls Tryz.prog 44 #[.agg #[.string ⟨nm.toArray⟩, .int .i64 kd, .bool nu, .int .i64 k, .int .i64 n, .int .u64 b, .string ⟨s.toArray⟩], .agg #[.string ⟨nm.toArray⟩, .int .i64 kd, .bool nu', .int .i64 k', .int .i64 n', .int .u64 b', .string ⟨s'.toArray⟩]] w fun e w' => e = .returned (.bool false) ∧ Below w.heap.size w w' := by
  go_enter Tryz.func44, Tryz.ntmps44
  go_wp2
  go_ret
  exact ⟨rfl, below2s _ _ _⟩
theorem rsc_dflt (nm : List UInt8) (kd : Int) (nu : Bool) (k n b : Int) (s : List UInt8) (k' n' b' : Int) (s' : List UInt8) (r : Bool) (h : Vl.sm k n b s k' n' b' s' = r) (w : World) :
    Calls Tryz.prog 44 #[.agg #[.string ⟨nm.toArray⟩, .int .i64 kd, .bool nu, .int .i64 k, .int .i64 n, .int .u64 b, .string ⟨s.toArray⟩], .agg #[.string ⟨nm.toArray⟩, .int .i64 kd, .bool nu, .int .i64 k', .int .i64 n', .int .u64 b', .string ⟨s'.toArray⟩]] w fun e w' => e = .returned (.bool r) ∧ Below w.heap.size w w' := by
  go_enter Tryz.func44, Tryz.ntmps44
  go_wp2_with fail
  refine (rsame_is k n b s k' n' b' s' r _ h).mono ?_
  rintro e w1 ⟨rfl, hb⟩
  have B := Lib.hid (step1 (below1 w _) hb)
  clear hb
  go_wp2
  go_ret
  exact ⟨rfl, B.out⟩
theorem rsameCol_is (x y : C) (r : Bool) (w : World) (h : C.sm x y = r) :
    Calls Tryz.prog 44 #[.agg #[.string ⟨x.name.toArray⟩, .int .i64 x.kind, .bool x.null, .int .i64 x.d.k, .int .i64 x.d.n, .int .u64 x.d.b, .string ⟨x.d.s.toArray⟩], .agg #[.string ⟨y.name.toArray⟩, .int .i64 y.kind, .bool y.null, .int .i64 y.d.k, .int .i64 y.d.n, .int .u64 y.d.b, .string ⟨y.d.s.toArray⟩]] w fun e w' => e = .returned (.bool r) ∧ Below w.heap.size w w' := by
  subst h
  obtain ⟨nm, kd, nu, ⟨k, n, b, s⟩⟩ := x
  obtain ⟨nm', kd', nu', ⟨k', n', b', s'⟩⟩ := y
  by_cases h1 : nm = nm'
  · by_cases h2 : kd = kd'
    · by_cases h3 : nu = nu'
      · subst h1 h2 h3
        exact rsc_dflt nm kd nu k n b s k' n' b' s' _ (by unfold C.sm; simp) w
      · have e : C.sm ⟨nm, kd, nu, ⟨k, n, b, s⟩⟩ ⟨nm', kd', nu', ⟨k', n', b', s'⟩⟩ = false := by unfold C.sm; simp [h3]
        rw [e]; subst h1 h2
        exact rsc_null nm kd nu k n b s nu' k' n' b' s' (by simpa using h3) w
    · have e : C.sm ⟨nm, kd, nu, ⟨k, n, b, s⟩⟩ ⟨nm', kd', nu', ⟨k', n', b', s'⟩⟩ = false := by unfold C.sm; simp [h2]
      rw [e]; subst h1
      exact rsc_kind nm kd nu k n b s kd' nu' k' n' b' s' (by simpa using h2) w
  · have e : C.sm ⟨nm, kd, nu, ⟨k, n, b, s⟩⟩ ⟨nm', kd', nu', ⟨k', n', b', s'⟩⟩ = false := by unfold C.sm; simp [h1]
    rw [e]
    exact rsc_name nm kd nu k n b s nm' kd' nu' k' n' b' s' (by simpa using h1) w
theorem csm_no {a b : List C} (j : Nat) (h : j < a.length) (h' : j < b.length) (hs : C.sm a[j] b[j] = false) : csm a b = false := by
  cases e : csm a b with
  | false => rfl
  | true =>
    have := (csm_iff a b).1 e
    subst this
    rw [(C.sm_iff _ _).2 rfl] at hs
    cases hs
theorem csm_yes {a b : List C} (hl : a.length = b.length) (h : ∀ (i : Nat), i < a.length → ∀ (h1 : i < a.length) (h2 : i < b.length), C.sm a[i] b[i] = true) : csm a b = true := (csm_at a b hl).2 fun j h1 h2 => h j h1 h1 h2
theorem sm_next {a b : List C} {j : Nat} (h : ∀ (i : Nat), i < j → ∀ (h1 : i < a.length) (h2 : i < b.length), C.sm a[i] b[i] = true) (hj : j < a.length) (hj' : j < b.length) (h0 : C.sm a[j] b[j] = true) :
    ∀ (i : Nat), i < j + 1 → ∀ (h1 : i < a.length) (h2 : i < b.length), C.sm a[i] b[i] = true := by
  intro i hi h1 h2
  by_cases e : i = j
  · subst e; exact h0
  · exact h i (by omega) h1 h2
theorem rsameCols_is (xs ys : List C) (ao bo : Option Addr) (ca cb : Nat) (w : World) (ha : SlC w ao xs) (hb : SlC w bo ys) (hl : xs.length ≤ 1000) (r : Bool) (hr : csm xs ys = r) :
    Calls Tryz.prog 71 #[.slice ao xs.length ca, .slice bo ys.length cb] w fun e w' => e = .returned (.bool r) ∧ Below w.heap.size w w' := by
  subst hr
  have hmx : Tryz.prog.follows .mixedOrders = true := by kernel_rfl
  by_cases hne : xs.length = ys.length
  · have H := Lib.hid (And.intro ha (And.intro hb (And.intro hl hne)))
    have n1 : ((xs.length : Int) == (ys.length : Int)) = true := beq_t (by omega)
    have n2 : ((xs.length : Int) != (ys.length : Int)) = false := by simp [hne]
    have n3 : (xs.length != ys.length) = false := by simp [hne]
    clear ha hb hl hne
    go_enter Tryz.func71, Tryz.ntmps71
    go_wp2
    go_loopw [5] (fun i wr => ∃ j : Nat, i = .int .i64 j ∧ j ≤ xs.length ∧ (∀ (i : Nat), i < j → ∀ (h1 : i < xs.length) (h2 : i < ys.length), C.sm xs[i] ys[i] = true) ∧ Below w.heap.size w wr) (fun i _ => xs.length - (intOf i).toNat)
    case atStart => exact ⟨0, rfl, Nat.zero_le _, fun _ h => by omega, Below.refl _ _⟩
    case round =>
      obtain ⟨j, rfl, hj, hall, hbel⟩ := hrel
      have J := Lib.hid (And.intro hall hbel)
      clear hall hbel
      by_cases hlt : j < xs.length
      · have hlu : j < ys.length := by have := H.out.2.2.2; omega
        obtain ⟨a, rfl, a0, a1, a2, a3, a4, a5, a6⟩ := H.out.1.below J.out.2 j xs[j] (List.getElem?_eq_getElem hlt)
        obtain ⟨b, rfl, b0, b1, b2, b3, b4, b5, b6⟩ := H.out.2.1.below J.out.2 j ys[j] (List.getElem?_eq_getElem hlu)
        have hw : wrap64 ((j : Int) + 1) = (j : Int) + 1 := by have := H.out.2.2.1; exact wrap_in _ (by omega) (by omega)
        cases hs : C.sm xs[j] ys[j] with
        | true =>
          have HE := Lib.hid hs
          clear hs
          go_wp2
          go_region_with (go_at_call 44; refine (rsameCol_is xs[j] ys[j] true _ HE.out).mono ?_; rintro e w1 ⟨rfl, hb1⟩; have K := Lib.hid (step0 (below_drew1 J.out.2) hb1); clear hb1)
          all_goals go_wp2
          all_goals go_roundw
          all_goals first
            | exact ⟨j + 1, by go_num, hlt, sm_next J.out.1 hlt hlu HE.out, K.out⟩
            | (rw [hw]; simp [intOf]; omega)
        | false =>
          have HE := Lib.hid hs
          clear hs
          go_wp2
          go_region_with (go_at_call 44; refine (rsameCol_is xs[j] ys[j] false _ HE.out).mono ?_; rintro e w1 ⟨rfl, hb1⟩; have K := Lib.hid (step0 (below_drew1 J.out.2) hb1); clear hb1)
          all_goals go_wp2
          all_goals go_ret
          all_goals exact ⟨ret_b (csm_no j hlt hlu HE.out).symm, K.out⟩
      · obtain rfl : j = xs.length := by omega
        have HN := Lib.hid (csm_yes H.out.2.2.2 J.out.1)
        go_wp2
        go_ret
        exact ⟨ret_b HN.out.symm, J.out.2⟩
  · have n2 : ((xs.length : Int) != (ys.length : Int)) = true := bne_t (by omega)
    have n3 : (xs.length != ys.length) = true := by simpa using hne
    have HN := Lib.hid (show csm xs ys = false from by
      cases e : csm xs ys with
      | false => rfl
      | true => exact absurd (csm_len _ _ e) hne)
    clear ha hb hl hne
    go_enter Tryz.func71, Tryz.ntmps71
    go_wp2
    go_ret
    exact ⟨ret_b HN.out.symm, Below.refl _ _⟩
theorem rtsame_is_cols (nm : List UInt8) (ks : Int) (cs : List C) (ds : List C) (ao bo : Option Addr) (ca cb : Nat) (w : World) (ha : SlC w ao cs) (hb : SlC w bo ds) (hl : cs.length ≤ 1000) (r : Bool) (hr : csm cs ds = r) :
    Calls Tryz.prog 45 #[.agg #[.string ⟨nm.toArray⟩, .int .i64 ks, .slice ao cs.length ca], .agg #[.string ⟨nm.toArray⟩, .int .i64 ks, .slice bo ds.length cb]] w fun e w' => e = .returned (.bool r) ∧ Below w.heap.size w w' := by
  have H := Lib.hid (And.intro ha (And.intro hb (And.intro hl hr)))
  clear ha hb hl hr
  go_enter Tryz.func45, Tryz.ntmps45
  go_wp2_with fail
  refine (rsameCols_is cs ds ao bo ca cb _ (H.out.1.below (below2s _ _ _)) (H.out.2.1.below (below2s _ _ _)) H.out.2.2.1 r H.out.2.2.2).mono ?_
  rintro e w1 ⟨rfl, hb⟩
  have B := Lib.hid (step1 (below1 w _) hb)
  clear hb
  go_wp2
  go_ret
  exact ⟨rfl, B.out⟩
end Go.Proofs.YtmgdciihpjifgaaGreatDoor
namespace Go.Proofs.YtmgdciihpjifgaaGreatDoor.Rk
open Go.RowKit
theorem two_at {W v : World} {a b : Addr} {x y : V} (h : Below W.heap.size W v) (hx : At W a x) (hy : At W b y) :
    Below W.heap.size W v ∧ v.cell? a = some (.int .i64 x.k) ∧ v.cell? ⟨a.block, a.off + 1, none⟩ = some (.int .i64 x.n) ∧ v.cell? ⟨a.block, a.off + 2, none⟩ = some (.int .u64 x.b) ∧ v.cell? ⟨a.block, a.off + 3, none⟩ = some (.string ⟨x.s.toArray⟩) ∧
      v.cell? b = some (.int .i64 y.k) ∧ v.cell? ⟨b.block, b.off + 1, none⟩ = some (.int .i64 y.n) ∧ v.cell? ⟨b.block, b.off + 2, none⟩ = some (.int .u64 y.b) ∧ v.cell? ⟨b.block, b.off + 3, none⟩ = some (.string ⟨y.s.toArray⟩) :=
  ⟨h, keep0 hx.1 h, keep0 hx.2.1 h, keep0 hx.2.2.1 h, keep0 hx.2.2.2 h, keep0 hy.1 h, keep0 hy.2.1 h, keep0 hy.2.2.1 h, keep0 hy.2.2.2 h⟩
theorem alike_s (xs ys : List V) (ao bo : Option Addr) (ca cb : Nat) (w : World) (hl : xs.length ≤ 9223372036854775807) (hm : ys.length ≤ 9223372036854775807) (ha : Sl w ao xs) (hb : Sl w bo ys) :
    Calls Tryz.prog 80 #[.slice ao xs.length ca, .slice bo ys.length cb, .func (.func 81) #[] #[]] w fun e w' => e = .returned (.int .i64 (al V.sm xs ys)) ∧ Below w.heap.size w w' := by
  have H := Lib.hid (And.intro ha (And.intro hb (And.intro hl hm)))
  have hmx : Tryz.prog.follows .mixedOrders = true := by kernel_rfl
  clear ha hb hl hm
  go_enter Tryz.func80, Tryz.ntmps80
  go_wp2
  go_loopw [7] (fun i wr => ∃ j : Nat, i = .int .i64 j ∧ j ≤ xs.length ∧ j ≤ ys.length ∧ Below w.heap.size w wr ∧ al V.sm xs ys = j + al V.sm (xs.drop j) (ys.drop j)) (fun i _ => xs.length - (intOf i).toNat)
  case atStart => exact ⟨0, rfl, Nat.zero_le _, Nat.zero_le _, Below.refl _ _, by rw [Nat.zero_add]; rfl⟩
  case round =>
    obtain ⟨j, rfl, hj, hk, hbel, hal⟩ := hrel
    have J := Lib.hid (And.intro hbel (And.intro hal (And.intro hj hk)))
    clear hbel hal hj hk
    by_cases hlt : j < xs.length
    · have t1 : decide ((j : Int) < (xs.length : Int)) = true := by rw [decide_eq_true_iff]; omega
      have t2 : decide (j < xs.length) = true := by rw [decide_eq_true_iff]; omega
      by_cases hlu : j < ys.length
      · have t3 : decide ((j : Int) < (ys.length : Int)) = true := by rw [decide_eq_true_iff]; omega
        have t4 : decide (j < ys.length) = true := by rw [decide_eq_true_iff]; omega
        obtain ⟨a, rfl, sa⟩ := H.out.1.below J.out.1 j xs[j] (List.getElem?_eq_getElem hlt)
        obtain ⟨b, rfl, sb⟩ := H.out.2.1.below J.out.1 j ys[j] (List.getElem?_eq_getElem hlu)
        have S5 := Lib.hid (And.intro sa sb)
        have hw : wrap64 ((j : Int) + 1) = (j : Int) + 1 := by have := H.out.2.2.1; exact wrap_in _ (by omega) (by omega)
        clear sa sb
        by_cases hs : V.sm xs[j] ys[j] = true
        · have HE := Lib.hid hs
          have HN := Lib.hid (al_drop V.sm hlt hlu hs)
          clear hs
          go_wp2_with fail
          go_region_held3 (fun v => Below wr.heap.size wr v ∧ v.cell? (a.add (j * 4)) = some (.int .i64 xs[j].k) ∧ v.cell? ⟨(a.add (j * 4)).block, (a.add (j * 4)).off + 1, none⟩ = some (.int .i64 xs[j].n) ∧ v.cell? ⟨(a.add (j * 4)).block, (a.add (j * 4)).off + 2, none⟩ = some (.int .u64 xs[j].b) ∧ v.cell? ⟨(a.add (j * 4)).block, (a.add (j * 4)).off + 3, none⟩ = some (.string ⟨xs[j].s.toArray⟩) ∧
              v.cell? (b.add (j * 4)) = some (.int .i64 ys[j].k) ∧ v.cell? ⟨(b.add (j * 4)).block, (b.add (j * 4)).off + 1, none⟩ = some (.int .i64 ys[j].n) ∧ v.cell? ⟨(b.add (j * 4)).block, (b.add (j * 4)).off + 2, none⟩ = some (.int .u64 ys[j].b) ∧ v.cell? ⟨(b.add (j * 4)).block, (b.add (j * 4)).off + 3, none⟩ = some (.string ⟨ys[j].s.toArray⟩)) (first | exact two_at (Below.refl _ _).drew S5.out.1 S5.out.2 | exact two_at (step0 ‹Below _ _ _ ∧ _›.1 hb) S5.out.1 S5.out.2)
            (first | (go_at_call 81; refine (same_is _ _ _ _ _ _ _ _ true _ HE.out).mono ?_; rintro e w6 ⟨rfl, hb⟩))
          have A6 := Lib.hid (step0 J.out.1 (show Below wr.heap.size wr w6 from ‹Below wr.heap.size wr w6 ∧ _›.1))
          go_wp2
          go_roundw
          case rel => exact ⟨j + 1, by go_num, hlt, hlu, A6.out, by have h5 := J.out.2.1; have h6 := HN.out; omega⟩
          case measure => rw [hw]; simp [intOf]; omega
        · have hs2 : V.sm xs[j] ys[j] = false := by simpa using hs
          have HE := Lib.hid hs2
          have HN := Lib.hid (show al V.sm xs ys = j from by rw [J.out.2.1, al_stop V.sm hlt hlu hs2, Nat.add_zero])
          clear hs hs2
          go_wp2_with fail
          go_region_held3 (fun v => Below wr.heap.size wr v ∧ v.cell? (a.add (j * 4)) = some (.int .i64 xs[j].k) ∧ v.cell? ⟨(a.add (j * 4)).block, (a.add (j * 4)).off + 1, none⟩ = some (.int .i64 xs[j].n) ∧ v.cell? ⟨(a.add (j * 4)).block, (a.add (j * 4)).off + 2, none⟩ = some (.int .u64 xs[j].b) ∧ v.cell? ⟨(a.add (j * 4)).block, (a.add (j * 4)).off + 3, none⟩ = some (.string ⟨xs[j].s.toArray⟩) ∧
              v.cell? (b.add (j * 4)) = some (.int .i64 ys[j].k) ∧ v.cell? ⟨(b.add (j * 4)).block, (b.add (j * 4)).off + 1, none⟩ = some (.int .i64 ys[j].n) ∧ v.cell? ⟨(b.add (j * 4)).block, (b.add (j * 4)).off + 2, none⟩ = some (.int .u64 ys[j].b) ∧ v.cell? ⟨(b.add (j * 4)).block, (b.add (j * 4)).off + 3, none⟩ = some (.string ⟨ys[j].s.toArray⟩)) (first | exact two_at (Below.refl _ _).drew S5.out.1 S5.out.2 | exact two_at (step0 ‹Below _ _ _ ∧ _›.1 hb) S5.out.1 S5.out.2)
            (first | (go_at_call 81; refine (same_is _ _ _ _ _ _ _ _ false _ HE.out).mono ?_; rintro e w6 ⟨rfl, hb⟩))
          have A6 := Lib.hid (step0 J.out.1 (show Below wr.heap.size wr w6 from ‹Below wr.heap.size wr w6 ∧ _›.1))
          go_wp2
          go_ret
          exact ⟨ret_int (by rw [HN.out]), A6.out⟩
      · have t3 : decide ((j : Int) < (ys.length : Int)) = false := by rw [decide_eq_false_iff_not]; omega
        have t4 : decide (j < ys.length) = false := by rw [decide_eq_false_iff_not]; omega
        have HN := Lib.hid (show al V.sm xs ys = j from by rw [J.out.2.1, al_end V.sm (.inr hlu), Nat.add_zero])
        clear hlt hlu
        go_wp2_with fail
        go_quiet (fail)
        go_wp2
        go_ret
        exact ⟨ret_int (by rw [HN.out]), below_drewV _ J.out.1⟩
    · have t1 : decide ((j : Int) < (xs.length : Int)) = false := by rw [decide_eq_false_iff_not]; omega
      have t2 : decide (j < xs.length) = false := by rw [decide_eq_false_iff_not]; omega
      have HN := Lib.hid (show al V.sm xs ys = j from by rw [J.out.2.1, al_end V.sm (.inl hlt), Nat.add_zero])
      clear hlt
      go_wp2_with fail
      go_quiet (fail)
      go_wp2
      go_ret
      exact ⟨ret_int (by rw [HN.out]), below_drewV _ J.out.1⟩
theorem rsame_eq (xs ys : List V) (h : xs.length = ys.length) : ((al V.sm xs ys : Int) == (xs.length : Int)) = rs xs ys := by
  have := rs_al xs ys h
  rw [Bool.eq_iff_iff, beq_iff_eq]
  constructor
  · intro g; exact this.1 (by omega)
  · intro g; have := this.2 g; omega
theorem rowsSame_is (xs ys : List V) (r : Bool) (ao bo : Option Addr) (ca cb : Nat) (w : World) (hl : xs.length ≤ 9223372036854775807) (hm : ys.length ≤ 9223372036854775807) (ha : Sl w ao xs) (hb : Sl w bo ys) (h : rs xs ys = r) :
    Calls Tryz.prog 54 #[.slice ao xs.length ca, .slice bo ys.length cb] w fun e w' => e = .returned (.bool r) ∧ Below w.heap.size w w' := by
  have H := Lib.hid (And.intro ha (And.intro hb (And.intro hl hm)))
  clear ha hb hl hm
  by_cases hne : xs.length = ys.length
  · have n1 : ((xs.length : Int) == (ys.length : Int)) = true := beq_t (by omega)
    have n3 : decide (xs.length = ys.length) = true := by rw [decide_eq_true_iff]; exact hne
    obtain ⟨A, hA⟩ : ∃ A, al V.sm xs ys = A := ⟨_, rfl⟩
    have n2 := (rsame_eq xs ys hne).trans h
    rw [hA] at n2
    have HA := Lib.hid hA
    clear hA hne h
    go_enter Tryz.func54, Tryz.ntmps54
    go_wp2_with fail
    refine (alike_s xs ys ao bo ca cb _ H.out.2.2.1 H.out.2.2.2 H.out.1 H.out.2.1).mono ?_
    rintro e w1 ⟨rfl, hb⟩
    have B := Lib.hid hb
    clear hb
    rw [HA.out]
    go_wp2
    go_ret
    exact ⟨rfl, B.out⟩
  · have hf : rs xs ys = false := by
      cases g : rs xs ys with
      | false => rfl
      | true => exact absurd (rs_len xs ys g) hne
    rw [hf] at h
    subst h
    have n1 : ((xs.length : Int) == (ys.length : Int)) = false := beq_f (by omega)
    have n3 : decide (xs.length = ys.length) = false := by rw [decide_eq_false_iff_not]; exact hne
    clear hf
    go_enter Tryz.func54, Tryz.ntmps54
    go_wp2
    go_ret
    exact ⟨rfl, Below.refl _ _⟩
end Go.Proofs.YtmgdciihpjifgaaGreatDoor.Rk
