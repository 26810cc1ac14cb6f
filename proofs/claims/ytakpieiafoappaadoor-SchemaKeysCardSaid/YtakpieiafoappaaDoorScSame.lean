/-
  Are two tables the same: sameCol, Same by the library's EqualFunc, and the document's SameCol, SameCols, Same. Conditions: at most 1000 columns.
-/
import Derived.Test.YtakpieiafoappaaDoorScCheck
import Derived.Test.YtakpieiafoappaaDoorVlSame
namespace Go.Proofs.YtakpieiafoappaaDoor
open Go.RowKit

theorem ret_b {a b : Bool} (h : a = b) : Ending.returned (.bool a) = .returned (.bool b) := by rw [h]
set_option maxHeartbeats 1000000 in
theorem same_is (k n b : Int) (s : List UInt8) (k' n' b' : Int) (s' : List UInt8) (r : Bool) (w : World) (h : Vl.sm k n b s k' n' b' s' = r) :
    Calls Tryd.prog 49 #[.agg #[.int .i64 k, .int .i64 n, .int .u64 b, .string ⟨(s : List UInt8).toArray⟩], .agg #[.int .i64 k', .int .i64 n', .int .u64 b', .string ⟨(s' : List UInt8).toArray⟩]] w fun e w' => e = .returned (.bool r) ∧ Below w.heap.size w w' := by
  have E : ∀ w, (Op.equalIn 10000 37 (.agg #[.int .i64 k, .int .i64 n, .int .u64 b, .string ⟨(s : List UInt8).toArray⟩]) (.agg #[.int .i64 k', .int .i64 n', .int .u64 b', .string ⟨(s' : List UInt8).toArray⟩])).run Tryd.prog w = .ok r w := fun w => by rw [eq24, h]
  clear h
  go_enter Tryd.func49, Tryd.ntmps49
  go_wp2
  go_ret
  exact ⟨rfl, below2s _ _ _⟩

set_option maxHeartbeats 1000000 in
theorem sc_name (nm : List UInt8) (kd : Int) (nu : Bool) (k n b : Int) (s : List UInt8) (nm' : List UInt8) (kd' : Int) (nu' : Bool) (k' n' b' : Int) (s' : List UInt8) (h : (nm == nm') = false) (w : World) :
    Calls Tryd.prog 29 #[.agg #[.string ⟨nm.toArray⟩, .int .i64 kd, .bool nu, .int .i64 k, .int .i64 n, .int .u64 b, .string ⟨s.toArray⟩], .agg #[.string ⟨nm'.toArray⟩, .int .i64 kd', .bool nu', .int .i64 k', .int .i64 n', .int .u64 b', .string ⟨s'.toArray⟩]] w fun e w' => e = .returned (.bool false) ∧ Below w.heap.size w w' := by
  go_enter Tryd.func29, Tryd.ntmps29
  go_wp2
  go_ret
  exact ⟨rfl, below2s _ _ _⟩

set_option maxHeartbeats 1000000 in
theorem sc_kind (nm : List UInt8) (kd : Int) (nu : Bool) (k n b : Int) (s : List UInt8) (kd' : Int) (nu' : Bool) (k' n' b' : Int) (s' : List UInt8) (h : (kd == kd') = false) (w : World) :
    Calls Tryd.prog 29 #[.agg #[.string ⟨nm.toArray⟩, .int .i64 kd, .bool nu, .int .i64 k, .int .i64 n, .int .u64 b, .string ⟨s.toArray⟩], .agg #[.string ⟨nm.toArray⟩, .int .i64 kd', .bool nu', .int .i64 k', .int .i64 n', .int .u64 b', .string ⟨s'.toArray⟩]] w fun e w' => e = .returned (.bool false) ∧ Below w.heap.size w w' := by
  go_enter Tryd.func29, Tryd.ntmps29
  go_wp2
  go_ret
  exact ⟨rfl, below2s _ _ _⟩

set_option maxHeartbeats 1000000 in
theorem sc_null (nm : List UInt8) (kd : Int) (nu : Bool) (k n b : Int) (s : List UInt8) (nu' : Bool) (k' n' b' : Int) (s' : List UInt8) (h : (nu == nu') = false) (w : World) :
    Calls Tryd.prog 29 #[.agg #[.string ⟨nm.toArray⟩, .int .i64 kd, .bool nu, .int .i64 k, .int .i64 n, .int .u64 b, .string ⟨s.toArray⟩], .agg #[.string ⟨nm.toArray⟩, .int .i64 kd, .bool nu', .int .i64 k', .int .i64 n', .int .u64 b', .string ⟨s'.toArray⟩]] w fun e w' => e = .returned (.bool false) ∧ Below w.heap.size w w' := by
  go_enter Tryd.func29, Tryd.ntmps29
  go_wp2
  go_ret
  exact ⟨rfl, below2s _ _ _⟩

set_option maxHeartbeats 1000000 in
theorem sc_dflt (nm : List UInt8) (kd : Int) (nu : Bool) (k n b : Int) (s : List UInt8) (k' n' b' : Int) (s' : List UInt8) (r : Bool) (h : Vl.sm k n b s k' n' b' s' = r) (w : World) :
    Calls Tryd.prog 29 #[.agg #[.string ⟨nm.toArray⟩, .int .i64 kd, .bool nu, .int .i64 k, .int .i64 n, .int .u64 b, .string ⟨s.toArray⟩], .agg #[.string ⟨nm.toArray⟩, .int .i64 kd, .bool nu, .int .i64 k', .int .i64 n', .int .u64 b', .string ⟨s'.toArray⟩]] w fun e w' => e = .returned (.bool r) ∧ Below w.heap.size w w' := by
  go_enter Tryd.func29, Tryd.ntmps29
  go_wp2_with fail
  refine (same_is k n b s k' n' b' s' r _ h).mono ?_
  rintro e w1 ⟨rfl, hb⟩
  have B := Lib.hid (step1 (below1 w _) hb)
  clear hb
  go_wp2
  go_ret
  exact ⟨rfl, B.out⟩

theorem sameCol_is (x y : C) (r : Bool) (w : World) (h : C.sm x y = r) :
    Calls Tryd.prog 29 #[.agg #[.string ⟨x.name.toArray⟩, .int .i64 x.kind, .bool x.null, .int .i64 x.d.k, .int .i64 x.d.n, .int .u64 x.d.b, .string ⟨x.d.s.toArray⟩], .agg #[.string ⟨y.name.toArray⟩, .int .i64 y.kind, .bool y.null, .int .i64 y.d.k, .int .i64 y.d.n, .int .u64 y.d.b, .string ⟨y.d.s.toArray⟩]] w fun e w' => e = .returned (.bool r) ∧ Below w.heap.size w w' := by
  subst h
  obtain ⟨nm, kd, nu, ⟨k, n, b, s⟩⟩ := x
  obtain ⟨nm', kd', nu', ⟨k', n', b', s'⟩⟩ := y
  by_cases h1 : nm = nm'
  · by_cases h2 : kd = kd'
    · by_cases h3 : nu = nu'
      · subst h1 h2 h3
        exact sc_dflt nm kd nu k n b s k' n' b' s' _ (by unfold C.sm; simp) w
      · have e : C.sm ⟨nm, kd, nu, ⟨k, n, b, s⟩⟩ ⟨nm', kd', nu', ⟨k', n', b', s'⟩⟩ = false := by unfold C.sm; simp [h3]
        rw [e]; subst h1 h2
        exact sc_null nm kd nu k n b s nu' k' n' b' s' (by simpa using h3) w
    · have e : C.sm ⟨nm, kd, nu, ⟨k, n, b, s⟩⟩ ⟨nm', kd', nu', ⟨k', n', b', s'⟩⟩ = false := by unfold C.sm; simp [h2]
      rw [e]; subst h1
      exact sc_kind nm kd nu k n b s kd' nu' k' n' b' s' (by simpa using h2) w
  · have e : C.sm ⟨nm, kd, nu, ⟨k, n, b, s⟩⟩ ⟨nm', kd', nu', ⟨k', n', b', s'⟩⟩ = false := by unfold C.sm; simp [h1]
    rw [e]
    exact sc_name nm kd nu k n b s nm' kd' nu' k' n' b' s' (by simpa using h1) w

theorem csm_no {a b : List C} (j : Nat) (h : j < a.length) (h' : j < b.length) (hs : C.sm a[j] b[j] = false) : csm a b = false := by
  cases e : csm a b with
  | false => rfl
  | true =>
    have := (csm_iff a b).1 e
    subst this
    rw [(C.sm_iff _ _).2 rfl] at hs
    cases hs
theorem csm_yes {a b : List C} (hl : a.length = b.length) (h : ∀ (i : Nat), i < a.length → ∀ (h1 : i < a.length) (h2 : i < b.length), C.sm a[i] b[i] = true) : csm a b = true := (csm_at a b hl).2 fun j h1 h2 => h j h1 h1 h2
theorem sm_next {a b : List C} {j : Nat} (h : ∀ (i : Nat), i < j → ∀ (h1 : i < a.length) (h2 : i < b.length), C.sm a[i] b[i] = true) (hj : j < a.length) (hj' : j < b.length) (h0 : C.sm a[j] b[j] = true) :
    ∀ (i : Nat), i < j + 1 → ∀ (h1 : i < a.length) (h2 : i < b.length), C.sm a[i] b[i] = true := by
  intro i hi h1 h2
  by_cases e : i = j
  · subst e; exact h0
  · exact h i (by omega) h1 h2
set_option maxHeartbeats 4000000 in
theorem equalFunc_is (xs ys : List C) (ao bo : Option Addr) (ca cb : Nat) (w : World) (ha : SlC w ao xs) (hb : SlC w bo ys) (hl : xs.length ≤ 1000) (r : Bool) (hr : csm xs ys = r) :
    Calls Tryd.prog 28 #[.slice ao xs.length ca, .slice bo ys.length cb, .func (.func 29) #[] #[]] w fun e w' => e = .returned (.bool r) ∧ Below w.heap.size w w' := by
  subst hr
  have hmx : Tryd.prog.follows .mixedOrders = true := by kernel_rfl
  by_cases hne : xs.length = ys.length
  · have H := Lib.hid (And.intro ha (And.intro hb (And.intro hl hne)))
    have n1 : ((xs.length : Int) == (ys.length : Int)) = true := beq_t (by omega)
    have n2 : ((xs.length : Int) != (ys.length : Int)) = false := by simp [hne]
    have n3 : (xs.length != ys.length) = false := by simp [hne]
    clear ha hb hl hne
    go_enter Tryd.func28, Tryd.ntmps28
    go_wp2
    go_loopw [17] (fun i wr => ∃ j : Nat, i = .int .i64 j ∧ j ≤ xs.length ∧ (∀ (i : Nat), i < j → ∀ (h1 : i < xs.length) (h2 : i < ys.length), C.sm xs[i] ys[i] = true) ∧ Below w.heap.size w wr) (fun i _ => xs.length - (intOf i).toNat)
    case atStart => exact ⟨0, rfl, Nat.zero_le _, fun _ h => by omega, Below.refl _ _⟩
    case round =>
      obtain ⟨j, rfl, hj, hall, hbel⟩ := hrel
      have J := Lib.hid (And.intro hall hbel)
      clear hall hbel
      by_cases hlt : j < xs.length
      · have hlu : j < ys.length := by have := H.out.2.2.2; omega
        obtain ⟨a, rfl, a0, a1, a2, a3, a4, a5, a6⟩ := H.out.1.below J.out.2 j xs[j] (List.getElem?_eq_getElem hlt)
        obtain ⟨b, rfl, b0, b1, b2, b3, b4, b5, b6⟩ := (H.out.2.1.below J.out.2).below (below1 wr (.cells #[.string ⟨xs[j].name.toArray⟩, .int .i64 xs[j].kind, .bool xs[j].null, .int .i64 xs[j].d.k, .int .i64 xs[j].d.n, .int .u64 xs[j].d.b, .string ⟨xs[j].d.s.toArray⟩] 39)) j ys[j] (List.getElem?_eq_getElem hlu)
        have hw : wrap64 ((j : Int) + 1) = (j : Int) + 1 := by have := H.out.2.2.1; exact wrap_in _ (by omega) (by omega)
        cases hs : C.sm xs[j] ys[j] with
        | true =>
          have HE := Lib.hid hs
          clear hs
          go_wp2_with (go_at_call 29; refine (sameCol_is xs[j] ys[j] true _ HE.out).mono ?_; rintro e w1 ⟨rfl, hb1⟩; have K := Lib.hid (step0 ((J.out.2.alloc J.out.2.size _).alloc (J.out.2.alloc J.out.2.size _).size _) hb1); clear hb1)
          all_goals go_roundw
          all_goals first
            | exact ⟨j + 1, by go_num, hlt, sm_next J.out.1 hlt hlu HE.out, K.out⟩
            | (rw [hw]; simp [intOf]; omega)
        | false =>
          have HE := Lib.hid hs
          clear hs
          go_wp2_with (go_at_call 29; refine (sameCol_is xs[j] ys[j] false _ HE.out).mono ?_; rintro e w1 ⟨rfl, hb1⟩; have K := Lib.hid (step0 ((J.out.2.alloc J.out.2.size _).alloc (J.out.2.alloc J.out.2.size _).size _) hb1); clear hb1)
          all_goals go_ret
          all_goals exact ⟨ret_b (csm_no j hlt hlu HE.out).symm, K.out⟩
      · obtain rfl : j = xs.length := by omega
        have HN := Lib.hid (csm_yes H.out.2.2.2 J.out.1)
        go_wp2
        go_ret
        exact ⟨ret_b HN.out.symm, J.out.2⟩
  · have n2 : ((xs.length : Int) != (ys.length : Int)) = true := bne_t (by omega)
    have n3 : (xs.length != ys.length) = true := by simpa using hne
    have HN := Lib.hid (show csm xs ys = false from by
      cases e : csm xs ys with
      | false => rfl
      | true => exact absurd (csm_len _ _ e) hne)
    clear ha hb hl hne
    go_enter Tryd.func28, Tryd.ntmps28
    go_wp2
    go_ret
    exact ⟨ret_b HN.out.symm, Below.refl _ _⟩

theorem tsame_is_name (nm : List UInt8) (ks : Int) (cs : List C) (nm' : List UInt8) (ks' : Int) (ds : List C) (ao bo : Option Addr) (ca cb : Nat) (w : World) (h : (nm == nm') = false) :
    Calls Tryd.prog 14 #[.agg #[.string ⟨nm.toArray⟩, .int .i64 ks, .slice ao cs.length ca], .agg #[.string ⟨nm'.toArray⟩, .int .i64 ks', .slice bo ds.length cb]] w fun e w' => e = .returned (.bool false) ∧ Below w.heap.size w w' := by
  go_enter Tryd.func14, Tryd.ntmps14
  go_wp2
  go_ret
  exact ⟨rfl, below2s _ _ _⟩
theorem tsame_is_keys (nm : List UInt8) (ks : Int) (cs : List C) (ks' : Int) (ds : List C) (ao bo : Option Addr) (ca cb : Nat) (w : World) (h : (ks == ks') = false) :
    Calls Tryd.prog 14 #[.agg #[.string ⟨nm.toArray⟩, .int .i64 ks, .slice ao cs.length ca], .agg #[.string ⟨nm.toArray⟩, .int .i64 ks', .slice bo ds.length cb]] w fun e w' => e = .returned (.bool false) ∧ Below w.heap.size w w' := by
  go_enter Tryd.func14, Tryd.ntmps14
  go_wp2
  go_ret
  exact ⟨rfl, below2s _ _ _⟩
theorem tsame_is_cols (nm : List UInt8) (ks : Int) (cs : List C) (ds : List C) (ao bo : Option Addr) (ca cb : Nat) (w : World) (ha : SlC w ao cs) (hb : SlC w bo ds) (hl : cs.length ≤ 1000) (r : Bool) (hr : csm cs ds = r) :
    Calls Tryd.prog 14 #[.agg #[.string ⟨nm.toArray⟩, .int .i64 ks, .slice ao cs.length ca], .agg #[.string ⟨nm.toArray⟩, .int .i64 ks, .slice bo ds.length cb]] w fun e w' => e = .returned (.bool r) ∧ Below w.heap.size w w' := by
  have H := Lib.hid (And.intro ha (And.intro hb (And.intro hl hr)))
  clear ha hb hl hr
  go_enter Tryd.func14, Tryd.ntmps14
  go_wp2_with fail
  refine (equalFunc_is cs ds ao bo ca cb _ (H.out.1.below (below2s _ _ _)) (H.out.2.1.below (below2s _ _ _)) H.out.2.2.1 r H.out.2.2.2).mono ?_
  rintro e w1 ⟨rfl, hb⟩
  have B := Lib.hid (step1 (below1 w _) hb)
  clear hb
  go_wp2
  go_ret
  exact ⟨rfl, B.out⟩
theorem tsame_is (t u : T) (ao bo : Option Addr) (ca cb : Nat) (w : World) (ha : SlC w ao t.cs) (hb : SlC w bo u.cs) (hl : t.cs.length ≤ 1000) (r : Bool) (hr : T.sm t u = r) :
    Calls Tryd.prog 14 #[.agg #[.string ⟨t.name.toArray⟩, .int .i64 t.keys, .slice ao t.cs.length ca], .agg #[.string ⟨u.name.toArray⟩, .int .i64 u.keys, .slice bo u.cs.length cb]] w fun e w' => e = .returned (.bool r) ∧ Below w.heap.size w w' := by
  subst hr
  obtain ⟨nm, ks, cs⟩ := t
  obtain ⟨nm', ks', ds⟩ := u
  by_cases h1 : nm = nm'
  · by_cases h2 : ks = ks'
    · subst h1 h2
      exact tsame_is_cols nm ks cs ds ao bo ca cb w ha hb hl _ (by unfold T.sm; simp)
    · have e : T.sm ⟨nm, ks, cs⟩ ⟨nm', ks', ds⟩ = false := by unfold T.sm; simp [h2]
      rw [e]; subst h1
      exact tsame_is_keys nm ks cs ks' ds ao bo ca cb w (by simpa using h2)
  · have e : T.sm ⟨nm, ks, cs⟩ ⟨nm', ks', ds⟩ = false := by unfold T.sm; simp [h1]
    rw [e]
    exact tsame_is_name nm ks cs nm' ks' ds ao bo ca cb w (by simpa using h1)

end Go.Proofs.YtakpieiafoappaaDoor
