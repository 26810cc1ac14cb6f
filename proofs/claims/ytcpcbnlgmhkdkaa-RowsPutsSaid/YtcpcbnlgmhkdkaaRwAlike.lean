/-
  What alike answers with each of its two likenesses, and what Same and Cmp of two rows answer. Conditions: the bounds named in each theorem.
-/
import Derived.Test.YtcpcbnlgmhkdkaaRwTwo
import Derived.Test.YtcpcbnlgmhkdkaaVlCmp
import Derived.Test.YtcpcbnlgmhkdkaaVlWorld
import Derived.BigQuiet
import Derived.Deep.QuietTactic
namespace Go.Proofs.Ytcpcbnlgmhkdkaa
open Go.RowKit

set_option maxHeartbeats 1000000 in
theorem same_is (k n b : Int) (s : List UInt8) (k' n' b' : Int) (s' : List UInt8) (r : Bool) (w : World) (h : Vl.sm k n b s k' n' b' s' = r) :
    Calls Try.prog 33 #[.agg #[.int .i64 k, .int .i64 n, .int .u64 b, .string ⟨(s : List UInt8).toArray⟩], .agg #[.int .i64 k', .int .i64 n', .int .u64 b', .string ⟨(s' : List UInt8).toArray⟩]] w fun e w' => e = .returned (.bool r) ∧ Below w.heap.size w w' := by
  have E : ∀ w, (Op.equalIn 10000 45 (.agg #[.int .i64 k, .int .i64 n, .int .u64 b, .string ⟨(s : List UInt8).toArray⟩]) (.agg #[.int .i64 k', .int .i64 n', .int .u64 b', .string ⟨(s' : List UInt8).toArray⟩])).run Try.prog w = .ok r w := fun w => by rw [eq24, h]
  clear h
  go_enter Try.func33, Try.ntmps33
  go_wp2
  go_ret
  exact ⟨rfl, below2s _ _ _⟩

set_option maxHeartbeats 1000000 in
theorem zc_is (k n b : Int) (s : List UInt8) (k' n' b' : Int) (s' : List UInt8) (r : Bool) (w : World) (hx : Rl.U b) (hy : Rl.U b') (h : (Vl.vc k n b s k' n' b' s' == 0) = r) :
    Calls Try.prog 34 #[.agg #[.int .i64 k, .int .i64 n, .int .u64 b, .string ⟨(s : List UInt8).toArray⟩], .agg #[.int .i64 k', .int .i64 n', .int .u64 b', .string ⟨(s' : List UInt8).toArray⟩]] w fun e w' => e = .returned (.bool r) ∧ Below w.heap.size w w' := by
  obtain ⟨c, hc⟩ : ∃ c, Vl.vc k n b s k' n' b' s' = c := ⟨_, rfl⟩
  rw [hc] at h
  have HC := Lib.hid (And.intro hc (And.intro hx hy))
  clear hc hx hy
  go_enter Try.func34, Try.ntmps34
  go_wp2_with fail
  refine (vcmp_is _ _ _ _ _ _ _ _ c _ HC.out.2.1 HC.out.2.2 HC.out.1).mono ?_
  rintro e w1 ⟨rfl, hb⟩
  have B := Lib.hid (old_2 hb)
  clear hb
  go_wp2
  go_ret
  exact ⟨rfl, B.out⟩

theorem two_at {W v : World} {a b : Addr} {x y : V} (h : Below W.heap.size W v) (hx : At W a x) (hy : At W b y) :
    Below W.heap.size W v ∧ v.cell? a = some (.int .i64 x.k) ∧ v.cell? ⟨a.block, a.off + 1, none⟩ = some (.int .i64 x.n) ∧ v.cell? ⟨a.block, a.off + 2, none⟩ = some (.int .u64 x.b) ∧ v.cell? ⟨a.block, a.off + 3, none⟩ = some (.string ⟨x.s.toArray⟩) ∧
      v.cell? b = some (.int .i64 y.k) ∧ v.cell? ⟨b.block, b.off + 1, none⟩ = some (.int .i64 y.n) ∧ v.cell? ⟨b.block, b.off + 2, none⟩ = some (.int .u64 y.b) ∧ v.cell? ⟨b.block, b.off + 3, none⟩ = some (.string ⟨y.s.toArray⟩) :=
  ⟨h, keep0 hx.1 h, keep0 hx.2.1 h, keep0 hx.2.2.1 h, keep0 hx.2.2.2 h, keep0 hy.1 h, keep0 hy.2.1 h, keep0 hy.2.2.1 h, keep0 hy.2.2.2 h⟩

set_option maxHeartbeats 4000000 in
theorem alike_s (xs ys : List V) (ao bo : Option Addr) (ca cb : Nat) (w : World) (hl : xs.length ≤ 30) (hm : ys.length ≤ 30) (ha : Sl w ao xs) (hb : Sl w bo ys) (oa : ∀ x ∈ xs, x.ok) (ob : ∀ x ∈ ys, x.ok) :
    Calls Try.prog 32 #[.slice ao xs.length ca, .slice bo ys.length cb, .func (.func 33) #[] #[]] w fun e w' => e = .returned (.int .i64 (al V.sm xs ys)) ∧ Below w.heap.size w w' := by
  have H := Lib.hid (And.intro ha (And.intro hb (And.intro hl (And.intro hm (And.intro oa ob)))))
  have hmx : Try.prog.follows .mixedOrders = true := by kernel_rfl
  clear ha hb hl hm oa ob
  go_enter Try.func32, Try.ntmps32
  go_wp2
  go_loopw [7] (fun i wr => ∃ j : Nat, i = .int .i64 j ∧ j ≤ xs.length ∧ j ≤ ys.length ∧ Below w.heap.size w wr ∧ al V.sm xs ys = j + al V.sm (xs.drop j) (ys.drop j)) (fun i _ => xs.length - (intOf i).toNat)
  case atStart => exact ⟨0, rfl, Nat.zero_le _, Nat.zero_le _, Below.refl _ _, by rw [Nat.zero_add]; rfl⟩
  case round =>
    obtain ⟨j, rfl, hj, hk, hbel, hal⟩ := hrel
    have J := Lib.hid (And.intro hbel (And.intro hal (And.intro hj hk)))
    clear hbel hal hj hk
    by_cases hlt : j < xs.length
    · have t1 : decide ((j : Int) < (xs.length : Int)) = true := by rw [decide_eq_true_iff]; omega
      have t2 : decide (j < xs.length) = true := by rw [decide_eq_true_iff]; omega
      by_cases hlu : j < ys.length
      · have t3 : decide ((j : Int) < (ys.length : Int)) = true := by rw [decide_eq_true_iff]; omega
        have t4 : decide (j < ys.length) = true := by rw [decide_eq_true_iff]; omega
        obtain ⟨a, rfl, sa⟩ := H.out.1.below J.out.1 j xs[j] (List.getElem?_eq_getElem hlt)
        obtain ⟨b, rfl, sb⟩ := H.out.2.1.below J.out.1 j ys[j] (List.getElem?_eq_getElem hlu)
        have S5 := Lib.hid (And.intro sa sb)
        have hw : wrap64 ((j : Int) + 1) = (j : Int) + 1 := by have := H.out.2.2.1; exact wrap_in _ (by omega) (by omega)
        have o1 := Lib.hid (H.out.2.2.2.2.1 _ (List.getElem_mem hlt))
        have o2 := Lib.hid (H.out.2.2.2.2.2 _ (List.getElem_mem hlu))
        clear sa sb
        by_cases hs : V.sm xs[j] ys[j] = true
        · have HE := Lib.hid hs
          have HN := Lib.hid (al_drop V.sm hlt hlu hs)
          clear hs
          go_wp2_with fail
          go_region_held3 (fun v => Below wr.heap.size wr v ∧ v.cell? (a.add (j * 4)) = some (.int .i64 xs[j].k) ∧ v.cell? ⟨(a.add (j * 4)).block, (a.add (j * 4)).off + 1, none⟩ = some (.int .i64 xs[j].n) ∧ v.cell? ⟨(a.add (j * 4)).block, (a.add (j * 4)).off + 2, none⟩ = some (.int .u64 xs[j].b) ∧ v.cell? ⟨(a.add (j * 4)).block, (a.add (j * 4)).off + 3, none⟩ = some (.string ⟨xs[j].s.toArray⟩) ∧
              v.cell? (b.add (j * 4)) = some (.int .i64 ys[j].k) ∧ v.cell? ⟨(b.add (j * 4)).block, (b.add (j * 4)).off + 1, none⟩ = some (.int .i64 ys[j].n) ∧ v.cell? ⟨(b.add (j * 4)).block, (b.add (j * 4)).off + 2, none⟩ = some (.int .u64 ys[j].b) ∧ v.cell? ⟨(b.add (j * 4)).block, (b.add (j * 4)).off + 3, none⟩ = some (.string ⟨ys[j].s.toArray⟩)) (first | exact two_at (Below.refl _ _).drew S5.out.1 S5.out.2 | exact two_at (step0 ‹Below _ _ _ ∧ _›.1 hb) S5.out.1 S5.out.2)
            (first | (go_at_call 33; refine (same_is _ _ _ _ _ _ _ _ true _ HE.out).mono ?_; rintro e w6 ⟨rfl, hb⟩))
          have A6 := Lib.hid (step0 J.out.1 (show Below wr.heap.size wr w6 from ‹Below wr.heap.size wr w6 ∧ _›.1))
          go_wp2
          go_roundw
          case rel => exact ⟨j + 1, by go_num, hlt, hlu, A6.out, by have h5 := J.out.2.1; have h6 := HN.out; omega⟩
          case measure => rw [hw]; simp [intOf]; omega
        · have hs2 : V.sm xs[j] ys[j] = false := by simpa using hs
          have HE := Lib.hid hs2
          have HN := Lib.hid (show al V.sm xs ys = j from by rw [J.out.2.1, al_stop V.sm hlt hlu hs2, Nat.add_zero])
          clear hs hs2
          go_wp2_with fail
          go_region_held3 (fun v => Below wr.heap.size wr v ∧ v.cell? (a.add (j * 4)) = some (.int .i64 xs[j].k) ∧ v.cell? ⟨(a.add (j * 4)).block, (a.add (j * 4)).off + 1, none⟩ = some (.int .i64 xs[j].n) ∧ v.cell? ⟨(a.add (j * 4)).block, (a.add (j * 4)).off + 2, none⟩ = some (.int .u64 xs[j].b) ∧ v.cell? ⟨(a.add (j * 4)).block, (a.add (j * 4)).off + 3, none⟩ = some (.string ⟨xs[j].s.toArray⟩) ∧
              v.cell? (b.add (j * 4)) = some (.int .i64 ys[j].k) ∧ v.cell? ⟨(b.add (j * 4)).block, (b.add (j * 4)).off + 1, none⟩ = some (.int .i64 ys[j].n) ∧ v.cell? ⟨(b.add (j * 4)).block, (b.add (j * 4)).off + 2, none⟩ = some (.int .u64 ys[j].b) ∧ v.cell? ⟨(b.add (j * 4)).block, (b.add (j * 4)).off + 3, none⟩ = some (.string ⟨ys[j].s.toArray⟩)) (first | exact two_at (Below.refl _ _).drew S5.out.1 S5.out.2 | exact two_at (step0 ‹Below _ _ _ ∧ _›.1 hb) S5.out.1 S5.out.2)
            (first | (go_at_call 33; refine (same_is _ _ _ _ _ _ _ _ false _ HE.out).mono ?_; rintro e w6 ⟨rfl, hb⟩))
          have A6 := Lib.hid (step0 J.out.1 (show Below wr.heap.size wr w6 from ‹Below wr.heap.size wr w6 ∧ _›.1))
          go_wp2
          go_ret
          exact ⟨ret_int (by rw [HN.out]), A6.out⟩
      · have t3 : decide ((j : Int) < (ys.length : Int)) = false := by rw [decide_eq_false_iff_not]; omega
        have t4 : decide (j < ys.length) = false := by rw [decide_eq_false_iff_not]; omega
        have HN := Lib.hid (show al V.sm xs ys = j from by rw [J.out.2.1, al_end V.sm (.inr hlu), Nat.add_zero])
        clear hlt hlu
        go_wp2_with fail
        go_quiet (fail)
        go_wp2
        go_ret
        exact ⟨ret_int (by rw [HN.out]), below_drewV _ J.out.1⟩
    · have t1 : decide ((j : Int) < (xs.length : Int)) = false := by rw [decide_eq_false_iff_not]; omega
      have t2 : decide (j < xs.length) = false := by rw [decide_eq_false_iff_not]; omega
      have HN := Lib.hid (show al V.sm xs ys = j from by rw [J.out.2.1, al_end V.sm (.inl hlt), Nat.add_zero])
      clear hlt
      go_wp2_with fail
      go_quiet (fail)
      go_wp2
      go_ret
      exact ⟨ret_int (by rw [HN.out]), below_drewV _ J.out.1⟩

set_option maxHeartbeats 4000000 in
theorem alike_z (xs ys : List V) (ao bo : Option Addr) (ca cb : Nat) (w : World) (hl : xs.length ≤ 30) (hm : ys.length ≤ 30) (ha : Sl w ao xs) (hb : Sl w bo ys) (oa : ∀ x ∈ xs, x.ok) (ob : ∀ x ∈ ys, x.ok) :
    Calls Try.prog 32 #[.slice ao xs.length ca, .slice bo ys.length cb, .func (.func 34) #[] #[]] w fun e w' => e = .returned (.int .i64 (al V.z xs ys)) ∧ Below w.heap.size w w' := by
  have H := Lib.hid (And.intro ha (And.intro hb (And.intro hl (And.intro hm (And.intro oa ob)))))
  have hmx : Try.prog.follows .mixedOrders = true := by kernel_rfl
  clear ha hb hl hm oa ob
  go_enter Try.func32, Try.ntmps32
  go_wp2
  go_loopw [7] (fun i wr => ∃ j : Nat, i = .int .i64 j ∧ j ≤ xs.length ∧ j ≤ ys.length ∧ Below w.heap.size w wr ∧ al V.z xs ys = j + al V.z (xs.drop j) (ys.drop j)) (fun i _ => xs.length - (intOf i).toNat)
  case atStart => exact ⟨0, rfl, Nat.zero_le _, Nat.zero_le _, Below.refl _ _, by rw [Nat.zero_add]; rfl⟩
  case round =>
    obtain ⟨j, rfl, hj, hk, hbel, hal⟩ := hrel
    have J := Lib.hid (And.intro hbel (And.intro hal (And.intro hj hk)))
    clear hbel hal hj hk
    by_cases hlt : j < xs.length
    · have t1 : decide ((j : Int) < (xs.length : Int)) = true := by rw [decide_eq_true_iff]; omega
      have t2 : decide (j < xs.length) = true := by rw [decide_eq_true_iff]; omega
      by_cases hlu : j < ys.length
      · have t3 : decide ((j : Int) < (ys.length : Int)) = true := by rw [decide_eq_true_iff]; omega
        have t4 : decide (j < ys.length) = true := by rw [decide_eq_true_iff]; omega
        obtain ⟨a, rfl, sa⟩ := H.out.1.below J.out.1 j xs[j] (List.getElem?_eq_getElem hlt)
        obtain ⟨b, rfl, sb⟩ := H.out.2.1.below J.out.1 j ys[j] (List.getElem?_eq_getElem hlu)
        have S5 := Lib.hid (And.intro sa sb)
        have hw : wrap64 ((j : Int) + 1) = (j : Int) + 1 := by have := H.out.2.2.1; exact wrap_in _ (by omega) (by omega)
        have o1 := Lib.hid (H.out.2.2.2.2.1 _ (List.getElem_mem hlt))
        have o2 := Lib.hid (H.out.2.2.2.2.2 _ (List.getElem_mem hlu))
        clear sa sb
        by_cases hs : V.z xs[j] ys[j] = true
        · have HE := Lib.hid hs
          have HN := Lib.hid (al_drop V.z hlt hlu hs)
          clear hs
          go_wp2_with fail
          go_region_held3 (fun v => Below wr.heap.size wr v ∧ v.cell? (a.add (j * 4)) = some (.int .i64 xs[j].k) ∧ v.cell? ⟨(a.add (j * 4)).block, (a.add (j * 4)).off + 1, none⟩ = some (.int .i64 xs[j].n) ∧ v.cell? ⟨(a.add (j * 4)).block, (a.add (j * 4)).off + 2, none⟩ = some (.int .u64 xs[j].b) ∧ v.cell? ⟨(a.add (j * 4)).block, (a.add (j * 4)).off + 3, none⟩ = some (.string ⟨xs[j].s.toArray⟩) ∧
              v.cell? (b.add (j * 4)) = some (.int .i64 ys[j].k) ∧ v.cell? ⟨(b.add (j * 4)).block, (b.add (j * 4)).off + 1, none⟩ = some (.int .i64 ys[j].n) ∧ v.cell? ⟨(b.add (j * 4)).block, (b.add (j * 4)).off + 2, none⟩ = some (.int .u64 ys[j].b) ∧ v.cell? ⟨(b.add (j * 4)).block, (b.add (j * 4)).off + 3, none⟩ = some (.string ⟨ys[j].s.toArray⟩)) (first | exact two_at (Below.refl _ _).drew S5.out.1 S5.out.2 | exact two_at (step0 ‹Below _ _ _ ∧ _›.1 hb) S5.out.1 S5.out.2)
            (first | (go_at_call 34; refine (zc_is _ _ _ _ _ _ _ _ true _ o1.out.1 o2.out.1 HE.out).mono ?_; rintro e w6 ⟨rfl, hb⟩))
          have A6 := Lib.hid (step0 J.out.1 (show Below wr.heap.size wr w6 from ‹Below wr.heap.size wr w6 ∧ _›.1))
          go_wp2
          go_roundw
          case rel => exact ⟨j + 1, by go_num, hlt, hlu, A6.out, by have h5 := J.out.2.1; have h6 := HN.out; omega⟩
          case measure => rw [hw]; simp [intOf]; omega
        · have hs2 : V.z xs[j] ys[j] = false := by simpa using hs
          have HE := Lib.hid hs2
          have HN := Lib.hid (show al V.z xs ys = j from by rw [J.out.2.1, al_stop V.z hlt hlu hs2, Nat.add_zero])
          clear hs hs2
          go_wp2_with fail
          go_region_held3 (fun v => Below wr.heap.size wr v ∧ v.cell? (a.add (j * 4)) = some (.int .i64 xs[j].k) ∧ v.cell? ⟨(a.add (j * 4)).block, (a.add (j * 4)).off + 1, none⟩ = some (.int .i64 xs[j].n) ∧ v.cell? ⟨(a.add (j * 4)).block, (a.add (j * 4)).off + 2, none⟩ = some (.int .u64 xs[j].b) ∧ v.cell? ⟨(a.add (j * 4)).block, (a.add (j * 4)).off + 3, none⟩ = some (.string ⟨xs[j].s.toArray⟩) ∧
              v.cell? (b.add (j * 4)) = some (.int .i64 ys[j].k) ∧ v.cell? ⟨(b.add (j * 4)).block, (b.add (j * 4)).off + 1, none⟩ = some (.int .i64 ys[j].n) ∧ v.cell? ⟨(b.add (j * 4)).block, (b.add (j * 4)).off + 2, none⟩ = some (.int .u64 ys[j].b) ∧ v.cell? ⟨(b.add (j * 4)).block, (b.add (j * 4)).off + 3, none⟩ = some (.string ⟨ys[j].s.toArray⟩)) (first | exact two_at (Below.refl _ _).drew S5.out.1 S5.out.2 | exact two_at (step0 ‹Below _ _ _ ∧ _›.1 hb) S5.out.1 S5.out.2)
            (first | (go_at_call 34; refine (zc_is _ _ _ _ _ _ _ _ false _ o1.out.1 o2.out.1 HE.out).mono ?_; rintro e w6 ⟨rfl, hb⟩))
          have A6 := Lib.hid (step0 J.out.1 (show Below wr.heap.size wr w6 from ‹Below wr.heap.size wr w6 ∧ _›.1))
          go_wp2
          go_ret
          exact ⟨ret_int (by rw [HN.out]), A6.out⟩
      · have t3 : decide ((j : Int) < (ys.length : Int)) = false := by rw [decide_eq_false_iff_not]; omega
        have t4 : decide (j < ys.length) = false := by rw [decide_eq_false_iff_not]; omega
        have HN := Lib.hid (show al V.z xs ys = j from by rw [J.out.2.1, al_end V.z (.inr hlu), Nat.add_zero])
        clear hlt hlu
        go_wp2_with fail
        go_quiet (fail)
        go_wp2
        go_ret
        exact ⟨ret_int (by rw [HN.out]), below_drewV _ J.out.1⟩
    · have t1 : decide ((j : Int) < (xs.length : Int)) = false := by rw [decide_eq_false_iff_not]; omega
      have t2 : decide (j < xs.length) = false := by rw [decide_eq_false_iff_not]; omega
      have HN := Lib.hid (show al V.z xs ys = j from by rw [J.out.2.1, al_end V.z (.inl hlt), Nat.add_zero])
      clear hlt
      go_wp2_with fail
      go_quiet (fail)
      go_wp2
      go_ret
      exact ⟨ret_int (by rw [HN.out]), below_drewV _ J.out.1⟩

theorem rsame_eq (xs ys : List V) (h : xs.length = ys.length) : ((al V.sm xs ys : Int) == (xs.length : Int)) = rs xs ys := by
  have := rs_al xs ys h
  rw [Bool.eq_iff_iff, beq_iff_eq]
  constructor
  · intro g; exact this.1 (by omega)
  · intro g; have := this.2 g; omega

set_option maxHeartbeats 1000000 in
theorem rowsSame_is (xs ys : List V) (r : Bool) (ao bo : Option Addr) (ca cb : Nat) (w : World) (hl : xs.length ≤ 30) (hm : ys.length ≤ 30) (ha : Sl w ao xs) (hb : Sl w bo ys) (oa : ∀ x ∈ xs, x.ok) (ob : ∀ x ∈ ys, x.ok) (h : rs xs ys = r) :
    Calls Try.prog 15 #[.slice ao xs.length ca, .slice bo ys.length cb] w fun e w' => e = .returned (.bool r) ∧ Below w.heap.size w w' := by
  have H := Lib.hid (And.intro ha (And.intro hb (And.intro hl (And.intro hm (And.intro oa ob)))))
  clear ha hb hl hm oa ob
  by_cases hne : xs.length = ys.length
  · have n1 : ((xs.length : Int) == (ys.length : Int)) = true := beq_t (by omega)
    have n3 : decide (xs.length = ys.length) = true := by rw [decide_eq_true_iff]; exact hne
    obtain ⟨A, hA⟩ : ∃ A, al V.sm xs ys = A := ⟨_, rfl⟩
    have n2 := (rsame_eq xs ys hne).trans h
    rw [hA] at n2
    have HA := Lib.hid hA
    clear hA hne h
    go_enter Try.func15, Try.ntmps15
    go_wp2_with fail
    refine (alike_s xs ys ao bo ca cb _ H.out.2.2.1 H.out.2.2.2.1 H.out.1 H.out.2.1 H.out.2.2.2.2.1 H.out.2.2.2.2.2).mono ?_
    rintro e w1 ⟨rfl, hb⟩
    have B := Lib.hid hb
    clear hb
    rw [HA.out]
    go_wp2
    go_ret
    exact ⟨rfl, B.out⟩
  · have hf : rs xs ys = false := by
      cases g : rs xs ys with
      | false => rfl
      | true => exact absurd (rs_len xs ys g) hne
    rw [hf] at h
    subst h
    have n1 : ((xs.length : Int) == (ys.length : Int)) = false := beq_f (by omega)
    have n3 : decide (xs.length = ys.length) = false := by rw [decide_eq_false_iff_not]; exact hne
    clear hf
    go_enter Try.func15, Try.ntmps15
    go_wp2
    go_ret
    exact ⟨rfl, Below.refl _ _⟩

set_option maxHeartbeats 2000000 in
theorem rowsCmp_is (xs ys : List V) (c : Int) (ao bo : Option Addr) (ca cb : Nat) (w : World) (hl : xs.length ≤ 30) (hm : ys.length ≤ 30) (ha : Sl w ao xs) (hb : Sl w bo ys) (oa : ∀ x ∈ xs, x.ok) (ob : ∀ x ∈ ys, x.ok) (h : rc xs ys = c) :
    Calls Try.prog 16 #[.slice ao xs.length ca, .slice bo ys.length cb] w fun e w' => e = .returned (.int .i64 c) ∧ Below w.heap.size w w' := by
  have H := Lib.hid (And.intro ha (And.intro hb (And.intro hl (And.intro hm (And.intro oa ob)))))
  have hmx : Try.prog.follows .mixedOrders = true := by kernel_rfl
  clear ha hb hl hm oa ob
  have hle := al_le V.z xs ys
  obtain ⟨A, hA⟩ : ∃ A, al V.z xs ys = A := ⟨_, rfl⟩
  by_cases h1 : A = xs.length
  · have HR := Lib.hid (show Vl.ic xs.length ys.length = c from by rw [← rc_al xs ys (.inl (by rw [hA, h1])), h])
    have n1 : ((A : Int) == (xs.length : Int)) = true := beq_t (by omega)
    have n3 : decide (A = xs.length) = true := by rw [decide_eq_true_iff]; exact h1
    have HA := Lib.hid hA
    clear hA h h1 hle
    go_enter Try.func16, Try.ntmps16
    go_wp2_with fail
    refine (alike_z xs ys ao bo ca cb _ H.out.2.2.1 H.out.2.2.2.1 H.out.1 H.out.2.1 H.out.2.2.2.2.1 H.out.2.2.2.2.2).mono ?_
    rintro e w1 ⟨rfl, hb⟩
    have B := Lib.hid hb
    clear hb
    rw [HA.out]
    go_wp2_with fail
    refine (compareInt_any _ _ _).mono ?_
    rintro e w' ⟨rfl, rfl⟩
    go_wp2
    go_ret
    exact ⟨ret_int HR.out, B.out⟩
  · by_cases h2 : A = ys.length
    · have HR := Lib.hid (show Vl.ic xs.length ys.length = c from by rw [← rc_al xs ys (.inr (by rw [hA, h2])), h])
      have n1 : ((A : Int) == (xs.length : Int)) = false := beq_f (by omega)
      have n3 : decide (A = xs.length) = false := by rw [decide_eq_false_iff_not]; exact h1
      have n4 : ((A : Int) == (ys.length : Int)) = true := beq_t (by omega)
      have n5 : decide (A = ys.length) = true := by rw [decide_eq_true_iff]; exact h2
      have HA := Lib.hid hA
      clear hA h h1 h2 hle
      go_enter Try.func16, Try.ntmps16
      go_wp2_with fail
      refine (alike_z xs ys ao bo ca cb _ H.out.2.2.1 H.out.2.2.2.1 H.out.1 H.out.2.1 H.out.2.2.2.2.1 H.out.2.2.2.2.2).mono ?_
      rintro e w1 ⟨rfl, hb⟩
      have B := Lib.hid hb
      clear hb
      rw [HA.out]
      go_wp2_with fail
      refine (compareInt_any _ _ _).mono ?_
      rintro e w' ⟨rfl, rfl⟩
      go_wp2
      go_ret
      exact ⟨ret_int HR.out, B.out⟩
    · have hlt : A < xs.length := by omega
      have hlu : A < ys.length := by omega
      have HR := Lib.hid (show (xs[A]).vc (ys[A]) = c from by subst hA; rw [← rc_at xs ys hlt hlu, h])
      have n1 : ((A : Int) == (xs.length : Int)) = false := beq_f (by omega)
      have n3 : decide (A = xs.length) = false := by rw [decide_eq_false_iff_not]; exact h1
      have n4 : ((A : Int) == (ys.length : Int)) = false := beq_f (by omega)
      have n5 : decide (A = ys.length) = false := by rw [decide_eq_false_iff_not]; exact h2
      have HA := Lib.hid hA
      have o1 := Lib.hid (H.out.2.2.2.2.1 _ (List.getElem_mem hlt))
      have o2 := Lib.hid (H.out.2.2.2.2.2 _ (List.getElem_mem hlu))
      clear hA h h1 h2 hle
      go_enter Try.func16, Try.ntmps16
      go_wp2_with fail
      refine (alike_z xs ys ao bo ca cb _ H.out.2.2.1 H.out.2.2.2.1 H.out.1 H.out.2.1 H.out.2.2.2.2.1 H.out.2.2.2.2.2).mono ?_
      rintro e w1 ⟨rfl, hb⟩
      have B := Lib.hid hb
      clear hb
      rw [HA.out]
      obtain ⟨a, rfl, a0, a1, a2, a3⟩ := H.out.1.below B.out A xs[A] (List.getElem?_eq_getElem hlt)
      obtain ⟨b, rfl, b0, b1, b2, b3⟩ := H.out.2.1.below B.out A ys[A] (List.getElem?_eq_getElem hlu)
      go_wp2
      go_region_with (go_at_call 35; refine (vcmp_is _ _ _ _ _ _ _ _ c _ o1.out.1 o2.out.1 HR.out).mono ?_; rintro e w2 ⟨rfl, hb1⟩; have K := Lib.hid (step0 (below_drew1 B.out) hb1); clear hb1)
      all_goals go_wp2
      all_goals go_ret
      all_goals exact ⟨rfl, K.out⟩

end Go.Proofs.Ytcpcbnlgmhkdkaa
