/-
  Which rows and keys fit a table: fit, fitFirst, Fits, FitsKey, Key, and the document's fits, Fits, FitsKey, Key. Conditions: a table in memory, rows of 30 values at most that keep a value's bounds.
-/
import Derived.Test.YtakpieiafoappaaDoorScCheck
import Derived.Test.YtakpieiafoappaaDoorKcRefPut
namespace Go.Proofs.YtakpieiafoappaaDoor
open Go.RowKit

theorem Sl.take {W : World} {ao : Option Addr} {xs : List V} (h : Sl W ao xs) (k : Nat) : Sl W ao (xs.take k) := by
  intro i c hi
  refine h i c ?_
  rw [List.getElem?_take] at hi
  split at hi
  · exact hi
  · cases hi

set_option maxHeartbeats 1000000 in
theorem fit_val (nm : List UInt8) (kd : Int) (nu : Bool) (k0 n0 b0 : Int) (s0 : List UInt8) (k n b : Int) (s : List UInt8) (hU : Rl.U b) (E : Int) (h3 : Vl.ck k n b s = E) (hE : ¬ E = 0) (w : World) :
    Calls Tryd.prog 42 #[.agg #[.string ⟨nm.toArray⟩, .int .i64 kd, .bool nu, .int .i64 k0, .int .i64 n0, .int .u64 b0, .string ⟨s0.toArray⟩], .agg #[.int .i64 k, .int .i64 n, .int .u64 b, .string ⟨s.toArray⟩]] w fun e w' => e = .returned (.int .i64 E) ∧ Below w.heap.size w w' := by
  go_enter Tryd.func42, Tryd.ntmps42
  go_wp2_with fail
  refine (check_is k n b _ s _ hU h3).mono ?_
  rintro e w2 ⟨rfl, hb2⟩
  have g := ((Blk.new w #[.string ⟨nm.toArray⟩, .int .i64 kd, .bool nu, .int .i64 k0, .int .i64 n0, .int .u64 b0, .string ⟨s0.toArray⟩] 39).alloc (.cells #[.int .i64 k, .int .i64 n, .int .u64 b, .string ⟨s.toArray⟩] 37)).below hb2
  have g' := (Blk.new (w.alloc (.cells #[.string ⟨nm.toArray⟩, .int .i64 kd, .bool nu, .int .i64 k0, .int .i64 n0, .int .u64 b0, .string ⟨s0.toArray⟩] 39)) #[.int .i64 k, .int .i64 n, .int .u64 b, .string ⟨s.toArray⟩] 37).below hb2
  have c1 : w2.cell? ⟨w.heap.size, 1, none⟩ = some (.int .i64 kd) := g.cell 1
  have c2 : w2.cell? ⟨w.heap.size, 2, none⟩ = some (.bool nu) := g.cell 2
  have d0 : w2.cell? ⟨w.heap.size + 1, 0, none⟩ = some (.int .i64 k) := by have := g'.cell 0; simpa using this
  have HB := Lib.hid (step1 (below1 w _) hb2)
  clear hb2 g g'
  go_wp2
  go_ret
  exact ⟨rfl, HB.out⟩

set_option maxHeartbeats 1000000 in
theorem fit_nn (nm : List UInt8) (kd : Int) (nu : Bool) (k0 n0 b0 : Int) (s0 : List UInt8) (k n b : Int) (s : List UInt8) (hU : Rl.U b) (h3 : Vl.ck k n b s = 0) (h4 : k = 0) (h5 : nu = true) (w : World) :
    Calls Tryd.prog 42 #[.agg #[.string ⟨nm.toArray⟩, .int .i64 kd, .bool nu, .int .i64 k0, .int .i64 n0, .int .u64 b0, .string ⟨s0.toArray⟩], .agg #[.int .i64 k, .int .i64 n, .int .u64 b, .string ⟨s.toArray⟩]] w fun e w' => e = .returned (.int .i64 0) ∧ Below w.heap.size w w' := by
  subst h4 h5
  go_enter Tryd.func42, Tryd.ntmps42
  go_wp2_with fail
  refine (check_is 0 n b _ s _ hU h3).mono ?_
  rintro e w2 ⟨rfl, hb2⟩
  have g := ((Blk.new w #[.string ⟨nm.toArray⟩, .int .i64 kd, .bool true, .int .i64 k0, .int .i64 n0, .int .u64 b0, .string ⟨s0.toArray⟩] 39).alloc (.cells #[.int .i64 0, .int .i64 n, .int .u64 b, .string ⟨s.toArray⟩] 37)).below hb2
  have g' := (Blk.new (w.alloc (.cells #[.string ⟨nm.toArray⟩, .int .i64 kd, .bool true, .int .i64 k0, .int .i64 n0, .int .u64 b0, .string ⟨s0.toArray⟩] 39)) #[.int .i64 0, .int .i64 n, .int .u64 b, .string ⟨s.toArray⟩] 37).below hb2
  have c1 : w2.cell? ⟨w.heap.size, 1, none⟩ = some (.int .i64 kd) := g.cell 1
  have c2 : w2.cell? ⟨w.heap.size, 2, none⟩ = some (.bool true) := g.cell 2
  have d0 : w2.cell? ⟨w.heap.size + 1, 0, none⟩ = some (.int .i64 0) := by have := g'.cell 0; simpa using this
  have HB := Lib.hid (step1 (below1 w _) hb2)
  clear hb2 g g'
  go_wp2
  go_ret
  exact ⟨rfl, HB.out⟩

set_option maxHeartbeats 1000000 in
theorem fit_n0 (nm : List UInt8) (kd : Int) (nu : Bool) (k0 n0 b0 : Int) (s0 : List UInt8) (k n b : Int) (s : List UInt8) (hU : Rl.U b) (h3 : Vl.ck k n b s = 0) (h4 : k = 0) (h5 : nu = false) (h6 : kd = 0) (w : World) :
    Calls Tryd.prog 42 #[.agg #[.string ⟨nm.toArray⟩, .int .i64 kd, .bool nu, .int .i64 k0, .int .i64 n0, .int .u64 b0, .string ⟨s0.toArray⟩], .agg #[.int .i64 k, .int .i64 n, .int .u64 b, .string ⟨s.toArray⟩]] w fun e w' => e = .returned (.int .i64 0) ∧ Below w.heap.size w w' := by
  subst h4 h5 h6
  go_enter Tryd.func42, Tryd.ntmps42
  go_wp2_with fail
  refine (check_is 0 n b _ s _ hU h3).mono ?_
  rintro e w2 ⟨rfl, hb2⟩
  have g := ((Blk.new w #[.string ⟨nm.toArray⟩, .int .i64 0, .bool false, .int .i64 k0, .int .i64 n0, .int .u64 b0, .string ⟨s0.toArray⟩] 39).alloc (.cells #[.int .i64 0, .int .i64 n, .int .u64 b, .string ⟨s.toArray⟩] 37)).below hb2
  have g' := (Blk.new (w.alloc (.cells #[.string ⟨nm.toArray⟩, .int .i64 0, .bool false, .int .i64 k0, .int .i64 n0, .int .u64 b0, .string ⟨s0.toArray⟩] 39)) #[.int .i64 0, .int .i64 n, .int .u64 b, .string ⟨s.toArray⟩] 37).below hb2
  have c1 : w2.cell? ⟨w.heap.size, 1, none⟩ = some (.int .i64 0) := g.cell 1
  have c2 : w2.cell? ⟨w.heap.size, 2, none⟩ = some (.bool false) := g.cell 2
  have d0 : w2.cell? ⟨w.heap.size + 1, 0, none⟩ = some (.int .i64 0) := by have := g'.cell 0; simpa using this
  have HB := Lib.hid (step1 (below1 w _) hb2)
  clear hb2 g g'
  go_wp2
  go_ret
  exact ⟨rfl, HB.out⟩

set_option maxHeartbeats 1000000 in
theorem fit_nx (nm : List UInt8) (kd : Int) (nu : Bool) (k0 n0 b0 : Int) (s0 : List UInt8) (k n b : Int) (s : List UInt8) (hU : Rl.U b) (h3 : Vl.ck k n b s = 0) (h4 : k = 0) (h5 : nu = false) (h6 : kd ≠ 0) (w : World) :
    Calls Tryd.prog 42 #[.agg #[.string ⟨nm.toArray⟩, .int .i64 kd, .bool nu, .int .i64 k0, .int .i64 n0, .int .u64 b0, .string ⟨s0.toArray⟩], .agg #[.int .i64 k, .int .i64 n, .int .u64 b, .string ⟨s.toArray⟩]] w fun e w' => e = .returned (.int .i64 11) ∧ Below w.heap.size w w' := by
  have q1 : ((0 : Int) == kd) = false := beq_f (fun e => h6 e.symm)
  clear h6
  subst h4 h5
  go_enter Tryd.func42, Tryd.ntmps42
  go_wp2_with fail
  refine (check_is 0 n b _ s _ hU h3).mono ?_
  rintro e w2 ⟨rfl, hb2⟩
  have g := ((Blk.new w #[.string ⟨nm.toArray⟩, .int .i64 kd, .bool false, .int .i64 k0, .int .i64 n0, .int .u64 b0, .string ⟨s0.toArray⟩] 39).alloc (.cells #[.int .i64 0, .int .i64 n, .int .u64 b, .string ⟨s.toArray⟩] 37)).below hb2
  have g' := (Blk.new (w.alloc (.cells #[.string ⟨nm.toArray⟩, .int .i64 kd, .bool false, .int .i64 k0, .int .i64 n0, .int .u64 b0, .string ⟨s0.toArray⟩] 39)) #[.int .i64 0, .int .i64 n, .int .u64 b, .string ⟨s.toArray⟩] 37).below hb2
  have c1 : w2.cell? ⟨w.heap.size, 1, none⟩ = some (.int .i64 kd) := g.cell 1
  have c2 : w2.cell? ⟨w.heap.size, 2, none⟩ = some (.bool false) := g.cell 2
  have d0 : w2.cell? ⟨w.heap.size + 1, 0, none⟩ = some (.int .i64 0) := by have := g'.cell 0; simpa using this
  have HB := Lib.hid (step1 (below1 w _) hb2)
  clear hb2 g g'
  go_wp2
  go_ret
  exact ⟨rfl, HB.out⟩

set_option maxHeartbeats 1000000 in
theorem fit_kk (nm : List UInt8) (kd : Int) (nu : Bool) (k0 n0 b0 : Int) (s0 : List UInt8) (k n b : Int) (s : List UInt8) (hU : Rl.U b) (h3 : Vl.ck k n b s = 0) (h4 : k ≠ 0) (h5 : k = kd) (w : World) :
    Calls Tryd.prog 42 #[.agg #[.string ⟨nm.toArray⟩, .int .i64 kd, .bool nu, .int .i64 k0, .int .i64 n0, .int .u64 b0, .string ⟨s0.toArray⟩], .agg #[.int .i64 k, .int .i64 n, .int .u64 b, .string ⟨s.toArray⟩]] w fun e w' => e = .returned (.int .i64 0) ∧ Below w.heap.size w w' := by
  subst h5
  have q1 : (k == 0) = false := beq_f h4
  clear h4
  go_enter Tryd.func42, Tryd.ntmps42
  go_wp2_with fail
  refine (check_is k n b _ s _ hU h3).mono ?_
  rintro e w2 ⟨rfl, hb2⟩
  have g := ((Blk.new w #[.string ⟨nm.toArray⟩, .int .i64 k, .bool nu, .int .i64 k0, .int .i64 n0, .int .u64 b0, .string ⟨s0.toArray⟩] 39).alloc (.cells #[.int .i64 k, .int .i64 n, .int .u64 b, .string ⟨s.toArray⟩] 37)).below hb2
  have g' := (Blk.new (w.alloc (.cells #[.string ⟨nm.toArray⟩, .int .i64 k, .bool nu, .int .i64 k0, .int .i64 n0, .int .u64 b0, .string ⟨s0.toArray⟩] 39)) #[.int .i64 k, .int .i64 n, .int .u64 b, .string ⟨s.toArray⟩] 37).below hb2
  have c1 : w2.cell? ⟨w.heap.size, 1, none⟩ = some (.int .i64 k) := g.cell 1
  have c2 : w2.cell? ⟨w.heap.size, 2, none⟩ = some (.bool nu) := g.cell 2
  have d0 : w2.cell? ⟨w.heap.size + 1, 0, none⟩ = some (.int .i64 k) := by have := g'.cell 0; simpa using this
  have HB := Lib.hid (step1 (below1 w _) hb2)
  clear hb2 g g'
  go_wp2
  go_ret
  exact ⟨rfl, HB.out⟩

set_option maxHeartbeats 1000000 in
theorem fit_kx (nm : List UInt8) (kd : Int) (nu : Bool) (k0 n0 b0 : Int) (s0 : List UInt8) (k n b : Int) (s : List UInt8) (hU : Rl.U b) (h3 : Vl.ck k n b s = 0) (h4 : k ≠ 0) (h5 : k ≠ kd) (w : World) :
    Calls Tryd.prog 42 #[.agg #[.string ⟨nm.toArray⟩, .int .i64 kd, .bool nu, .int .i64 k0, .int .i64 n0, .int .u64 b0, .string ⟨s0.toArray⟩], .agg #[.int .i64 k, .int .i64 n, .int .u64 b, .string ⟨s.toArray⟩]] w fun e w' => e = .returned (.int .i64 11) ∧ Below w.heap.size w w' := by
  have q1 : (k == 0) = false := beq_f h4
  have q2 : (k == kd) = false := beq_f h5
  clear h4 h5
  go_enter Tryd.func42, Tryd.ntmps42
  go_wp2_with fail
  refine (check_is k n b _ s _ hU h3).mono ?_
  rintro e w2 ⟨rfl, hb2⟩
  have g := ((Blk.new w #[.string ⟨nm.toArray⟩, .int .i64 kd, .bool nu, .int .i64 k0, .int .i64 n0, .int .u64 b0, .string ⟨s0.toArray⟩] 39).alloc (.cells #[.int .i64 k, .int .i64 n, .int .u64 b, .string ⟨s.toArray⟩] 37)).below hb2
  have g' := (Blk.new (w.alloc (.cells #[.string ⟨nm.toArray⟩, .int .i64 kd, .bool nu, .int .i64 k0, .int .i64 n0, .int .u64 b0, .string ⟨s0.toArray⟩] 39)) #[.int .i64 k, .int .i64 n, .int .u64 b, .string ⟨s.toArray⟩] 37).below hb2
  have c1 : w2.cell? ⟨w.heap.size, 1, none⟩ = some (.int .i64 kd) := g.cell 1
  have c2 : w2.cell? ⟨w.heap.size, 2, none⟩ = some (.bool nu) := g.cell 2
  have d0 : w2.cell? ⟨w.heap.size + 1, 0, none⟩ = some (.int .i64 k) := by have := g'.cell 0; simpa using this
  have HB := Lib.hid (step1 (below1 w _) hb2)
  clear hb2 g g'
  go_wp2
  go_ret
  exact ⟨rfl, HB.out⟩

theorem ft_ok {c : C} {v : V} (h0 : v.ck = 0) (h : (v.k = 0 ∧ c.null = true) ∨ v.k = c.kind) : ft c v = 0 := by unfold ft; rw [if_neg (by simpa using h0), if_pos h]
theorem ft_no {c : C} {v : V} (h0 : v.ck = 0) (h : ¬ ((v.k = 0 ∧ c.null = true) ∨ v.k = c.kind)) : ft c v = 11 := by unfold ft; rw [if_neg (by simpa using h0), if_neg h]
theorem ft_bad {c : C} {v : V} (h0 : v.ck ≠ 0) : ft c v = v.ck := by unfold ft; rw [if_pos h0]

theorem fit_is (c : C) (v : V) (E : Int) (w : World) (hU : Rl.U v.b) (hE : ft c v = E) :
    Calls Tryd.prog 42 #[.agg #[.string ⟨c.name.toArray⟩, .int .i64 c.kind, .bool c.null, .int .i64 c.d.k, .int .i64 c.d.n, .int .u64 c.d.b, .string ⟨c.d.s.toArray⟩], .agg #[.int .i64 v.k, .int .i64 v.n, .int .u64 v.b, .string ⟨v.s.toArray⟩]] w fun e w' => e = .returned (.int .i64 E) ∧ Below w.heap.size w w' := by
  subst hE
  by_cases h3 : v.ck = 0
  · by_cases h4 : v.k = 0
    · cases h5 : c.null with
      | true => rw [ft_ok h3 (.inl ⟨h4, h5⟩)]; exact fit_nn _ _ _ _ _ _ _ _ _ _ _ hU h3 h4 rfl w
      | false =>
        by_cases h6 : c.kind = 0
        · rw [ft_ok h3 (.inr (by omega))]; exact fit_n0 _ _ _ _ _ _ _ _ _ _ _ hU h3 h4 rfl h6 w
        · rw [ft_no h3 (by simp [h5]; omega)]; exact fit_nx _ _ _ _ _ _ _ _ _ _ _ hU h3 h4 rfl h6 w
    · by_cases h5 : v.k = c.kind
      · rw [ft_ok h3 (.inr h5)]; exact fit_kk _ _ _ _ _ _ _ _ _ _ _ hU h3 h4 h5 w
      · rw [ft_no h3 (by simp [h4, h5])]; exact fit_kx _ _ _ _ _ _ _ _ _ _ _ hU h3 h4 h5 w
  · rw [ft_bad h3]; exact fit_val _ _ _ _ _ _ _ _ _ _ _ hU _ rfl h3 w

theorem ft_next {cs : List C} {xs : List V} {j : Nat} (hc : j < cs.length) (hx : j < xs.length) (h : ∀ (i : Nat), i < j → ∀ (h2 : i < cs.length) (h3 : i < xs.length), ft cs[i] xs[i] = 0) (h0 : ft cs[j] xs[j] = 0) :
    ∀ (i : Nat), i < j + 1 → ∀ (h2 : i < cs.length) (h3 : i < xs.length), ft cs[i] xs[i] = 0 := by
  intro i h1 h2 h3
  by_cases e : i = j
  · subst e; exact h0
  · exact h i (by omega) h2 h3
set_option maxHeartbeats 8000000 in
theorem fitFirst_is (nm : List UInt8) (ks : Int) (cs : List C) (xs : List V) (ao bo : Option Addr) (cap cb : Nat) (w : World) (h : SlC w ao cs) (hx : Sl w bo xs) (hl : xs.length ≤ cs.length) (hm : xs.length ≤ 30) (ho : ∀ x ∈ xs, x.ok) (E : Int) (hE : fs cs xs = E) :
    Calls Tryd.prog 21 #[.agg #[.string ⟨nm.toArray⟩, .int .i64 ks, .slice ao cs.length cap], .slice bo xs.length cb] w fun e w' => e = .returned (.int .i64 E) ∧ Below w.heap.size w w' := by
  subst hE
  have hmx : Tryd.prog.follows .mixedOrders = true := by kernel_rfl
  have H := Lib.hid (And.intro h (And.intro hx (And.intro hl (And.intro hm ho))))
  clear h hx hl hm ho
  go_enter Tryd.func21, Tryd.ntmps21
  go_wp2
  go_loopw [10] (fun i wr => ∃ j : Nat, i = .int .i64 j ∧ j ≤ xs.length ∧ (∀ (i : Nat), i < j → ∀ (h2 : i < cs.length) (h3 : i < xs.length), ft cs[i] xs[i] = 0) ∧ Below w.heap.size w wr ∧ Blk wr w.heap.size #[.string ⟨nm.toArray⟩, .int .i64 ks, .slice ao cs.length cap] 24) (fun i _ => xs.length - (intOf i).toNat)
  case atStart => exact ⟨0, rfl, Nat.zero_le _, fun _ h1 => by omega, below1 _ _, Blk.new _ _ _⟩
  case round =>
    obtain ⟨j, rfl, hj, hall, hbel, hbl⟩ := hrel
    obtain ⟨t0, t1, t2⟩ := hbl.t3
    have J := Lib.hid (And.intro hall (And.intro hbel hbl))
    clear hall hbel hbl
    by_cases hlt : j < xs.length
    · have hlc : j < cs.length := by have := H.out.2.2.1; omega
      obtain ⟨p, rfl, h0, h1, h2, h3, h4, h5, h6⟩ := H.out.1.below J.out.2.1 j cs[j] (List.getElem?_eq_getElem hlc)
      obtain ⟨q, rfl, v0, v1, v2, v3⟩ := H.out.2.1.below J.out.2.1 j xs[j] (List.getElem?_eq_getElem hlt)
      have hw : wrap64 ((j : Int) + 1) = (j : Int) + 1 := by have := H.out.2.2.2.1; exact wrap_in _ (by omega) (by omega)
      have hU := Lib.hid (H.out.2.2.2.2 _ (List.getElem_mem hlt))
      have a7 : SlC wr (some p) cs := H.out.1.below J.out.2.1
      obtain ⟨p', hp', g0, g1, g2, g3, g4, g5, g6⟩ := (a7.below (below1 wr (.cells #[.int .i64 xs[j].k, .int .i64 xs[j].n, .int .u64 xs[j].b, .string ⟨xs[j].s.toArray⟩] 37))) j cs[j] (List.getElem?_eq_getElem hlc)
      obtain rfl : p = p' := Option.some.inj hp'
      obtain ⟨s0, s1, s2⟩ := (J.out.2.2.alloc (.cells #[.int .i64 xs[j].k, .int .i64 xs[j].n, .int .u64 xs[j].b, .string ⟨xs[j].s.toArray⟩] 37)).t3
      clear a7 hp'
      by_cases hf : ft cs[j] xs[j] = 0
      · have HF := Lib.hid hf
        clear hf
        go_wp2
        go_region_with (go_at_call 42; refine (fit_is cs[j] xs[j] 0 _ hU.out.1 HF.out).mono ?_; rintro e w2 ⟨rfl, hb⟩; have K2 := Lib.hid (And.intro (step0 (below_drew1 (J.out.2.1.alloc J.out.2.1.size _)) hb) (Blk.below (show Blk (World.drew (wr.alloc (.cells #[.int .i64 xs[j].k, .int .i64 xs[j].n, .int .u64 xs[j].b, .string ⟨xs[j].s.toArray⟩] 37))) _ _ _ from J.out.2.2.alloc _) hb)); clear hb)
        all_goals go_wp2
        all_goals go_roundw
        all_goals first
          | exact ⟨j + 1, by go_num, hlt, ft_next hlc hlt J.out.1 HF.out, K2.out.1, K2.out.2⟩
          | (rw [hw]; simp [intOf]; omega)
      · obtain ⟨E, hE⟩ : ∃ E, ft cs[j] xs[j] = E := ⟨_, rfl⟩
        have hE0 : ¬ E = 0 := by omega
        have HF := Lib.hid (And.intro hE hf)
        clear hf hE
        go_wp2
        go_region_with (go_at_call 42; refine (fit_is cs[j] xs[j] E _ hU.out.1 HF.out.1).mono ?_; rintro e w2 ⟨rfl, hb⟩; have K2 := Lib.hid (step0 (below_drew1 (J.out.2.1.alloc J.out.2.1.size _)) hb); clear hb)
        all_goals go_wp2
        all_goals go_ret
        all_goals exact ⟨ret_int (by rw [fs_stop j hlt hlc (fun i hi => J.out.1 i hi (by omega) (by omega)) HF.out.2]; exact HF.out.1.symm), K2.out⟩
    · obtain rfl : j = xs.length := by omega
      go_wp2
      go_ret
      exact ⟨ret_int (by exact (fs_of H.out.2.2.1 fun i h1 h2 => J.out.1 i h1 h2 h1).symm), J.out.2.1⟩

set_option maxHeartbeats 2000000 in
theorem fits_t (t : T) (xs : List V) (ao bo : Option Addr) (cap cb : Nat) (w : World) (h : At3 w t ao cap) (hx : Sl w bo xs) (hm : xs.length ≤ 30) (ho : ∀ x ∈ xs, x.ok) (hg : Env w) (E : Int) (hE : t.fit xs = E) :
    Calls Tryd.prog 16 #[.agg #[.string ⟨t.name.toArray⟩, .int .i64 t.keys, .slice ao t.cs.length cap], .slice bo xs.length cb] w fun e w' => e = .returned (.int .i64 E) ∧ Below w.heap.size w w' := by
  subst hE
  have H := Lib.hid (And.intro h (And.intro hx (And.intro hm ho)))
  clear h hx hm ho
  have HG := Lib.hid hg
  clear hg
  by_cases hc : t.ck = 0
  · have HC := Lib.hid hc
    by_cases hl : xs.length = t.cs.length
    · have HL := Lib.hid hl
      have n1 : ((xs.length : Int) != (t.cs.length : Int)) = false := by simp [hl]
      have n2 : (xs.length != t.cs.length) = false := by simp [hl]
      clear hc hl
      go_enter Tryd.func16, Tryd.ntmps16
      go_wp2_with fail
      refine (check_t t ao cap 0 _ (HG.out.keep (below1 _ _)) (H.out.1.keep (below1 _ _)) HC.out).mono ?_
      rintro e w1 ⟨rfl, hb⟩
      have b1 := (Blk.new w #[.string ⟨t.name.toArray⟩, .int .i64 t.keys, .slice ao t.cs.length cap] 24).below hb
      obtain ⟨s0, s1, s2⟩ := b1.t3
      have B := Lib.hid (And.intro (step1 (Below.refl _ w) hb) b1)
      clear hb b1
      go_wp2_with fail
      refine (fitFirst_is t.name t.keys t.cs xs ao bo cap cb _ (H.out.1.1.below B.out.1) (H.out.2.1.below B.out.1) (by have := HL.out; omega) H.out.2.2.1 H.out.2.2.2 _ rfl).mono ?_
      rintro e w2 ⟨rfl, hb⟩
      have B2 := Lib.hid (step0 B.out.1 hb)
      clear hb
      go_wp2
      go_ret
      exact ⟨ret_int (by unfold T.fit; rw [if_neg (by simpa using HC.out), if_neg (by simpa using HL.out)]), B2.out⟩
    · have HL := Lib.hid hl
      have n1 : ((xs.length : Int) != (t.cs.length : Int)) = true := by simp; omega
      have n2 : (xs.length != t.cs.length) = true := by simpa using hl
      clear hc hl
      go_enter Tryd.func16, Tryd.ntmps16
      go_wp2_with fail
      refine (check_t t ao cap 0 _ (HG.out.keep (below1 _ _)) (H.out.1.keep (below1 _ _)) HC.out).mono ?_
      rintro e w1 ⟨rfl, hb⟩
      have b1 := (Blk.new w #[.string ⟨t.name.toArray⟩, .int .i64 t.keys, .slice ao t.cs.length cap] 24).below hb
      obtain ⟨s0, s1, s2⟩ := b1.t3
      have B := Lib.hid (And.intro (step1 (Below.refl _ w) hb) b1)
      clear hb b1
      go_wp2
      go_ret
      exact ⟨ret_int (by unfold T.fit; rw [if_neg (by simpa using HC.out), if_pos HL.out]), B.out.1⟩
  · obtain ⟨E, hE⟩ : ∃ E, t.ck = E := ⟨_, rfl⟩
    have hE0 : ¬ E = 0 := by omega
    have HC := Lib.hid (And.intro hE hc)
    clear hc hE
    go_enter Tryd.func16, Tryd.ntmps16
    go_wp2_with fail
    refine (check_t t ao cap E _ (HG.out.keep (below1 _ _)) (H.out.1.keep (below1 _ _)) HC.out.1).mono ?_
    rintro e w1 ⟨rfl, hb⟩
    have B := Lib.hid (step1 (Below.refl _ w) hb)
    clear hb
    go_wp2
    go_ret
    exact ⟨ret_int (by unfold T.fit; rw [if_pos HC.out.2]; exact HC.out.1.symm), B.out⟩

set_option maxHeartbeats 2000000 in
theorem fitsKey_t_more (nm : List UInt8) (K : Nat) (cs : List C) (xs : List V) (ao bo : Option Addr) (cap cb : Nat) (w : World) (h : At3 w ⟨nm, (K : Int), cs⟩ ao cap) (hx : Sl w bo xs) (hm : xs.length ≤ 30) (ho : ∀ x ∈ xs, x.ok) (hg : Env w) (hc : T.ck ⟨nm, (K : Int), cs⟩ = 0) (wh : Bool) (hk : K < xs.length) :
    Calls Tryd.prog 9 #[.agg #[.string ⟨nm.toArray⟩, .int .i64 (K : Int), .slice ao cs.length cap], .slice bo xs.length cb, .bool wh] w fun e w' => e = .returned (.int .i64 (11)) ∧ Below w.heap.size w w' := by
  have H := Lib.hid (And.intro h (And.intro hx (And.intro hm ho)))
  have HC := Lib.hid hc
  have q1 : decide (K < xs.length) = true := by rw [decide_eq_true_iff]; omega
  have q2 : decide ((K : Int) < (xs.length : Int)) = true := by rw [decide_eq_true_iff]; omega
  clear hk
  clear h hx hm ho hc
  have HG := Lib.hid hg
  clear hg
  go_enter Tryd.func9, Tryd.ntmps9
  go_wp2_with fail
  refine (check_t ⟨nm, (K : Int), cs⟩ ao cap 0 _ (HG.out.keep (below1 _ _)) (H.out.1.keep (below1 _ _)) HC.out).mono ?_
  rintro e w1 ⟨rfl, hb⟩
  have b1 := (Blk.new w #[.string ⟨nm.toArray⟩, .int .i64 (K : Int), .slice ao cs.length cap] 24).below hb
  obtain ⟨s0, s1, s2⟩ := b1.t3
  have B := Lib.hid (And.intro (step1 (Below.refl _ w) hb) b1)
  clear hb b1
  go_wp2
  go_ret
  exact ⟨rfl, B.out.1⟩

set_option maxHeartbeats 2000000 in
theorem fitsKey_t_part (nm : List UInt8) (K : Nat) (cs : List C) (xs : List V) (ao bo : Option Addr) (cap cb : Nat) (w : World) (h : At3 w ⟨nm, (K : Int), cs⟩ ao cap) (hx : Sl w bo xs) (hm : xs.length ≤ 30) (ho : ∀ x ∈ xs, x.ok) (hg : Env w) (hc : T.ck ⟨nm, (K : Int), cs⟩ = 0) (hk : xs.length ≤ K) :
    Calls Tryd.prog 9 #[.agg #[.string ⟨nm.toArray⟩, .int .i64 (K : Int), .slice ao cs.length cap], .slice bo xs.length cb, .bool false] w fun e w' => e = .returned (.int .i64 (fs cs xs)) ∧ Below w.heap.size w w' := by
  have H := Lib.hid (And.intro h (And.intro hx (And.intro hm ho)))
  have HC := Lib.hid hc
  have HL := Lib.hid (show xs.length ≤ cs.length from by have := (T.ck_ok hc).2.2.2.2.2.1; simp only at this; omega)
  have q1 : decide (K < xs.length) = false := by rw [decide_eq_false_iff_not]; omega
  have q2 : decide ((K : Int) < (xs.length : Int)) = false := by rw [decide_eq_false_iff_not]; omega
  clear hk
  clear h hx hm ho hc
  have HG := Lib.hid hg
  clear hg
  go_enter Tryd.func9, Tryd.ntmps9
  go_wp2_with fail
  refine (check_t ⟨nm, (K : Int), cs⟩ ao cap 0 _ (HG.out.keep (below1 _ _)) (H.out.1.keep (below1 _ _)) HC.out).mono ?_
  rintro e w1 ⟨rfl, hb⟩
  have b1 := (Blk.new w #[.string ⟨nm.toArray⟩, .int .i64 (K : Int), .slice ao cs.length cap] 24).below hb
  obtain ⟨s0, s1, s2⟩ := b1.t3
  have B := Lib.hid (And.intro (step1 (Below.refl _ w) hb) b1)
  clear hb b1
  go_wp2_with fail
  refine (fitFirst_is nm (K : Int) cs xs ao bo cap cb _ (H.out.1.1.below B.out.1) (H.out.2.1.below B.out.1) HL.out H.out.2.2.1 H.out.2.2.2 _ rfl).mono ?_
  rintro e w2 ⟨rfl, hb⟩
  have B2 := Lib.hid (step0 B.out.1 hb)
  clear hb
  go_wp2
  go_ret
  exact ⟨rfl, B2.out⟩

set_option maxHeartbeats 2000000 in
theorem fitsKey_t_less (nm : List UInt8) (K : Nat) (cs : List C) (xs : List V) (ao bo : Option Addr) (cap cb : Nat) (w : World) (h : At3 w ⟨nm, (K : Int), cs⟩ ao cap) (hx : Sl w bo xs) (hm : xs.length ≤ 30) (ho : ∀ x ∈ xs, x.ok) (hg : Env w) (hc : T.ck ⟨nm, (K : Int), cs⟩ = 0) (hk : xs.length < K) :
    Calls Tryd.prog 9 #[.agg #[.string ⟨nm.toArray⟩, .int .i64 (K : Int), .slice ao cs.length cap], .slice bo xs.length cb, .bool true] w fun e w' => e = .returned (.int .i64 (11)) ∧ Below w.heap.size w w' := by
  have H := Lib.hid (And.intro h (And.intro hx (And.intro hm ho)))
  have HC := Lib.hid hc
  have q1 : decide (K < xs.length) = false := by rw [decide_eq_false_iff_not]; omega
  have q2 : decide ((K : Int) < (xs.length : Int)) = false := by rw [decide_eq_false_iff_not]; omega
  have q3 : decide (xs.length < K) = true := by rw [decide_eq_true_iff]; omega
  have q4 : decide ((xs.length : Int) < (K : Int)) = true := by rw [decide_eq_true_iff]; omega
  clear hk
  clear h hx hm ho hc
  have HG := Lib.hid hg
  clear hg
  go_enter Tryd.func9, Tryd.ntmps9
  go_wp2_with fail
  refine (check_t ⟨nm, (K : Int), cs⟩ ao cap 0 _ (HG.out.keep (below1 _ _)) (H.out.1.keep (below1 _ _)) HC.out).mono ?_
  rintro e w1 ⟨rfl, hb⟩
  have b1 := (Blk.new w #[.string ⟨nm.toArray⟩, .int .i64 (K : Int), .slice ao cs.length cap] 24).below hb
  obtain ⟨s0, s1, s2⟩ := b1.t3
  have B := Lib.hid (And.intro (step1 (Below.refl _ w) hb) b1)
  clear hb b1
  go_wp2
  go_ret
  exact ⟨rfl, B.out.1⟩

set_option maxHeartbeats 2000000 in
theorem fitsKey_t_whole (nm : List UInt8) (K : Nat) (cs : List C) (xs : List V) (ao bo : Option Addr) (cap cb : Nat) (w : World) (h : At3 w ⟨nm, (K : Int), cs⟩ ao cap) (hx : Sl w bo xs) (hm : xs.length ≤ 30) (ho : ∀ x ∈ xs, x.ok) (hg : Env w) (hc : T.ck ⟨nm, (K : Int), cs⟩ = 0) (hk : xs.length = K) :
    Calls Tryd.prog 9 #[.agg #[.string ⟨nm.toArray⟩, .int .i64 (K : Int), .slice ao cs.length cap], .slice bo xs.length cb, .bool true] w fun e w' => e = .returned (.int .i64 (fs cs xs)) ∧ Below w.heap.size w w' := by
  have H := Lib.hid (And.intro h (And.intro hx (And.intro hm ho)))
  have HC := Lib.hid hc
  have HL := Lib.hid (show xs.length ≤ cs.length from by have := (T.ck_ok hc).2.2.2.2.2.1; simp only at this; omega)
  have q1 : decide (K < xs.length) = false := by rw [decide_eq_false_iff_not]; omega
  have q2 : decide ((K : Int) < (xs.length : Int)) = false := by rw [decide_eq_false_iff_not]; omega
  have q3 : decide (xs.length < K) = false := by rw [decide_eq_false_iff_not]; omega
  have q4 : decide ((xs.length : Int) < (K : Int)) = false := by rw [decide_eq_false_iff_not]; omega
  clear hk
  clear h hx hm ho hc
  have HG := Lib.hid hg
  clear hg
  go_enter Tryd.func9, Tryd.ntmps9
  go_wp2_with fail
  refine (check_t ⟨nm, (K : Int), cs⟩ ao cap 0 _ (HG.out.keep (below1 _ _)) (H.out.1.keep (below1 _ _)) HC.out).mono ?_
  rintro e w1 ⟨rfl, hb⟩
  have b1 := (Blk.new w #[.string ⟨nm.toArray⟩, .int .i64 (K : Int), .slice ao cs.length cap] 24).below hb
  obtain ⟨s0, s1, s2⟩ := b1.t3
  have B := Lib.hid (And.intro (step1 (Below.refl _ w) hb) b1)
  clear hb b1
  go_wp2_with fail
  refine (fitFirst_is nm (K : Int) cs xs ao bo cap cb _ (H.out.1.1.below B.out.1) (H.out.2.1.below B.out.1) HL.out H.out.2.2.1 H.out.2.2.2 _ rfl).mono ?_
  rintro e w2 ⟨rfl, hb⟩
  have B2 := Lib.hid (step0 B.out.1 hb)
  clear hb
  go_wp2
  go_ret
  exact ⟨rfl, B2.out⟩

theorem fitsKey_t (t : T) (xs : List V) (ao bo : Option Addr) (cap cb : Nat) (w : World) (h : At3 w t ao cap) (hx : Sl w bo xs) (hm : xs.length ≤ 30) (ho : ∀ x ∈ xs, x.ok) (hg : Env w) (wh : Bool) (E : Int) (hE : t.fitk xs wh = E) :
    Calls Tryd.prog 9 #[.agg #[.string ⟨t.name.toArray⟩, .int .i64 t.keys, .slice ao t.cs.length cap], .slice bo xs.length cb, .bool wh] w fun e w' => e = .returned (.int .i64 E) ∧ Below w.heap.size w w' := by
  subst hE
  by_cases hc : t.ck = 0
  · obtain ⟨nm, ks, cs⟩ := t
    obtain ⟨_, _, _, k1, _, _, _⟩ := T.ck_ok hc
    obtain ⟨K, rfl⟩ : ∃ K : Nat, ks = (K : Int) := ⟨ks.toNat, by simp only at k1; omega⟩
    by_cases h1 : K < xs.length
    · have e : T.fitk ⟨nm, (K : Int), cs⟩ xs wh = 11 := by unfold T.fitk; rw [if_neg (by simpa using hc), if_pos (.inl (by simp only; omega))]
      rw [e]; exact fitsKey_t_more nm K cs xs ao bo cap cb w h hx hm ho hg hc wh h1
    · cases wh with
      | false =>
        have e : T.fitk ⟨nm, (K : Int), cs⟩ xs false = fs cs xs := by unfold T.fitk; rw [if_neg (by simpa using hc), if_neg (by simp; omega)]
        rw [e]; exact fitsKey_t_part nm K cs xs ao bo cap cb w h hx hm ho hg hc (by omega)
      | true =>
        by_cases h2 : xs.length < K
        · have e : T.fitk ⟨nm, (K : Int), cs⟩ xs true = 11 := by unfold T.fitk; rw [if_neg (by simpa using hc), if_pos (.inr ⟨rfl, by simp only; omega⟩)]
          rw [e]; exact fitsKey_t_less nm K cs xs ao bo cap cb w h hx hm ho hg hc h2
        · have e : T.fitk ⟨nm, (K : Int), cs⟩ xs true = fs cs xs := by unfold T.fitk; rw [if_neg (by simpa using hc), if_neg (by simp; omega)]
          rw [e]; exact fitsKey_t_whole nm K cs xs ao bo cap cb w h hx hm ho hg hc (by omega)
  · obtain ⟨E, hE⟩ : ∃ E, t.ck = E := ⟨_, rfl⟩
    have hE0 : ¬ E = 0 := by omega
    have H := Lib.hid h
    have HC := Lib.hid (And.intro hE hc)
    clear hc hE h hx hm ho
    have HG := Lib.hid hg
    clear hg
    go_enter Tryd.func9, Tryd.ntmps9
    go_wp2_with fail
    refine (check_t t ao cap E _ (HG.out.keep (below1 _ _)) (H.out.keep (below1 _ _)) HC.out.1).mono ?_
    rintro e w1 ⟨rfl, hb⟩
    have B := Lib.hid (step1 (Below.refl _ w) hb)
    clear hb
    go_wp2
    go_ret
    exact ⟨ret_int (by unfold T.fitk; rw [if_pos HC.out.2]; exact HC.out.1.symm), B.out⟩

theorem krow_x (xs : List V) (n : Nat) (ao : Option Addr) (cap : Nat) (w : World) (hn : xs.length = n) (h : Sl w ao xs) (hl : xs.length ≤ 30) (ho : ∀ x ∈ xs, x.ok) (hr : re xs = 0) :
    Calls Tryd.prog 8 #[.slice ao n cap] w fun e w' => e = .returned (.tuple #[.string ⟨(rb xs).toArray⟩, .int .i64 0]) ∧ Below w.heap.size w w' := by
  subst hn
  have := krow_is xs ao cap w h hl ho
  rw [rt_ok hr, hr] at this
  exact this

set_option maxHeartbeats 2000000 in
theorem key_t (t : T) (xs : List V) (ao bo : Option Addr) (cap cb : Nat) (w : World) (h : At3 w t ao cap) (hx : Sl w bo xs) (hm : xs.length ≤ 30) (ho : ∀ x ∈ xs, x.ok) (hg : Env w) (hcb : xs.length ≤ cb) (E : Int) (hE : t.fit xs = E) :
    Calls Tryd.prog 7 #[.agg #[.string ⟨t.name.toArray⟩, .int .i64 t.keys, .slice ao t.cs.length cap], .slice bo xs.length cb] w fun e w' => e = .returned (.tuple #[.string ⟨(t.key xs).toArray⟩, .int .i64 E]) ∧ Below w.heap.size w w' := by
  by_cases hc : E = 0
  · subst hc
    obtain ⟨nm, ks, cs⟩ := t
    obtain ⟨hck, hl, _⟩ := T.fit_ok hE
    obtain ⟨_, _, _, k1, k2, k3, _⟩ := T.ck_ok hck
    obtain ⟨K, rfl⟩ : ∃ K : Nat, ks = (K : Int) := ⟨ks.toNat, by simp only at k1; omega⟩
    have hK : K ≤ xs.length := by simp only at k3 hl; omega
    have hKc : K ≤ cb := by omega
    have HE := Lib.hid (And.intro hE hK)
    have H := Lib.hid (And.intro h (And.intro hx (And.intro hm ho)))
    have ek : T.key ⟨nm, (K : Int), cs⟩ xs = rb (xs.take K) := by unfold T.key; rw [if_neg (by simpa using hE)]; rfl
    rw [ek]
    clear hck hl k1 k2 k3 hE h hx hm ho hcb hK ek
    have HG := Lib.hid hg
    clear hg
    go_enter Tryd.func7, Tryd.ntmps7
    go_wp2_with fail
    refine (fits_t ⟨nm, (K : Int), cs⟩ xs ao bo cap cb _ (H.out.1.keep (below1 _ _)) (H.out.2.1.below (below1 _ _)) H.out.2.2.1 H.out.2.2.2 (HG.out.keep (below1 _ _)) 0 HE.out.1).mono ?_
    rintro e w1 ⟨rfl, hb⟩
    have b1 := (Blk.new w #[.string ⟨nm.toArray⟩, .int .i64 (K : Int), .slice ao cs.length cap] 24).below hb
    obtain ⟨s0, s1, s2⟩ := b1.t3
    have B := Lib.hid (And.intro (step1 (Below.refl _ w) hb) b1)
    clear hb b1
    go_wp2_with fail
    refine (krow_x (xs.take K) _ bo _ _ (by have := HE.out.2; simp; omega) ((H.out.2.1.below B.out.1).take K) (by have := H.out.2.2.1; simp; omega) (fun x hx => H.out.2.2.2 x (List.mem_of_mem_take hx)) (fit_re HE.out.1 K)).mono ?_
    rintro e w2 ⟨rfl, hb⟩
    have B2 := Lib.hid (step0 B.out.1 hb)
    clear hb
    go_wp2
    go_ret2
    exact ⟨rfl, B2.out⟩
  · have HE := Lib.hid (And.intro hE hc)
    have H := Lib.hid (And.intro h (And.intro hx (And.intro hm ho)))
    have ek : t.key xs = [] := by unfold T.key; rw [if_pos (by omega)]
    rw [ek]
    clear hE h hx hm ho hcb ek
    have HG := Lib.hid hg
    clear hg
    go_enter Tryd.func7, Tryd.ntmps7
    go_wp2_with fail
    refine (fits_t t xs ao bo cap cb _ (H.out.1.keep (below1 _ _)) (H.out.2.1.below (below1 _ _)) H.out.2.2.1 H.out.2.2.2 (HG.out.keep (below1 _ _)) E HE.out.1).mono ?_
    rintro e w1 ⟨rfl, hb⟩
    have B := Lib.hid (step1 (Below.refl _ w) hb)
    clear hb
    go_wp2
    go_ret2
    exact ⟨rfl, B.out⟩

end Go.Proofs.YtakpieiafoappaaDoor
