/-
  The walk of law SchemaKeys. Condition: the library's variable errors.errorType holds the handle of the type error.
-/
import Derived.Test.YtakpieiafoappaaDoorScLawChecks
namespace Go.Proofs.YtakpieiafoappaaDoor
open Go.RowKit

theorem fitsKey_n (t : T) (xs : List V) (n : Nat) (ao bo : Option Addr) (cap cb : Nat) (w : World) (hn : xs.length = n) (h : At3 w t ao cap) (hx : Sl w bo xs) (hm : xs.length ≤ 30) (ho : ∀ x ∈ xs, x.ok) (hg : Env w) (wh : Bool) (E : Int) (hE : t.fitk xs wh = E) :
    Calls Tryd.prog 9 #[.agg #[.string ⟨t.name.toArray⟩, .int .i64 t.keys, .slice ao t.cs.length cap], .slice bo n cb, .bool wh] w fun e w' => e = .returned (.int .i64 E) ∧ Below w.heap.size w w' := by
  subst hn
  exact fitsKey_t t xs ao bo cap cb w h hx hm ho hg wh E hE

set_option maxHeartbeats 8000000 in
theorem schemaKeys_n1 (t : T) (xs : List V) (ao bo : Option Addr) (cap cb : Nat) (w : World) (h : At3 w t ao cap) (hx : Sl w bo xs) (ho : ∀ x ∈ xs, x.ok) (hcb : xs.length ≤ cb) (hg : Env w) (hf : ¬ Tb t) :
    Calls Tryd.prog 3 #[.agg #[.string ⟨t.name.toArray⟩, .int .i64 t.keys, .slice ao t.cs.length cap], .slice bo xs.length cb] w fun e w' => e = .returned (.bool true) ∧ Below w.heap.size w w' := by
  have HG := Lib.hid hg
  have H := Lib.hid (And.intro h (And.intro hx (And.intro ho hcb)))
  clear hg h hx ho
  have HF := Lib.hid hf
  clear hf
  go_enter Tryd.func3, Tryd.ntmps3
  go_wp2_with fail
  refine (few_n t ao cap _ (H.out.1.1.below (below1 _ _)) HF.out).mono ?_
  rintro e w1 ⟨rfl, hb⟩
  have b1 := (Blk.new w #[.string ⟨t.name.toArray⟩, .int .i64 t.keys, .slice ao t.cs.length cap] 24).below hb
  have K1 := Lib.hid (And.intro (step1 (Below.refl _ w) hb) b1)
  clear hb b1
  go_wp2_with fail
  refine (awake_any _ (HG.out.keep K1.out.1)).mono ?_
  rintro e u9 ⟨rfl, hb⟩
  have Z9 := Lib.hid (step0 K1.out.1 hb)
  clear hb
  go_wp2
  go_ret
  exact ⟨rfl, Z9.out⟩

set_option maxHeartbeats 8000000 in
theorem schemaKeys_n2 (t : T) (xs : List V) (ao bo : Option Addr) (cap cb : Nat) (w : World) (h : At3 w t ao cap) (hx : Sl w bo xs) (ho : ∀ x ∈ xs, x.ok) (hcb : xs.length ≤ cb) (hg : Env w) (ht : Tb t) (hf : ¬ (xs.length ≤ 30 ∧ ∀ x ∈ xs, x.s.length ≤ 2000)) :
    Calls Tryd.prog 3 #[.agg #[.string ⟨t.name.toArray⟩, .int .i64 t.keys, .slice ao t.cs.length cap], .slice bo xs.length cb] w fun e w' => e = .returned (.bool true) ∧ Below w.heap.size w w' := by
  have HG := Lib.hid hg
  have H := Lib.hid (And.intro h (And.intro hx (And.intro ho hcb)))
  clear hg h hx ho
  have HT := Lib.hid ht
  have HF := Lib.hid hf
  clear ht hf
  go_enter Tryd.func3, Tryd.ntmps3
  go_wp2_with fail
  refine (few_t t ao cap _ (H.out.1.1.below (below1 _ _)) HT.out).mono ?_
  rintro e w1 ⟨rfl, hb⟩
  have b1 := (Blk.new w #[.string ⟨t.name.toArray⟩, .int .i64 t.keys, .slice ao t.cs.length cap] 24).below hb
  have K1 := Lib.hid (And.intro (step1 (Below.refl _ w) hb) b1)
  clear hb b1
  go_wp2_with fail
  refine (few_no xs bo cb _ (H.out.2.1.below K1.out.1) HF.out).mono ?_
  rintro e w2 ⟨rfl, hb⟩
  obtain ⟨t0, t1, t2⟩ := (K1.out.2.below hb).t3
  have K2 := Lib.hid (And.intro (step0 K1.out.1 hb) (K1.out.2.below hb))
  clear hb
  go_wp2_with fail
  refine (awake_any _ (HG.out.keep K2.out.1)).mono ?_
  rintro e u9 ⟨rfl, hb⟩
  have Z9 := Lib.hid (step0 K2.out.1 hb)
  clear hb
  go_wp2
  go_ret
  exact ⟨rfl, Z9.out⟩

set_option maxHeartbeats 8000000 in
theorem schemaKeys_bad (t : T) (xs : List V) (ao bo : Option Addr) (cap cb : Nat) (w : World) (h : At3 w t ao cap) (hx : Sl w bo xs) (ho : ∀ x ∈ xs, x.ok) (hcb : xs.length ≤ cb) (hg : Env w) (ht : Tb t) (hf : xs.length ≤ 30 ∧ ∀ x ∈ xs, x.s.length ≤ 2000) (E : Int) (hE : t.fit xs = E) (hE0 : ¬ E = 0) :
    Calls Tryd.prog 3 #[.agg #[.string ⟨t.name.toArray⟩, .int .i64 t.keys, .slice ao t.cs.length cap], .slice bo xs.length cb] w fun e w' => e = .returned (.bool true) ∧ Below w.heap.size w w' := by
  have HG := Lib.hid hg
  have H := Lib.hid (And.intro h (And.intro hx (And.intro ho hcb)))
  clear hg h hx ho
  have HT := Lib.hid ht
  have HF := Lib.hid (And.intro hf hE)
  have ek : t.key xs = [] := by unfold T.key; rw [if_pos (by omega)]
  have e1 := bne_t hE0
  clear ht hf hE
  go_enter Tryd.func3, Tryd.ntmps3
  go_wp2_with fail
  refine (few_t t ao cap _ (H.out.1.1.below (below1 _ _)) HT.out).mono ?_
  rintro e w1 ⟨rfl, hb⟩
  have b1 := (Blk.new w #[.string ⟨t.name.toArray⟩, .int .i64 t.keys, .slice ao t.cs.length cap] 24).below hb
  have K1 := Lib.hid (And.intro (step1 (Below.refl _ w) hb) b1)
  clear hb b1
  go_wp2_with fail
  refine (few_yes xs bo cb _ (H.out.2.1.below K1.out.1) HF.out.1.1 HF.out.1.2).mono ?_
  rintro e w2 ⟨rfl, hb⟩
  obtain ⟨t0, t1, t2⟩ := (K1.out.2.below hb).t3
  have K2 := Lib.hid (And.intro (step0 K1.out.1 hb) (K1.out.2.below hb))
  clear hb
  go_wp2_with fail
  refine (key_t t xs ao bo cap cb _ (H.out.1.keep K2.out.1) (H.out.2.1.below K2.out.1) HF.out.1.1 H.out.2.2.1 (HG.out.keep K2.out.1) H.out.2.2.2 E HF.out.2).mono ?_
  rintro e w3 ⟨rfl, hb⟩
  have K3 := Lib.hid (step0 K2.out.1 hb)
  clear hb t0 t1 t2
  rw [ek]
  go_wp2_with fail
  refine (awake_any _ (HG.out.keep K3.out)).mono ?_
  rintro e u9 ⟨rfl, hb⟩
  have Z9 := Lib.hid (step0 K3.out hb)
  clear hb
  go_wp2
  go_ret
  exact ⟨rfl, Z9.out⟩

set_option maxHeartbeats 8000000 in
theorem schemaKeys_good (nm : List UInt8) (K : Nat) (cs : List C) (xs : List V) (ao bo : Option Addr) (cap cb : Nat) (w : World) (h : At3 w ⟨nm, (K : Int), cs⟩ ao cap) (hx : Sl w bo xs) (ho : ∀ x ∈ xs, x.ok) (hcb : xs.length ≤ cb) (hg : Env w) (ht : Tb ⟨nm, (K : Int), cs⟩) (hf : xs.length ≤ 30 ∧ ∀ x ∈ xs, x.s.length ≤ 2000) (hE : T.fit ⟨nm, (K : Int), cs⟩ xs = 0) :
    Calls Tryd.prog 3 #[.agg #[.string ⟨nm.toArray⟩, .int .i64 (K : Int), .slice ao cs.length cap], .slice bo xs.length cb] w fun e w' => e = .returned (.bool true) ∧ Below w.heap.size w w' := by
  have HG := Lib.hid hg
  have H := Lib.hid (And.intro h (And.intro hx (And.intro ho hcb)))
  clear hg h hx ho
  have hmx : Tryd.prog.follows .mixedOrders = true := by kernel_rfl
  obtain ⟨hck, hln, _⟩ := T.fit_ok hE
  obtain ⟨_, _, _, k1, k2, k3, _⟩ := T.ck_ok hck
  have hK : K ≤ xs.length := by simp only at k3 hln; omega
  have hKc : K ≤ cb := by omega
  have hKi : (K : Int) ≤ (cb : Int) := by omega
  have q1 : decide ((K : Int) < 1) = false := by rw [decide_eq_false_iff_not]; simp only at k1; omega
  have q2 : decide (xs.length < K) = false := by rw [decide_eq_false_iff_not]; omega
  have q3 : decide ((xs.length : Int) < (K : Int)) = false := by rw [decide_eq_false_iff_not]; omega
  obtain ⟨kk, hkk⟩ : ∃ kk, rb (xs.take K) = kk := ⟨_, rfl⟩
  have ek : T.key ⟨nm, (K : Int), cs⟩ xs = kk := by rw [← hkk]; unfold T.key; rw [if_neg (by simpa using hE)]; rfl
  have s1 : (kk == kk) = true := by simp
  have HT := Lib.hid ht
  have HF := Lib.hid (And.intro hf (And.intro hE (And.intro hkk (And.intro hK k2))))
  clear ht hf hE hck hln k1 k2 k3 hkk hK hcb
  go_enter Tryd.func3, Tryd.ntmps3
  go_wp2_with fail
  refine (few_t ⟨nm, (K : Int), cs⟩ ao cap _ (H.out.1.1.below (below1 _ _)) HT.out).mono ?_
  rintro e w1 ⟨rfl, hb⟩
  have b1 := (Blk.new w #[.string ⟨nm.toArray⟩, .int .i64 (K : Int), .slice ao cs.length cap] 24).below hb
  have K1 := Lib.hid (And.intro (step1 (Below.refl _ w) hb) b1)
  clear hb b1
  go_wp2_with fail
  refine (few_yes xs bo cb _ (H.out.2.1.below K1.out.1) HF.out.1.1 HF.out.1.2).mono ?_
  rintro e w2 ⟨rfl, hb⟩
  obtain ⟨t0, t1, t2⟩ := (K1.out.2.below hb).t3
  have K2 := Lib.hid (And.intro (step0 K1.out.1 hb) (K1.out.2.below hb))
  clear hb
  go_wp2_with fail
  refine (key_t ⟨nm, (K : Int), cs⟩ xs ao bo cap cb _ (H.out.1.keep K2.out.1) (H.out.2.1.below K2.out.1) HF.out.1.1 H.out.2.2.1 (HG.out.keep K2.out.1) H.out.2.2.2 0 HF.out.2.1).mono ?_
  rintro e w3 ⟨rfl, hb⟩
  obtain ⟨s0, s2, s3⟩ := (K2.out.2.below hb).t3
  have K3 := Lib.hid (And.intro (step0 K2.out.1 hb) (K2.out.2.below hb))
  clear hb t0 t1 t2
  rw [ek]
  go_wp2_with fail
  refine (krow_x (xs.take K) _ bo _ _ (by have := HF.out.2.2.2.1; simp; omega) ((H.out.2.1.below K3.out.1).take K) (by have := HF.out.1.1; simp; omega) (fun x hx => H.out.2.2.1 x (List.mem_of_mem_take hx)) (fit_re HF.out.2.1 K)).mono ?_
  rintro e w4 ⟨rfl, hb⟩
  have K4 := Lib.hid (And.intro (step0 K3.out.1 hb) (K3.out.2.below hb))
  clear hb s0 s2 s3
  rw [HF.out.2.2.1]
  go_wp2
  go_loopw [9] (fun i wr => ∃ j : Nat, i = .int .i64 j ∧ j ≤ K + 1 ∧ Below w.heap.size w wr ∧ Blk wr w.heap.size #[.string ⟨nm.toArray⟩, .int .i64 (K : Int), .slice ao cs.length cap] 24) (fun i _ => K + 1 - (intOf i).toNat)
  case atStart => exact ⟨0, rfl, Nat.zero_le _, K4.out.1, K4.out.2⟩
  case round =>
    obtain ⟨j, rfl, hj, hbel, hbl⟩ := hrel
    obtain ⟨t0, t1, t2⟩ := hbl.t3
    have J := Lib.hid (And.intro hbel hbl)
    clear hbel hbl
    by_cases hlt : j ≤ K
    · have hw : wrap64 ((j : Int) + 1) = (j : Int) + 1 := by have := HF.out.2.2.2.2; exact wrap_in _ (by omega) (by omega)
      have jc : j ≤ cb := by omega
      have ji : (j : Int) ≤ (cb : Int) := by omega
      have HJ := Lib.hid hlt
      go_wp2
      go_region_held3 (fun v => Below wr.heap.size wr v ∧ v.cell? ⟨w.heap.size, 0, none⟩ = some (.string ⟨nm.toArray⟩) ∧ v.cell? ⟨w.heap.size, 1, none⟩ = some (.int .i64 (K : Int)) ∧ v.cell? ⟨w.heap.size, 2, none⟩ = some (.slice ao cs.length cap))
        (first | exact three J.out.2 (Below.refl _ _).drew | exact three J.out.2 (step0 ‹Below wr.heap.size wr _ ∧ _›.1 hb))
        (first | (go_at_call 9; refine (fitsKey_n ⟨nm, (K : Int), cs⟩ (xs.take j) j ao bo cap cb _ (by have := HF.out.2.2.2.1; have := HJ.out; simp; omega) (H.out.1.keep (step0 J.out.1 ‹Below wr.heap.size wr _ ∧ _›.1)) ((H.out.2.1.below (step0 J.out.1 ‹Below wr.heap.size wr _ ∧ _›.1)).take j) (by have := HF.out.1.1; simp; omega) (fun x hx => H.out.2.2.1 x (List.mem_of_mem_take hx)) (HG.out.keep (step0 J.out.1 ‹Below wr.heap.size wr _ ∧ _›.1)) false 0 (fitk_beg HF.out.2.1 j (by have := HJ.out; simp only; omega))).mono ?_; rintro e w5 ⟨rfl, hb⟩))
      have Z := Lib.hid (show Below wr.heap.size wr w5 from ‹Below wr.heap.size wr w5 ∧ _›.1)
      go_wp2
      go_roundw
      case rel => exact ⟨j + 1, by go_num, by omega, step0 J.out.1 Z.out, J.out.2.below Z.out⟩
      case measure => rw [hw]; simp [intOf]; omega
    · have q4 : decide ((j : Int) ≤ (K : Int)) = false := by rw [decide_eq_false_iff_not]; omega
      have q5 : decide (j ≤ K) = false := by rw [decide_eq_false_iff_not]; omega
      clear hlt
      go_wp2
      go_region_held3 (fun v => Below wr.heap.size wr v ∧ v.cell? ⟨w.heap.size, 0, none⟩ = some (.string ⟨nm.toArray⟩) ∧ v.cell? ⟨w.heap.size, 1, none⟩ = some (.int .i64 (K : Int)) ∧ v.cell? ⟨w.heap.size, 2, none⟩ = some (.slice ao cs.length cap))
        (first | exact three J.out.2 (Below.refl _ _).drew | exact three J.out.2 (step0 ‹Below wr.heap.size wr _ ∧ _›.1 hb))
        (first
          | (go_at_call 9; refine (fitsKey_n ⟨nm, (K : Int), cs⟩ (xs.take K) K ao bo cap cb _ (by have := HF.out.2.2.2.1; simp; omega) (H.out.1.keep (step0 J.out.1 ‹Below wr.heap.size wr _ ∧ _›.1)) ((H.out.2.1.below (step0 J.out.1 ‹Below wr.heap.size wr _ ∧ _›.1)).take K) (by have := HF.out.1.1; simp; omega) (fun x hx => H.out.2.2.1 x (List.mem_of_mem_take hx)) (HG.out.keep (step0 J.out.1 ‹Below wr.heap.size wr _ ∧ _›.1)) true 0 (fitk_whole HF.out.2.1)).mono ?_; rintro e w5 ⟨rfl, hb⟩)
          | (go_at_call 6; refine (awake_any _ (HG.out.keep (step0 J.out.1 ‹Below wr.heap.size wr _ ∧ _›.1))).mono ?_; rintro e w6 ⟨rfl, hb⟩))
      have Z := Lib.hid (step0 J.out.1 (show Below wr.heap.size wr w6 from ‹Below wr.heap.size wr w6 ∧ _›.1))
      go_wp2
      go_ret
      exact ⟨rfl, Z.out⟩

theorem schemaKeys_walk (t : T) (xs : List V) (ao bo : Option Addr) (cap cb : Nat) (w : World) (h : At3 w t ao cap) (hx : Sl w bo xs) (ho : ∀ x ∈ xs, x.ok) (hcb : xs.length ≤ cb) (hg : Env w) :
    Calls Tryd.prog 3 #[.agg #[.string ⟨t.name.toArray⟩, .int .i64 t.keys, .slice ao t.cs.length cap], .slice bo xs.length cb] w fun e w' => e = .returned (.bool true) ∧ Below w.heap.size w w' := by
  by_cases h1 : Tb t
  · by_cases h2 : xs.length ≤ 30 ∧ ∀ x ∈ xs, x.s.length ≤ 2000
    · by_cases h3 : t.fit xs = 0
      · obtain ⟨nm, ks, cs⟩ := t
        obtain ⟨hck, _, _⟩ := T.fit_ok h3
        obtain ⟨_, _, _, k1, _, _, _⟩ := T.ck_ok hck
        obtain ⟨K, rfl⟩ : ∃ K : Nat, ks = (K : Int) := ⟨ks.toNat, by simp only at k1; omega⟩
        exact schemaKeys_good nm K cs xs ao bo cap cb w h hx ho hcb hg h1 h2 h3
      · exact schemaKeys_bad t xs ao bo cap cb w h hx ho hcb hg h1 h2 _ rfl h3
    · exact schemaKeys_n2 t xs ao bo cap cb w h hx ho hcb hg h1 h2
  · exact schemaKeys_n1 t xs ao bo cap cb w h hx ho hcb hg h1

end Go.Proofs.YtakpieiafoappaaDoor
