/-
  The walk of law SchemaBack. Condition: the library's variable errors.errorType holds the handle of the type error.
-/
import Derived.Test.YtakpieiafoappaaGreatDoorScLawChecks
namespace Go.Proofs.YtakpieiafoappaaGreatDoor
open Go.RowKit

set_option maxHeartbeats 8000000 in
theorem schemaBack_n1 (t u : T) (be : List UInt8) (ao bo : Option Addr) (ca cb : Nat) (w : World) (h : At3 w t ao ca) (hu : At3 w u bo cb) (hg : Env w) (hf : ¬ Tb t) :
    Calls Tryz.prog 6 #[.agg #[.string ⟨t.name.toArray⟩, .int .i64 t.keys, .slice ao t.cs.length ca], .agg #[.string ⟨u.name.toArray⟩, .int .i64 u.keys, .slice bo u.cs.length cb], .string ⟨be.toArray⟩] w fun e w' => e = .returned (.bool true) ∧ Below w.heap.size w w' := by
  have HG := Lib.hid hg
  have H := Lib.hid (And.intro h hu)
  clear hg h hu
  have HF := Lib.hid hf
  clear hf
  go_enter Tryz.func6, Tryz.ntmps6
  go_wp2_with fail
  refine (few_n t ao ca _ (H.out.1.1.below (below2s _ _ _)) HF.out).mono ?_
  rintro e w1 ⟨rfl, hb⟩
  have b1 := ((Blk.new w #[.string ⟨t.name.toArray⟩, .int .i64 t.keys, .slice ao t.cs.length ca] 24).alloc (.cells #[.string ⟨u.name.toArray⟩, .int .i64 u.keys, .slice bo u.cs.length cb] 24)).below hb
  have d1 : Blk w1 (w.heap.size + 1) #[.string ⟨u.name.toArray⟩, .int .i64 u.keys, .slice bo u.cs.length cb] 24 := by have := (Blk.new (w.alloc (.cells #[.string ⟨t.name.toArray⟩, .int .i64 t.keys, .slice ao t.cs.length ca] 24)) #[.string ⟨u.name.toArray⟩, .int .i64 u.keys, .slice bo u.cs.length cb] 24).below hb; simpa using this
  have K1 := Lib.hid (And.intro (step1 (below1 w _) hb) (And.intro b1 d1))
  obtain ⟨s0, s1, s2⟩ := d1.t3
  clear hb b1 d1
  go_wp2_with fail
  refine (awake_any _ (HG.out.keep K1.out.1)).mono ?_
  rintro e u9 ⟨rfl, hb⟩
  have Z9 := Lib.hid (step0 K1.out.1 hb)
  clear hb
  go_wp2
  go_ret
  exact ⟨rfl, Z9.out⟩

set_option maxHeartbeats 8000000 in
theorem schemaBack_n2 (t u : T) (be : List UInt8) (ao bo : Option Addr) (ca cb : Nat) (w : World) (h : At3 w t ao ca) (hu : At3 w u bo cb) (hg : Env w) (ht : Tb t) (hf : ¬ Tb u) :
    Calls Tryz.prog 6 #[.agg #[.string ⟨t.name.toArray⟩, .int .i64 t.keys, .slice ao t.cs.length ca], .agg #[.string ⟨u.name.toArray⟩, .int .i64 u.keys, .slice bo u.cs.length cb], .string ⟨be.toArray⟩] w fun e w' => e = .returned (.bool true) ∧ Below w.heap.size w w' := by
  have HG := Lib.hid hg
  have H := Lib.hid (And.intro h hu)
  clear hg h hu
  have HT := Lib.hid ht
  have HF := Lib.hid hf
  clear ht hf
  go_enter Tryz.func6, Tryz.ntmps6
  go_wp2_with fail
  refine (few_t t ao ca _ (H.out.1.1.below (below2s _ _ _)) HT.out).mono ?_
  rintro e w1 ⟨rfl, hb⟩
  have b1 := ((Blk.new w #[.string ⟨t.name.toArray⟩, .int .i64 t.keys, .slice ao t.cs.length ca] 24).alloc (.cells #[.string ⟨u.name.toArray⟩, .int .i64 u.keys, .slice bo u.cs.length cb] 24)).below hb
  have d1 : Blk w1 (w.heap.size + 1) #[.string ⟨u.name.toArray⟩, .int .i64 u.keys, .slice bo u.cs.length cb] 24 := by have := (Blk.new (w.alloc (.cells #[.string ⟨t.name.toArray⟩, .int .i64 t.keys, .slice ao t.cs.length ca] 24)) #[.string ⟨u.name.toArray⟩, .int .i64 u.keys, .slice bo u.cs.length cb] 24).below hb; simpa using this
  have K1 := Lib.hid (And.intro (step1 (below1 w _) hb) (And.intro b1 d1))
  obtain ⟨s0, s1, s2⟩ := d1.t3
  clear hb b1 d1
  go_wp2_with fail
  refine (few_n u bo cb _ (H.out.2.1.below K1.out.1) HF.out).mono ?_
  rintro e w2 ⟨rfl, hb⟩
  have b2 := K1.out.2.1.below hb
  have d2 := K1.out.2.2.below hb
  have K2 := Lib.hid (And.intro (step0 K1.out.1 hb) (And.intro b2 d2))
  obtain ⟨t0, t1, t2⟩ := b2.t3
  clear hb b2 d2 s0 s1 s2
  go_wp2_with fail
  refine (awake_any _ (HG.out.keep K2.out.1)).mono ?_
  rintro e u9 ⟨rfl, hb⟩
  have Z9 := Lib.hid (step0 K2.out.1 hb)
  clear hb
  go_wp2
  go_ret
  exact ⟨rfl, Z9.out⟩

set_option maxHeartbeats 8000000 in
theorem schemaBack_n3 (t u : T) (be : List UInt8) (ao bo : Option Addr) (ca cb : Nat) (w : World) (h : At3 w t ao ca) (hu : At3 w u bo cb) (hg : Env w) (ht : Tb t) (hf : Tb u) (hb : (2000 : Int) < (be.length : Int)) :
    Calls Tryz.prog 6 #[.agg #[.string ⟨t.name.toArray⟩, .int .i64 t.keys, .slice ao t.cs.length ca], .agg #[.string ⟨u.name.toArray⟩, .int .i64 u.keys, .slice bo u.cs.length cb], .string ⟨be.toArray⟩] w fun e w' => e = .returned (.bool true) ∧ Below w.heap.size w w' := by
  have HG := Lib.hid hg
  have H := Lib.hid (And.intro h hu)
  clear hg h hu
  have HT := Lib.hid ht
  have HF := Lib.hid hf
  clear ht hf
  go_enter Tryz.func6, Tryz.ntmps6
  go_wp2_with fail
  refine (few_t t ao ca _ (H.out.1.1.below (below2s _ _ _)) HT.out).mono ?_
  rintro e w1 ⟨rfl, hb⟩
  have b1 := ((Blk.new w #[.string ⟨t.name.toArray⟩, .int .i64 t.keys, .slice ao t.cs.length ca] 24).alloc (.cells #[.string ⟨u.name.toArray⟩, .int .i64 u.keys, .slice bo u.cs.length cb] 24)).below hb
  have d1 : Blk w1 (w.heap.size + 1) #[.string ⟨u.name.toArray⟩, .int .i64 u.keys, .slice bo u.cs.length cb] 24 := by have := (Blk.new (w.alloc (.cells #[.string ⟨t.name.toArray⟩, .int .i64 t.keys, .slice ao t.cs.length ca] 24)) #[.string ⟨u.name.toArray⟩, .int .i64 u.keys, .slice bo u.cs.length cb] 24).below hb; simpa using this
  have K1 := Lib.hid (And.intro (step1 (below1 w _) hb) (And.intro b1 d1))
  obtain ⟨s0, s1, s2⟩ := d1.t3
  clear hb b1 d1
  go_wp2_with fail
  refine (few_t u bo cb _ (H.out.2.1.below K1.out.1) HF.out).mono ?_
  rintro e w2 ⟨rfl, hb⟩
  have b2 := K1.out.2.1.below hb
  have d2 := K1.out.2.2.below hb
  have K2 := Lib.hid (And.intro (step0 K1.out.1 hb) (And.intro b2 d2))
  obtain ⟨t0, t1, t2⟩ := b2.t3
  clear hb b2 d2 s0 s1 s2
  go_wp2_with fail
  refine (awake_any _ (HG.out.keep K2.out.1)).mono ?_
  rintro e u9 ⟨rfl, hb⟩
  have Z9 := Lib.hid (step0 K2.out.1 hb)
  clear hb
  go_wp2
  go_ret
  exact ⟨rfl, Z9.out⟩

set_option maxHeartbeats 8000000 in
theorem schemaBack_bad (t u : T) (be : List UInt8) (ao bo : Option Addr) (ca cb : Nat) (w : World) (h : At3 w t ao ca) (hu : At3 w u bo cb) (hg : Env w) (ht : Tb t) (hf : Tb u) (hl : be.length ≤ 2000) (E : Int) (hE : t.ck = E) (hE0 : ¬ E = 0) :
    Calls Tryz.prog 6 #[.agg #[.string ⟨t.name.toArray⟩, .int .i64 t.keys, .slice ao t.cs.length ca], .agg #[.string ⟨u.name.toArray⟩, .int .i64 u.keys, .slice bo u.cs.length cb], .string ⟨be.toArray⟩] w fun e w' => e = .returned (.bool true) ∧ Below w.heap.size w w' := by
  have HG := Lib.hid hg
  have H := Lib.hid (And.intro h hu)
  clear hg h hu
  have q1 : decide ((2000 : Int) < (be.length : Int)) = false := by rw [decide_eq_false_iff_not]; omega
  have HT := Lib.hid ht
  have HF := Lib.hid (And.intro hf hE)
  have ep : t.pt = [] := by unfold T.pt; rw [if_pos (by omega)]
  have e1 := bne_t hE0
  clear ht hf hl hE
  go_enter Tryz.func6, Tryz.ntmps6
  go_wp2_with fail
  refine (few_t t ao ca _ (H.out.1.1.below (below2s _ _ _)) HT.out).mono ?_
  rintro e w1 ⟨rfl, hb⟩
  have b1 := ((Blk.new w #[.string ⟨t.name.toArray⟩, .int .i64 t.keys, .slice ao t.cs.length ca] 24).alloc (.cells #[.string ⟨u.name.toArray⟩, .int .i64 u.keys, .slice bo u.cs.length cb] 24)).below hb
  have d1 : Blk w1 (w.heap.size + 1) #[.string ⟨u.name.toArray⟩, .int .i64 u.keys, .slice bo u.cs.length cb] 24 := by have := (Blk.new (w.alloc (.cells #[.string ⟨t.name.toArray⟩, .int .i64 t.keys, .slice ao t.cs.length ca] 24)) #[.string ⟨u.name.toArray⟩, .int .i64 u.keys, .slice bo u.cs.length cb] 24).below hb; simpa using this
  have K1 := Lib.hid (And.intro (step1 (below1 w _) hb) (And.intro b1 d1))
  obtain ⟨s0, s1, s2⟩ := d1.t3
  clear hb b1 d1
  go_wp2_with fail
  refine (few_t u bo cb _ (H.out.2.1.below K1.out.1) HF.out.1).mono ?_
  rintro e w2 ⟨rfl, hb⟩
  have b2 := K1.out.2.1.below hb
  have d2 := K1.out.2.2.below hb
  have K2 := Lib.hid (And.intro (step0 K1.out.1 hb) (And.intro b2 d2))
  obtain ⟨t0, t1, t2⟩ := b2.t3
  clear hb b2 d2 s0 s1 s2
  go_wp2_with fail
  refine (put_t t ao ca E _ (HG.out.keep K2.out.1) (H.out.1.keep K2.out.1) HF.out.2).mono ?_
  rintro e w3 ⟨rfl, hb⟩
  have b3 := K2.out.2.1.below hb
  have d3 := K2.out.2.2.below hb
  have K3 := Lib.hid (And.intro (step0 K2.out.1 hb) (And.intro b3 d3))
  clear hb b3 d3 t0 t1 t2
  rw [ep]
  go_wp2_with fail
  refine (awake_any _ (HG.out.keep K3.out.1)).mono ?_
  rintro e u9 ⟨rfl, hb⟩
  have Z9 := Lib.hid (step0 K3.out.1 hb)
  clear hb
  go_wp2
  go_ret
  exact ⟨rfl, Z9.out⟩

set_option maxHeartbeats 8000000 in
theorem schemaBack_ubad (t u : T) (be : List UInt8) (ao bo : Option Addr) (ca cb : Nat) (w : World) (h : At3 w t ao ca) (hu : At3 w u bo cb) (hg : Env w) (ht : Tb t) (hf : Tb u) (hl : be.length ≤ 2000) (hE : t.ck = 0) (E : Int) (hE2 : u.ck = E) (hE0 : ¬ E = 0) :
    Calls Tryz.prog 6 #[.agg #[.string ⟨t.name.toArray⟩, .int .i64 t.keys, .slice ao t.cs.length ca], .agg #[.string ⟨u.name.toArray⟩, .int .i64 u.keys, .slice bo u.cs.length cb], .string ⟨be.toArray⟩] w fun e w' => e = .returned (.bool true) ∧ Below w.heap.size w w' := by
  obtain ⟨ss, hss⟩ : ∃ ss, t.by = ss := ⟨_, rfl⟩
  have ep : t.pt = ss := by rw [← hss]; unfold T.pt; rw [if_neg (by simpa using hE)]
  have ls : ss.length ≤ 2000 := by rw [← hss]; exact by_len hE
  have rd : rdt (ss ++ be) = (t, be, 0) := by rw [← hss]; exact rdt_by hE h.2.2 be
  have HS := Lib.hid (And.intro hss (And.intro ls (And.intro hl rd)))
  have hd : (9223372036854775807 < ss.length + be.length) = False := by rw [eq_iff_iff, iff_false]; omega
  have cat := cat_list ss be
  have n1 : (be != be) = false := by simp
  have HG := Lib.hid hg
  have H := Lib.hid (And.intro h hu)
  clear hg h hu
  have q1 : decide ((2000 : Int) < (be.length : Int)) = false := by rw [decide_eq_false_iff_not]; omega
  have HT := Lib.hid ht
  have HF := Lib.hid (And.intro hf (And.intro hE hE2))
  have e1 := bne_t hE0
  clear ht hf hl hE hE2 hss ls rd
  go_enter Tryz.func6, Tryz.ntmps6
  go_wp2_with fail
  refine (few_t t ao ca _ (H.out.1.1.below (below2s _ _ _)) HT.out).mono ?_
  rintro e w1 ⟨rfl, hb⟩
  have b1 := ((Blk.new w #[.string ⟨t.name.toArray⟩, .int .i64 t.keys, .slice ao t.cs.length ca] 24).alloc (.cells #[.string ⟨u.name.toArray⟩, .int .i64 u.keys, .slice bo u.cs.length cb] 24)).below hb
  have d1 : Blk w1 (w.heap.size + 1) #[.string ⟨u.name.toArray⟩, .int .i64 u.keys, .slice bo u.cs.length cb] 24 := by have := (Blk.new (w.alloc (.cells #[.string ⟨t.name.toArray⟩, .int .i64 t.keys, .slice ao t.cs.length ca] 24)) #[.string ⟨u.name.toArray⟩, .int .i64 u.keys, .slice bo u.cs.length cb] 24).below hb; simpa using this
  have K1 := Lib.hid (And.intro (step1 (below1 w _) hb) (And.intro b1 d1))
  obtain ⟨s0, s1, s2⟩ := d1.t3
  clear hb b1 d1
  go_wp2_with fail
  refine (few_t u bo cb _ (H.out.2.1.below K1.out.1) HF.out.1).mono ?_
  rintro e w2 ⟨rfl, hb⟩
  have b2 := K1.out.2.1.below hb
  have d2 := K1.out.2.2.below hb
  have K2 := Lib.hid (And.intro (step0 K1.out.1 hb) (And.intro b2 d2))
  obtain ⟨t0, t1, t2⟩ := b2.t3
  clear hb b2 d2 s0 s1 s2
  go_wp2_with fail
  refine (put_t t ao ca 0 _ (HG.out.keep K2.out.1) (H.out.1.keep K2.out.1) HF.out.2.1).mono ?_
  rintro e w3 ⟨rfl, hb⟩
  have b3 := K2.out.2.1.below hb
  have d3 := K2.out.2.2.below hb
  have K3 := Lib.hid (And.intro (step0 K2.out.1 hb) (And.intro b3 d3))
  clear hb b3 d3 t0 t1 t2
  rw [ep]
  go_wp2_with fail
  refine (read_is (ss ++ be) be t 0 _ (HG.out.keep K3.out.1) (by have := HS.out.2.1; have := HS.out.2.2.1; simp; omega) HS.out.2.2.2).mono ?_
  rintro e w4 ⟨vo, vc, rfl, hS, hc, hfr, hb⟩
  have x4 := (K3.out.2.1.below hb).alloc (.cells #[.string ⟨t.name.toArray⟩, .int .i64 t.keys, .slice vo t.cs.length vc] 24)
  have y4 := (K3.out.2.2.below hb).alloc (.cells #[.string ⟨t.name.toArray⟩, .int .i64 t.keys, .slice vo t.cs.length vc] 24)
  have K4 := Lib.hid (And.intro ((step0 K3.out.1 hb).alloc (step0 K3.out.1 hb).size (.cells #[.string ⟨t.name.toArray⟩, .int .i64 t.keys, .slice vo t.cs.length vc] 24)) (And.intro x4 (And.intro y4 (hS.below (below1 w4 (.cells #[.string ⟨t.name.toArray⟩, .int .i64 t.keys, .slice vo t.cs.length vc] 24))))))
  obtain ⟨t0, t1, t2⟩ := x4.t3
  clear hS hc hfr hb x4 y4
  go_wp2_with fail
  refine (rtsame_is t t ao vo ca vc _ (H.out.1.1.below K4.out.1) K4.out.2.2.2 (by have := HT.out.1; omega) true ((T.sm_iff _ _).2 rfl)).mono ?_
  rintro e w5 ⟨rfl, hb⟩
  have x5 := K4.out.2.1.below hb
  have y5 := K4.out.2.2.1.below hb
  have K5 := Lib.hid (And.intro (step0 K4.out.1 hb) (And.intro x5 y5))
  obtain ⟨s0, s1, s2⟩ := y5.t3
  clear hb x5 y5 t0 t1 t2
  go_wp2_with fail
  refine (put_t u bo cb E _ (HG.out.keep K5.out.1) (H.out.2.keep K5.out.1) HF.out.2.2).mono ?_
  rintro e w6 ⟨rfl, hb⟩
  have K6 := Lib.hid (step0 K5.out.1 hb)
  clear hb s0 s1 s2
  go_wp2_with fail
  refine (awake_any _ (HG.out.keep K6.out)).mono ?_
  rintro e u9 ⟨rfl, hb⟩
  have Z9 := Lib.hid (step0 K6.out hb)
  clear hb
  go_wp2
  go_ret
  exact ⟨rfl, Z9.out⟩

set_option maxHeartbeats 8000000 in
theorem schemaBack_good (t u : T) (be : List UInt8) (ao bo : Option Addr) (ca cb : Nat) (w : World) (h : At3 w t ao ca) (hu : At3 w u bo cb) (hg : Env w) (ht : Tb t) (hf : Tb u) (hl : be.length ≤ 2000) (hE : t.ck = 0) (hE2 : u.ck = 0) :
    Calls Tryz.prog 6 #[.agg #[.string ⟨t.name.toArray⟩, .int .i64 t.keys, .slice ao t.cs.length ca], .agg #[.string ⟨u.name.toArray⟩, .int .i64 u.keys, .slice bo u.cs.length cb], .string ⟨be.toArray⟩] w fun e w' => e = .returned (.bool true) ∧ Below w.heap.size w w' := by
  obtain ⟨ss, hss⟩ : ∃ ss, t.by = ss := ⟨_, rfl⟩
  have ep : t.pt = ss := by rw [← hss]; unfold T.pt; rw [if_neg (by simpa using hE)]
  have ls : ss.length ≤ 2000 := by rw [← hss]; exact by_len hE
  have rd : rdt (ss ++ be) = (t, be, 0) := by rw [← hss]; exact rdt_by hE h.2.2 be
  have HS := Lib.hid (And.intro hss (And.intro ls (And.intro hl rd)))
  have hd : (9223372036854775807 < ss.length + be.length) = False := by rw [eq_iff_iff, iff_false]; omega
  have cat := cat_list ss be
  have n1 : (be != be) = false := by simp
  obtain ⟨us, hus⟩ : ∃ us, u.by = us := ⟨_, rfl⟩
  have eu : u.pt = us := by rw [← hus]; unfold T.pt; rw [if_neg (by simpa using hE2)]
  obtain ⟨r, hr⟩ : ∃ r, T.sm t u = r := ⟨_, rfl⟩
  have er : (us == ss) = r := by
    rw [← hr, Bool.eq_iff_iff, T.sm_iff, beq_iff_eq, ← hss, ← hus]
    exact ⟨fun e => (by_inj hE2 hE hu.2.2 h.2.2 e).symm, fun e => by rw [e]⟩
  have HR := Lib.hid hr
  have HG := Lib.hid hg
  have H := Lib.hid (And.intro h hu)
  clear hg h hu
  have q1 : decide ((2000 : Int) < (be.length : Int)) = false := by rw [decide_eq_false_iff_not]; omega
  have HT := Lib.hid ht
  have HF := Lib.hid (And.intro hf (And.intro hE hE2))
  have n2 : (r == r) = true := by simp
  clear ht hf hl hE hE2 hss ls rd hus hr
  go_enter Tryz.func6, Tryz.ntmps6
  go_wp2_with fail
  refine (few_t t ao ca _ (H.out.1.1.below (below2s _ _ _)) HT.out).mono ?_
  rintro e w1 ⟨rfl, hb⟩
  have b1 := ((Blk.new w #[.string ⟨t.name.toArray⟩, .int .i64 t.keys, .slice ao t.cs.length ca] 24).alloc (.cells #[.string ⟨u.name.toArray⟩, .int .i64 u.keys, .slice bo u.cs.length cb] 24)).below hb
  have d1 : Blk w1 (w.heap.size + 1) #[.string ⟨u.name.toArray⟩, .int .i64 u.keys, .slice bo u.cs.length cb] 24 := by have := (Blk.new (w.alloc (.cells #[.string ⟨t.name.toArray⟩, .int .i64 t.keys, .slice ao t.cs.length ca] 24)) #[.string ⟨u.name.toArray⟩, .int .i64 u.keys, .slice bo u.cs.length cb] 24).below hb; simpa using this
  have K1 := Lib.hid (And.intro (step1 (below1 w _) hb) (And.intro b1 d1))
  obtain ⟨s0, s1, s2⟩ := d1.t3
  clear hb b1 d1
  go_wp2_with fail
  refine (few_t u bo cb _ (H.out.2.1.below K1.out.1) HF.out.1).mono ?_
  rintro e w2 ⟨rfl, hb⟩
  have b2 := K1.out.2.1.below hb
  have d2 := K1.out.2.2.below hb
  have K2 := Lib.hid (And.intro (step0 K1.out.1 hb) (And.intro b2 d2))
  obtain ⟨t0, t1, t2⟩ := b2.t3
  clear hb b2 d2 s0 s1 s2
  go_wp2_with fail
  refine (put_t t ao ca 0 _ (HG.out.keep K2.out.1) (H.out.1.keep K2.out.1) HF.out.2.1).mono ?_
  rintro e w3 ⟨rfl, hb⟩
  have b3 := K2.out.2.1.below hb
  have d3 := K2.out.2.2.below hb
  have K3 := Lib.hid (And.intro (step0 K2.out.1 hb) (And.intro b3 d3))
  clear hb b3 d3 t0 t1 t2
  rw [ep]
  go_wp2_with fail
  refine (read_is (ss ++ be) be t 0 _ (HG.out.keep K3.out.1) (by have := HS.out.2.1; have := HS.out.2.2.1; simp; omega) HS.out.2.2.2).mono ?_
  rintro e w4 ⟨vo, vc, rfl, hS, hc, hfr, hb⟩
  have x4 := (K3.out.2.1.below hb).alloc (.cells #[.string ⟨t.name.toArray⟩, .int .i64 t.keys, .slice vo t.cs.length vc] 24)
  have y4 := (K3.out.2.2.below hb).alloc (.cells #[.string ⟨t.name.toArray⟩, .int .i64 t.keys, .slice vo t.cs.length vc] 24)
  have K4 := Lib.hid (And.intro ((step0 K3.out.1 hb).alloc (step0 K3.out.1 hb).size (.cells #[.string ⟨t.name.toArray⟩, .int .i64 t.keys, .slice vo t.cs.length vc] 24)) (And.intro x4 (And.intro y4 (hS.below (below1 w4 (.cells #[.string ⟨t.name.toArray⟩, .int .i64 t.keys, .slice vo t.cs.length vc] 24))))))
  obtain ⟨t0, t1, t2⟩ := x4.t3
  clear hS hc hfr hb x4 y4
  go_wp2_with fail
  refine (rtsame_is t t ao vo ca vc _ (H.out.1.1.below K4.out.1) K4.out.2.2.2 (by have := HT.out.1; omega) true ((T.sm_iff _ _).2 rfl)).mono ?_
  rintro e w5 ⟨rfl, hb⟩
  have x5 := K4.out.2.1.below hb
  have y5 := K4.out.2.2.1.below hb
  have K5 := Lib.hid (And.intro (step0 K4.out.1 hb) (And.intro x5 y5))
  obtain ⟨s0, s1, s2⟩ := y5.t3
  clear hb x5 y5 t0 t1 t2
  go_wp2_with fail
  refine (put_t u bo cb 0 _ (HG.out.keep K5.out.1) (H.out.2.keep K5.out.1) HF.out.2.2).mono ?_
  rintro e w6 ⟨rfl, hb⟩
  have x6 := K5.out.2.1.below hb
  have y6 := K5.out.2.2.below hb
  have K6 := Lib.hid (step0 K5.out.1 hb)
  obtain ⟨t0, t1, t2⟩ := x6.t3
  obtain ⟨p0, p1, p2⟩ := y6.t3
  clear hb s0 s1 s2 x6 y6
  rw [eu]
  go_wp2_with fail
  refine (tsame_is t u ao bo ca cb _ (H.out.1.1.below K6.out) (H.out.2.1.below K6.out) (by have := HT.out.1; omega) r HR.out).mono ?_
  rintro e w7 ⟨rfl, hb⟩
  have K7 := Lib.hid (step0 K6.out hb)
  clear hb
  go_wp2_with fail
  refine (awake_any _ (HG.out.keep K7.out)).mono ?_
  rintro e u9 ⟨rfl, hb⟩
  have Z9 := Lib.hid (step0 K7.out hb)
  clear hb
  go_wp2
  go_ret
  exact ⟨rfl, Z9.out⟩

theorem schemaBack_walk (t u : T) (be : List UInt8) (ao bo : Option Addr) (ca cb : Nat) (w : World) (h : At3 w t ao ca) (hu : At3 w u bo cb) (hg : Env w) :
    Calls Tryz.prog 6 #[.agg #[.string ⟨t.name.toArray⟩, .int .i64 t.keys, .slice ao t.cs.length ca], .agg #[.string ⟨u.name.toArray⟩, .int .i64 u.keys, .slice bo u.cs.length cb], .string ⟨be.toArray⟩] w fun e w' => e = .returned (.bool true) ∧ Below w.heap.size w w' := by
  by_cases h1 : Tb t
  · by_cases h2 : Tb u
    · by_cases h3 : be.length ≤ 2000
      · by_cases h4 : t.ck = 0
        · by_cases h5 : u.ck = 0
          · exact schemaBack_good t u be ao bo ca cb w h hu hg h1 h2 h3 h4 h5
          · exact schemaBack_ubad t u be ao bo ca cb w h hu hg h1 h2 h3 h4 _ rfl h5
        · exact schemaBack_bad t u be ao bo ca cb w h hu hg h1 h2 h3 _ rfl h4
      · exact schemaBack_n3 t u be ao bo ca cb w h hu hg h1 h2 (by omega)
    · exact schemaBack_n2 t u be ao bo ca cb w h hu hg h1 h2
  · exact schemaBack_n1 t u be ao bo ca cb w h hu hg h1

end Go.Proofs.YtakpieiafoappaaGreatDoor
