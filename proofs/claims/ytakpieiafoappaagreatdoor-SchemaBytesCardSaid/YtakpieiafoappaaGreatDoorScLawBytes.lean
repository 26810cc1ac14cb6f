/-
  The walk of law SchemaBytes. Condition: the library's variable errors.errorType holds the handle of the type error.
-/
import Derived.Test.YtakpieiafoappaaGreatDoorScLawChecks
import Derived.Test.YtakpieiafoappaaGreatDoorScRefPut
import Derived.Test.YtakpieiafoappaaGreatDoorScRefRead
namespace Go.Proofs.YtakpieiafoappaaGreatDoor
open Go.RowKit

theorem rtread_is (l r : List UInt8) (t : T) (e : Int) (w : World) (hl : l.length ≤ 1000000) (h : rdt l = (t, r, e)) : Calls Tryz.prog 25 #[.string ⟨l.toArray⟩] w (RT (t, r, e) w) := by
  have := rread_t l w hl
  rw [h] at this
  exact this
theorem rdt_len (l : List UInt8) : (rdt l).1.cs.length ≤ 1000 := by
  unfold rdt
  split
  · simp [T0]
  · split
    · simp [T0]
    · rename_i h1 h2
      have h3 : (rdr l).1.ck = 0 := by simpa using h2
      have := (T.ck_ok h3).2.2.1
      omega

set_option maxHeartbeats 8000000 in
theorem schemaBytes_n1 (t : T) (s : List UInt8) (ao : Option Addr) (cap : Nat) (w : World) (h : At3 w t ao cap) (hg : Env w) (hf : ¬ Tb t) :
    Calls Tryz.prog 5 #[.agg #[.string ⟨t.name.toArray⟩, .int .i64 t.keys, .slice ao t.cs.length cap], .string ⟨s.toArray⟩] w fun e w' => e = .returned (.bool true) ∧ Below w.heap.size w w' := by
  have HG := Lib.hid hg
  have H := Lib.hid h
  clear hg h
  have HF := Lib.hid hf
  clear hf
  go_enter Tryz.func5, Tryz.ntmps5
  go_wp2_with fail
  refine (few_n t ao cap _ (H.out.1.below (below1 _ _)) HF.out).mono ?_
  rintro e w1 ⟨rfl, hb⟩
  have b1 := (Blk.new w #[.string ⟨t.name.toArray⟩, .int .i64 t.keys, .slice ao t.cs.length cap] 24).below hb
  obtain ⟨t0, t1, t2⟩ := b1.t3
  have K1 := Lib.hid (And.intro (step1 (Below.refl _ w) hb) b1)
  clear hb b1
  go_wp2_with fail
  refine (awake_any _ (HG.out.keep K1.out.1)).mono ?_
  rintro e u9 ⟨rfl, hb⟩
  have Z9 := Lib.hid (step0 K1.out.1 hb)
  clear hb
  go_wp2
  go_ret
  exact ⟨rfl, Z9.out⟩

set_option maxHeartbeats 8000000 in
theorem schemaBytes_n2 (t : T) (s : List UInt8) (ao : Option Addr) (cap : Nat) (w : World) (h : At3 w t ao cap) (hg : Env w) (hf : Tb t) (hs : (2000 : Int) < (s.length : Int)) :
    Calls Tryz.prog 5 #[.agg #[.string ⟨t.name.toArray⟩, .int .i64 t.keys, .slice ao t.cs.length cap], .string ⟨s.toArray⟩] w fun e w' => e = .returned (.bool true) ∧ Below w.heap.size w w' := by
  have HG := Lib.hid hg
  have H := Lib.hid h
  clear hg h
  have HF := Lib.hid hf
  clear hf
  go_enter Tryz.func5, Tryz.ntmps5
  go_wp2_with fail
  refine (few_t t ao cap _ (H.out.1.below (below1 _ _)) HF.out).mono ?_
  rintro e w1 ⟨rfl, hb⟩
  have b1 := (Blk.new w #[.string ⟨t.name.toArray⟩, .int .i64 t.keys, .slice ao t.cs.length cap] 24).below hb
  obtain ⟨t0, t1, t2⟩ := b1.t3
  have K1 := Lib.hid (And.intro (step1 (Below.refl _ w) hb) b1)
  clear hb b1
  go_wp2_with fail
  refine (awake_any _ (HG.out.keep K1.out.1)).mono ?_
  rintro e u9 ⟨rfl, hb⟩
  have Z9 := Lib.hid (step0 K1.out.1 hb)
  clear hb
  go_wp2
  go_ret
  exact ⟨rfl, Z9.out⟩

set_option maxHeartbeats 8000000 in
theorem schemaBytes_in (t : T) (s : List UInt8) (ao : Option Addr) (cap : Nat) (w : World) (h : At3 w t ao cap) (hg : Env w) (hf : Tb t) (hs : s.length ≤ 2000) :
    Calls Tryz.prog 5 #[.agg #[.string ⟨t.name.toArray⟩, .int .i64 t.keys, .slice ao t.cs.length cap], .string ⟨s.toArray⟩] w fun e w' => e = .returned (.bool true) ∧ Below w.heap.size w w' := by
  have HG := Lib.hid hg
  have H := Lib.hid h
  clear hg h
  have HF := Lib.hid hf
  have q1 : decide ((2000 : Int) < (s.length : Int)) = false := by rw [decide_eq_false_iff_not]; omega
  obtain ⟨E, hE⟩ : ∃ E, t.ck = E := ⟨_, rfl⟩
  obtain ⟨pp, hp⟩ : ∃ pp, t.pt = pp := ⟨_, rfl⟩
  obtain ⟨⟨u, r, f⟩, hR⟩ : ∃ Q, rdt s = Q := ⟨_, rfl⟩
  have hul : u.cs.length ≤ 1000 := by
    have := rdt_len s
    rw [hR] at this
    exact this
  have HE := Lib.hid (And.intro hE (And.intro hR (And.intro hs hul)))
  have s1 : (pp == pp) = true := by simp
  have s2 : (r == r) = true := by simp
  clear hf hs hE hR hul
  go_enter Tryz.func5, Tryz.ntmps5
  go_wp2_with fail
  refine (few_t t ao cap _ (H.out.1.below (below1 _ _)) HF.out).mono ?_
  rintro e w1 ⟨rfl, hb⟩
  have b1 := (Blk.new w #[.string ⟨t.name.toArray⟩, .int .i64 t.keys, .slice ao t.cs.length cap] 24).below hb
  obtain ⟨t0, t1, t2⟩ := b1.t3
  have K1 := Lib.hid (And.intro (step1 (Below.refl _ w) hb) b1)
  clear hb b1
  go_wp2_with fail
  refine (put_t t ao cap E _ (HG.out.keep K1.out.1) (H.out.keep K1.out.1) HE.out.1).mono ?_
  rintro e w2 ⟨rfl, hb⟩
  obtain ⟨s3, s4, s5⟩ := (K1.out.2.below hb).t3
  have K2 := Lib.hid (And.intro (step0 K1.out.1 hb) (K1.out.2.below hb))
  clear hb t0 t1 t2
  rw [hp]
  go_wp2_with fail
  refine (rput_t t ao cap E _ (H.out.keep K2.out.1) HE.out.1).mono ?_
  rintro e w3 ⟨rfl, hb⟩
  have K3 := Lib.hid (step0 K2.out.1 hb)
  clear hb s3 s4 s5
  rw [hp]
  clear hp
  go_wp2_with fail
  refine (read_is s r u f _ (HG.out.keep K3.out) (by have := HE.out.2.2.1; omega) HE.out.2.1).mono ?_
  rintro e w4 ⟨vo, vc, rfl, hS, _, _, hb⟩
  have K4 := Lib.hid (And.intro ((step0 K3.out hb).alloc (step0 K3.out hb).size (.cells #[.string ⟨u.name.toArray⟩, .int .i64 u.keys, .slice vo u.cs.length vc] 24)) (And.intro (Blk.new w4 #[.string ⟨u.name.toArray⟩, .int .i64 u.keys, .slice vo u.cs.length vc] 24) (hS.below (below1 w4 (.cells #[.string ⟨u.name.toArray⟩, .int .i64 u.keys, .slice vo u.cs.length vc] 24)))))
  clear hb hS
  go_wp2_with fail
  refine (rtread_is s r u f _ (by have := HE.out.2.2.1; omega) HE.out.2.1).mono ?_
  rintro e w5 ⟨xo, xc, rfl, hS, _, _, hb⟩
  have x5 := (K4.out.2.1.below hb).alloc (.cells #[.string ⟨u.name.toArray⟩, .int .i64 u.keys, .slice xo u.cs.length xc] 24)
  have y5 := Blk.new w5 #[.string ⟨u.name.toArray⟩, .int .i64 u.keys, .slice xo u.cs.length xc] 24
  have K5 := Lib.hid (And.intro ((step0 K4.out.1 hb).alloc (step0 K4.out.1 hb).size (.cells #[.string ⟨u.name.toArray⟩, .int .i64 u.keys, .slice xo u.cs.length xc] 24)) (And.intro ((K4.out.2.2.below hb).below (below1 w5 (.cells #[.string ⟨u.name.toArray⟩, .int .i64 u.keys, .slice xo u.cs.length xc] 24))) (hS.below (below1 w5 (.cells #[.string ⟨u.name.toArray⟩, .int .i64 u.keys, .slice xo u.cs.length xc] 24)))))
  obtain ⟨t0, t1, t2⟩ := x5.t3
  clear hb hS x5 y5
  go_wp2_with fail
  refine (rtsame_is u u vo xo vc xc _ K5.out.2.1 K5.out.2.2 HE.out.2.2.2 true ((T.sm_iff _ _).2 rfl)).mono ?_
  rintro e w6 ⟨rfl, hb⟩
  have K6 := Lib.hid (step0 K5.out.1 hb)
  clear hb
  go_wp2_with fail
  refine (awake_any _ (HG.out.keep K6.out)).mono ?_
  rintro e u9 ⟨rfl, hb⟩
  have Z9 := Lib.hid (step0 K6.out hb)
  clear hb
  go_wp2
  go_ret
  exact ⟨rfl, Z9.out⟩

theorem schemaBytes_walk (t : T) (s : List UInt8) (ao : Option Addr) (cap : Nat) (w : World) (h : At3 w t ao cap) (hg : Env w) :
    Calls Tryz.prog 5 #[.agg #[.string ⟨t.name.toArray⟩, .int .i64 t.keys, .slice ao t.cs.length cap], .string ⟨s.toArray⟩] w fun e w' => e = .returned (.bool true) ∧ Below w.heap.size w w' := by
  by_cases h1 : Tb t
  · by_cases h2 : s.length ≤ 2000
    · exact schemaBytes_in t s ao cap w h hg h1 h2
    · exact schemaBytes_n2 t s ao cap w h hg h1 (by omega)
  · exact schemaBytes_n1 t s ao cap w h hg h1

end Go.Proofs.YtakpieiafoappaaGreatDoor
