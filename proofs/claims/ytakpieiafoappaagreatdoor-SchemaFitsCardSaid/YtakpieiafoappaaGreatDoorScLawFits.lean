/-
  The walk of law SchemaFits. Condition: the library's variable errors.errorType holds the handle of the type error.
-/
import Derived.Test.YtakpieiafoappaaGreatDoorScLawChecks
namespace Go.Proofs.YtakpieiafoappaaGreatDoor
open Go.RowKit

set_option maxHeartbeats 8000000 in
theorem schemaFits_walk (t : T) (xs : List V) (wh : Bool) (ao bo : Option Addr) (cap cb : Nat) (w : World) (h : At3 w t ao cap) (hx : Sl w bo xs) (ho : ∀ x ∈ xs, x.ok) (hcb : xs.length ≤ cb) (hg : Env w) :
    Calls Tryz.prog 4 #[.agg #[.string ⟨t.name.toArray⟩, .int .i64 t.keys, .slice ao t.cs.length cap], .slice bo xs.length cb, .bool wh] w fun e w' => e = .returned (.bool true) ∧ Below w.heap.size w w' := by
  have hmx : Tryz.prog.follows .mixedOrders = true := by kernel_rfl
  have HG := Lib.hid hg
  have H := Lib.hid (And.intro h (And.intro hx (And.intro ho hcb)))
  clear hg h hx ho hcb
  by_cases hf : Tb t
  · have HF := Lib.hid hf
    clear hf
    by_cases hn : xs.length ≤ 30 ∧ ∀ x ∈ xs, x.s.length ≤ 2000
    · have HN := Lib.hid hn
      clear hn
      obtain ⟨E, hE⟩ : ∃ E, t.fit xs = E := ⟨_, rfl⟩
      obtain ⟨F, hF⟩ : ∃ F, t.fitk xs wh = F := ⟨_, rfl⟩
      obtain ⟨kk, hk⟩ : ∃ kk, t.key xs = kk := ⟨_, rfl⟩
      have HE := Lib.hid (And.intro hE (And.intro hF hk))
      clear hE hF hk
      have s1 : (kk == kk) = true := by simp
      go_enter Tryz.func4, Tryz.ntmps4
      go_wp2_with fail
      refine (few_t t ao cap _ (H.out.1.1.below (below1 _ _)) HF.out).mono ?_
      rintro e w1 ⟨rfl, hb⟩
      have b1 := (Blk.new w #[.string ⟨t.name.toArray⟩, .int .i64 t.keys, .slice ao t.cs.length cap] 24).below hb
      have K1 := Lib.hid (And.intro (step1 (Below.refl _ w) hb) b1)
      clear hb b1
      go_wp2_with fail
      refine (few_yes xs bo cb _ (H.out.2.1.below K1.out.1) HN.out.1 HN.out.2).mono ?_
      rintro e w2 ⟨rfl, hb⟩
      obtain ⟨t0, t1, t2⟩ := (K1.out.2.below hb).t3
      have K2 := Lib.hid (And.intro (step0 K1.out.1 hb) (K1.out.2.below hb))
      clear hb
      go_wp2_with fail
      refine (key_t t xs ao bo cap cb _ (H.out.1.keep K2.out.1) (H.out.2.1.below K2.out.1) HN.out.1 H.out.2.2.1 (HG.out.keep K2.out.1) H.out.2.2.2 E HE.out.1).mono ?_
      rintro e w3 ⟨rfl, hb⟩
      obtain ⟨s0, s2, s3⟩ := (K2.out.2.below hb).t3
      have K3 := Lib.hid (And.intro (step0 K2.out.1 hb) (K2.out.2.below hb))
      clear hb t0 t1 t2
      rw [HE.out.2.2]
      go_wp2_with fail
      refine (rkey_t t xs ao bo cap cb _ (H.out.1.keep K3.out.1) (H.out.2.1.below K3.out.1) HN.out.1 H.out.2.2.1 H.out.2.2.2 E HE.out.1).mono ?_
      rintro e w4 ⟨rfl, hb⟩
      have K4 := Lib.hid (And.intro (step0 K3.out.1 hb) (K3.out.2.below hb))
      clear hb s0 s2 s3
      rw [HE.out.2.2]
      go_wp2
      go_region_held3 (fun v => Below w4.heap.size w4 v ∧ v.cell? ⟨w.heap.size, 0, none⟩ = some (.string ⟨t.name.toArray⟩) ∧ v.cell? ⟨w.heap.size, 1, none⟩ = some (.int .i64 t.keys) ∧ v.cell? ⟨w.heap.size, 2, none⟩ = some (.slice ao t.cs.length cap))
        (first | exact three K4.out.2 (Below.refl _ _).drew | exact three K4.out.2 (step0 ‹Below w4.heap.size w4 _ ∧ _›.1 hb))
        (first
          | (go_at_call 18; refine (fits_t t xs ao bo cap cb _ (H.out.1.keep (step0 K4.out.1 ‹Below w4.heap.size w4 _ ∧ _›.1)) (H.out.2.1.below (step0 K4.out.1 ‹Below w4.heap.size w4 _ ∧ _›.1)) HN.out.1 H.out.2.2.1 (HG.out.keep (step0 K4.out.1 ‹Below w4.heap.size w4 _ ∧ _›.1)) E HE.out.1).mono ?_; rintro e w5 ⟨rfl, hb⟩)
          | (go_at_call 19; refine (rfits_t t xs ao bo cap cb _ (H.out.1.keep (step0 K4.out.1 ‹Below w4.heap.size w4 _ ∧ _›.1)) (H.out.2.1.below (step0 K4.out.1 ‹Below w4.heap.size w4 _ ∧ _›.1)) HN.out.1 H.out.2.2.1 E HE.out.1).mono ?_; rintro e w6 ⟨rfl, hb⟩)
          | (go_at_call 20; refine (fitsKey_t t xs ao bo cap cb _ (H.out.1.keep (step0 K4.out.1 ‹Below w4.heap.size w4 _ ∧ _›.1)) (H.out.2.1.below (step0 K4.out.1 ‹Below w4.heap.size w4 _ ∧ _›.1)) HN.out.1 H.out.2.2.1 (HG.out.keep (step0 K4.out.1 ‹Below w4.heap.size w4 _ ∧ _›.1)) wh F HE.out.2.1).mono ?_; rintro e w7 ⟨rfl, hb⟩)
          | (go_at_call 21; refine (rfitsKey_t t xs ao bo cap cb _ (H.out.1.keep (step0 K4.out.1 ‹Below w4.heap.size w4 _ ∧ _›.1)) (H.out.2.1.below (step0 K4.out.1 ‹Below w4.heap.size w4 _ ∧ _›.1)) HN.out.1 H.out.2.2.1 wh F HE.out.2.1).mono ?_; rintro e w8 ⟨rfl, hb⟩)
          | (go_at_call 8; refine (awake_any _ (HG.out.keep (step0 K4.out.1 ‹Below w4.heap.size w4 _ ∧ _›.1))).mono ?_; rintro e w9 ⟨rfl, hb⟩))
      have Z := Lib.hid (step0 K4.out.1 (show Below w4.heap.size w4 w9 from ‹Below w4.heap.size w4 w9 ∧ _›.1))
      go_wp2
      go_ret
      exact ⟨rfl, Z.out⟩
    · have HN := Lib.hid hn
      clear hn
      go_enter Tryz.func4, Tryz.ntmps4
      go_wp2_with fail
      refine (few_t t ao cap _ (H.out.1.1.below (below1 _ _)) HF.out).mono ?_
      rintro e w1 ⟨rfl, hb⟩
      have K1 := Lib.hid (step1 (Below.refl _ w) hb)
      clear hb
      go_wp2_with fail
      refine (few_no xs bo cb _ (H.out.2.1.below K1.out) HN.out).mono ?_
      rintro e w2 ⟨rfl, hb⟩
      have K2 := Lib.hid (step0 K1.out hb)
      clear hb
      go_wp2_with fail
      refine (awake_any _ (HG.out.keep K2.out)).mono ?_
      rintro e u9 ⟨rfl, hb⟩
      have Z9 := Lib.hid (step0 K2.out hb)
      clear hb
      go_wp2
      go_ret
      exact ⟨rfl, Z9.out⟩
  · have HF := Lib.hid hf
    clear hf
    go_enter Tryz.func4, Tryz.ntmps4
    go_wp2_with fail
    refine (few_n t ao cap _ (H.out.1.1.below (below1 _ _)) HF.out).mono ?_
    rintro e w1 ⟨rfl, hb⟩
    have B1 := Lib.hid (step1 (Below.refl _ w) hb)
    clear hb
    go_wp2_with fail
    refine (awake_any _ (HG.out.keep B1.out)).mono ?_
    rintro e u9 ⟨rfl, hb⟩
    have Z9 := Lib.hid (step0 B1.out hb)
    clear hb
    go_wp2
    go_ret
    exact ⟨rfl, Z9.out⟩

end Go.Proofs.YtakpieiafoappaaGreatDoor
