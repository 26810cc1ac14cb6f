/-
  What bytes begin with, of a change: ReadChange. Conditions: texts of 1000000 bytes at most.
-/
import Derived.Test.YtmgdciihpjifgaaGreatDoorQcOpReadG
import Derived.Test.YtmgdciihpjifgaaGreatDoorQcOpPutC
set_option maxHeartbeats 8000000
namespace Go.Proofs.YtmgdciihpjifgaaGreatDoor
open Go.RowKit
theorem rfs_bare (l : List UInt8) : (rfs l).1.df = T0 ∧ (rfs l).1.col = C0 := by
  unfold rfs
  exact bnd_fst (p := fun c : Ch => c.df = T0 ∧ c.col = C0) ⟨rfl, rfl⟩ fun _ _ _ => bnd_fst (p := fun c : Ch => c.df = T0 ∧ c.col = C0) ⟨rfl, rfl⟩ fun _ _ _ => bnd_fst (p := fun c : Ch => c.df = T0 ∧ c.col = C0) ⟨rfl, rfl⟩ fun _ _ _ => bnd_fst (p := fun c : Ch => c.df = T0 ∧ c.col = C0) ⟨rfl, rfl⟩ fun _ _ _ => bnd_fst (p := fun c : Ch => c.df = T0 ∧ c.col = C0) ⟨rfl, rfl⟩ fun _ _ _ => ⟨rfl, rfl⟩
theorem rtb_okv {c : Ch} (h : c.okv) (l : List UInt8) : (rtb c l).1.okv := by
  unfold rtb
  split
  · refine bnd_fst (p := Ch.okv) okv0 fun t q ht => ?_
    have o : ∀ x ∈ t.cs, x.d.ok := by have := rdt_ok' l; rw [ht] at this; exact this
    unfold Ch.wt
    split
    · exact ⟨h.1, o⟩
    · refine ⟨?_, h.2⟩
      rcases e : t.cs.getLast? with _ | x
      · rw [List.getLastD_eq_getLast?, e]; exact okv0.1
      · rw [List.getLastD_eq_getLast?, e]; exact o x (List.mem_of_getLast? e)
  · exact h
theorem bare_okv {c : Ch} (h1 : c.df = T0) (h2 : c.col = C0) : c.okv := by
  unfold Ch.okv
  rw [h1, h2]
  exact ⟨okv0.1, by simp [T0]⟩
theorem rtb_names (c : Ch) (l : List UInt8) : (rtb c l).1.names = c.names ∨ (rtb c l).1.names = [] := by
  unfold rtb
  split
  · refine bnd_fst (p := fun d : Ch => d.names = c.names ∨ d.names = []) (.inr rfl) fun t q _ => .inl ?_
    unfold Ch.wt
    split <;> rfl
  · exact .inl rfl
theorem bneq_t {a b : List UInt8} (h : ¬ a = b) : (a != b) = true := by simpa using h
theorem bneq_f {a b : List UInt8} (h : a = b) : (a != b) = false := by simpa using h
theorem readChange_is (l : List UInt8) (w : World) (hg : Env w) (hl : l.length ≤ 1000000) :
    Calls Tryz.prog 12 #[.string ⟨l.toArray⟩] w (RC (rdch l) w) := by
  obtain ⟨R, hR⟩ : ∃ R, rdch l = R := ⟨_, rfl⟩
  rw [hR]
  obtain ⟨c0, l1, E0, h0⟩ : ∃ c r e, rfs l = (c, r, e) := ⟨_, _, _, rfl⟩
  have s1 := rfs_sf l
  have b1 := rfs_bare l
  rw [h0] at s1 b1
  simp only at s1 b1
  have HR := Lib.hid (show bnd (bnd (c0, l1, E0) Ch0 rtb) Ch0 (rck l) = R from by rw [← hR, ← h0]; rfl)
  have H := Lib.hid (And.intro hg (And.intro hl (And.intro h0 (And.intro s1 b1))))
  clear hR hg hl h0 s1 b1
  go_enter Tryz.func12, Tryz.ntmps12
  go_wp2_with fail
  refine (readFields_is l _ H.out.2.1).mono ?_
  rintro e w1 hrc
  rw [H.out.2.2.1] at hrc
  obtain ⟨no, nc, rfl, hsl, hup, hb⟩ := hrc
  simp only at hsl
  have q2 := (Blk.new w (Ch0.a none 0 none 0) 32).below hb
  have K1 := Lib.hid (And.intro (step1 (Below.refl _ w) hb) (And.intro q2 (And.intro (hsl) (And.intro (hup.mono (show w.heap.size + 1 ≤ _ by rw [World.size_alloc]; omega)) q2.lt))))
  clear hsl hup hb q2
  go_wp2_with ((refine (?_ : wpList _ _ _ (Oper.mk _ (Op.store 32 _ _) _ _ _ _ :: _) _ _)); refine wpList_store_blk rfl 32 _ _ rfl (w1.heap.size) (Ch0.a none 0 none 0) (c0.a no nc none 0) rfl rfl (Blk.new' _ _ _ _ rfl) (by first | rfl | simp [sa_size]) (infoCh) (Ch.a_one _ _ _ _ _) ?_)
  intro w2 q5 r5
  have bb := r5.below _ _ (Nat.le_refl _) (below1 w1 _)
  have K2 := Lib.hid (And.intro bb (And.intro (K1.out.2.1.below bb) q5))
  clear bb q5 r5
  by_cases hE : E0 = 0
  · subst hE
    have HR := Lib.hid (show bnd (rtb c0 l1) Ch0 (rck l) = R from by rw [← HR.out, bnd_ok rfl])
    obtain ⟨c1, l2, E1, h1⟩ : ∃ c r e, rtb c0 l1 = (c, r, e) := ⟨_, _, _, rfl⟩
    have s2 := rtb_sf c0 l1
    have o2 := rtb_okv (bare_okv H.out.2.2.2.2.1 H.out.2.2.2.2.2) l1
    have nm := rtb_names c0 l1
    rw [h1] at s2 o2 nm
    have S := Lib.hid (And.intro h1 (And.intro (s2.trans H.out.2.2.2.1) (And.intro o2 nm)))
    have HR := Lib.hid (show bnd (c1, l2, E1) Ch0 (rck l) = R from by rw [← HR.out, h1])
    clear h1 s2 o2 nm
    go_wp2_with ((refine (?_ : wpList _ _ _ (Oper.mk _ (Op.load 32 _) _ _ _ _ :: _) _ _)); refine wpList_load_blk rfl 32 _ rfl (w1.heap.size) rfl (c0.a no nc none 0) _ (K2.out.2.2) Tryz.underlying32 rfl (infoCh) ?_; go_frame)
    refine (creadTable_is c0 no nc l1 _ (H.out.1.keep (K1.out.1.trans (K2.out.1.mono K1.out.1.size))) (by have := suf_len H.out.2.2.2.1; have := H.out.2.1; omega) (by rw [H.out.2.2.2.2.1]; rfl)).mono ?_
    rintro e w3 hrb
    rw [S.out.1] at hrb
    obtain ⟨mo, mc, eO, ec, rfl, hno, hsd, hdc, hud, hb⟩ := hrb
    simp only at hno hsd hdc
    have bb := K2.out.1.trans (hb.mono K2.out.1.size)
    have hs : SlS w1 mo c1.names := by
      rcases hno with ⟨rfl, _⟩ | ⟨_, hn⟩
      · rcases S.out.2.2.2 with g | g
        · rw [g]; exact K1.out.2.2.1
        · rw [show c1.names = [] from g]; exact SlS.nil _ _
      · rw [hn]; exact SlS.nil _ _
    have hu : Up (w.heap.size + 1) mo := by
      rcases hno with ⟨rfl, _⟩ | ⟨rfl, _⟩
      · exact K1.out.2.2.2.1
      · exact up_none _
    have K3 := Lib.hid (And.intro bb (And.intro (K2.out.2.1.below hb) (And.intro (K2.out.2.2.below hb) (And.intro hs (And.intro hu (And.intro hsd (And.intro hdc (hud.mono (show w1.heap.size + 1 ≤ _ from K2.out.2.2.lt)))))))))
    clear hno hsd hdc hud hb bb hs hu
    go_wp2_with ((refine (?_ : wpList _ _ _ (Oper.mk _ (Op.store 32 _ _) _ _ _ _ :: _) _ _)); refine wpList_store_blk rfl 32 _ _ rfl (w1.heap.size) (c0.a no nc none 0) (c1.a mo mc eO ec) rfl rfl (K3.out.2.2.1) (by first | rfl | simp [sa_size]) (infoCh) (Ch.a_one _ _ _ _ _) ?_)
    intro w4 q4 r4
    have bb := r4.below _ _ (Nat.le_refl _) K3.out.1
    have K4 := Lib.hid (And.intro bb (And.intro (K3.out.2.1.wr r4 (by have := K1.out.2.2.2.2; omega)) (And.intro q4 (And.intro (K3.out.2.2.2.1.below bb) (And.intro (r4.slc K3.out.2.2.2.2.2.1 K3.out.2.2.2.2.2.2.2 (by omega)) (K1.out.1.trans (bb.mono K1.out.1.size)))))))
    clear bb q4 r4
    by_cases hE1 : E1 = 0
    · subst hE1
      have HR := Lib.hid (show rck l c1 l2 = R from by rw [← HR.out, bnd_ok rfl])
      go_wp2_with ((refine (?_ : wpList _ _ _ (Oper.mk _ (Op.load 32 _) _ _ _ _ :: _) _ _)); refine wpList_load_blk rfl 32 _ rfl (w1.heap.size) rfl (c1.a mo mc eO ec) _ (K4.out.2.2.1) Tryz.underlying32 rfl (infoCh) ?_; go_frame)
      refine (pute_is c1 mo mc eO ec _ _ _ (H.out.1.keep K4.out.2.2.2.2.2) ⟨K4.out.2.2.2.1, ⟨K4.out.2.2.2.2.1, K3.out.2.2.2.2.2.2.1, S.out.2.2.1.2⟩, S.out.2.2.1.1⟩ rfl rfl).mono ?_
      rintro e w5 ⟨rfl, hb⟩
      have K5 := Lib.hid (And.intro (step0 K4.out.2.2.2.2.2 hb) (And.intro (K4.out.2.1.below hb) (And.intro (K4.out.2.2.1.below hb) (And.intro (K4.out.2.2.2.1.below hb) (K4.out.2.2.2.2.1.below hb)))))
      clear hb
      by_cases hp : c1.pe = 0
      · obtain ⟨m, hm⟩ : ∃ m, l.length = m + l2.length := ⟨l.length - l2.length, by have := suf_len S.out.2.1; omega⟩
        have em : l.length - l2.length = m := by omega
        have lb : (l.length : Int) ≤ 1000000 := by have := H.out.2.1; omega
        have hw : (l.length : Int) - (l2.length : Int) = (m : Int) := by omega
        have hmi : (m : Int) ≤ (l.length : Int) := by omega
        have hmn : m ≤ l.length := by omega
        have ct := cut_to l m
        have hR : (if c1.pe ≠ 0 ∨ c1.pb ≠ l.take m then (Ch0, [], (4 : Int)) else (c1, l2, 0)) = R := by rw [← HR.out]; unfold rck; rw [em]
        have HR := Lib.hid hR
        have HM := Lib.hid hm
        obtain ⟨P, hP⟩ : ∃ P, c1.pb = P := ⟨_, rfl⟩
        obtain ⟨D, hD⟩ : ∃ D, l.take m = D := ⟨_, rfl⟩
        rw [hD] at ct
        rw [hp, hP]
        by_cases he : P = D
        · have n1 : (P == D) = true := by simpa using he
          have n2 : (P != D) = false := bneq_f he
          have HR := Lib.hid (show (c1, l2, (0 : Int)) = R from by rw [← HR.out, if_neg]; rw [hP, hD]; simp [hp, he])
          clear hR hm hP hD he em hp
          go_wp2_with (first | ((refine (?_ : wpList _ _ _ (Oper.mk _ (Op.load 32 _) _ _ _ _ :: _) _ _)); refine wpList_load_blk rfl 32 _ rfl (w1.heap.size) rfl (c1.a mo mc eO ec) _ (K5.out.2.2.1) Tryz.underlying32 rfl (infoCh) ?_; go_frame) | ((refine (?_ : wpList _ _ _ (Oper.mk _ (Op.store 32 _ _) _ _ _ _ :: _) _ _)); refine wpList_store_blk rfl 32 _ _ rfl (w.heap.size) (Ch0.a none 0 none 0) (c1.a mo mc eO ec) rfl rfl (K5.out.2.1) (by first | rfl | simp [sa_size]) (infoCh) (Ch.a_one _ _ _ _ _) ?_))
          intro w9 q9 r9
          go_wp2
          refine bodyPost_ret (results_3 Tryz.results12 rfl rfl rfl (loadCh q9)) rfl ?_
          rw [← HR.out]
          have hlt := K1.out.2.2.2.2
          exact ⟨mo, mc, eO, ec, rfl, r9.sls K5.out.2.2.2.1 K3.out.2.2.2.2.1 (by omega), K3.out.2.2.2.2.1.mono (by omega), r9.slc K5.out.2.2.2.2 K3.out.2.2.2.2.2.2.2 (by omega), K3.out.2.2.2.2.2.2.1, K3.out.2.2.2.2.2.2.2.mono (by omega), r9.below _ _ (Nat.le_refl _) K5.out.1⟩
        · have n1 : (P == D) = false := by simpa using he
          have n2 : (P != D) = true := bneq_t he
          have Q := Lib.hid (show R = (Ch0, [], 4) from by rw [← HR.out, if_pos]; rw [hP, hD]; exact .inr he)
          clear hR hm hP hD he em hp
          go_wp2_with ((refine (?_ : wpList _ _ _ (Oper.mk _ (Op.store 32 _ _) _ _ _ _ :: _) _ _)); refine wpList_store_blk rfl 32 _ _ rfl (w.heap.size) (Ch0.a none 0 none 0) (Ch0.a none 0 none 0) rfl rfl (K5.out.2.1) (by first | rfl | simp [sa_size]) (infoCh) (Ch.a_one _ _ _ _ _) ?_)
          intro w9 q9 r9
          go_wp2
          refine bodyPost_ret (results_3 Tryz.results12 rfl rfl rfl (loadCh q9)) rfl (RC.bad Q.out (r9.below _ _ (Nat.le_refl _) K5.out.1))
      · have e1 := bne_t hp
        have Q := Lib.hid (show R = (Ch0, [], 4) from by rw [← HR.out]; unfold rck; rw [if_pos (.inl hp)])
        clear hp
        go_wp2_with ((refine (?_ : wpList _ _ _ (Oper.mk _ (Op.store 32 _ _) _ _ _ _ :: _) _ _)); refine wpList_store_blk rfl 32 _ _ rfl (w.heap.size) (Ch0.a none 0 none 0) (Ch0.a none 0 none 0) rfl rfl (K5.out.2.1) (by first | rfl | simp [sa_size]) (infoCh) (Ch.a_one _ _ _ _ _) ?_)
        intro w9 q9 r9
        go_wp2
        refine bodyPost_ret (results_3 Tryz.results12 rfl rfl rfl (loadCh q9)) rfl (RC.bad Q.out (r9.below _ _ (Nat.le_refl _) K5.out.1))
    · have e1 := bne_t hE1
      have Q := Lib.hid ((bnd_err rfl hE1 _ _).symm.trans HR.out)
      clear hE1
      go_wp2_with ((refine (?_ : wpList _ _ _ (Oper.mk _ (Op.store 32 _ _) _ _ _ _ :: _) _ _)); refine wpList_store_blk rfl 32 _ _ rfl (w.heap.size) (Ch0.a none 0 none 0) (Ch0.a none 0 none 0) rfl rfl (K4.out.2.1) (by first | rfl | simp [sa_size]) (infoCh) (Ch.a_one _ _ _ _ _) ?_)
      intro w9 q9 r9
      go_wp2
      refine bodyPost_ret (results_3 Tryz.results12 rfl rfl rfl (loadCh q9)) rfl (RC.bad Q.out.symm (r9.below _ _ (Nat.le_refl _) K4.out.2.2.2.2.2))
  · have e1 := bne_t hE
    have Q := Lib.hid (show R = (Ch0, [], E0) from by rw [← HR.out, bnd_err rfl hE]; exact bnd_err rfl hE _ _)
    clear hE
    go_wp2_with ((refine (?_ : wpList _ _ _ (Oper.mk _ (Op.store 32 _ _) _ _ _ _ :: _) _ _)); refine wpList_store_blk rfl 32 _ _ rfl (w.heap.size) (Ch0.a none 0 none 0) (Ch0.a none 0 none 0) rfl rfl (K2.out.2.1) (by first | rfl | simp [sa_size]) (infoCh) (Ch.a_one _ _ _ _ _) ?_)
    intro w9 q9 r9
    go_wp2
    refine bodyPost_ret (results_3 Tryz.results12 rfl rfl rfl (loadCh q9)) rfl (RC.bad Q.out (r9.below _ _ (Nat.le_refl _) (K1.out.1.trans (K2.out.1.mono K1.out.1.size))))
end Go.Proofs.YtmgdciihpjifgaaGreatDoor
