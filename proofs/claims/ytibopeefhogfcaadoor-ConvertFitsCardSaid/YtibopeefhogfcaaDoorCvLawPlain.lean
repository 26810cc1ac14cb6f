/-
  The laws of chapter 7 as plain mathematics: what a value becomes may be, and is null or of that kind; made one of its own kind again it is the value. Conditions: the bounds named in each theorem.
-/
import Derived.Test.YtibopeefhogfcaaDoorCvTo
namespace Go.Proofs.YtibopeefhogfcaaDoor
open Go.RowKit

theorem nx_ascii (c : UInt8) (l : List UInt8) (h : c.toNat ≤ 127) : Utf.nx (c :: l) = ((c.toNat : Int), 1, 0) := by
  have e1 : Utf.ldw c.toNat = 1 := by unfold Utf.ldw; rw [if_pos (by omega)]
  have e2 : Utf.ldr c.toNat = c.toNat := by unfold Utf.ldr; rw [if_pos (by omega)]
  have e3 : Utf.wd (c.toNat : Int) = 1 := by rw [Utf.wd1]; omega
  show Utf.run (c :: l) (Utf.ldw c.toNat) 4 (Utf.ldr c.toNat) 1 = _
  rw [e1, e2]
  refine Utf.run_end _ _ _ _ _ (by decide) ?_ rfl
  unfold Utf.bg Utf.pw
  simp [e3]
theorem vd_ascii : ∀ (l : List UInt8), (∀ c ∈ l, c.toNat ≤ 127) → Vl.vd l = true
  | [], _ => rfl
  | c :: l, h => by
    have ih := vd_ascii l fun d hd => h d (List.mem_cons_of_mem _ hd)
    have e := nx_ascii c l (h c List.mem_cons_self)
    unfold Vl.vd at *
    rw [decide_eq_true_eq] at *
    rw [Utf.cn_ok (c :: l) (by rw [e]), e]
    show 0 ≤ if Utf.cn l < 0 then -1 else Utf.cn l + 1
    rw [if_neg (by omega)]; omega
theorem vd_itoa (n : Int) : Vl.vd (Lib.itoa n) = true := vd_ascii _ fun c hc => by
  unfold Lib.itoa at hc
  split at hc
  · rcases List.mem_cons.1 hc with rfl | hc
    · decide
    · have := Cv.dec_all _ c hc; omega
  · have := Cv.dec_all _ c hc; omega

theorem bn_nm (l : List UInt8) : Kc.bn l.length (Kc.nm l) = l := by
  have key : ∀ (l : List UInt8) (a : Nat), Kc.bn l.length (l.foldl (fun a x => a * 256 + x.toNat) a) = l := by
    intro l
    induction l with
    | nil => intro a; rfl
    | cons x l ih =>
      intro a
      rw [List.foldl_cons, List.length_cons, Kc.bn, ih]
      congr 1
      have f : ∀ (m : List UInt8) (b : Nat), m.foldl (fun a x => a * 256 + x.toNat) b / 256 ^ m.length = b := by
        intro m
        induction m with
        | nil => intro b; simp
        | cons y m ihm =>
          intro b
          rw [List.foldl_cons, List.length_cons, Nat.pow_succ, ← Nat.div_div_eq_div_mul, ihm]
          have := y.toNat_lt
          omega
      rw [f l]
      apply UInt8.toNat_inj.1
      rw [UInt8.toNat_ofNat']
      have := x.toNat_lt
      omega
  exact key l 0
theorem bn_nm8 (l : List UInt8) (h : l.length = 8) : Kc.bn 8 (Kc.nm l) = l := by have := bn_nm l; rwa [h] at this
theorem nm_8 (l : List UInt8) (h : l.length = 8) : Kc.nm l < 18446744073709551616 := by
  have := Kc.nm_lt l
  rw [h] at this
  exact this

/-! ### Beside an error stands nothing -/
theorem ofn_err (n kd : Int) : (Cv.ofn n kd).e = 0 ∨ Cv.ofn n kd = Cv.er (Cv.ofn n kd).e := by
  unfold Cv.ofn
  (repeat' split) <;> first | (left; rfl) | (right; rfl)
theorem to_err (k n b : Int) (s : List UInt8) (kd : Int) : (Cv.to k n b s kd).e = 0 ∨ Cv.to k n b s kd = Cv.er (Cv.to k n b s kd).e := by
  unfold Cv.to
  by_cases h : Vl.ck k n b s ≠ 0
  · rw [if_pos h]; exact .inr rfl
  rw [if_neg h]
  unfold Cv.fB Cv.fR Cv.fY Cv.fT
  (repeat' split) <;> first | exact ofn_err _ _ | (left; rfl) | (right; rfl)

/-! ### What may be -/
theorem ck_2 (n : Int) : Vl.ck 2 n 0 [] = 0 := by unfold Vl.ck; simp
theorem ck_1 (n : Int) (h : n = 0 ∨ n = 1) : Vl.ck 1 n 0 [] = 0 := by rcases h with rfl | rfl <;> decide
theorem ck_3 (b : Int) (h : Rl.cn b = b) : Vl.ck 3 0 b [] = 0 := by unfold Vl.ck; simp [h]
theorem ck_4 (s : List UInt8) (h : s.length ≤ 64) : Vl.ck 4 0 0 s = 0 := by
  unfold Vl.ck; simp; omega
theorem ck_5 (s : List UInt8) (h : s.length ≤ 64) (v : Vl.vd s = true) : Vl.ck 5 0 0 s = 0 := by
  unfold Vl.ck; simp [v]; omega
theorem ck_vd {n b : Int} {s : List UInt8} (h : Vl.ck 5 n b s = 0) : Vl.vd s = true := by
  cases e : Vl.vd s with
  | true => rfl
  | false =>
    exfalso
    unfold Vl.ck at h
    simp only [e] at h
    (repeat' split at h) <;> simp_all
theorem I0 : Cv.I 0 := ⟨by decide, by decide⟩
theorem I1 : Cv.I 1 := ⟨by decide, by decide⟩
theorem z0 : Rl.U 0 := ⟨by decide, by decide⟩

/-- What a value that may be is: its fields, its kind, its bounds. -/
def Ok (r : Cv.R) (kd : Int) : Prop := Vl.ck r.k r.n r.b r.s = 0 ∧ Rl.U r.b ∧ Cv.I r.n ∧ r.k = kd ∧ r.e = 0
theorem cn_fi (n : Int) (h : Cv.I n) (f : Rl.fo n = true) : Rl.cn (Rl.fi n) = Rl.fi n := by
  unfold Cv.I at h
  have := Rl.fi_cl' n (by omega) f
  unfold Rl.cn
  rw [if_neg (by omega)]
theorem ofn_ok (n kd : Int) (h : Cv.I n) (h0 : 1 ≤ kd) (h1 : kd ≤ 5) (he : (Cv.ofn n kd).e = 0) : Ok (Cv.ofn n kd) kd := by
  have c : kd = 1 ∨ kd = 2 ∨ kd = 3 ∨ kd = 4 ∨ kd = 5 := by omega
  rcases c with rfl | rfl | rfl | rfl | rfl
  · by_cases g : n = 0 ∨ n = 1
    · have e : Cv.ofn n 1 = ⟨1, n, 0, [], 0⟩ := by unfold Cv.ofn; rw [if_pos rfl, if_pos g]
      rw [e]; exact ⟨ck_1 n g, z0, h, rfl, rfl⟩
    · have e : Cv.ofn n 1 = Cv.er 6 := by unfold Cv.ofn; rw [if_pos rfl, if_neg g]
      rw [e] at he; cases he
  · exact ⟨ck_2 n, z0, h, rfl, rfl⟩
  · cases f : Rl.fo n with
    | true =>
      have e : Cv.ofn n 3 = ⟨3, 0, Rl.fi n, [], 0⟩ := by unfold Cv.ofn; rw [if_neg (by decide), if_pos rfl, if_pos f]
      rw [e]; exact ⟨ck_3 _ (cn_fi n h f), Rl.fi_U n (by unfold Cv.I at h; omega), I0, rfl, rfl⟩
    | false =>
      have e : Cv.ofn n 3 = Cv.er 6 := by unfold Cv.ofn; rw [if_neg (by decide), if_pos rfl, if_neg (by rw [f]; simp)]
      rw [e] at he; cases he
  · exact ⟨ck_4 _ (by show (Kc.bn 8 _).length ≤ 64; rw [Kc.bn_len]; decide), z0, I0, rfl, rfl⟩
  · exact ⟨ck_5 _ (by show (Lib.itoa n).length ≤ 64; have := Cv.itoa_len n h; omega) (vd_itoa n), z0, I0, rfl, rfl⟩

/-- What is OK of To, way by way. -/
theorem to_inv {k n b : Int} {s : List UInt8} {kd : Int} (h : (Cv.to k n b s kd).e = 0) :
    Vl.ck k n b s = 0 ∧ 1 ≤ kd ∧ kd ≤ 5 ∧ Cv.to k n b s kd = if k = 0 ∨ k = kd then ⟨k, n, b, s, 0⟩ else if k = 1 then Cv.fB n kd else if k = 2 then Cv.ofn n kd else if k = 3 then Cv.fR b kd else if k = 4 then Cv.fY s kd else Cv.fT s kd := by
  by_cases hC : Vl.ck k n b s = 0
  case neg => rw [show Cv.to k n b s kd = Cv.er (Vl.ck k n b s) by unfold Cv.to; rw [if_pos hC]] at h; exact absurd h hC
  have T : Cv.to k n b s kd = if kd < 1 ∨ 5 < kd then Cv.er 5 else if k = 0 ∨ k = kd then ⟨k, n, b, s, 0⟩ else if k = 1 then Cv.fB n kd else if k = 2 then Cv.ofn n kd else if k = 3 then Cv.fR b kd else if k = 4 then Cv.fY s kd else Cv.fT s kd := by
    unfold Cv.to; rw [if_neg (by simp [hC])]
  by_cases hk : kd < 1 ∨ 5 < kd
  · rw [T, if_pos hk] at h; cases h
  · rw [if_neg hk] at T; exact ⟨hC, by omega, by omega, T⟩

theorem to_ok {k n b : Int} {s : List UInt8} {kd : Int} (hB : Rl.U b) (hI : Cv.I n) (h : (Cv.to k n b s kd).e = 0) :
    (k = 0 ∧ Cv.to k n b s kd = ⟨0, n, b, s, 0⟩ ∧ Vl.ck 0 n b s = 0) ∨ (k ≠ 0 ∧ Ok (Cv.to k n b s kd) kd) := by
  obtain ⟨hC, h0, h1, T⟩ := to_inv h
  by_cases hz : k = 0
  · subst hz; left; rw [T, if_pos (.inl rfl)]; exact ⟨rfl, rfl, hC⟩
  right
  refine ⟨hz, ?_⟩
  by_cases hd : k = kd
  · subst hd; rw [T, if_pos (.inr rfl)]; exact ⟨hC, hB, hI, rfl, rfl⟩
  rw [if_neg (by omega)] at T
  rw [T] at h ⊢
  clear T
  obtain ⟨k0, k5, hn, hb, hs, hk1, hc, hl⟩ := Vl.ck_ok hC
  have ca : k = 1 ∨ k = 2 ∨ k = 3 ∨ k = 4 ∨ k = 5 := by omega
  rcases ca with rfl | rfl | rfl | rfl | rfl
  · rw [if_pos rfl] at h ⊢
    unfold Cv.fB at h ⊢
    split at h
    · rw [if_pos ‹_›]; exact ofn_ok n kd hI h0 h1 h
    · rw [if_neg ‹_›]
      split at h
      · rename_i e; subst e; rw [if_pos rfl]
        refine ⟨?_, z0, I0, rfl, rfl⟩
        rcases hk1 rfl with rfl | rfl <;> decide
      · cases h
  · rw [if_neg (by decide), if_pos rfl] at h ⊢; exact ofn_ok n kd hI h0 h1 h
  · rw [if_neg (by decide), if_neg (by decide), if_pos rfl] at h ⊢
    unfold Cv.fR at h ⊢
    split at h
    · rw [if_pos ‹_›]
      split at h
      · rw [if_pos ‹_›]; exact ofn_ok _ kd (ti_I b) h0 h1 h
      · cases h
    · rw [if_neg ‹_›]
      split at h
      · rename_i e; subst e; rw [if_pos rfl]; exact ⟨ck_4 _ (by show (Kc.bn 8 _).length ≤ 64; rw [Kc.bn_len]; decide), z0, I0, rfl, rfl⟩
      · cases h
  · rw [if_neg (by decide), if_neg (by decide), if_neg (by decide), if_pos rfl] at h ⊢
    unfold Cv.fY at h ⊢
    split at h
    · rename_i e; subst e; rw [if_pos rfl]
      split at h
      · rw [if_pos ‹_›]; exact ⟨ck_2 _, z0, i64_I _, rfl, rfl⟩
      · cases h
    · rw [if_neg ‹_›]
      split at h
      · rename_i e; subst e; rw [if_pos rfl]
        split at h
        · rename_i e; rw [if_pos e]; exact ⟨ck_3 _ (Rl.cn_cn _), Rl.cn_U _ (by have := nm_8 s e; unfold Rl.U; omega), I0, rfl, rfl⟩
        · cases h
      · rw [if_neg ‹_›]
        split at h
        · rename_i e; subst e; rw [if_pos rfl]
          split at h
          · rename_i v; rw [if_pos v]; exact ⟨ck_5 s hl v, z0, I0, rfl, rfl⟩
          · cases h
        · cases h
  · rw [if_neg (by decide), if_neg (by decide), if_neg (by decide), if_neg (by decide)] at h ⊢
    unfold Cv.fT at h ⊢
    split at h
    · rename_i e; subst e; rw [if_pos rfl]
      split at h
      · rw [if_pos ‹_›]; exact ⟨by decide, z0, I0, rfl, rfl⟩
      · rw [if_neg ‹_›]
        split at h
        · rw [if_pos ‹_›]; exact ⟨by decide, z0, I1, rfl, rfl⟩
        · cases h
    · rw [if_neg ‹_›]
      split at h
      · rename_i e; subst e; rw [if_pos rfl]
        split at h
        · rename_i v hv; exact ⟨ck_2 _, z0, (Cv.num_some hv).2, rfl, rfl⟩
        · cases h
      · rw [if_neg ‹_›]
        split at h
        · rename_i e; subst e; rw [if_pos rfl]; exact ⟨ck_4 s hl, z0, I0, rfl, rfl⟩
        · cases h

/-! ### There and back -/
/-- What holds of a value, what it became, and what that became. -/
def Bk (k n b : Int) (s : List UInt8) (kd : Int) (r q : Cv.R) : Prop :=
  (k = 3 ∧ q.k = 3 ∧ (q.b = b ∨ Rl.eq q.b b = true)) ∨ (k = 4 ∧ kd = 3 ∧ r.b = 9221120237041090560 ∧ q.s.length = 8) ∨ (k ≠ 3 ∧ ¬ (k = 4 ∧ kd = 3 ∧ r.b = 9221120237041090560) ∧ q = ⟨k, n, b, s, 0⟩)

theorem bk_same {k n b : Int} {s : List UInt8} {kd : Int} {r q : Cv.R} (h3 : k ≠ 3) (h : ¬ (k = 4 ∧ kd = 3)) (e : q = ⟨k, n, b, s, 0⟩) : Bk k n b s kd r q := .inr (.inr ⟨h3, fun g => h ⟨g.1, g.2.1⟩, e⟩)
theorem fi_back (b : Int) (hU : Rl.U b) (o : Rl.to b = true) : Rl.fo (Rl.ti b) = true ∧ (Rl.fi (Rl.ti b) = b ∨ Rl.eq (Rl.fi (Rl.ti b)) b = true) := by
  by_cases h : Rl.cl b = 3
  · have e : Rl.ti b = 0 := by unfold Rl.ti; rw [if_pos h]
    rw [e]
    refine ⟨Rl.fo_zero, .inr ?_⟩
    rw [Rl.fi_zero, Rl.eq_iff]
    exact ⟨by decide, by omega, .inr ⟨by decide, h⟩⟩
  · have i : Rl.io b = true := by
      unfold Rl.to at o
      rw [beq_f h, Bool.false_or] at o
      exact o
    obtain ⟨a, c⟩ := Rl.fi_ti b hU i h
    exact ⟨a, .inl c⟩
theorem ti_back (n : Int) (h : Cv.I n) (f : Rl.fo n = true) : Rl.to (Rl.fi n) = true ∧ Rl.ti (Rl.fi n) = n := by
  by_cases z : n = 0
  · subst z; rw [Rl.fi_zero]; decide
  · obtain ⟨a, b, c⟩ := Rl.ti_fi n z h f
    refine ⟨?_, c⟩
    unfold Rl.to; rw [b]; simp
theorem ofn_3 {n : Int} (f : Rl.fo n = true) : Cv.ofn n 3 = ⟨3, 0, Rl.fi n, [], 0⟩ := by unfold Cv.ofn; rw [if_neg (by decide), if_pos rfl, if_pos f]
theorem ofn_3e {n : Int} (h : (Cv.ofn n 3).e = 0) : Rl.fo n = true := by
  cases f : Rl.fo n with
  | true => rfl
  | false =>
    have e : Cv.ofn n 3 = Cv.er 6 := by unfold Cv.ofn; rw [if_neg (by decide), if_pos rfl, if_neg (by rw [f]; simp)]
    rw [e] at h; cases h
theorem ofn_1 {n : Int} (g : n = 0 ∨ n = 1) : Cv.ofn n 1 = ⟨1, n, 0, [], 0⟩ := by unfold Cv.ofn; rw [if_pos rfl, if_pos g]
theorem ofn_1e {n : Int} (h : (Cv.ofn n 1).e = 0) : n = 0 ∨ n = 1 := by
  by_cases g : n = 0 ∨ n = 1
  · exact g
  · have e : Cv.ofn n 1 = Cv.er 6 := by unfold Cv.ofn; rw [if_pos rfl, if_neg g]
    rw [e] at h; cases h
theorem fR_to {b kd : Int} (hk : kd = 1 ∨ kd = 2) (o : Rl.to b = true) : Cv.fR b kd = Cv.ofn (Rl.ti b) kd := by unfold Cv.fR; rw [if_pos hk, if_pos o]
theorem fR_e {b kd : Int} (hk : kd = 1 ∨ kd = 2) (h : (Cv.fR b kd).e = 0) : Rl.to b = true := by
  cases o : Rl.to b with
  | true => rfl
  | false =>
    have e : Cv.fR b kd = Cv.er 6 := by unfold Cv.fR; rw [if_pos hk, if_neg (by rw [o]; simp)]
    rw [e] at h; cases h

theorem back_plain {k n b : Int} {s : List UInt8} {kd : Int} (hB : Rl.U b) (hI : Cv.I n) (r : Cv.R) (hr : Cv.to k n b s kd = r) (he : r.e = 0) (hf : (Cv.to r.k r.n r.b r.s k).e = 0) :
    Bk k n b s kd r (Cv.to r.k r.n r.b r.s k) := by
  obtain ⟨hC, h0, h1, T⟩ := to_inv (show (Cv.to k n b s kd).e = 0 by rw [hr]; exact he)
  rw [hr] at T
  obtain ⟨hC2, g0, g1, T2⟩ := to_inv hf
  rw [T2]
  rw [T2] at hf
  by_cases hd : k = kd
  · subst hd
    rw [if_pos (.inr rfl)] at T
    subst T
    rw [if_pos (.inr rfl)]
    by_cases h3 : k = 3
    · exact .inl ⟨h3, h3, .inl rfl⟩
    · exact bk_same h3 (by omega) rfl
  rw [if_neg (by omega)] at T
  obtain ⟨k0, k5, hn, hb, hs, hk1, hc, hl⟩ := Vl.ck_ok hC
  have ca : k = 1 ∨ k = 2 ∨ k = 3 ∨ k = 4 ∨ k = 5 := by omega
  have cb : kd = 1 ∨ kd = 2 ∨ kd = 3 ∨ kd = 4 ∨ kd = 5 := by omega
  clear T2 hC2
  rcases ca with rfl | rfl | rfl | rfl | rfl
  · -- from a truth
    rw [if_pos rfl] at T
    have eb : b = 0 := Decidable.byContradiction fun e => absurd (hb e) (by decide)
    have es : s = [] := Decidable.byContradiction fun e => by have := hs e; omega
    subst eb es
    rcases cb with rfl | rfl | rfl | rfl | rfl
    · exact absurd rfl hd
    · rw [show Cv.fB n 2 = ⟨2, n, 0, [], 0⟩ from rfl] at T
      subst T
      refine bk_same (by decide) (by decide) ?_
      dsimp only
      rw [if_neg (by decide), if_neg (by decide), if_pos rfl]
      exact ofn_1 (hk1 rfl)
    · rw [show Cv.fB n 3 = Cv.ofn n 3 from rfl] at T
      have f : Rl.fo n = true := ofn_3e (by rw [← T]; exact he)
      rw [ofn_3 f] at T
      subst T
      obtain ⟨o, e⟩ := ti_back n hI f
      refine bk_same (by decide) (by decide) ?_
      dsimp only
      rw [if_neg (by decide), if_neg (by decide), if_neg (by decide), if_pos rfl]
      show Cv.fR (Rl.fi n) 1 = _
      rw [fR_to (.inl rfl) o, e]
      exact ofn_1 (hk1 rfl)
    · rw [show Cv.fB n 4 = Cv.er 5 from rfl] at T; subst T; cases he
    · rw [show Cv.fB n 5 = ⟨5, 0, 0, Cv.tr n, 0⟩ from rfl] at T
      subst T
      refine bk_same (by decide) (by decide) ?_
      dsimp only
      rw [if_neg (by decide), if_neg (by decide), if_neg (by decide), if_neg (by decide), if_neg (by decide)]
      show Cv.fT (Cv.tr n) 1 = _
      rcases hk1 rfl with rfl | rfl <;> rfl
  · -- from a number
    rw [if_neg (by decide), if_pos rfl] at T
    have eb : b = 0 := Decidable.byContradiction fun e => absurd (hb e) (by decide)
    have es : s = [] := Decidable.byContradiction fun e => by have := hs e; omega
    subst eb es
    rcases cb with rfl | rfl | rfl | rfl | rfl
    · have g := ofn_1e (n := n) (by rw [← T]; exact he)
      rw [ofn_1 g] at T
      subst T
      refine bk_same (by decide) (by decide) ?_
      dsimp only
      rw [if_neg (by decide), if_pos rfl]
      rfl
    · exact absurd rfl hd
    · have f : Rl.fo n = true := ofn_3e (by rw [← T]; exact he)
      rw [ofn_3 f] at T
      subst T
      obtain ⟨o, e⟩ := ti_back n hI f
      refine bk_same (by decide) (by decide) ?_
      dsimp only
      rw [if_neg (by decide), if_neg (by decide), if_neg (by decide), if_pos rfl]
      show Cv.fR (Rl.fi n) 2 = _
      rw [fR_to (.inr rfl) o, e]
      rfl
    · rw [show Cv.ofn n 4 = ⟨4, 0, 0, Kc.bn 8 (n % 18446744073709551616).toNat, 0⟩ from rfl] at T
      subst T
      refine bk_same (by decide) (by decide) ?_
      dsimp only
      rw [if_neg (by decide), if_neg (by decide), if_neg (by decide), if_neg (by decide), if_pos rfl]
      show Cv.fY (Kc.bn 8 (n % 18446744073709551616).toNat) 2 = _
      unfold Cv.fY
      rw [if_pos rfl, if_pos (Kc.bn_len _ _), Kc.nm_bn _ (by omega)]
      unfold Cv.I at hI
      have : Cv.i64 (n % 18446744073709551616).toNat = n := by unfold Cv.i64 wrap64; omega
      rw [this]
    · rw [show Cv.ofn n 5 = ⟨5, 0, 0, Lib.itoa n, 0⟩ from rfl] at T
      subst T
      refine bk_same (by decide) (by decide) ?_
      dsimp only
      rw [if_neg (by decide), if_neg (by decide), if_neg (by decide), if_neg (by decide), if_neg (by decide)]
      show Cv.fT (Lib.itoa n) 2 = _
      unfold Cv.fT
      rw [if_neg (by decide), if_pos rfl, Cv.num_itoa n hI]
  · -- from a real
    rw [if_neg (by decide), if_neg (by decide), if_pos rfl] at T
    rcases cb with rfl | rfl | rfl | rfl | rfl
    · have o := fR_e (b := b) (kd := 1) (.inl rfl) (by rw [← T]; exact he)
      rw [fR_to (.inl rfl) o] at T
      have g := ofn_1e (n := Rl.ti b) (by rw [← T]; exact he)
      rw [ofn_1 g] at T
      subst T
      obtain ⟨f, e⟩ := fi_back b hB o
      left
      dsimp only
      rw [if_neg (by decide), if_pos rfl]
      show (3 : Int) = 3 ∧ (Cv.ofn (Rl.ti b) 3).k = 3 ∧ ((Cv.ofn (Rl.ti b) 3).b = b ∨ Rl.eq (Cv.ofn (Rl.ti b) 3).b b = true)
      rw [ofn_3 f]
      exact ⟨rfl, rfl, e⟩
    · have o := fR_e (b := b) (kd := 2) (.inr rfl) (by rw [← T]; exact he)
      rw [fR_to (.inr rfl) o, show Cv.ofn (Rl.ti b) 2 = ⟨2, Rl.ti b, 0, [], 0⟩ from rfl] at T
      subst T
      obtain ⟨f, e⟩ := fi_back b hB o
      left
      dsimp only
      rw [if_neg (by decide), if_neg (by decide), if_pos rfl]
      show (3 : Int) = 3 ∧ (Cv.ofn (Rl.ti b) 3).k = 3 ∧ ((Cv.ofn (Rl.ti b) 3).b = b ∨ Rl.eq (Cv.ofn (Rl.ti b) 3).b b = true)
      rw [ofn_3 f]
      exact ⟨rfl, rfl, e⟩
    · exact absurd rfl hd
    · rw [show Cv.fR b 4 = ⟨4, 0, 0, Kc.bn 8 b.toNat, 0⟩ from rfl] at T
      subst T
      left
      dsimp only
      rw [if_neg (by decide), if_neg (by decide), if_neg (by decide), if_neg (by decide), if_pos rfl]
      show (3 : Int) = 3 ∧ (Cv.fY (Kc.bn 8 b.toNat) 3).k = 3 ∧ ((Cv.fY (Kc.bn 8 b.toNat) 3).b = b ∨ Rl.eq (Cv.fY (Kc.bn 8 b.toNat) 3).b b = true)
      unfold Rl.U at hB
      have e : Cv.fY (Kc.bn 8 b.toNat) 3 = ⟨3, 0, b, [], 0⟩ := by
        unfold Cv.fY
        rw [if_neg (by decide), if_pos rfl, if_pos (Kc.bn_len _ _), Kc.nm_bn _ (by omega), show ((b.toNat : Nat) : Int) = b by omega, hc]
      rw [e]
      exact ⟨rfl, rfl, .inl rfl⟩
    · rw [show Cv.fR b 5 = Cv.er 5 from rfl] at T; subst T; cases he
  · -- from bytes
    rw [if_neg (by decide), if_neg (by decide), if_neg (by decide), if_pos rfl] at T
    have en : n = 0 := Decidable.byContradiction fun e => by have := hn e; omega
    have eb : b = 0 := Decidable.byContradiction fun e => absurd (hb e) (by decide)
    subst eb en
    rcases cb with rfl | rfl | rfl | rfl | rfl
    · rw [show Cv.fY s 1 = Cv.er 5 from rfl] at T; subst T; cases he
    · by_cases h8 : s.length = 8
      · rw [show Cv.fY s 2 = ⟨2, Cv.i64 (Kc.nm s), 0, [], 0⟩ by unfold Cv.fY; rw [if_pos rfl, if_pos h8]] at T
        subst T
        refine bk_same (by decide) (by decide) ?_
        dsimp only
        rw [if_neg (by decide), if_neg (by decide), if_pos rfl]
        show (⟨4, 0, 0, Kc.bn 8 (Cv.i64 (Kc.nm s) % 18446744073709551616).toNat, 0⟩ : Cv.R) = _
        have := nm_8 s h8
        have e : (Cv.i64 (Kc.nm s) % 18446744073709551616).toNat = Kc.nm s := by unfold Cv.i64 wrap64; omega
        rw [e, bn_nm8 s h8]
      · rw [show Cv.fY s 2 = Cv.er 6 by unfold Cv.fY; rw [if_pos rfl, if_neg h8]] at T; subst T; cases he
    · by_cases h8 : s.length = 8
      · rw [show Cv.fY s 3 = ⟨3, 0, Rl.cn (Kc.nm s), [], 0⟩ by unfold Cv.fY; rw [if_neg (by decide), if_pos rfl, if_pos h8]] at T
        subst T
        dsimp only
        rw [if_neg (by decide), if_neg (by decide), if_neg (by decide), if_pos rfl]
        have q : Cv.fR (Rl.cn (Kc.nm s)) 4 = ⟨4, 0, 0, Kc.bn 8 (Rl.cn (Kc.nm s)).toNat, 0⟩ := rfl
        show Bk 4 0 0 s 3 _ (Cv.fR (Rl.cn (Kc.nm s)) 4)
        rw [q]
        by_cases c1 : Rl.cl (Kc.nm s) = 1
        · exact .inr (.inl ⟨rfl, rfl, by show Rl.cn (Kc.nm s) = _; unfold Rl.cn; rw [if_pos c1], Kc.bn_len _ _⟩)
        · have e : Rl.cn (Kc.nm s : Int) = (Kc.nm s : Int) := by unfold Rl.cn; rw [if_neg c1]
          refine .inr (.inr ⟨by decide, fun g => ?_, ?_⟩)
          · have g2 : Rl.cn (Kc.nm s : Int) = 9221120237041090560 := g.2.2
            rw [e] at g2
            rw [g2] at c1
            exact c1 (by decide)
          · rw [e, Int.toNat_natCast, bn_nm8 s h8]
      · rw [show Cv.fY s 3 = Cv.er 6 by unfold Cv.fY; rw [if_neg (by decide), if_pos rfl, if_neg h8]] at T; subst T; cases he
    · exact absurd rfl hd
    · cases v : Vl.vd s with
      | true =>
        rw [show Cv.fY s 5 = ⟨5, 0, 0, s, 0⟩ by unfold Cv.fY; rw [if_neg (by decide), if_neg (by decide), if_pos rfl, if_pos v]] at T
        subst T
        refine bk_same (by decide) (by decide) ?_
        dsimp only
        rw [if_neg (by decide), if_neg (by decide), if_neg (by decide), if_neg (by decide), if_neg (by decide)]
        rfl
      | false => rw [show Cv.fY s 5 = Cv.er 7 by unfold Cv.fY; rw [if_neg (by decide), if_neg (by decide), if_pos rfl, if_neg (by rw [v]; simp)]] at T; subst T; cases he
  · -- from a text
    rw [if_neg (by decide), if_neg (by decide), if_neg (by decide), if_neg (by decide)] at T
    have en : n = 0 := Decidable.byContradiction fun e => by have := hn e; omega
    have eb : b = 0 := Decidable.byContradiction fun e => absurd (hb e) (by decide)
    subst eb en
    rcases cb with rfl | rfl | rfl | rfl | rfl
    · by_cases s1 : s = [102, 97, 108, 115, 101]
      · subst s1
        rw [show Cv.fT [102, 97, 108, 115, 101] 1 = ⟨1, 0, 0, [], 0⟩ from rfl] at T
        subst T
        refine bk_same (by decide) (by decide) ?_
        rfl
      by_cases s2 : s = [116, 114, 117, 101]
      · subst s2
        rw [show Cv.fT [116, 114, 117, 101] 1 = ⟨1, 1, 0, [], 0⟩ from rfl] at T
        subst T
        refine bk_same (by decide) (by decide) ?_
        rfl
      · rw [show Cv.fT s 1 = Cv.er 7 by unfold Cv.fT; rw [if_pos rfl, if_neg s1, if_neg s2]] at T; subst T; cases he
    · cases m : Cv.num s with
      | some v =>
        rw [show Cv.fT s 2 = ⟨2, v, 0, [], 0⟩ by unfold Cv.fT; rw [if_neg (by decide), if_pos rfl, m]] at T
        subst T
        refine bk_same (by decide) (by decide) ?_
        dsimp only
        rw [if_neg (by decide), if_neg (by decide), if_pos rfl]
        show (⟨5, 0, 0, Lib.itoa v, 0⟩ : Cv.R) = _
        rw [(Cv.num_some m).1]
      | none => rw [show Cv.fT s 2 = Cv.er 7 by unfold Cv.fT; rw [if_neg (by decide), if_pos rfl, m]] at T; subst T; cases he
    · rw [show Cv.fT s 3 = Cv.er 5 from rfl] at T; subst T; cases he
    · rw [show Cv.fT s 4 = ⟨4, 0, 0, s, 0⟩ from rfl] at T
      subst T
      refine bk_same (by decide) (by decide) ?_
      dsimp only
      rw [if_neg (by decide), if_neg (by decide), if_neg (by decide), if_neg (by decide), if_pos rfl]
      show Cv.fY s 5 = _
      unfold Cv.fY
      rw [if_neg (by decide), if_neg (by decide), if_pos rfl, if_pos (ck_vd hC)]
    · exact absurd rfl hd

end Go.Proofs.YtibopeefhogfcaaDoor
