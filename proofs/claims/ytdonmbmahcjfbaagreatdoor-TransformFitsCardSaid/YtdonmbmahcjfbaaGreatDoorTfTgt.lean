/-
  What a value becomes may be, and is null or of that kind. Conditions: the bounds named in each theorem.
  What fits a change's source becomes what fits its targets, with the same key: as plain mathematics. Conditions: values that keep a value's bounds.
  Targets of any change at this program. Conditions: at most 1000 tables in memory whose Defaults keep a value's bounds; the listed variables as they are laid.
-/
import Derived.Test.YtdonmbmahcjfbaaGreatDoorCvTo
import Derived.Test.YtdonmbmahcjfbaaGreatDoorFAll
import Derived.Test.YtdonmbmahcjfbaaGreatDoorTfMem
import Derived.Test.YtdonmbmahcjfbaaGreatDoorChMgGo
namespace Go.Proofs.YtdonmbmahcjfbaaGreatDoor.Km
open Go.RowKit

theorem nx_ascii (c : UInt8) (l : List UInt8) (h : c.toNat ≤ 127) : Utf.nx (c :: l) = ((c.toNat : Int), 1, 0) := by
  have e1 : Utf.ldw c.toNat = 1 := by unfold Utf.ldw; rw [if_pos (by omega)]
  have e2 : Utf.ldr c.toNat = c.toNat := by unfold Utf.ldr; rw [if_pos (by omega)]
  have e3 : Utf.wd (c.toNat : Int) = 1 := by rw [Utf.wd1]; omega
  show Utf.run (c :: l) (Utf.ldw c.toNat) 4 (Utf.ldr c.toNat) 1 = _
  rw [e1, e2]
  refine Utf.run_end _ _ _ _ _ (by decide) ?_ rfl
  unfold Utf.bg Utf.pw
  simp [e3]
theorem vd_ascii : ∀ (l : List UInt8), (∀ c ∈ l, c.toNat ≤ 127) → Vl.vd l = true
  | [], _ => rfl
  | c :: l, h => by
    have ih := vd_ascii l fun d hd => h d (List.mem_cons_of_mem _ hd)
    have e := nx_ascii c l (h c List.mem_cons_self)
    unfold Vl.vd at *
    rw [decide_eq_true_eq] at *
    rw [Utf.cn_ok (c :: l) (by rw [e]), e]
    show 0 ≤ if Utf.cn l < 0 then -1 else Utf.cn l + 1
    rw [if_neg (by omega)]; omega
theorem vd_itoa (n : Int) : Vl.vd (Lib.itoa n) = true := vd_ascii _ fun c hc => by
  unfold Lib.itoa at hc
  split at hc
  · rcases List.mem_cons.1 hc with rfl | hc
    · decide
    · have := Cv.dec_all _ c hc; omega
  · have := Cv.dec_all _ c hc; omega

theorem nm_8 (l : List UInt8) (h : l.length = 8) : Kc.nm l < 18446744073709551616 := by
  have := Kc.nm_lt l
  rw [h] at this
  exact this

/-! ### Beside an error stands nothing -/
theorem ofn_err (n kd : Int) : (Cv.ofn n kd).e = 0 ∨ Cv.ofn n kd = Cv.er (Cv.ofn n kd).e := by
  unfold Cv.ofn
  (repeat' split) <;> first | (left; rfl) | (right; rfl)
theorem to_err (k n b : Int) (s : List UInt8) (kd : Int) : (Cv.to k n b s kd).e = 0 ∨ Cv.to k n b s kd = Cv.er (Cv.to k n b s kd).e := by
  unfold Cv.to
  by_cases h : Vl.ck k n b s ≠ 0
  · rw [if_pos h]; exact .inr rfl
  rw [if_neg h]
  unfold Cv.fB Cv.fR Cv.fY Cv.fT
  (repeat' split) <;> first | exact ofn_err _ _ | (left; rfl) | (right; rfl)

/-! ### What may be -/
theorem ck_2 (n : Int) : Vl.ck 2 n 0 [] = 0 := by unfold Vl.ck; simp
theorem ck_1 (n : Int) (h : n = 0 ∨ n = 1) : Vl.ck 1 n 0 [] = 0 := by rcases h with rfl | rfl <;> decide
theorem ck_3 (b : Int) (h : Rl.cn b = b) : Vl.ck 3 0 b [] = 0 := by unfold Vl.ck; simp [h]
theorem ck_4 (s : List UInt8) (h : s.length ≤ 64) : Vl.ck 4 0 0 s = 0 := by
  unfold Vl.ck; simp; omega
theorem ck_5 (s : List UInt8) (h : s.length ≤ 64) (v : Vl.vd s = true) : Vl.ck 5 0 0 s = 0 := by
  unfold Vl.ck; simp [v]; omega
theorem I0 : Cv.I 0 := ⟨by decide, by decide⟩
theorem I1 : Cv.I 1 := ⟨by decide, by decide⟩
theorem z0 : Rl.U 0 := ⟨by decide, by decide⟩

/-- What a value that may be is: its fields, its kind, its bounds. -/
def Ok (r : Cv.R) (kd : Int) : Prop := Vl.ck r.k r.n r.b r.s = 0 ∧ Rl.U r.b ∧ Cv.I r.n ∧ r.k = kd ∧ r.e = 0
theorem cn_fi (n : Int) (h : Cv.I n) (f : Rl.fo n = true) : Rl.cn (Rl.fi n) = Rl.fi n := by
  unfold Cv.I at h
  have := Rl.fi_cl' n (by omega) f
  unfold Rl.cn
  rw [if_neg (by omega)]
theorem ofn_ok (n kd : Int) (h : Cv.I n) (h0 : 1 ≤ kd) (h1 : kd ≤ 5) (he : (Cv.ofn n kd).e = 0) : Ok (Cv.ofn n kd) kd := by
  have c : kd = 1 ∨ kd = 2 ∨ kd = 3 ∨ kd = 4 ∨ kd = 5 := by omega
  rcases c with rfl | rfl | rfl | rfl | rfl
  · by_cases g : n = 0 ∨ n = 1
    · have e : Cv.ofn n 1 = ⟨1, n, 0, [], 0⟩ := by unfold Cv.ofn; rw [if_pos rfl, if_pos g]
      rw [e]; exact ⟨ck_1 n g, z0, h, rfl, rfl⟩
    · have e : Cv.ofn n 1 = Cv.er 6 := by unfold Cv.ofn; rw [if_pos rfl, if_neg g]
      rw [e] at he; cases he
  · exact ⟨ck_2 n, z0, h, rfl, rfl⟩
  · cases f : Rl.fo n with
    | true =>
      have e : Cv.ofn n 3 = ⟨3, 0, Rl.fi n, [], 0⟩ := by unfold Cv.ofn; rw [if_neg (by decide), if_pos rfl, if_pos f]
      rw [e]; exact ⟨ck_3 _ (cn_fi n h f), Rl.fi_U n (by unfold Cv.I at h; omega), I0, rfl, rfl⟩
    | false =>
      have e : Cv.ofn n 3 = Cv.er 6 := by unfold Cv.ofn; rw [if_neg (by decide), if_pos rfl, if_neg (by rw [f]; simp)]
      rw [e] at he; cases he
  · exact ⟨ck_4 _ (by show (Kc.bn 8 _).length ≤ 64; rw [Kc.bn_len]; decide), z0, I0, rfl, rfl⟩
  · exact ⟨ck_5 _ (by show (Lib.itoa n).length ≤ 64; have := Cv.itoa_len n h; omega) (vd_itoa n), z0, I0, rfl, rfl⟩

/-- What is OK of To, way by way. -/
theorem to_inv {k n b : Int} {s : List UInt8} {kd : Int} (h : (Cv.to k n b s kd).e = 0) :
    Vl.ck k n b s = 0 ∧ 1 ≤ kd ∧ kd ≤ 5 ∧ Cv.to k n b s kd = if k = 0 ∨ k = kd then ⟨k, n, b, s, 0⟩ else if k = 1 then Cv.fB n kd else if k = 2 then Cv.ofn n kd else if k = 3 then Cv.fR b kd else if k = 4 then Cv.fY s kd else Cv.fT s kd := by
  by_cases hC : Vl.ck k n b s = 0
  case neg => rw [show Cv.to k n b s kd = Cv.er (Vl.ck k n b s) by unfold Cv.to; rw [if_pos hC]] at h; exact absurd h hC
  have T : Cv.to k n b s kd = if kd < 1 ∨ 5 < kd then Cv.er 5 else if k = 0 ∨ k = kd then ⟨k, n, b, s, 0⟩ else if k = 1 then Cv.fB n kd else if k = 2 then Cv.ofn n kd else if k = 3 then Cv.fR b kd else if k = 4 then Cv.fY s kd else Cv.fT s kd := by
    unfold Cv.to; rw [if_neg (by simp [hC])]
  by_cases hk : kd < 1 ∨ 5 < kd
  · rw [T, if_pos hk] at h; cases h
  · rw [if_neg hk] at T; exact ⟨hC, by omega, by omega, T⟩

theorem to_ok {k n b : Int} {s : List UInt8} {kd : Int} (hB : Rl.U b) (hI : Cv.I n) (h : (Cv.to k n b s kd).e = 0) :
    (k = 0 ∧ Cv.to k n b s kd = ⟨0, n, b, s, 0⟩ ∧ Vl.ck 0 n b s = 0) ∨ (k ≠ 0 ∧ Ok (Cv.to k n b s kd) kd) := by
  obtain ⟨hC, h0, h1, T⟩ := to_inv h
  by_cases hz : k = 0
  · subst hz; left; rw [T, if_pos (.inl rfl)]; exact ⟨rfl, rfl, hC⟩
  right
  refine ⟨hz, ?_⟩
  by_cases hd : k = kd
  · subst hd; rw [T, if_pos (.inr rfl)]; exact ⟨hC, hB, hI, rfl, rfl⟩
  rw [if_neg (by omega)] at T
  rw [T] at h ⊢
  clear T
  obtain ⟨k0, k5, hn, hb, hs, hk1, hc, hl⟩ := Vl.ck_ok hC
  have ca : k = 1 ∨ k = 2 ∨ k = 3 ∨ k = 4 ∨ k = 5 := by omega
  rcases ca with rfl | rfl | rfl | rfl | rfl
  · rw [if_pos rfl] at h ⊢
    unfold Cv.fB at h ⊢
    split at h
    · rw [if_pos ‹_›]; exact ofn_ok n kd hI h0 h1 h
    · rw [if_neg ‹_›]
      split at h
      · rename_i e; subst e; rw [if_pos rfl]
        refine ⟨?_, z0, I0, rfl, rfl⟩
        rcases hk1 rfl with rfl | rfl <;> decide
      · cases h
  · rw [if_neg (by decide), if_pos rfl] at h ⊢; exact ofn_ok n kd hI h0 h1 h
  · rw [if_neg (by decide), if_neg (by decide), if_pos rfl] at h ⊢
    unfold Cv.fR at h ⊢
    split at h
    · rw [if_pos ‹_›]
      split at h
      · rw [if_pos ‹_›]; exact ofn_ok _ kd (ti_I b) h0 h1 h
      · cases h
    · rw [if_neg ‹_›]
      split at h
      · rename_i e; subst e; rw [if_pos rfl]; exact ⟨ck_4 _ (by show (Kc.bn 8 _).length ≤ 64; rw [Kc.bn_len]; decide), z0, I0, rfl, rfl⟩
      · cases h
  · rw [if_neg (by decide), if_neg (by decide), if_neg (by decide), if_pos rfl] at h ⊢
    unfold Cv.fY at h ⊢
    split at h
    · rename_i e; subst e; rw [if_pos rfl]
      split at h
      · rw [if_pos ‹_›]; exact ⟨ck_2 _, z0, i64_I _, rfl, rfl⟩
      · cases h
    · rw [if_neg ‹_›]
      split at h
      · rename_i e; subst e; rw [if_pos rfl]
        split at h
        · rename_i e; rw [if_pos e]; exact ⟨ck_3 _ (Rl.cn_cn _), Rl.cn_U _ (by have := nm_8 s e; unfold Rl.U; omega), I0, rfl, rfl⟩
        · cases h
      · rw [if_neg ‹_›]
        split at h
        · rename_i e; subst e; rw [if_pos rfl]
          split at h
          · rename_i v; rw [if_pos v]; exact ⟨ck_5 s hl v, z0, I0, rfl, rfl⟩
          · cases h
        · cases h
  · rw [if_neg (by decide), if_neg (by decide), if_neg (by decide), if_neg (by decide)] at h ⊢
    unfold Cv.fT at h ⊢
    split at h
    · rename_i e; subst e; rw [if_pos rfl]
      split at h
      · rw [if_pos ‹_›]; exact ⟨by decide, z0, I0, rfl, rfl⟩
      · rw [if_neg ‹_›]
        split at h
        · rw [if_pos ‹_›]; exact ⟨by decide, z0, I1, rfl, rfl⟩
        · cases h
    · rw [if_neg ‹_›]
      split at h
      · rename_i e; subst e; rw [if_pos rfl]
        split at h
        · rename_i v hv; exact ⟨ck_2 _, z0, (Cv.num_some hv).2, rfl, rfl⟩
        · cases h
      · rw [if_neg ‹_›]
        split at h
        · rename_i e; subst e; rw [if_pos rfl]; exact ⟨ck_4 s hl, z0, I0, rfl, rfl⟩
        · cases h


end Go.Proofs.YtdonmbmahcjfbaaGreatDoor.Km

namespace Go.Proofs.YtdonmbmahcjfbaaGreatDoor
open Go.RowKit

theorem T.ck_more {t : T} (h : t.ck = 0) : (t.cs.map C.name).Nodup ∧ nl t.cs t.keys.toNat = false := by
  unfold T.ck at h
  split at h
  · rename_i g; exact absurd h g
  · split at h
    · omega
    · split at h
      · omega
      · split at h
        · rename_i g; exact absurd h g
        · split at h
          · omega
          · rename_i g
            split at h
            · omega
            · rename_i g'
              exact ⟨by simpa [Nm.un] using g, by simpa using g'⟩
theorem T.ck_of {t : T} (h0 : Nm.ck t.name = 0) (h1 : 1 ≤ t.cs.length) (h2 : t.cs.length ≤ 8) (h3 : 1 ≤ t.keys) (h4 : t.keys ≤ 3) (h5 : t.keys ≤ t.cs.length) (h6 : ∀ c ∈ t.cs, c.ck = 0) (h7 : (t.cs.map C.name).Nodup) (h8 : nl t.cs t.keys.toNat = false) : t.ck = 0 := by
  unfold T.ck
  rw [if_neg (by simpa using h0), if_neg (by omega), if_neg (by omega), if_neg (by simp [cl_of h6]), if_neg (by simp [Nm.un, h7]), if_neg (by simp [h8])]
/-- Columns beside values: each value fits its column. -/
def Zf (Z : List (C × V)) : Prop := ∀ p ∈ Z, ft p.1 p.2 = 0
theorem z_fit {t : T} {row : List V} (h : t.fit row = 0) : ∃ Z : List (C × V), t.cs = Z.map (·.1) ∧ row = Z.map (·.2) ∧ t.cs.zip row = Z ∧ Zf Z ∧ t.ck = 0 := by
  obtain ⟨h0, hl, hf⟩ := T.fit_ok h
  refine ⟨t.cs.zip row, ?_, ?_, rfl, ?_, h0⟩
  · exact (List.map_fst_zip (by omega)).symm
  · exact (List.map_snd_zip (by omega)).symm
  · intro p hp
    obtain ⟨j, hj, rfl⟩ := List.getElem_of_mem hp
    rw [List.getElem_zip]
    rw [List.length_zip] at hj
    exact fs_all (by omega) hf j (by omega) (by omega)
theorem fit_z {t : T} {row : List V} (Z : List (C × V)) (h1 : t.cs = Z.map (·.1)) (h2 : row = Z.map (·.2)) (h0 : t.ck = 0) (hZ : Zf Z) : t.fit row = 0 := by
  unfold T.fit
  have e : row.length = t.cs.length := by rw [h1, h2]; simp
  rw [if_neg (by simpa using h0), if_neg (by simpa using e)]
  refine fs_of (by omega) fun j g g' => ?_
  have gz : j < Z.length := by rw [h2] at g; simpa using g
  have a1 : t.cs[j] = (Z[j]).1 := by simp only [h1, List.getElem_map]
  have a2 : row[j] = (Z[j]).2 := by simp only [h2, List.getElem_map]
  rw [a1, a2]
  exact hZ _ (List.getElem_mem gz)
/-- Of targets and rows: as many; each row fits its target, with the source's key. -/
def Fz (t : T) (row : List V) (ts : List T) (rs : List (List V)) : Prop :=
  rs.length = ts.length ∧ ∀ (i : Nat) (u : T) (y : List V), ts[i]? = some u → rs[i]? = some y → u.fit y = 0 ∧ u.keys = t.keys ∧ y.take t.keys.toNat = row.take t.keys.toNat
theorem Fz.one {t u : T} {row y : List V} (h : u.fit y = 0 ∧ u.keys = t.keys ∧ y.take t.keys.toNat = row.take t.keys.toNat) : Fz t row [u] [y] := by
  refine ⟨rfl, fun i u' y' h1 h2 => ?_⟩
  have : i = 0 := by
    have := (List.getElem?_eq_some_iff.1 h1).1
    simp at this; omega
  subst this
  simp at h1 h2
  subst h1 h2
  exact h
theorem Fz.two {t u u1 : T} {row y y1 : List V} (h : u.fit y = 0 ∧ u.keys = t.keys ∧ y.take t.keys.toNat = row.take t.keys.toNat) (h' : u1.fit y1 = 0 ∧ u1.keys = t.keys ∧ y1.take t.keys.toNat = row.take t.keys.toNat) : Fz t row [u, u1] [y, y1] := by
  refine ⟨rfl, fun i u' y' h1 h2 => ?_⟩
  have : i = 0 ∨ i = 1 := by
    have := (List.getElem?_eq_some_iff.1 h1).1
    simp at this; omega
  rcases this with rfl | rfl
  · simp at h1 h2
    subst h1 h2
    exact h
  · simp at h1 h2
    subst h1 h2
    exact h'
/-- A table with other columns behind the same key may be. -/
theorem ck_cols {t : T} {nm : Nm.S} {cs : List C} (h : t.ck = 0) (hn : Nm.ck nm = 0) (h8 : cs.length ≤ 8) (hk : cs.take t.keys.toNat = t.cs.take t.keys.toNat) (h6 : ∀ c ∈ cs, c.ck = 0) (h7 : (cs.map C.name).Nodup) : (⟨nm, t.keys, cs⟩ : T).ck = 0 := by
  obtain ⟨_, a1, a2, a3, a4, a5, _⟩ := T.ck_ok h
  have hl : t.keys.toNat ≤ cs.length := by
    have := congrArg List.length hk
    simp only [List.length_take] at this
    omega
  have h8' := (T.ck_more h).2
  refine T.ck_of hn ?_ h8 a3 a4 ?_ h6 h7 ?_
  · show 1 ≤ cs.length; omega
  · show t.keys ≤ cs.length; omega
  · show nl cs t.keys.toNat = false
    unfold nl at h8' ⊢
    rw [hk]; exact h8'
theorem fit_cols {t : T} {row : List V} {nm : Nm.S} (Z : List (C × V)) (h : t.ck = 0) (h1 : t.cs.take t.keys.toNat = (Z.map (·.1)).take t.keys.toNat) (h2 : row.take t.keys.toNat = (Z.map (·.2)).take t.keys.toNat) (hn : Nm.ck nm = 0) (h8 : Z.length ≤ 8) (h6 : ∀ p ∈ Z, p.1.ck = 0) (h7 : ((Z.map (·.1)).map C.name).Nodup) (hZ : Zf Z) :
    (⟨nm, t.keys, Z.map (·.1)⟩ : T).fit (Z.map (·.2)) = 0 ∧ (⟨nm, t.keys, Z.map (·.1)⟩ : T).keys = t.keys ∧ (Z.map (·.2)).take t.keys.toNat = row.take t.keys.toNat :=
  ⟨fit_z Z rfl rfl (ck_cols h hn (by simpa using h8) h1.symm (fun c hc => by obtain ⟨p, hp, rfl⟩ := List.mem_map.1 hc; exact h6 p hp) h7) hZ, rfl, h2.symm⟩
/-- Fewer columns, the key's among them. -/
theorem fit_sub {t : T} {row : List V} {nm : Nm.S} (h : t.fit row = 0) (Z : List (C × V)) (hs : Z.Sublist (t.cs.zip row)) (hk : Z.take t.keys.toNat = (t.cs.zip row).take t.keys.toNat) (hn : Nm.ck nm = 0) :
    (⟨nm, t.keys, Z.map (·.1)⟩ : T).fit (Z.map (·.2)) = 0 ∧ (⟨nm, t.keys, Z.map (·.1)⟩ : T).keys = t.keys ∧ (Z.map (·.2)).take t.keys.toNat = row.take t.keys.toNat := by
  obtain ⟨Y, y1, y2, y3, y4, y5⟩ := z_fit h
  rw [y3] at hs hk
  obtain ⟨_, _, a2, _, _, _, a6⟩ := T.ck_ok y5
  have hl := hs.length_le
  have yl : Y.length ≤ 8 := by rw [y1] at a2; simpa using a2
  refine fit_cols Z y5 ?_ ?_ hn (by omega) ?_ ?_ ?_
  · rw [y1, ← List.map_take, ← List.map_take, hk]
  · rw [y2, ← List.map_take, ← List.map_take, hk]
  · intro p hp
    exact a6 _ (by rw [y1]; exact List.mem_map_of_mem (hs.subset hp))
  · have := (T.ck_more y5).1
    rw [y1] at this
    exact ((hs.map _).map _).nodup this
  · exact fun p hp => y4 p (hs.subset hp)

theorem tgt_parts {c : Ch} {v : V} {l : List T} (h : (c.tgt v l).2 = 0) : cka l = 0 ∧ 1 ≤ c.kind ∧ c.kind ≤ 6 ∧ lack l c.src = false ∧ (c.bod v l).2 = 0 ∧ c.tgt v l = c.bod v l := by
  unfold Ch.tgt at h ⊢
  split at h
  · rename_i g; exact absurd h g
  rename_i g0
  split at h
  · exact absurd h (by decide)
  rename_i g1
  split at h
  · exact absurd h (by decide)
  rename_i g2
  split at h
  · rename_i g; exact absurd h g
  rename_i g3
  split at h
  · exact absurd h (by decide)
  rename_i g4
  rw [if_neg g0, if_neg g1, if_neg g2, if_neg g3, if_neg g4]
  exact ⟨by omega, by omega, by omega, by simpa using g2, h, rfl⟩
theorem lack_in {l : List T} {g : List Nm.S} (h : lack l g = false) : ∀ s ∈ g, s ∈ nms l := by
  intro s hs
  unfold lack at h
  rw [List.any_eq_false] at h
  have := h s hs
  simpa using this
/-- The source is there. -/
theorem tgt_there {c : Ch} {v : V} {l : List T} (h : (c.tgt v l).2 = 0) (h1 : c.kind ≠ 1) : c.table ∈ nms l ∧ c.table ∈ c.src := by
  obtain ⟨_, k1, k6, hl, _, _⟩ := tgt_parts h
  have hs : c.table ∈ c.src := by
    unfold Ch.src
    split
    · simp
    · rw [if_pos (by omega)]; simp
  exact ⟨lack_in hl _ hs, hs⟩
theorem fi_in {l : List Nm.S} {s : Nm.S} {k : Int} (hk : 0 ≤ k) (h : ¬ Nm.fi l s < k) : ∃ i : Nat, Nm.fi l s = i ∧ i < l.length ∧ k ≤ i ∧ l[i]? = some s := by
  have hm : s ∈ l := by
    refine Classical.byContradiction fun g => ?_
    rw [Nm.fi_none _ _ g] at h; omega
  have e := fi_mem hm
  have hlt := List.idxOf_lt_length_iff.2 hm
  refine ⟨l.idxOf s, e, hlt, by omega, ?_⟩
  rw [List.getElem?_eq_getElem hlt, List.getElem_idxOf]
theorem ft_parts {c : C} {v : V} (h : ft c v = 0) : v.ck = 0 ∧ ((v.k = 0 ∧ c.null = true) ∨ v.k = c.kind) := by
  refine ⟨ft_ck h, ?_⟩
  unfold ft at h
  rw [if_neg (by simpa using ft_ck h)] at h
  split at h
  · assumption
  · omega
theorem ft_mk {c : C} {v : V} (h0 : v.ck = 0) (h : (v.k = 0 ∧ c.null = true) ∨ v.k = c.kind) : ft c v = 0 := by unfold ft; rw [if_neg (by simpa using h0), if_pos h]
/-- What becomes of a value. -/
theorem vto_ok {v : V} {kd : Int} (hv : v.ok) (h : v.toE kd = 0) : (v.to kd).ck = 0 ∧ ((v.k = 0 ∧ (v.to kd).k = 0) ∨ (v.to kd).k = kd) := by
  unfold V.toE at h
  rcases Km.to_ok hv.1 ⟨hv.2.1, by have := hv.2.2; omega⟩ h with ⟨k0, e, hc⟩ | ⟨_, ho⟩
  · have e' : v.to kd = ⟨0, v.n, v.b, v.s⟩ := by unfold V.to; rw [e]
    rw [e']
    exact ⟨hc, .inl ⟨k0, rfl⟩⟩
  · exact ⟨ho.1, .inr ho.2.2.2.1⟩
theorem vto_ck {v : V} {kd : Int} (hv : v.ok) : (v.to kd).ck = 0 ∧ ((v.to kd).k = 0 ∨ (v.to kd).k = kd) := by
  by_cases h : v.toE kd = 0
  · obtain ⟨a, b⟩ := vto_ok hv h
    rcases b with b | b
    · exact ⟨a, .inl b.2⟩
    · exact ⟨a, .inr b⟩
  · rcases Km.to_err v.k v.n v.b v.s kd with e | e
    · exact absurd e h
    · have e' : v.to kd = ⟨0, 0, 0, []⟩ := by unfold V.to; rw [e]; rfl
      rw [e']
      exact ⟨by decide, .inl rfl⟩
theorem C.ck_of {c : C} (h0 : Nm.ck c.name = 0) (h1 : 1 ≤ c.kind) (h2 : c.kind ≤ 5) (h3 : c.d.ck = 0) (h4 : c.d.k = 0 ∨ c.d.k = c.kind) : c.ck = 0 := by
  unfold C.ck
  rw [if_neg (by simpa using h0), if_neg (by omega), if_neg (by simpa using h3), if_neg (by omega)]
theorem can_in {a b : Int} (h : Km.Cv.can a b = true) : 1 ≤ b ∧ b ≤ 5 := by
  unfold Km.Cv.can at h
  rw [decide_eq_true_eq] at h
  exact ⟨h.2.2.1, h.2.2.2.1⟩

theorem fits_add {t : T} {c : C} {row : List V} (hf : t.fit row = 0) (h : (t.add c).2 = 0) : Fz t row (t.add c).1 [row ++ [c.d]] := by
  unfold T.add at h ⊢
  split at h
  · rename_i g; exact absurd h g
  rename_i g0
  split at h
  · exact absurd h (by decide)
  rename_i g1
  split at h
  · exact absurd h (by decide)
  rename_i g2
  split at h
  · exact absurd h (by decide)
  rename_i g3
  rw [if_neg g0, if_neg g1, if_neg g2, if_neg g3]
  obtain ⟨Y, y1, y2, _, y4, y5⟩ := z_fit hf
  obtain ⟨b0, b1, b2, b3, b4, b5, b6⟩ := T.ck_ok y5
  have hc : c.ck = 0 := by omega
  obtain ⟨c0, c1, c2, c3, c4⟩ := C.ck_ok hc
  have yl : Y.length = t.cs.length := by rw [y1]; simp
  have h1 : t.cs ++ [c] = (Y ++ [(c, c.d)]).map (·.1) := by rw [y1]; simp
  have h2 : row ++ [c.d] = (Y ++ [(c, c.d)]).map (·.2) := by rw [y2]; simp
  have K : t.keys.toNat ≤ Y.length := by omega
  refine Fz.one ?_
  show (⟨t.name, t.keys, t.cs ++ [c]⟩ : T).fit (row ++ [c.d]) = 0 ∧ _ ∧ (row ++ [c.d]).take _ = _
  rw [h1, h2]
  refine fit_cols (Y ++ [(c, c.d)]) y5 ?_ ?_ b0 (by simp; omega) ?_ ?_ ?_
  · rw [List.map_append, List.take_append_of_le_length (by simpa using K), y1]
  · rw [List.map_append, List.take_append_of_le_length (by simpa using K), y2]
  · intro p hp
    rcases List.mem_append.1 hp with hp | hp
    · exact b6 _ (by rw [y1]; exact List.mem_map_of_mem hp)
    · obtain rfl := List.mem_singleton.1 hp; exact hc
  · have := (T.ck_more y5).1
    rw [← h1, List.map_append, List.nodup_append]
    refine ⟨this, by simp, fun a ha b hb => ?_⟩
    simp at hb
    subst hb
    intro e
    subst e
    exact g1 ha
  · intro p hp
    rcases List.mem_append.1 hp with hp | hp
    · exact y4 p hp
    · obtain rfl := List.mem_singleton.1 hp
      refine ft_mk c3 ?_
      rcases c4 with c4 | c4
      · refine .inl ⟨c4, ?_⟩
        cases hn : c.null with
        | true => rfl
        | false => exact absurd ⟨hn, c4⟩ g3
      · exact .inr c4
theorem take_erase {α : Type} (l : List α) (i K : Nat) (h : K ≤ i) : (l.eraseIdx i).take K = l.take K := by
  rw [List.eraseIdx_eq_take_drop_succ, List.take_append]
  by_cases hi : i ≤ l.length
  · rw [List.take_take, Nat.min_eq_left h, List.length_take, show K - min i l.length = 0 by omega, List.take_zero, List.append_nil]
  · rw [List.take_take, Nat.min_eq_left h, List.drop_eq_nil_of_le (by omega), List.take_nil, List.append_nil]
theorem erase_map {α β : Type} (f : α → β) : ∀ (l : List α) (i : Nat), (l.map f).eraseIdx i = (l.eraseIdx i).map f
  | [], i => by simp
  | x :: l, 0 => by simp
  | x :: l, i + 1 => by simp [erase_map f l i]
theorem fits_drp {t : T} {s : Nm.S} {row : List V} (hf : t.fit row = 0) (h : (t.drp s).2 = 0) : (t.rdrp s row).2 = 0 ∧ Fz t row (t.drp s).1 (t.rdrp s row).1 := by
  unfold T.drp at h ⊢
  unfold T.rdrp
  split at h
  · exact absurd h (by decide)
  rename_i g
  rw [if_neg g, if_neg g]
  refine ⟨rfl, Fz.one ?_⟩
  obtain ⟨Y, y1, y2, y3, y4, y5⟩ := z_fit hf
  obtain ⟨b0, b1, b2, b3, b4, b5, b6⟩ := T.ck_ok y5
  obtain ⟨i, e, hi, hk, _⟩ := fi_in (by omega) g
  rw [e, Int.toNat_natCast]
  have h1 : t.cs.eraseIdx i = (Y.eraseIdx i).map (·.1) := by rw [y1, erase_map]
  have h2 : row.eraseIdx i = (Y.eraseIdx i).map (·.2) := by rw [y2, erase_map]
  rw [h1, h2]
  refine fit_sub hf (Y.eraseIdx i) ?_ ?_ b0
  · rw [y3]; exact List.eraseIdx_sublist ..
  · rw [y3]; exact take_erase _ _ _ (by omega)
theorem fits_ret {t : T} {s : Nm.S} {kd : Int} {v : V} {row : List V} (hf : t.fit row = 0) (ht : ∀ c ∈ t.cs, c.d.ok) (ho : ∀ x ∈ row, x.ok) (hv : v = ((t.col s).d).to kd) (h : (t.ret s kd v).2 = 0) (hr : (t.rret s kd row).2 = 0) : Fz t row (t.ret s kd v).1 (t.rret s kd row).1 := by
  unfold T.ret at h ⊢
  unfold T.rret at hr ⊢
  split at h
  · exact absurd h (by decide)
  rename_i g
  rw [if_neg g] at hr ⊢
  split at h
  · exact absurd h (by decide)
  rename_i g1
  rw [if_neg g1]
  rw [if_neg g]
  split at hr
  · rename_i g2; exact absurd hr g2
  rename_i g2
  rw [if_neg g2]
  refine Fz.one ?_
  obtain ⟨Y, y1, y2, y3, y4, y5⟩ := z_fit hf
  obtain ⟨b0, b1, b2, b3, b4, b5, b6⟩ := T.ck_ok y5
  obtain ⟨i, e, hi, hk, hs⟩ := fi_in (by omega) g
  have hi' : i < t.cs.length := by unfold T.cns at hi; simpa using hi
  have hiY : i < Y.length := by rw [y1] at hi'; simpa using hi'
  have hir : i < row.length := by rw [y2]; simpa using hiY
  have yl : Y.length = t.cs.length := by rw [y1]; simp
  have ec : t.col s = t.cs[i] := by unfold T.col; rw [e, Int.toNat_natCast, List.getElem?_eq_getElem hi', Option.getD_some]
  have ev : t.vat s row = row[i] := by unfold T.vat; rw [e, Int.toNat_natCast, List.getElem?_eq_getElem hir, Option.getD_some]
  rw [ev] at g2 ⊢
  rw [ec] at g1 hv ⊢
  rw [e, Int.toNat_natCast]
  have a1 : t.cs[i] = (Y[i]).1 := by simp only [y1, List.getElem_map]
  have a2 : row[i] = (Y[i]).2 := by simp only [y2, List.getElem_map]
  have hft := y4 _ (List.getElem_mem hiY)
  rw [← a1, ← a2] at hft
  obtain ⟨f0, f1⟩ := ft_parts hft
  obtain ⟨w0, w1⟩ := vto_ok (ho _ (List.getElem_mem hir)) (show (row[i]).toE kd = 0 by omega)
  obtain ⟨d0, d1⟩ := vto_ck (kd := kd) (ht _ (List.getElem_mem hi'))
  rw [← hv] at d0 d1
  obtain ⟨k1, k5⟩ := can_in (show Km.Cv.can (t.cs[i]).kind kd = true by simpa using g1)
  obtain ⟨c0, c1, c2, c3, c4⟩ := C.ck_ok (b6 _ (List.getElem_mem hi'))
  have ck1 : ((t.cs[i]).re kd v).ck = 0 := C.ck_of c0 k1 k5 d0 d1
  have h1 : t.cs.set i ((t.cs[i]).re kd v) = (Y.set i ((t.cs[i]).re kd v, (row[i]).to kd)).map (·.1) := by rw [List.map_set, ← y1]
  have h2 : row.set i ((row[i]).to kd) = (Y.set i ((t.cs[i]).re kd v, (row[i]).to kd)).map (·.2) := by rw [List.map_set, ← y2]
  show (⟨t.name, t.keys, t.cs.set i _⟩ : T).fit (row.set i _) = 0 ∧ _ ∧ (row.set i _).take _ = _
  have K : t.keys.toNat ≤ i := by omega
  rw [h1, h2]
  refine fit_cols _ y5 ?_ ?_ b0 (by simp; omega) ?_ ?_ ?_
  · rw [← h1, List.take_set_of_le K]
  · rw [← h2, List.take_set_of_le K]
  · intro p hp
    rcases List.mem_or_eq_of_mem_set hp with hp | rfl
    · exact b6 _ (by rw [y1]; exact List.mem_map_of_mem hp)
    · exact ck1
  · rw [← h1, List.map_set]
    have : (t.cs.map C.name).set i ((t.cs[i]).re kd v).name = t.cs.map C.name := by
      have e2 : ((t.cs[i]).re kd v).name = (t.cs.map C.name)[i]'(by simpa using hi') := by rw [List.getElem_map]; rfl
      rw [e2, List.set_getElem_self]
    rw [this]
    exact (T.ck_more y5).1
  · intro p hp
    rcases List.mem_or_eq_of_mem_set hp with hp | rfl
    · exact y4 p hp
    · refine ft_mk w0 ?_
      rcases w1 with ⟨w1, w2⟩ | w1
      · rcases f1 with f1 | f1
        · exact .inl ⟨w2, f1.2⟩
        · omega
      · exact .inr w1
theorem filt_map (Y : List (C × V)) (K : Nat) (f : C → Bool) : (Y.map (·.1)).take K ++ ((Y.map (·.1)).drop K).filter f = (Y.take K ++ (Y.drop K).filter (fun p => f p.1)).map (·.1) := by
  rw [List.map_append, List.map_take, ← List.map_drop, List.filter_map]
  rfl
theorem fits_spl {t : T} {c : Ch} {row : List V} (hf : t.fit row = 0) (h : (t.spl c).2 = 0) : Fz t row (t.spl c).1 [vsm t.cs c.names t.keys.toNat row, vrs t.cs c.names t.keys.toNat row] := by
  unfold T.spl at h ⊢
  split at h
  · rename_i g; exact absurd h g
  rename_i g0
  split at h
  · rename_i g; exact absurd h g
  rename_i g1
  split at h
  · exact absurd h (by decide)
  rename_i g2
  split at h
  · exact absurd h (by decide)
  rename_i g3
  rw [if_neg g0, if_neg g1, if_neg g2, if_neg g3]
  obtain ⟨Y, y1, y2, y3, y4, y5⟩ := z_fit hf
  obtain ⟨b0, b1, b2, b3, b4, b5, b6⟩ := T.ck_ok y5
  have K : t.keys.toNat ≤ Y.length := by rw [y1] at b5; simp at b5; omega
  have sub : ∀ f : C × V → Bool, (Y.take t.keys.toNat ++ (Y.drop t.keys.toNat).filter f).Sublist Y := fun f => by
    have := List.Sublist.append (List.Sublist.refl (Y.take t.keys.toNat)) (List.filter_sublist (p := f) (l := Y.drop t.keys.toNat))
    rwa [List.take_append_drop] at this
  have tk : ∀ f : C × V → Bool, (Y.take t.keys.toNat ++ (Y.drop t.keys.toNat).filter f).take t.keys.toNat = Y.take t.keys.toNat := fun f => by
    rw [List.take_append_of_le_length (by rw [List.length_take]; omega), List.take_take, Nat.min_self]
  have part : ∀ (f : C → Bool) (nm : Nm.S), Nm.ck nm = 0 → (⟨nm, t.keys, t.cs.take t.keys.toNat ++ (t.cs.drop t.keys.toNat).filter f⟩ : T).fit (row.take t.keys.toNat ++ (((t.cs.zip row).drop t.keys.toNat).filter (fun p => f p.1)).map (·.2)) = 0 ∧ t.keys = t.keys ∧ (row.take t.keys.toNat ++ (((t.cs.zip row).drop t.keys.toNat).filter (fun p => f p.1)).map (·.2)).take t.keys.toNat = row.take t.keys.toNat := fun f nm hn => by
    have e1 : t.cs.take t.keys.toNat ++ (t.cs.drop t.keys.toNat).filter f = (Y.take t.keys.toNat ++ (Y.drop t.keys.toNat).filter (fun p => f p.1)).map (·.1) := by
      have := filt_map Y t.keys.toNat f
      rwa [← y1] at this
    have e2 : row.take t.keys.toNat ++ (((t.cs.zip row).drop t.keys.toNat).filter (fun p => f p.1)).map (·.2) = (Y.take t.keys.toNat ++ (Y.drop t.keys.toNat).filter (fun p => f p.1)).map (·.2) := by
      rw [y3, List.map_append, List.map_take, ← y2]
    rw [e1, e2]
    refine fit_sub hf _ ?_ ?_ hn
    · rw [y3]; exact sub _
    · rw [y3]; exact tk _
  exact Fz.two (part (fun c' => decide (c'.name ∈ c.names)) c.to (by omega)) (part (fun c' => decide (c'.name ∉ c.names)) c.also (by omega))
theorem fits_mrg {c : Ch} {a b : T} {row : List V} (hf : a.fit row = 0) (h : (c.mrg a b).2 = 0) : Fz a row (c.mrg a b).1 [row] := by
  unfold Ch.mrg at h ⊢
  split at h
  · exact absurd h (by decide)
  rename_i g0
  split at h
  · rename_i g; exact absurd h g
  rename_i g1
  split at h
  · rename_i g2
    rw [if_neg g0, if_neg g1, if_pos g2]
    obtain ⟨Y, y1, y2, y3, y4, y5⟩ := z_fit hf
    refine Fz.one ?_
    have := fit_sub (nm := c.to) hf (a.cs.zip row) (List.Sublist.refl _) rfl (by omega)
    rw [y3, ← y1, ← y2] at this
    exact this
  · exact absurd h (by decide)

/-- What TransformFits says. -/
theorem fits_plain {c : Ch} {v : V} {l : List T} {row : List V} (h : (c.tgt v l).2 = 0) (h1 : c.kind ≠ 1) (hv : v = ((tat l c.table).col c.name).d.to c.type) (hok : ∀ t ∈ l, ∀ d ∈ t.cs, d.d.ok) (ho : ∀ x ∈ row, x.ok) (hf : (tat l c.table).fit row = 0) :
    (c.kind ≠ 4 → (c.row (tat l c.table) row).2 = 0) ∧ ((c.row (tat l c.table) row).2 = 0 → Fz (tat l c.table) row (c.tgt v l).1 (c.row (tat l c.table) row).1) := by
  obtain ⟨hm, hs⟩ := tgt_there h h1
  obtain ⟨hck, k1, k6, hla, hb, e⟩ := tgt_parts h
  have hn : (tat l c.table).name ∈ c.src := by rw [tat_name hm]; exact hs
  have htm := tat_mem hm
  rw [row_bod hf hn, e]
  unfold Ch.bod at hb ⊢
  unfold Ch.rbod
  generalize tat l c.table = t at *
  rw [if_neg h1] at hb ⊢
  by_cases h2 : c.kind = 2
  · rw [if_pos h2] at hb ⊢
    rw [if_pos h2]
    exact ⟨fun _ => rfl, fun _ => fits_add hf hb⟩
  rw [if_neg h2] at hb ⊢
  rw [if_neg h2]
  by_cases h3 : c.kind = 3
  · rw [if_pos h3] at hb ⊢
    rw [if_pos h3]
    have := fits_drp hf hb
    exact ⟨fun _ => this.1, fun _ => this.2⟩
  rw [if_neg h3] at hb ⊢
  rw [if_neg h3]
  by_cases h4 : c.kind = 4
  · rw [if_pos h4] at hb ⊢
    rw [if_pos h4]
    exact ⟨fun g => absurd h4 g, fun g => fits_ret hf (hok _ htm) ho hv hb g⟩
  rw [if_neg h4] at hb ⊢
  rw [if_neg h4]
  by_cases h5 : c.kind = 5
  · rw [if_pos h5] at hb ⊢
    rw [if_pos h5]
    exact ⟨fun _ => rfl, fun _ => fits_spl hf hb⟩
  rw [if_neg h5] at hb ⊢
  rw [if_neg h5]
  exact ⟨fun _ => rfl, fun _ => fits_mrg hf hb⟩

end Go.Proofs.YtdonmbmahcjfbaaGreatDoor

namespace Go.Proofs.YtdonmbmahcjfbaaGreatDoor
open Go.RowKit
set_option linter.unusedVariables false

theorem vto_in {v : V} {kd : Int} (hv : v.ok) : (v.to kd).ok := by
  by_cases h : v.toE kd = 0
  · unfold V.toE at h
    rcases Km.to_ok hv.1 ⟨hv.2.1, by have := hv.2.2; omega⟩ h with ⟨k0, e, hc⟩ | ⟨_, ho⟩
    · have e' : v.to kd = ⟨0, v.n, v.b, v.s⟩ := by unfold V.to; rw [e]
      rw [e']
      exact ⟨hv.1, hv.2⟩
    · have hI := ho.2.2.1
      unfold Km.Cv.I at hI
      exact ⟨ho.2.1, by show -9223372036854775808 ≤ (Km.Cv.to v.k v.n v.b v.s kd).n ∧ (Km.Cv.to v.k v.n v.b v.s kd).n < 9223372036854775808; omega⟩
  · rcases Km.to_err v.k v.n v.b v.s kd with e | e
    · exact absurd e h
    · have e' : v.to kd = ⟨0, 0, 0, []⟩ := by unfold V.to; rw [e]; rfl
      rw [e']
      exact ⟨Km.z0, by decide, by decide⟩
theorem col_in {t : T} (h : ∀ d ∈ t.cs, d.d.ok) (s : Nm.S) : (t.col s).d.ok := by
  unfold T.col
  cases e : t.cs[(Nm.fi t.cns s).toNat]? with
  | none => exact ⟨Km.z0, by decide, by decide⟩
  | some d => exact h d (List.mem_of_getElem? e)
theorem tat_in {l : List T} (h : ∀ t ∈ l, ∀ d ∈ t.cs, d.d.ok) (s : Nm.S) : ∀ d ∈ (tat l s).cs, d.d.ok := by
  unfold tat
  cases e : l[(nms l).idxOf s]? with
  | none => intro d hd; simp [T0] at hd
  | some t => exact h t (List.mem_of_getElem? e)
theorem Fit.ok {W : World} {xs : List TV} (h : Fit W xs) : ∀ t ∈ tvs xs, ∀ d ∈ t.cs, d.d.ok := by
  intro t ht
  obtain ⟨x, hx, rfl⟩ := List.mem_map.1 ht
  exact (h x hx).2.2
theorem row_in {c : Ch} {t : T} {row : List V} (ho : ∀ x ∈ row, x.ok) (hc : c.col.d.ok) : ∀ y ∈ (c.row t row).1, ∀ x ∈ y, x.ok := by
  have hz : (⟨0, 0, 0, []⟩ : V).ok := ⟨Km.z0, by decide, by decide⟩
  have hv : (t.vat c.name row).ok := by
    unfold T.vat
    cases e : row[(Nm.fi t.cns c.name).toNat]? with
    | none => exact hz
    | some v => exact ho v (List.mem_of_getElem? e)
  have hs : ∀ p ∈ t.cs.zip row, p.2 ∈ row := fun p hp => (List.of_mem_zip hp).2
  have hvs : ∀ x ∈ vsm t.cs c.names t.keys.toNat row, x.ok := fun x hx => by
    rcases List.mem_append.1 hx with hx | hx
    · exact ho x (List.mem_of_mem_take hx)
    · obtain ⟨p, hp, rfl⟩ := List.mem_map.1 hx
      exact ho _ (hs p (List.mem_of_mem_drop (List.mem_filter.1 hp).1))
  have hvr : ∀ x ∈ vrs t.cs c.names t.keys.toNat row, x.ok := fun x hx => by
    rcases List.mem_append.1 hx with hx | hx
    · exact ho x (List.mem_of_mem_take hx)
    · obtain ⟨p, hp, rfl⟩ := List.mem_map.1 hx
      exact ho _ (hs p (List.mem_of_mem_drop (List.mem_filter.1 hp).1))
  intro y hy x hx
  unfold Ch.row Ch.rbod T.rdrp T.rret at hy
  repeat' split at hy
  all_goals simp only [List.not_mem_nil, List.mem_cons, or_false] at hy
  · subst hy
    rcases List.mem_append.1 hx with hx | hx
    · exact ho x hx
    · obtain rfl := List.mem_singleton.1 hx; exact hc
  · subst hy
    exact ho x (List.mem_of_mem_eraseIdx hx)
  · subst hy
    rcases List.mem_or_eq_of_mem_set hx with hx | rfl
    · exact ho x hx
    · exact vto_in hv
  · rcases hy with rfl | rfl
    · exact hvs x hx
    · exact hvr x hx
  · subst hy
    exact ho x hx
theorem split_c {w : World} {xs : List TV} {c : Ch} {no : Option Addr} {nc : Nat} (hf : Fit w xs) (hns : SlS w no c.names) (hnl : c.names.length ≤ 1000) (h5 : c.kind = 5) (hla : lack (tvs xs) c.src = false) (hck : cka (tvs xs) = 0) : SplitC w xs c no nc := by
  intro W fo fc hb hs
  have hm : c.table ∈ nms (tvs xs) := lack_all hla _ (by unfold Ch.src; rw [if_neg (by omega), if_pos (by omega)]; simp)
  have e := tvat_t hm
  have h0 := (cka_ok hck).2.1 _ (tat_mem hm)
  obtain ⟨b0, b1, b2, b3, b4, b5, b6⟩ := T.ck_ok h0
  unfold T.spl
  by_cases h1 : Nm.ck c.to = 0
  case neg =>
    rw [if_pos h1]
    refine (split_n1 c.table c.to c.also c.names no nc _ W _ rfl h1).mono ?_
    rintro e w1 ⟨rfl, hb1⟩
    exact ⟨TR.bad rfl h1, hb1⟩
  rw [if_neg (by simpa using h1)]
  by_cases h2 : Nm.ck c.also = 0
  case neg =>
    rw [if_pos h2]
    refine (split_n2 c.table c.to c.also c.names no nc _ W h1 _ rfl h2).mono ?_
    rintro e w1 ⟨rfl, hb1⟩
    exact ⟨TR.bad rfl h2, hb1⟩
  rw [if_neg (by simpa using h2)]
  by_cases h3 : c.to = c.also
  · rw [if_pos h3, ← h3]
    refine (split_n3 c.table c.to c.names no nc _ W h1).mono ?_
    rintro e w1 ⟨rfl, hb1⟩
    exact ⟨TR.bad rfl (by decide), hb1⟩
  rw [if_neg h3]
  rw [← e] at b2 b3 b5 h0 ⊢
  refine (split_go c.table c.to c.also c.names no nc (tvat xs c.table) (tvat xs c.table).t.keys.toNat (by omega) fo fc W h1 h2 (by simpa using h3) hs ((hf _ (tvat_mem hm)).keep hb) b2 (by omega) (T.ck_more h0).1 (hns.below hb) hnl).mono ?_
  rintro e w1 ⟨⟨hb0, rfl⟩ | ⟨hb0, htr⟩, hb1⟩
  · rw [if_pos hb0]
    exact ⟨TR.bad rfl (by decide), hb1⟩
  · rw [if_neg (by simp [hb0])]
    exact ⟨htr, hb1⟩
theorem merge_c {w : World} {xs : List TV} {c : Ch} (hf : Fit w xs) (h6 : c.kind = 6) (hla : lack (tvs xs) c.src = false) (hck : cka (tvs xs) = 0) : MergeC w xs c := by
  intro W fo fc hb hs
  have hm : c.table ∈ nms (tvs xs) := lack_all hla _ (by unfold Ch.src; rw [if_pos h6]; simp)
  have hm' : c.other ∈ nms (tvs xs) := lack_all hla _ (by unfold Ch.src; rw [if_pos h6]; simp)
  have e := tvat_t hm
  have e' := tvat_t hm'
  have h0 := (cka_ok hck).2.1 _ (tat_mem hm)
  obtain ⟨b0, b1, b2, b3, b4, b5, b6⟩ := T.ck_ok h0
  unfold Ch.mrg
  by_cases h1 : c.table = c.other
  · rw [if_pos h1, ← h1]
    refine (merge_one c.table c.to _ W).mono ?_
    rintro e w1 ⟨rfl, hb1⟩
    exact ⟨TR.bad rfl (by decide), hb1⟩
  rw [if_neg h1]
  by_cases h2 : Nm.ck c.to = 0
  case neg =>
    rw [if_pos h2]
    refine (merge_name c.table c.other c.to _ W (by simpa using h1) _ rfl h2).mono ?_
    rintro e w1 ⟨rfl, hb1⟩
    exact ⟨TR.bad rfl h2, hb1⟩
  rw [if_neg (by simpa using h2), ← e, ← e']
  rw [← e] at b2
  refine (merge_go c.table c.other c.to (tvat xs c.table) (tvat xs c.other) fo fc W (by simpa using h1) h2 hs ((hf _ (tvat_mem hm)).keep hb) ((hf _ (tvat_mem hm')).keep hb) b2 _ rfl).mono ?_
  rintro e w1 ⟨⟨hr, rfl⟩ | ⟨hr, htr⟩, hb1⟩
  · rw [if_neg (fun h => by unfold T.sm at hr; simp [h.1, h.2] at hr)]
    exact ⟨TR.bad rfl (by decide), hb1⟩
  · rw [if_pos (by unfold T.sm at hr; simpa using hr)]
    exact ⟨htr, hb1⟩
/-- What Targets tells. -/
theorem targets_all (c : Ch) (no : Option Addr) (nc : Nat) (dO : Option Addr) (dc : Nat) (xs : List TV) (ao : Option Addr) (cap : Nat) (w : World) (hg : Env w) (hG : Km.Env w) (h : SlV w ao xs) (hf : Fit w xs) (hl : xs.length ≤ 1000) (hdf : At3 w c.df dO dc) (hcol : c.col.d.ok) (hns : SlS w no c.names) (hnl : c.names.length ≤ 1000) (R : List T × Int) (hR : c.tgt (((tat (tvs xs) c.table).col c.name).d.to c.type) (tvs xs) = R) :
    Calls Tryz.prog 18 #[.slice ao xs.length cap, .agg #[.int .i64 c.kind, .string ⟨c.table.toArray⟩, .string ⟨c.other.toArray⟩, .string ⟨c.to.toArray⟩, .string ⟨c.also.toArray⟩, .string ⟨c.name.toArray⟩, .int .i64 c.type, .slice no c.names.length nc, .string ⟨c.col.name.toArray⟩, .int .i64 c.col.kind, .bool c.col.null, .int .i64 c.col.d.k, .int .i64 c.col.d.n, .int .u64 c.col.d.b, .string ⟨c.col.d.s.toArray⟩, .string ⟨c.df.name.toArray⟩, .int .i64 c.df.keys, .slice dO c.df.cs.length dc]] w fun e w' => TR w w' e R ∧ Below w.heap.size w w' := by
  subst hR
  have hd := col_in (tat_in hf.ok c.table) c.name
  refine (targets_is c no nc dO dc xs ao cap w hg h hf hl hdf hcol (fun k W => Km.can_any k c.type W) (fun v => v = (((tat (tvs xs) c.table).col c.name).d.to c.type)) (fun v hv => hv ▸ vto_in hd) ⟨_, rfl⟩ (fun W hb => ?_) (fun h5 hla hck => split_c hf hns hnl h5 hla hck) (fun h6 hla hck => merge_c hf h6 hla hck)).mono ?_
  · refine (Km.to_is _ _ _ _ c.type _ W (hG.below hb) hd.1 ⟨hd.2.1, by have := hd.2.2; omega⟩ rfl).mono ?_
    rintro e w1 ⟨rfl, hb1⟩
    exact ⟨(((tat (tvs xs) c.table).col c.name).d.to c.type), _, rfl, rfl, hb1⟩
  · rintro e w1 ⟨⟨v, rfl, htr⟩, hb1⟩
    exact ⟨htr, hb1⟩

end Go.Proofs.YtdonmbmahcjfbaaGreatDoor
