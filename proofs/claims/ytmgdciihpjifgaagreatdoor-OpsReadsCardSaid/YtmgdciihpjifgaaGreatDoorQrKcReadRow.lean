/-
 The plain mathematics of rows: all values that bytes hold; rows compared. No condition.
 What Read answers, the program's and the document's, by the plain function. Condition: the bound named in each theorem.
 What ReadRow answers, the program's and the document's: a row of values that the call owns, or the error. Condition: the bound named in each theorem.
-/
import Derived.Test.YtmgdciihpjifgaaGreatDoorQrKcRows
import Derived.Test.YtmgdciihpjifgaaGreatDoorQrKcRead
import Derived.Test.YtmgdciihpjifgaaGreatDoorQrKcRefRead
namespace Go.Proofs.YtmgdciihpjifgaaGreatDoor
theorem rd_less (l : List UInt8) (h : (rd l).e = 0) : (rd l).r.length < l.length := by
 have hc : ∀ (k n b : Int) (s r : List UInt8), (chk k n b s r).e = 0 → (chk k n b s r).r = r := by
  intro k n b s r g
  unfold chk at *
  split
  ·rfl
  ·rename_i g2; rw [if_neg g2] at g; exact absurd g (by unfold Rd.bad; decide)
 cases l with
 | nil => exact absurd h (by decide)
 | cons x t =>
  rw [rd] at h ⊢
  by_cases h5 : 5 < x.toNat
  ·rw [if_pos h5] at h; exact absurd h (by decide)
  rw [if_neg h5] at h ⊢
  unfold rdb at h ⊢
  simp only [List.length_cons]
  by_cases k1 : (x.toNat : Int) = 1
  ·rw [if_pos k1] at h ⊢
   by_cases hs : t.length < 1
   ·rw [if_pos hs] at h; exact absurd h (by decide)
   ·rw [if_neg hs] at h ⊢; rw [hc _ _ _ _ _ h, List.length_drop]; omega
  rw [if_neg k1] at h ⊢
  by_cases k2 : (x.toNat : Int) = 2
  ·rw [if_pos k2] at h ⊢
   by_cases hs : t.length < 8
   ·rw [if_pos hs] at h; exact absurd h (by decide)
   ·rw [if_neg hs] at h ⊢; rw [hc _ _ _ _ _ h, List.length_drop]; omega
  rw [if_neg k2] at h ⊢
  by_cases k3 : (x.toNat : Int) = 3
  ·rw [if_pos k3] at h ⊢
   by_cases hs : t.length < 8
   ·rw [if_pos hs] at h; exact absurd h (by decide)
   ·rw [if_neg hs] at h ⊢
    by_cases ho : Rl.bo (Kc.nm (t.take 8)) = true
    ·rw [if_pos ho] at h ⊢; rw [hc _ _ _ _ _ h, List.length_drop]; omega
    ·rw [if_neg ho] at h; exact absurd h (by decide)
  rw [if_neg k3] at h ⊢
  by_cases k4 : (x.toNat : Int) = 4 ∨ (x.toNat : Int) = 5
  ·rw [if_pos k4] at h ⊢
   by_cases hu : (Kc.un t).2.2 = 0
   ·rw [if_pos hu] at h ⊢
    rw [hc _ _ _ _ _ h]
    rcases Kc.un_fine t with ⟨_, g, _⟩ | ⟨_, _, g⟩
    ·omega
    ·omega
   ·rw [if_neg hu] at h; exact absurd h hu
  ·rw [if_neg k4] at h ⊢
   rw [hc _ _ _ _ _ h]; omega
def rr : Nat → List UInt8 → List V × Int
 | 0, _ => ([], 0)
 | f + 1, l => if l = [] then ([], 0) else if (rd l).e = 0 then (if (rr f (rd l).r).2 = 0 then (⟨(rd l).k, (rd l).n, (rd l).b, (rd l).s⟩ :: (rr f (rd l).r).1, 0) else ([], (rr f (rd l).r).2)) else ([], (rd l).e)
def ra (l : List UInt8) : List V × Int := rr l.length l
def pv (d : List V) (r : List V × Int) : List V × Int := if r.2 = 0 then (d ++ r.1, 0) else ([], r.2)
def V.vc (x y : V) : Int := Vl.vc x.k x.n x.b x.s y.k y.n y.b y.s
def rc : List V → List V → Int
 | [], [] => 0
 | [], _ :: _ => -1
 | _ :: _, [] => 1
 | x :: xs, y :: ys => if x.vc y = 0 then rc xs ys else x.vc y
end Go.Proofs.YtmgdciihpjifgaaGreatDoor
namespace Go.Proofs.YtmgdciihpjifgaaGreatDoor
open Go.RowKit
def Rd.val (R : Rd) : Value := .tuple #[.agg #[.int .i64 R.k, .int .i64 R.n, .int .u64 R.b, .string ⟨R.s.toArray⟩], .string ⟨R.r.toArray⟩, .int .i64 R.e]
theorem nm1 (t : List UInt8) (h : 1 ≤ t.length) : ((t[0]'(by omega)).toNat : Int) = (Kc.nm (t.take 1) : Int) := by
 match t, h with
 | x :: t, _ => simp [Kc.nm]
theorem nm1_w (t : List UInt8) : wrap64 (Kc.nm (t.take 1) : Int) = (Kc.nm (t.take 1) : Int) := by
 have h1 := Kc.nm_lt (t.take 1)
 have h2 : 256 ^ (t.take 1).length ≤ 256 ^ 1 := Nat.pow_le_pow_right (by decide) (by rw [List.length_take]; omega)
 exact wrap_in _ (by omega) (by omega)
theorem u0 : Rl.U 0 := ⟨by decide, by decide⟩
theorem chk_ok {k n b : Int} {s r : List UInt8} (h : Vl.ck k n b s = 0) : chk k n b s r = ⟨k, n, b, s, r, 0⟩ := by unfold chk; rw [if_pos h]
theorem chk_bad {k n b : Int} {s r : List UInt8} (h : Vl.ck k n b s ≠ 0) : chk k n b s r = .bad 4 := by unfold chk; rw [if_neg h]
theorem kread_is (l : List UInt8) (w : World) (hl : l.length ≤ 1000000) :
  Calls Tryz.prog 133 #[.string ⟨l.toArray⟩] w fun e w' => e = .returned (rd l).val ∧ Below w.heap.size w w' := by
 cases l with
 | nil => exact kread_nil w
 | cons x t =>
  have h0 : 0 < (x :: t).length := by simp
  have hlt : t.length ≤ 1000000 := by simp at hl; omega
  rw [rd]
  by_cases h5 : 5 < x.toNat
  ·rw [if_pos h5]
   exact kread_kind (x :: t) x.toNat w h0 rfl (by omega)
  rw [if_neg h5]
  have c : (x.toNat : Int) = 0 ∨ (x.toNat : Int) = 1 ∨ (x.toNat : Int) = 2 ∨ (x.toNat : Int) = 3 ∨ (x.toNat : Int) = 4 ∨ (x.toNat : Int) = 5 := by omega
  rcases c with e | e | e | e | e | e
  ·rw [e]
   show Calls _ _ _ _ fun e w' => e = .returned (chk 0 0 0 [] t).val ∧ _
   by_cases hc : Vl.ck 0 0 0 [] = 0
   ·rw [chk_ok hc]; exact kread_ok (x :: t) 0 t [] t 0 0 w h0 e (by decide) (by decide) rfl (fun w => read_0 t w) u0 hc
   ·rw [chk_bad hc]; exact kread_bad (x :: t) 0 t [] t 0 0 _ w h0 e (by decide) (by decide) rfl (fun w => read_0 t w) u0 rfl hc
  ·rw [e]
   unfold rdb
   rw [if_pos rfl]
   by_cases hs : t.length < 1
   ·rw [if_pos hs]
    exact kread_err (x :: t) 1 t [] [] 0 0 3 w h0 e (by decide) (by decide) rfl (fun w => read_1s t w hs) (by decide)
   ·rw [if_neg hs]
    by_cases hc : Vl.ck 1 (Kc.nm (t.take 1) : Int) 0 [] = 0
    ·rw [chk_ok hc]; exact kread_ok (x :: t) 1 t [] (t.drop 1) (Kc.nm (t.take 1) : Int) 0 w h0 e (by decide) (by decide) rfl (fun w => read_1 (Kc.nm (t.take 1) : Int) (t.drop 1) t w (by omega) rfl rfl (nm1_w t)) u0 hc
    ·rw [chk_bad hc]; exact kread_bad (x :: t) 1 t [] (t.drop 1) (Kc.nm (t.take 1) : Int) 0 _ w h0 e (by decide) (by decide) rfl (fun w => read_1 (Kc.nm (t.take 1) : Int) (t.drop 1) t w (by omega) rfl rfl (nm1_w t)) u0 rfl hc
  ·rw [e]
   unfold rdb
   rw [if_neg (by decide), if_pos rfl]
   by_cases hs : t.length < 8
   ·rw [if_pos hs]
    exact kread_err (x :: t) 2 t [] [] (-9223372036854775808) 0 3 w h0 e (by decide) (by decide) rfl (fun w => read_2s t w hs) (by decide)
   ·rw [if_neg hs]
    by_cases hc : Vl.ck 2 ((Kc.nm (t.take 8) : Int) - 9223372036854775808) 0 [] = 0
    ·rw [chk_ok hc]; exact kread_ok (x :: t) 2 t [] (t.drop 8) ((Kc.nm (t.take 8) : Int) - 9223372036854775808) 0 w h0 e (by decide) (by decide) rfl (fun w => read_2 (Kc.nm (t.take 8) : Int) ((Kc.nm (t.take 8) : Int) - 9223372036854775808) (t.drop 8) t w (by omega) rfl rfl (xs_back _ (nm8_U t))) u0 hc
    ·rw [chk_bad hc]; exact kread_bad (x :: t) 2 t [] (t.drop 8) ((Kc.nm (t.take 8) : Int) - 9223372036854775808) 0 _ w h0 e (by decide) (by decide) rfl (fun w => read_2 (Kc.nm (t.take 8) : Int) ((Kc.nm (t.take 8) : Int) - 9223372036854775808) (t.drop 8) t w (by omega) rfl rfl (xs_back _ (nm8_U t))) u0 rfl hc
  ·rw [e]
   unfold rdb
   rw [if_neg (by decide), if_neg (by decide), if_pos rfl]
   by_cases hs : t.length < 8
   ·rw [if_pos hs]
    exact kread_err (x :: t) 3 t [] [] 0 0 3 w h0 e (by decide) (by decide) rfl (fun w => read_3s t w hs) (by decide)
   ·rw [if_neg hs]
    by_cases ho : Rl.bo (Kc.nm (t.take 8)) = true
    ·rw [if_pos ho]
     obtain ⟨Y, hY⟩ : ∃ Y, Rl.bk (Kc.nm (t.take 8)) = Y := ⟨_, rfl⟩
     have hYU : Rl.U Y := by rw [← hY]; exact Rl.bk_U _ (nm8_U t)
     rw [hY]
     by_cases hc : Vl.ck 3 0 Y [] = 0
     ·rw [chk_ok hc]; exact kread_ok (x :: t) 3 t [] (t.drop 8) 0 Y w h0 e (by decide) (by decide) rfl (fun w => read_3 Y (t.drop 8) t w (by omega) ho hY rfl) hYU hc
     ·rw [chk_bad hc]; exact kread_bad (x :: t) 3 t [] (t.drop 8) 0 Y _ w h0 e (by decide) (by decide) rfl (fun w => read_3 Y (t.drop 8) t w (by omega) ho hY rfl) hYU rfl hc
    ·rw [if_neg ho]
     have ho2 : Rl.bo (Kc.nm (t.take 8)) = false := by simpa using ho
     exact kread_err (x :: t) 3 t [] [] 0 0 4 w h0 e (by decide) (by decide) rfl (fun w => read_3b t w (by omega) ho2) (by decide)
  ·rw [e]
   unfold rdb
   rw [if_neg (by decide), if_neg (by decide), if_neg (by decide), if_pos (by decide)]
   obtain ⟨⟨S, R, E⟩, hu⟩ : ∃ r, Kc.un t = r := ⟨_, rfl⟩
   rw [hu]
   by_cases hE : E = 0
   ·subst hE
    rw [if_pos rfl]
    by_cases hc : Vl.ck 4 0 0 S = 0
    ·rw [chk_ok hc]; exact kread_ok (x :: t) 4 t S R 0 0 w h0 e (by decide) (by decide) rfl (fun w => read_4 S R 0 t w hlt hu) u0 hc
    ·rw [chk_bad hc]; exact kread_bad (x :: t) 4 t S R 0 0 _ w h0 e (by decide) (by decide) rfl (fun w => read_4 S R 0 t w hlt hu) u0 rfl hc
   ·rw [if_neg hE]
    exact kread_err (x :: t) 4 t S R 0 0 E w h0 e (by decide) (by decide) rfl (fun w => read_4 S R E t w hlt hu) hE
  ·rw [e]
   unfold rdb
   rw [if_neg (by decide), if_neg (by decide), if_neg (by decide), if_pos (by decide)]
   obtain ⟨⟨S, R, E⟩, hu⟩ : ∃ r, Kc.un t = r := ⟨_, rfl⟩
   rw [hu]
   by_cases hE : E = 0
   ·subst hE
    rw [if_pos rfl]
    by_cases hc : Vl.ck 5 0 0 S = 0
    ·rw [chk_ok hc]; exact kread_ok (x :: t) 5 t S R 0 0 w h0 e (by decide) (by decide) rfl (fun w => read_5 S R 0 t w hlt hu) u0 hc
    ·rw [chk_bad hc]; exact kread_bad (x :: t) 5 t S R 0 0 _ w h0 e (by decide) (by decide) rfl (fun w => read_5 S R 0 t w hlt hu) u0 rfl hc
   ·rw [if_neg hE]
    exact kread_err (x :: t) 5 t S R 0 0 E w h0 e (by decide) (by decide) rfl (fun w => read_5 S R E t w hlt hu) hE
theorem rread_is (l : List UInt8) (w : World) (hl : l.length ≤ 1000000) :
  Calls Tryz.prog 95 #[.string ⟨l.toArray⟩] w fun e w' => e = .returned (rd l).val ∧ Below w.heap.size w w' := by
 cases l with
 | nil => exact rread_nil w
 | cons x t =>
  have h0 : 0 < (x :: t).length := by simp
  have hlt : t.length ≤ 1000000 := by simp at hl; omega
  rw [rd]
  by_cases h5 : 5 < x.toNat
  ·rw [if_pos h5]
   exact rread_kind (x :: t) x.toNat w h0 rfl (by omega)
  rw [if_neg h5]
  have c : (x.toNat : Int) = 0 ∨ (x.toNat : Int) = 1 ∨ (x.toNat : Int) = 2 ∨ (x.toNat : Int) = 3 ∨ (x.toNat : Int) = 4 ∨ (x.toNat : Int) = 5 := by omega
  rcases c with e | e | e | e | e | e
  ·rw [e]
   show Calls _ _ _ _ fun e w' => e = .returned (chk 0 0 0 [] t).val ∧ _
   by_cases hc : Vl.ck 0 0 0 [] = 0
   ·rw [chk_ok hc]; exact rread_0 (x :: t) t w h0 e rfl  u0 hc
   ·rw [chk_bad hc]; exact rread_0b (x :: t) t _ w h0 e rfl  u0 rfl hc
  ·rw [e]
   unfold rdb
   rw [if_pos rfl]
   by_cases hs : t.length < 1
   ·rw [if_pos hs]
    exact rread_1s (x :: t) t w h0 e rfl hs
   ·rw [if_neg hs]
    by_cases hc : Vl.ck 1 (Kc.nm (t.take 1) : Int) 0 [] = 0
    ·rw [chk_ok hc]; exact rread_1 (x :: t) t (t.drop 1) (Kc.nm (t.take 1) : Int) w h0 e rfl (by omega) rfl (nm1 t (by omega)) (nm1_w t) u0 hc
    ·rw [chk_bad hc]; exact rread_1b (x :: t) t (t.drop 1) (Kc.nm (t.take 1) : Int) _ w h0 e rfl (by omega) rfl (nm1 t (by omega)) (nm1_w t) u0 rfl hc
  ·rw [e]
   unfold rdb
   rw [if_neg (by decide), if_pos rfl]
   by_cases hs : t.length < 8
   ·rw [if_pos hs]
    exact rread_2s (x :: t) t w h0 e rfl hs
   ·rw [if_neg hs]
    by_cases hc : Vl.ck 2 ((Kc.nm (t.take 8) : Int) - 9223372036854775808) 0 [] = 0
    ·rw [chk_ok hc]; exact rread_2 (x :: t) t (t.drop 8) (Kc.nm (t.take 8) : Int) ((Kc.nm (t.take 8) : Int) - 9223372036854775808) w h0 e rfl (by omega) rfl rfl (xs_back _ (nm8_U t)) u0 hc
    ·rw [chk_bad hc]; exact rread_2b (x :: t) t (t.drop 8) (Kc.nm (t.take 8) : Int) ((Kc.nm (t.take 8) : Int) - 9223372036854775808) _ w h0 e rfl (by omega) rfl rfl (xs_back _ (nm8_U t)) u0 rfl hc
  ·rw [e]
   unfold rdb
   rw [if_neg (by decide), if_neg (by decide), if_pos rfl]
   by_cases hs : t.length < 8
   ·rw [if_pos hs]
    exact rread_3s (x :: t) t w h0 e rfl hs
   ·rw [if_neg hs]
    by_cases ho : Rl.bo (Kc.nm (t.take 8)) = true
    ·rw [if_pos ho]
     obtain ⟨Y, hY⟩ : ∃ Y, Rl.bk (Kc.nm (t.take 8)) = Y := ⟨_, rfl⟩
     have hYU : Rl.U Y := by rw [← hY]; exact Rl.bk_U _ (nm8_U t)
     rw [hY]
     by_cases hc : Vl.ck 3 0 Y [] = 0
     ·rw [chk_ok hc]; exact rread_3 (x :: t) t (t.drop 8) (Kc.nm (t.take 8) : Int) Y w h0 e rfl (by omega) rfl rfl (nm8_U t) hY ho hYU hc
     ·rw [chk_bad hc]; exact rread_3b (x :: t) t (t.drop 8) (Kc.nm (t.take 8) : Int) Y _ w h0 e rfl (by omega) rfl rfl (nm8_U t) hY ho hYU rfl hc
    ·rw [if_neg ho]
     have ho2 : Rl.bo (Kc.nm (t.take 8)) = false := by simpa using ho
     exact rread_3f (x :: t) t (t.drop 8) (Kc.nm (t.take 8) : Int) (Rl.bk (Kc.nm (t.take 8) : Int)) w h0 e rfl (by omega) rfl rfl (nm8_U t) rfl ho2
  ·rw [e]
   unfold rdb
   rw [if_neg (by decide), if_neg (by decide), if_neg (by decide), if_pos (by decide)]
   obtain ⟨⟨S, R, E⟩, hu⟩ : ∃ r, Kc.un t = r := ⟨_, rfl⟩
   rw [hu]
   by_cases hE : E = 0
   ·subst hE
    rw [if_pos rfl]
    by_cases hc : Vl.ck 4 0 0 S = 0
    ·rw [chk_ok hc]; exact rread_4 (x :: t) t S R w h0 e rfl hlt hu u0 hc
    ·rw [chk_bad hc]; exact rread_4b (x :: t) t S R _ w h0 e rfl hlt hu u0 rfl hc
   ·rw [if_neg hE]
    exact rread_4e (x :: t) t S R E w h0 e rfl hlt hu hE
  ·rw [e]
   unfold rdb
   rw [if_neg (by decide), if_neg (by decide), if_neg (by decide), if_pos (by decide)]
   obtain ⟨⟨S, R, E⟩, hu⟩ : ∃ r, Kc.un t = r := ⟨_, rfl⟩
   rw [hu]
   by_cases hE : E = 0
   ·subst hE
    rw [if_pos rfl]
    by_cases hc : Vl.ck 5 0 0 S = 0
    ·rw [chk_ok hc]; exact rread_5 (x :: t) t S R w h0 e rfl hlt hu u0 hc
    ·rw [chk_bad hc]; exact rread_5b (x :: t) t S R _ w h0 e rfl hlt hu u0 rfl hc
   ·rw [if_neg hE]
    exact rread_5e (x :: t) t S R E w h0 e rfl hlt hu hE
end Go.Proofs.YtmgdciihpjifgaaGreatDoor
namespace Go.Proofs.YtmgdciihpjifgaaGreatDoor
open Go.RowKit
theorem Tryz.infoV : (Tryz.prog.info? 25).map (fun i => (i.zero, i.size, i.bytes)) = some (some (.agg #[.int .i64 0, .int .i64 0, .int .u64 0, .string ⟨#[]⟩]), 4, 40) := by kernel_rfl
def vcs : List V → List Value
 | [] => []
 | x :: xs => x.cells ++ vcs xs
theorem vcs_append (a b : List V) : vcs (a ++ b) = vcs a ++ vcs b := by
 induction a with
 | nil => rfl
 | cons x a ih => simp [vcs, ih]
theorem vcs_at : ∀ (xs : List V) (i : Nat) (x : V) (j : Nat), xs[i]? = some x → j < 4 → (vcs xs)[i * 4 + j]? = x.cells[j]?
 | [], i, x, j, h, _ => by simp at h
 | y :: xs, 0, x, j, h, hj => by
  obtain rfl : y = x := by simpa using h
  rw [vcs, List.getElem?_append_left (by simp [V.cells]; omega)]; simp
 | y :: xs, i + 1, x, j, h, hj => by
  rw [vcs, List.getElem?_append_right (by simp [V.cells]; omega), show (i + 1) * 4 + j - y.cells.length = i * 4 + j by simp [V.cells]; omega]
  exact vcs_at xs i x j (by simpa using h) hj
def OwV (w : World) (base : Nat) (v : Value) (xs : List V) : Prop := w.ownsRow base 25 4 v xs.length (vcs xs)
theorem owv_nil (w : World) (base : Nat) : OwV w base (.slice none 0 0) [] := World.ownsRow_nil _ _ _ _
theorem OwV.keep {w w' : World} {b : Nat} {v : Value} {l : List V} (h : OwV w b v l) (hb : Below w.heap.size w w') : OwV w' b v l := by
 refine ⟨h.1, ?_⟩
 rcases h.2 with hn | ⟨g, cap, cur, hv, hbg, hg, rest⟩
 ·exact .inl hn
 ·exact .inr ⟨g, cap, cur, hv, hbg, (hb.block g (Array.getElem?_eq_some_iff.1 hg).1).trans hg, rest⟩
theorem add0 (g n : Nat) : (⟨g, 0, none⟩ : Addr).add n = ⟨g, n, none⟩ := by
 unfold Addr.add
 split
 ·rename_i h; rw [h]
 ·simp
theorem OwV.sl {w : World} {b : Nat} {v : Value} {xs : List V} (h : OwV w b v xs) : ∃ ao cap, v = .slice ao xs.length cap ∧ Sl w ao xs := by
 have h' := h
 rcases h.2 with ⟨hv, hn⟩ | ⟨g, cap, cur, hv, _⟩
 ·have e := List.eq_nil_of_length_eq_zero hn
  subst e
  exact ⟨none, 0, hv, fun i x hi => by simp at hi⟩
 ·refine ⟨some ⟨g, 0, none⟩, cap, hv, fun i x hi => ⟨⟨g, 0, none⟩, rfl, ?_⟩⟩
  have c : ∀ j u, j < 4 → x.cells[j]? = some u → w.cell? ⟨g, i * 4 + j, none⟩ = some u := fun j u hj hu => by
   have := World.ownsRow.cells h' (g := g) (by rw [hv]; rfl) (i * 4 + j) u ((vcs_at xs i x j hi hj).trans hu)
   rwa [add0] at this
  rw [add0]
  exact ⟨c 0 _ (by decide) rfl, c 1 _ (by decide) rfl, c 2 _ (by decide) rfl, c 3 _ (by decide) rfl⟩
section
variable {ops : Array Oper} {rest : List Oper} {o : Oper} {a : Act} {Q : Exit → Act → World → Prop}
theorem appV (hgd : o.guard = none) (s x : Operand) (ho : o.op = .call { callee := .builtin .append, args := #[s, x], argTypes := #[46, 46] })
  (base : Nat) (v : Value) (l : List V) (b : V) (w0 : World) (hs : a.eval s = v) (hown : OwV w0 base v l)
  (hx : a.eval x = .slice (some ⟨w0.heap.size, 0, none⟩) 1 1) (hlen : l.length ≤ 1000000000) (hb : base ≤ w0.heap.size)
  (h : ∀ v' w', OwV w' base v' (l ++ [b]) → Below base w0 w' → wpList Tryz.prog ops Q rest (a.put o.dst v') w') : wpList Tryz.prog ops Q (o :: rest) a (w0.alloc (.cells #[.int .i64 b.k, .int .i64 b.n, .int .u64 b.b, .string ⟨b.s.toArray⟩] 25)) := by
 obtain ⟨i0, hi, hz0, hz1, hz2⟩ := info_parts Tryz.infoV
 refine wpList_append_own _ hgd s x 46 ho base 25 i0 _ 4 40 Tryz.underlying46 hi hz0 hz1 hz2 rfl (by decide) v _ _ hs (World.ownsRow.alloc hown _) ⟨w0.heap.size, 0, none⟩ 1 1 b.cells hx rfl ?_ ?_ (by unfold maxLen; omega) (by omega) (by simp; omega) ?_
 ·intro j u hj
  match j, hj with
  | 0, hj => simp [V.cells] at hj; subst hj; simp [Addr.add]
  | 1, hj => simp [V.cells] at hj; subst hj; simp [Addr.add]
  | 2, hj => simp [V.cells] at hj; subst hj; simp [Addr.add]
  | 3, hj => simp [V.cells] at hj; subst hj; simp [Addr.add]
  | (j + 4), hj => simp [V.cells] at hj
 ·intro u hu; simp [V.cells] at hu; rcases hu with rfl | rfl | rfl | rfl <;> rfl
 ·intro v' w' hown' hgrow _
  refine h v' w' ?_ (((Below.refl base w0).alloc hb _).grown hgrow (by simp; omega) (fun k hk => (World.ownsRow.lt hown k hk).1))
  unfold OwV
  rw [List.length_append, vcs_append]
  have : vcs [b] = b.cells := by simp [vcs]
  rw [this]; exact hown'
end
theorem rdv (l : List UInt8) (k n b e : Int) (s r : List UInt8) (w : World) (hl : l.length ≤ 1000000) (h : rd l = ⟨k, n, b, s, r, e⟩) :
  Calls Tryz.prog 133 #[.string ⟨l.toArray⟩] w fun x w' => x = .returned (.tuple #[.agg #[.int .i64 k, .int .i64 n, .int .u64 b, .string ⟨s.toArray⟩], .string ⟨r.toArray⟩, .int .i64 e]) ∧ Below w.heap.size w w' := by
 have := kread_is l w hl
 rw [h] at this
 exact this
theorem rrdv (l : List UInt8) (k n b e : Int) (s r : List UInt8) (w : World) (hl : l.length ≤ 1000000) (h : rd l = ⟨k, n, b, s, r, e⟩) :
  Calls Tryz.prog 95 #[.string ⟨l.toArray⟩] w fun x w' => x = .returned (.tuple #[.agg #[.int .i64 k, .int .i64 n, .int .u64 b, .string ⟨s.toArray⟩], .string ⟨r.toArray⟩, .int .i64 e]) ∧ Below w.heap.size w w' := by
 have := rread_is l w hl
 rw [h] at this
 exact this
end Go.Proofs.YtmgdciihpjifgaaGreatDoor
