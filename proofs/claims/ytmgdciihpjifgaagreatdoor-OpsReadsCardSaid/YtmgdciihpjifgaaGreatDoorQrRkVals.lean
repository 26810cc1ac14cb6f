/-
 Rows of values that a call owns: made, a value more, a value stored. What readValue and the document's value answer, by the plain function. Condition: the bounds named in each theorem.
 What Read answers, the program's and the document's: a row of values that the call owns, or the error. Condition: the bound named in each theorem.
-/
import Derived.Test.YtmgdciihpjifgaaGreatDoorQrRkRefRead
import Derived.Laws.OwnMore
import Derived.OwnWalk
set_option maxHeartbeats 4000000
namespace Go.Proofs.YtmgdciihpjifgaaGreatDoor.Rk
open Go.RowKit
theorem vcs_len (a : List V) : (vcs a).length = a.length * 4 := by
 induction a with
 | nil => rfl
 | cons x a ih => rw [vcs, List.length_append, ih]; simp [V.cells]; omega
theorem vcs_set : ∀ (xs : List V) (j : Nat) (x : V), j < xs.length → ((((vcs xs).set (j * 4) (.int .i64 x.k)).set (j * 4 + 1) (.int .i64 x.n)).set (j * 4 + 2) (.int .u64 x.b)).set (j * 4 + 3) (.string ⟨x.s.toArray⟩) = vcs (xs.set j x)
 | [], j, x, h => by simp at h
 | y :: xs, 0, x, _ => by simp [vcs, V.cells]
 | y :: xs, j + 1, x, h => by
  have ih := vcs_set xs j x (by simpa using h)
  have hc : y.cells.length = 4 := rfl
  rw [List.set_cons_succ, vcs, vcs, ← ih]
  rw [List.set_append_right _ _ (by rw [hc]; omega), List.set_append_right _ _ (by rw [hc]; omega), List.set_append_right _ _ (by rw [hc]; omega), List.set_append_right _ _ (by rw [hc]; omega), hc]
  rw [show (j + 1) * 4 - 4 = j * 4 by omega, show (j + 1) * 4 + 1 - 4 = j * 4 + 1 by omega, show (j + 1) * 4 + 2 - 4 = j * 4 + 2 by omega, show (j + 1) * 4 + 3 - 4 = j * 4 + 3 by omega]
theorem _root_.Go.Proofs.YtmgdciihpjifgaaGreatDoor.OwV.base {w : World} {b b' : Nat} {v : Value} {l : List V} (h : OwV w b v l) (hb : b' ≤ b) : OwV w b' v l := by
 refine ⟨h.1, ?_⟩
 rcases h.2 with hn | ⟨g, cap, cur, hv, hbg, rest⟩
 ·exact .inl hn
 ·exact .inr ⟨g, cap, cur, hv, Nat.le_trans hb hbg, rest⟩
def V0 : V := ⟨0, 0, 0, []⟩
theorem vcs_made (n : Nat) : (madeCells (Value.agg #[.int .i64 0, .int .i64 0, .int .u64 0, .string ⟨#[]⟩]).cells (n * 4)).toList = vcs (List.replicate n V0) := by
 have hz : (Value.agg #[.int .i64 0, .int .i64 0, .int .u64 0, .string ⟨#[]⟩]).cells = #[.int .i64 0, .int .i64 0, .int .u64 0, .string ⟨#[]⟩] := by simp [Value.cells]
 apply List.ext_getElem?
 intro m
 by_cases hm : m < n * 4
 ·obtain ⟨i, j, rfl, hj⟩ : ∃ i j, m = i * 4 + j ∧ j < 4 := ⟨m / 4, m % 4, by omega, by omega⟩
  have hi : i < n := by omega
  rw [vcs_at (List.replicate n V0) i V0 j (by simp [hi]) hj, hz]
  have e : ∀ z : Array Value, (madeCells z (n * 4)).toList[i * 4 + j]? = some (z[(i * 4 + j) % z.size]!) := fun z => by simp [madeCells, hm]
  rw [e]
  show some ((#[.int .i64 0, .int .i64 0, .int .u64 0, .string ⟨#[]⟩] : Array Value)[(i * 4 + j) % 4]!) = _
  rw [show (i * 4 + j) % 4 = j by omega]
  have c : j = 0 ∨ j = 1 ∨ j = 2 ∨ j = 3 := by omega
  rcases c with rfl | rfl | rfl | rfl <;> rfl
 ·rw [List.getElem?_eq_none (by simp [madeCells]; omega), List.getElem?_eq_none (by rw [vcs_len]; simp; omega)]
theorem _root_.Go.Proofs.YtmgdciihpjifgaaGreatDoor.OwV.store {w : World} {b g n cap : Nat} {ys : List V} (h : OwV w b (.slice (some ⟨g, 0, none⟩) n cap) ys) (hn : n = ys.length) (j : Nat) (hj : j < ys.length) (x : V) :
  OwV ((((w.setCell ⟨g, j * 4, none⟩ (.int .i64 x.k)).setCell ⟨g, j * 4 + 1, none⟩ (.int .i64 x.n)).setCell ⟨g, j * 4 + 2, none⟩ (.int .u64 x.b)).setCell ⟨g, j * 4 + 3, none⟩ (.string ⟨x.s.toArray⟩)) b (.slice (some ⟨g, 0, none⟩) n cap) (ys.set j x) ∧
  b ≤ g ∧ g < w.heap.size ∧ (∀ i, w.frozen? ⟨g, i, none⟩ = false) := by
 subst hn
 unfold OwV at h ⊢
 have h1 := World.ownsRow.stored h (j * 4) (.int .i64 x.k)
 have h2 := World.ownsRow.stored h1.1 (j * 4 + 1) (.int .i64 x.n)
 have h3 := World.ownsRow.stored h2.1 (j * 4 + 2) (.int .u64 x.b)
 have h4 := World.ownsRow.stored h3.1 (j * 4 + 3) (.string ⟨x.s.toArray⟩)
 have l := World.ownsRow.lt h g rfl
 rw [List.length_set, ← vcs_set ys j x hj]
 exact ⟨h4.1, l.1, l.2, fun i => World.ownsRow.frozenAt h i⟩
theorem _root_.Go.Proofs.YtmgdciihpjifgaaGreatDoor.OwV.at {w : World} {b g n cap : Nat} {ys : List V} (h : OwV w b (.slice (some ⟨g, 0, none⟩) n cap) ys) (j : Nat) (y : V) (hj : ys[j]? = some y) :
  w.cell? ⟨g, j * 4, none⟩ = some (.int .i64 y.k) ∧ w.cell? ⟨g, j * 4 + 1, none⟩ = some (.int .i64 y.n) ∧ w.cell? ⟨g, j * 4 + 2, none⟩ = some (.int .u64 y.b) ∧ w.cell? ⟨g, j * 4 + 3, none⟩ = some (.string ⟨y.s.toArray⟩) := by
 have c : ∀ i u, i < 4 → y.cells[i]? = some u → w.cell? ⟨g, j * 4 + i, none⟩ = some u := fun i u hi hu => by
  have := World.ownsRow.cells h (g := g) rfl (j * 4 + i) u ((vcs_at ys j y i hj hi).trans hu)
  rwa [add_none] at this
 exact ⟨c 0 _ (by decide) rfl, c 1 _ (by decide) rfl, c 2 _ (by decide) rfl, c 3 _ (by decide) rfl⟩
section
variable {ops : Array Oper} {rest : List Oper} {o : Oper} {a : Act} {Q : Exit → Act → World → Prop}
theorem makeV (w : World) (hgd : o.guard = none) (l c : Operand) (ho : o.op = Op.makeSlice 46 l c) (kl kc : IntKind) (L C : Int) (n : Nat) (hl : a.eval l = .int kl L) (hc : a.eval c = .int kc C) (hL : L = (n : Int)) (hC : C = (n : Int)) (hn : n ≤ 1000)
  (h : ∀ g w', w.heap.size = g → OwV w' w.heap.size (.slice (some ⟨g, 0, none⟩) n n) (List.replicate n V0) → Below w.heap.size w w' → wpList Tryz.prog ops Q rest (a.put o.dst (.slice (some ⟨g, 0, none⟩) n n)) w') : wpList Tryz.prog ops Q (o :: rest) a w := by
 obtain ⟨i0, hi, hz0, hz1, hz2⟩ := info_parts Tryz.infoV
 refine wpList_make_full w hgd l c 46 ho w.heap.size 25 i0 _ 4 Tryz.underlying46 hi hz0 hz1 kl kc L C n hl hc hL hC (by rw [hz2]; omega) (by unfold maxLen; omega) (Nat.le_refl _) ?_
 intro w' hown hgr
 refine h _ w' rfl ?_ ((Below.refl _ w).grown hgr (Nat.le_refl _) (fun k hk => by cases hk))
 unfold OwV
 rw [List.length_replicate, ← vcs_made]
 exact hown
end
theorem ck_null : Vl.ck 0 0 0 [] = 0 := by decide
theorem ck_int (n : Int) : Vl.ck 2 n 0 [] = 0 := by unfold Vl.ck; simp
theorem ck_hi (k : Int) (h : 5 < k) : Vl.ck k 0 0 [] = 5 := by unfold Vl.ck; rw [if_pos (by omega)]
theorem ck_bool (n : Int) (h : 1 < n) : Vl.ck 1 n 0 [] = 6 := by unfold Vl.ck; rw [if_neg (by omega), if_neg (by simp), if_pos (by omega)]
theorem rv_is (l : List UInt8) (w : World) (hl : l.length ≤ 1000000) :
  Calls Tryz.prog 123 #[.string ⟨l.toArray⟩] w fun e w' => e = .returned (rd l).val ∧ Below w.heap.size w w' := by
 cases l with
 | nil => exact rv_nil w
 | cons x t =>
  have h0 : 1 ≤ (x :: t).length := by simp
  have hK : ∀ k : Int, (x.toNat : Int) = k → (Kc.nm ((x :: t).take 1) : Int) = k := fun k e => by rw [nm_one]; exact e
  have hlt : t.length ≤ 1000000 := by simp at hl; omega
  have hx := x.toNat_lt
  show Calls _ _ _ _ fun e w' => e = .returned (rdb x.toNat t).val ∧ _
  have c : (x.toNat : Int) = 0 ∨ (x.toNat : Int) = 1 ∨ (x.toNat : Int) = 2 ∨ (x.toNat : Int) = 3 ∨ (x.toNat : Int) = 4 ∨ (x.toNat : Int) = 5 ∨ 5 < (x.toNat : Int) := by omega
  rcases c with e | e | e | e | e | e | e
  ·rw [e]
   show Calls _ _ _ _ fun e w' => e = .returned (chk 0 0 0 [] t).val ∧ _
   rw [chk_ok ck_null]; exact rv_0 (x :: t) t w h0 (hK _ e) rfl ck_null
  ·rw [e]
   unfold rdb
   rw [if_pos rfl]
   by_cases hs : t.length < 1
   ·rw [if_pos hs]; exact rv_1s (x :: t) t w h0 (hK _ e) rfl hs
   ·rw [if_neg hs]
    by_cases hc : Vl.ck 1 (Kc.nm (t.take 1) : Int) 0 [] = 0
    ·rw [chk_ok hc]; exact rv_1 (x :: t) t (t.drop 1) _ w h0 (hK _ e) rfl (by omega) rfl rfl (nm1_w t) hc
    ·rw [chk_bad hc]; exact rv_1b (x :: t) t (t.drop 1) _ _ w h0 (hK _ e) rfl (by omega) rfl rfl (nm1_w t) rfl hc
  ·rw [e]
   unfold rdb
   rw [if_neg (by decide), if_pos rfl]
   obtain ⟨⟨X, R, E⟩, hu⟩ : ∃ r, Pk.ri t = r := ⟨_, rfl⟩
   rw [hu]
   by_cases hE : E = 0
   ·subst hE
    rw [if_pos rfl, chk_ok (ck_int X)]; exact rv_2 (x :: t) t R X w h0 (hK _ e) rfl hu (ck_int X)
   ·rw [if_neg hE]; exact rv_2e (x :: t) t R X E w h0 (hK _ e) rfl hu hE
  ·rw [e]
   unfold rdb
   rw [if_neg (by decide), if_neg (by decide), if_pos rfl]
   by_cases hs : t.length < 8
   ·rw [if_pos hs]; exact rv_3s (x :: t) t w h0 (hK _ e) rfl hs
   ·rw [if_neg hs]
    by_cases hc : Vl.ck 3 0 (Kc.nm (t.take 8) : Int) [] = 0
    ·rw [chk_ok hc]; exact rv_3 (x :: t) t (t.drop 8) _ w h0 (hK _ e) rfl (by omega) rfl rfl (nm8_U t) hc
    ·rw [chk_bad hc]; exact rv_3b (x :: t) t (t.drop 8) _ _ w h0 (hK _ e) rfl (by omega) rfl rfl (nm8_U t) rfl hc
  ·rw [e]
   unfold rdb
   rw [if_neg (by decide), if_neg (by decide), if_neg (by decide), if_pos (by decide)]
   obtain ⟨⟨S, R, E⟩, hu⟩ : ∃ r, Pk.rt t = r := ⟨_, rfl⟩
   rw [hu]
   by_cases hE : E = 0
   ·subst hE
    rw [if_pos rfl]
    by_cases hc : Vl.ck 4 0 0 S = 0
    ·rw [chk_ok hc]; exact rv_4 (x :: t) t S R w h0 (hK _ e) rfl hlt hu hc
    ·rw [chk_bad hc]; exact rv_4b (x :: t) t S R _ w h0 (hK _ e) rfl hlt hu rfl hc
   ·rw [if_neg hE]; exact rv_4e (x :: t) t S R E w h0 (hK _ e) rfl hlt hu hE
  ·rw [e]
   unfold rdb
   rw [if_neg (by decide), if_neg (by decide), if_neg (by decide), if_pos (by decide)]
   obtain ⟨⟨S, R, E⟩, hu⟩ : ∃ r, Pk.rt t = r := ⟨_, rfl⟩
   rw [hu]
   by_cases hE : E = 0
   ·subst hE
    rw [if_pos rfl]
    by_cases hc : Vl.ck 5 0 0 S = 0
    ·rw [chk_ok hc]; exact rv_5 (x :: t) t S R w h0 (hK _ e) rfl hlt hu hc
    ·rw [chk_bad hc]; exact rv_5b (x :: t) t S R _ w h0 (hK _ e) rfl hlt hu rfl hc
   ·rw [if_neg hE]; exact rv_5e (x :: t) t S R E w h0 (hK _ e) rfl hlt hu hE
  ·unfold rdb
   rw [if_neg (by omega), if_neg (by omega), if_neg (by omega), if_neg (by omega), chk_bad (by rw [ck_hi _ e]; decide), ck_hi _ e]
   exact rv_hi (x :: t) t x.toNat w h0 (hK _ rfl) rfl e (ck_hi _ e) (by decide)
def DV (R : Rd) (e : Ending) : Prop := ∃ (k n b : Int) (s r : List UInt8), e = .returned (.tuple #[.agg #[.int .i64 k, .int .i64 n, .int .u64 b, .string ⟨s.toArray⟩], .string ⟨r.toArray⟩, .int .i64 R.e]) ∧ (R.e = 0 → R = ⟨k, n, b, s, r, 0⟩)
theorem dv_ok {P : Program} {f : Nat} {args : Array Value} {w : World} {k n b : Int} {s r : List UInt8}
  (h : Calls P f args w fun e w' => e = .returned (.tuple #[.agg #[.int .i64 k, .int .i64 n, .int .u64 b, .string ⟨s.toArray⟩], .string ⟨r.toArray⟩, .int .i64 0]) ∧ Below w.heap.size w w') : Calls P f args w fun e w' => DV ⟨k, n, b, s, r, 0⟩ e ∧ Below w.heap.size w w' :=
 h.mono fun _ _ h => ⟨⟨k, n, b, s, r, h.1, fun _ => rfl⟩, h.2⟩
theorem dv_bad {P : Program} {f : Nat} {args : Array Value} {w : World} {k n b E : Int} {s r : List UInt8} (hE : E ≠ 0)
  (h : Calls P f args w fun e w' => e = .returned (.tuple #[.agg #[.int .i64 k, .int .i64 n, .int .u64 b, .string ⟨s.toArray⟩], .string ⟨r.toArray⟩, .int .i64 E]) ∧ Below w.heap.size w w') : Calls P f args w fun e w' => DV (.bad E) e ∧ Below w.heap.size w w' :=
 h.mono fun _ _ h => ⟨⟨k, n, b, s, r, h.1, fun g => absurd g hE⟩, h.2⟩
theorem dv_is (l : List UInt8) (w : World) (hl : l.length ≤ 1000000) :
  Calls Tryz.prog 106 #[.string ⟨l.toArray⟩] w fun e w' => DV (rd l) e ∧ Below w.heap.size w w' := by
 cases l with
 | nil => exact dv_bad (by decide) (dv_nil w)
 | cons x t =>
  have h0 : 0 < (x :: t).length := by simp
  have hlt : t.length ≤ 1000000 := by simp at hl; omega
  have hx := x.toNat_lt
  show Calls _ _ _ _ fun e w' => DV (rdb x.toNat t) e ∧ _
  have c : (x.toNat : Int) = 0 ∨ (x.toNat : Int) = 1 ∨ (x.toNat : Int) = 2 ∨ (x.toNat : Int) = 3 ∨ (x.toNat : Int) = 4 ∨ (x.toNat : Int) = 5 ∨ 5 < (x.toNat : Int) := by omega
  rcases c with e | e | e | e | e | e | e
  ·rw [e]
   show Calls _ _ _ _ fun e w' => DV (chk 0 0 0 [] t) e ∧ _
   rw [chk_ok ck_null]; exact dv_ok (dv_0 (x :: t) t w h0 e rfl ck_null)
  ·rw [e]
   unfold rdb
   rw [if_pos rfl]
   cases t with
   | nil => exact dv_bad (by decide) (dv_1s [x] [] w h0 e rfl (by decide))
   | cons y t =>
    have hy := y.toNat_lt
    rw [if_neg (by simp), nm_one]
    have hc : (y.toNat : Int) = 0 ∨ (y.toNat : Int) = 1 ∨ 1 < (y.toNat : Int) := by omega
    rcases hc with g | g | g
    ·rw [g, chk_ok (by decide)]; exact dv_ok (dv_10 (x :: y :: t) (y :: t) t w h0 e rfl (by simp) g rfl (by decide))
    ·rw [g, chk_ok (by decide)]; exact dv_ok (dv_11 (x :: y :: t) (y :: t) t w h0 e rfl (by simp) g rfl (by decide))
    ·rw [chk_bad (by rw [ck_bool _ g]; decide), ck_bool _ g]; exact dv_bad (by decide) (dv_1b (x :: y :: t) (y :: t) t y.toNat w h0 e rfl (by simp) rfl rfl g)
  ·rw [e]
   unfold rdb
   rw [if_neg (by decide), if_pos rfl]
   obtain ⟨⟨X, R, E⟩, hu⟩ : ∃ r, Pk.ri t = r := ⟨_, rfl⟩
   rw [hu]
   by_cases hE : E = 0
   ·subst hE
    rw [if_pos rfl, chk_ok (ck_int X)]; exact dv_ok (dv_2 (x :: t) t R X w h0 e rfl hu (ck_int X))
   ·rw [if_neg hE]; exact dv_bad hE (dv_2e (x :: t) t R X E w h0 e rfl hu hE)
  ·rw [e]
   unfold rdb
   rw [if_neg (by decide), if_neg (by decide), if_pos rfl]
   by_cases hs : t.length < 8
   ·rw [if_pos hs]; exact dv_bad (by decide) (dv_3s (x :: t) t w h0 e rfl hs)
   ·rw [if_neg hs]
    by_cases hc : Vl.ck 3 0 (Kc.nm (t.take 8) : Int) [] = 0
    ·rw [chk_ok hc]; exact dv_ok (dv_3 (x :: t) t (t.drop 8) _ 0 w h0 e rfl (by omega) rfl rfl (nm8_U t) hc)
    ·rw [chk_bad hc]; exact dv_bad hc (dv_3 (x :: t) t (t.drop 8) _ _ w h0 e rfl (by omega) rfl rfl (nm8_U t) rfl)
  ·rw [e]
   unfold rdb
   rw [if_neg (by decide), if_neg (by decide), if_neg (by decide), if_pos (by decide)]
   obtain ⟨⟨S, R, E⟩, hu⟩ : ∃ r, Pk.rt t = r := ⟨_, rfl⟩
   rw [hu]
   by_cases hE : E = 0
   ·subst hE
    rw [if_pos rfl]
    by_cases hc : Vl.ck 4 0 0 S = 0
    ·rw [chk_ok hc]; exact dv_ok (dv_4 (x :: t) t S R 0 w h0 e rfl hlt hu hc)
    ·rw [chk_bad hc]; exact dv_bad hc (dv_4 (x :: t) t S R _ w h0 e rfl hlt hu rfl)
   ·rw [if_neg hE]; exact dv_bad hE (dv_4e (x :: t) t S R E w h0 e rfl hlt hu hE)
  ·rw [e]
   unfold rdb
   rw [if_neg (by decide), if_neg (by decide), if_neg (by decide), if_pos (by decide)]
   obtain ⟨⟨S, R, E⟩, hu⟩ : ∃ r, Pk.rt t = r := ⟨_, rfl⟩
   rw [hu]
   by_cases hE : E = 0
   ·subst hE
    rw [if_pos rfl]
    by_cases hc : Vl.ck 5 0 0 S = 0
    ·rw [chk_ok hc]; exact dv_ok (dv_5 (x :: t) t S R 0 w h0 e rfl hlt hu hc)
    ·rw [chk_bad hc]; exact dv_bad hc (dv_5 (x :: t) t S R _ w h0 e rfl hlt hu rfl)
   ·rw [if_neg hE]; exact dv_bad hE (dv_5e (x :: t) t S R E w h0 e rfl hlt hu hE)
  ·unfold rdb
   rw [if_neg (by omega), if_neg (by omega), if_neg (by omega), if_neg (by omega), chk_bad (by rw [ck_hi _ e]; decide), ck_hi _ e]
   exact dv_bad (by decide) (dv_hi (x :: t) t x.toNat w h0 rfl rfl e)
theorem rd_less (l : List UInt8) (h : (rd l).e = 0) : (rd l).r.length ≤ l.length := by
 have := (rd_back l h).2.2.2
 have h2 := congrArg List.length this
 rw [List.length_append] at h2
 omega
end Go.Proofs.YtmgdciihpjifgaaGreatDoor.Rk
namespace Go.Proofs.YtmgdciihpjifgaaGreatDoor.Rk
open Go.RowKit
theorem rui_is (l R : List UInt8) (N : Nat) (x e : Int) (w : World) (hx : (N : Int) = x) (h : Pk.rd l 0 0 = (N, R, e)) :
  Calls Tryz.prog 93 #[.string ⟨l.toArray⟩] w fun y w' => y = .returned (.tuple #[.int .u64 x, .string ⟨R.toArray⟩, .int .i64 e]) ∧ Below w.heap.size w w' := by
 subst hx
 refine (readUint_is l R N e w h).mono ?_
 rintro x w' ⟨rfl, n, rfl⟩
 exact ⟨rfl, below_drewV n (Below.refl _ _)⟩
theorem drui_is (l R : List UInt8) (N : Nat) (x e : Int) (w : World) (hx : (N : Int) = x) (h : Pk.rd l 0 0 = (N, R, e)) :
  Calls Tryz.prog 67 #[.string ⟨l.toArray⟩] w fun y w' => y = .returned (.tuple #[.int .u64 x, .string ⟨R.toArray⟩, .int .i64 e]) ∧ Below w.heap.size w w' := by
 subst hx
 refine (rreadUint_is l R N e w h).mono ?_
 rintro x w' ⟨rfl, n, rfl⟩
 exact ⟨rfl, below_drewV n (Below.refl _ _)⟩
theorem rvx (l : List UInt8) (k n b e : Int) (s r : List UInt8) (w : World) (hl : l.length ≤ 1000000) (h : rd l = ⟨k, n, b, s, r, e⟩) :
  Calls Tryz.prog 123 #[.string ⟨l.toArray⟩] w fun x w' => x = .returned (.tuple #[.agg #[.int .i64 k, .int .i64 n, .int .u64 b, .string ⟨s.toArray⟩], .string ⟨r.toArray⟩, .int .i64 e]) ∧ Below w.heap.size w w' := by
 have := rv_is l w hl
 rw [h] at this
 exact this
def RA (l : List UInt8) (w : World) (e : Ending) (w' : World) : Prop := ∃ v, e = .returned (.tuple #[v, .int .i64 (ra l).2]) ∧ OwV w' w.heap.size v (ra l).1 ∧ Below w.heap.size w w'
theorem RA.bad {l : List UInt8} {w w' : World} {E : Int} (h : ra l = ([], E)) (hb : Below w.heap.size w w') : RA l w (.returned (.tuple #[.slice none 0 0, .int .i64 E])) w' :=
 ⟨_, by rw [h], by rw [h]; exact owv_nil _ _, hb⟩
theorem rr_err (l : List UInt8) (e : Int) (w : World) (h : Pk.rd l 0 0 = (0, [], e)) (he : e ≠ 0) :
  Calls Tryz.prog 105 #[.string ⟨l.toArray⟩] w (RA l w) := by
 have H := zh (za h he)
 have e1 := bne_t he
 have e2 := beq_f he
 clear h
 go_enter Tryz.func105, Tryz.ntmps105
 go_wp2_with fail
 refine (rui_is l [] 0 0 e _ rfl H.out.1).mono ?_
 rintro x w1 ⟨rfl, hb⟩
 have B1 := zh hb
 clear hb
 go_wp2
 go_ret2
 exact RA.bad (ra_bad H.out.1 H.out.2) B1.out
theorem rr_many (l R : List UInt8) (N : Nat) (x : Int) (w : World) (hx : (N : Int) = x) (h : Pk.rd l 0 0 = (N, R, 0)) (hN : 8 < x) :
  Calls Tryz.prog 105 #[.string ⟨l.toArray⟩] w (RA l w) := by
 have H := zh (za h (za hx (show 8 < N by omega)))
 clear h hx
 go_enter Tryz.func105, Tryz.ntmps105
 go_wp2_with fail
 refine (rui_is l R N x 0 _ H.out.2.1 H.out.1).mono ?_
 rintro y w1 ⟨rfl, hb⟩
 have B1 := zh hb
 clear hb
 go_wp2
 go_ret2
 exact RA.bad (ra_many H.out.1 H.out.2.2) B1.out
theorem set_next (done : List V) (N j : Nat) (x : V) (hd : done.length = j) (hj : j < N) : (done ++ List.replicate (N - j) V0).set j x = (done ++ [x]) ++ List.replicate (N - (j + 1)) V0 := by
 rw [List.set_append_right _ _ (by omega), hd, Nat.sub_self, show N - j = (N - (j + 1)) + 1 by omega, List.replicate_succ, List.set_cons_zero, List.append_assoc]
 rfl
theorem set4 {b g : Nat} {w w3 : World} {o0 o1 o2 o3 : Nat} {u0 u1 u2 u3 : Value} (h : Below b w w3) (hg : b ≤ g) : Below b w ((((w3.setCell ⟨g, o0, none⟩ u0).setCell ⟨g, o1, none⟩ u1).setCell ⟨g, o2, none⟩ u2).setCell ⟨g, o3, none⟩ u3) :=
 (((h.setCell (p := ⟨g, o0, none⟩) hg u0).setCell (p := ⟨g, o1, none⟩) hg u1).setCell (p := ⟨g, o2, none⟩) hg u2).setCell (p := ⟨g, o3, none⟩) hg u3
theorem rr_few (l R : List UInt8) (N : Nat) (x : Int) (w : World) (hl : l.length ≤ 1000000) (hx : (N : Int) = x) (h : Pk.rd l 0 0 = (N, R, 0)) (hN : x ≤ 8) :
  Calls Tryz.prog 105 #[.string ⟨l.toArray⟩] w (RA l w) := by
 have h8 : decide ((8 : Int) < x) = false := by rw [decide_eq_false_iff_not]; omega
 have H := zh (za h (za hx (za (show ¬ 8 < N by omega) hl)))
 have HR := zh (show R.length ≤ l.length from by
  have := (Pk.rd_ok l N R h).2
  have h2 := congrArg List.length this
  rw [List.length_append] at h2
  omega)
 clear h hx hN hl
 go_enter Tryz.func105, Tryz.ntmps105
 go_wp2_with fail
 refine (rui_is l R N x 0 _ H.out.2.1 H.out.1).mono ?_
 rintro y w1 ⟨rfl, hb⟩
 have B1 := zh hb
 clear hb
 go_wp2_with (at_make; refine makeV _ rfl _ _ rfl .u64 .u64 x x N rfl rfl H.out.2.1.symm H.out.2.1.symm (by have := H.out.2.2.1; omega) ?_; intro g w2 hg hO hb; have S := zh (za (hO.base B1.out.size) (step0 B1.out hb)); clear hO hb hg; go_frame)
 go_loopw [5, 24] (fun q i wr => ∃ (j : Nat) (m : List UInt8) (done : List V), q = .string ⟨m.toArray⟩ ∧ i = .int .i64 j ∧ j ≤ N ∧ done.length = j ∧ OwV wr w.heap.size (.slice (some ⟨g, 0, none⟩) N N) (done ++ List.replicate (N - j) V0) ∧ Below w.heap.size w wr ∧ rn N R = pv done (rn (N - j) m) ∧ m.length ≤ l.length) (fun _ i _ => N - (intOf i).toNat)
 case atStart => exact ⟨0, R, [], rfl, rfl, Nat.zero_le _, rfl, S.out.1, S.out.2, (pv_nil _ _).symm, HR.out⟩
 case round =>
  obtain ⟨j, m, done, rfl, rfl, hj, hd, hO, hb, hr, hm⟩ := hrel
  have J := zh (za hO (za hb (za hr (za hm hd))))
  clear hO hb hr hm hd
  by_cases hlt : j < N
  ·obtain ⟨⟨k, n, b, s, r, e⟩, hR⟩ : ∃ Q, rd m = Q := ⟨_, rfl⟩
   have HM := zh hR
   have hw : wrap64 ((j : Int) + 1) = (j : Int) + 1 := by have := H.out.2.2.1; exact wrap_in _ (by omega) (by omega)
   clear hR
   by_cases he : e = 0
   ·subst he
    have st := rn_step (l := m) (N - (j + 1)) (by rw [HM.out]) done
    have ls := rd_less m (by rw [HM.out])
    rw [HM.out, show N - (j + 1) + 1 = N - j by omega] at st
    rw [HM.out] at ls
    have ST := zh (za st ls)
    clear st ls
    go_wp2_with fail
    refine (rvx m k n b 0 s r _ (by have := J.out.2.2.2.1; have := H.out.2.2.2; omega) HM.out).mono ?_
    rintro y w3 ⟨rfl, hb⟩
    have hO3 := J.out.1.keep hb
    have hy : (done ++ List.replicate (N - j) V0)[j]? = some V0 := by
     have := J.out.2.2.2.2
     rw [List.getElem?_append_right (by omega), List.getElem?_replicate]
     simp; omega
    obtain ⟨c0, c1, c2, c3⟩ := hO3.at j V0 hy
    obtain ⟨hst, hbg, hgl, hfz⟩ := hO3.store (by have := J.out.2.2.2.2; simp; omega) j (by have := J.out.2.2.2.2; simp; omega) ⟨k, n, b, s⟩
    have f0 := hfz (j * 4)
    have f1 := hfz (j * 4 + 1)
    have f2 := hfz (j * 4 + 2)
    have f3 := hfz (j * 4 + 3)
    have K := zh (za hst (za hbg (step0 J.out.2.1 hb)))
    clear hb hO3 hy hst hbg hgl hfz
    go_wp2
    go_roundw
    case rel => exact ⟨j + 1, r, done ++ [⟨k, n, b, s⟩], rfl, by go_num, hlt, by have := J.out.2.2.2.2; simp; omega, by rw [← set_next done N j _ J.out.2.2.2.2 hlt]; exact K.out.1, set4 K.out.2.2 K.out.2.1, J.out.2.2.1.trans ST.out.1, by have := J.out.2.2.2.1; have h5 : r.length ≤ m.length := ST.out.2; omega⟩
    case measure => rw [hw]; simp [intOf]; omega
   ·have e1 := bne_t he
    have e2 := beq_f he
    have st := rn_err (l := m) (N - (j + 1)) (by rw [HM.out]; exact he) done
    rw [HM.out, show N - (j + 1) + 1 = N - j by omega] at st
    have ST := zh (show ra l = ([], e) from by
     rw [ra_is H.out.1 H.out.2.2.1, J.out.2.2.1, st]; exact if_neg he)
    clear st
    go_wp2_with fail
    refine (rvx m k n b e s r _ (by have := J.out.2.2.2.1; have := H.out.2.2.2; omega) HM.out).mono ?_
    rintro y w3 ⟨rfl, hb⟩
    have hO3 := J.out.1.keep hb
    have hy : (done ++ List.replicate (N - j) V0)[j]? = some V0 := by
     have := J.out.2.2.2.2
     rw [List.getElem?_append_right (by omega), List.getElem?_replicate]
     simp; omega
    obtain ⟨c0, c1, c2, c3⟩ := hO3.at j V0 hy
    obtain ⟨hst, hbg, hgl, hfz⟩ := hO3.store (by have := J.out.2.2.2.2; simp; omega) j (by have := J.out.2.2.2.2; simp; omega) ⟨k, n, b, s⟩
    have f0 := hfz (j * 4)
    have f1 := hfz (j * 4 + 1)
    have f2 := hfz (j * 4 + 2)
    have f3 := hfz (j * 4 + 3)
    have K := zh (za hst (za hbg (step0 J.out.2.1 hb)))
    clear hb hO3 hy hst hbg hgl hfz
    go_wp2
    go_ret2
    exact RA.bad ST.out (set4 K.out.2.2 K.out.2.1)
  ·obtain rfl : j = N := by omega
   have e0 := J.out.2.2.1
   rw [Nat.sub_self, rn_end] at e0
   by_cases hm : m = []
   ·subst hm
    have ST := zh (show ra l = (done, 0) from by rw [ra_is H.out.1 H.out.2.2.1, e0]; rfl)
    clear e0
    go_wp2
    go_ret2
    have hO := J.out.1
    rw [Nat.sub_self, List.replicate_zero, List.append_nil] at hO
    exact ⟨_, by rw [ST.out]; rfl, by rw [ST.out]; exact hO, J.out.2.1⟩
   ·have hie : m.isEmpty = false := by cases m with | nil => exact absurd rfl hm | cons _ _ => rfl
    have ST := zh (show ra l = ([], 4) from by rw [ra_is H.out.1 H.out.2.2.1, e0]; unfold rf; rw [if_pos rfl, if_neg hm])
    clear e0
    go_wp2
    go_ret2
    exact RA.bad ST.out J.out.2.1
theorem rread_is (l : List UInt8) (w : World) (hl : l.length ≤ 1000000) : Calls Tryz.prog 105 #[.string ⟨l.toArray⟩] w (RA l w) := by
 rcases Pk.rd_cases l with ⟨N, r, hr, hN, hu⟩ | ⟨e, hr, he⟩
 ·by_cases h8 : 8 < N
  ·exact rr_many l r N N w rfl hr (by omega)
  ·exact rr_few l r N N w hl rfl hr (by omega)
 ·exact rr_err l e w hr (by omega)
theorem dvx (l : List UInt8) (k n b : Int) (s r : List UInt8) (w : World) (hl : l.length ≤ 1000000) (h : rd l = ⟨k, n, b, s, r, 0⟩) :
  Calls Tryz.prog 106 #[.string ⟨l.toArray⟩] w fun x w' => x = .returned (.tuple #[.agg #[.int .i64 k, .int .i64 n, .int .u64 b, .string ⟨s.toArray⟩], .string ⟨r.toArray⟩, .int .i64 0]) ∧ Below w.heap.size w w' := by
 refine (dv_is l w hl).mono ?_
 rintro x w' ⟨⟨k', n', b', s', r', rfl, h2⟩, hb⟩
 rw [h] at h2 ⊢
 have := h2 rfl
 simp at this
 obtain ⟨rfl, rfl, rfl, rfl, rfl⟩ := this
 exact ⟨rfl, hb⟩
theorem dve (l : List UInt8) (e : Int) (w : World) (hl : l.length ≤ 1000000) (h : (rd l).e = e) :
  Calls Tryz.prog 106 #[.string ⟨l.toArray⟩] w fun x w' => (∃ (k n b : Int) (s r : List UInt8), x = .returned (.tuple #[.agg #[.int .i64 k, .int .i64 n, .int .u64 b, .string ⟨s.toArray⟩], .string ⟨r.toArray⟩, .int .i64 e])) ∧ Below w.heap.size w w' := by
 refine (dv_is l w hl).mono ?_
 rintro x w' ⟨⟨k', n', b', s', r', rfl, h2⟩, hb⟩
 rw [h]
 exact ⟨⟨_, _, _, _, _, rfl⟩, hb⟩
theorem dr_err (l : List UInt8) (e : Int) (w : World) (h : Pk.rd l 0 0 = (0, [], e)) (he : e ≠ 0) :
  Calls Tryz.prog 78 #[.string ⟨l.toArray⟩] w (RA l w) := by
 have H := zh (za h he)
 have e1 := bne_t he
 have e2 := beq_f he
 clear h
 go_enter Tryz.func78, Tryz.ntmps78
 go_wp2_with fail
 refine (drui_is l [] 0 0 e _ rfl H.out.1).mono ?_
 rintro x w1 ⟨rfl, hb⟩
 have B1 := zh hb
 clear hb
 go_wp2
 go_ret2
 exact RA.bad (ra_bad H.out.1 H.out.2) B1.out
theorem dr_many (l R : List UInt8) (N : Nat) (x : Int) (w : World) (hx : (N : Int) = x) (h : Pk.rd l 0 0 = (N, R, 0)) (hN : 8 < x) :
  Calls Tryz.prog 78 #[.string ⟨l.toArray⟩] w (RA l w) := by
 have H := zh (za h (za hx (show 8 < N by omega)))
 clear h hx
 go_enter Tryz.func78, Tryz.ntmps78
 go_wp2_with fail
 refine (drui_is l R N x 0 _ H.out.2.1 H.out.1).mono ?_
 rintro y w1 ⟨rfl, hb⟩
 have B1 := zh hb
 clear hb
 go_wp2
 go_ret2
 exact RA.bad (ra_many H.out.1 H.out.2.2) B1.out
theorem dr_few (l R : List UInt8) (N : Nat) (x : Int) (w : World) (hl : l.length ≤ 1000000) (hx : (N : Int) = x) (h : Pk.rd l 0 0 = (N, R, 0)) (hN : x ≤ 8) :
  Calls Tryz.prog 78 #[.string ⟨l.toArray⟩] w (RA l w) := by
 have h8 : decide ((8 : Int) < x) = false := by rw [decide_eq_false_iff_not]; omega
 have hwx : wrap64 x = x := wrap_in _ (by omega) (by omega)
 have H := zh (za h (za hx (za (show ¬ 8 < N by omega) hl)))
 have HR := zh (show R.length ≤ l.length from by
  have := (Pk.rd_ok l N R h).2
  have h2 := congrArg List.length this
  rw [List.length_append] at h2
  omega)
 clear h hx hN hl
 go_enter Tryz.func78, Tryz.ntmps78
 go_wp2_with fail
 refine (drui_is l R N x 0 _ H.out.2.1 H.out.1).mono ?_
 rintro y w1 ⟨rfl, hb⟩
 have B1 := zh hb
 clear hb
 go_wp2
 go_loopw [0, 6, 7] (fun q o i wr => ∃ (j : Nat) (m : List UInt8) (done : List V), q = .string ⟨m.toArray⟩ ∧ i = .int .i64 j ∧ j ≤ N ∧ done.length = j ∧ OwV wr w.heap.size o done ∧ Below w.heap.size w wr ∧ rn N R = pv done (rn (N - j) m) ∧ m.length ≤ l.length) (fun _ _ i _ => N - (intOf i).toNat)
 case atStart => exact ⟨0, R, [], rfl, rfl, Nat.zero_le _, rfl, owv_nil _ _, B1.out, (pv_nil _ _).symm, HR.out⟩
 case round =>
  obtain ⟨j, m, done, rfl, rfl, hj, hd, hO, hb, hr, hm⟩ := hrel
  have J := zh (za hO (za hb (za hr (za hm hd))))
  clear hO hb hr hm hd
  by_cases hlt : j < N
  ·obtain ⟨⟨k, n, b, s, r, e⟩, hR⟩ : ∃ Q, rd m = Q := ⟨_, rfl⟩
   have HM := zh hR
   have hw : wrap64 ((j : Int) + 1) = (j : Int) + 1 := by have := H.out.2.2.1; exact wrap_in _ (by omega) (by omega)
   have hjx : (j : Int) < x := by have := H.out.2.1; omega
   clear hR
   by_cases he : e = 0
   ·subst he
    have st := rn_step (l := m) (N - (j + 1)) (by rw [HM.out]) done
    have ls := rd_less m (by rw [HM.out])
    rw [HM.out, show N - (j + 1) + 1 = N - j by omega] at st
    rw [HM.out] at ls
    have ST := zh (za st ls)
    clear st ls
    go_wp2_with (first
     | (at_builtin; refine appV rfl _ _ rfl w.heap.size u6 done ⟨k, n, b, s⟩ _ rfl (J.out.1.keep BB.out) (by rw [World.size_alloc]; rfl) (by have := J.out.2.2.2.2; have := H.out.2.2.1; omega) (Nat.le_trans J.out.2.1.size BB.out.size) ?_; intro v' w2 hown' hb'; have K := zh (za hown' ((step0 J.out.2.1 BB.out).trans hb')); clear hown' hb'; go_frame)
     | (go_at_call 106; refine (dvx m k n b s r _ (by have := J.out.2.2.2.1; have := H.out.2.2.2; omega) HM.out).mono ?_; rintro e w1 ⟨rfl, hb⟩; have BB := zh (hb.trans ((below1 w1 (.cells #[.int .i64 k, .int .i64 n, .int .u64 b, .string ⟨s.toArray⟩] 25)).mono hb.size)); clear hb))
    go_roundw
    case rel => exact ⟨j + 1, r, done ++ [⟨k, n, b, s⟩], rfl, by go_num, hlt, by have := J.out.2.2.2.2; simp; omega, K.out.1, K.out.2, J.out.2.2.1.trans ST.out.1, by have := J.out.2.2.2.1; have h5 : r.length ≤ m.length := ST.out.2; omega⟩
    case measure => rw [hw]; simp [intOf]; omega
   ·have e1 := bne_t he
    have e2 := beq_f he
    have st := rn_err (l := m) (N - (j + 1)) (by rw [HM.out]; exact he) done
    rw [HM.out, show N - (j + 1) + 1 = N - j by omega] at st
    have ST := zh (show ra l = ([], e) from by
     rw [ra_is H.out.1 H.out.2.2.1, J.out.2.2.1, st]; exact if_neg he)
    clear st
    go_wp2_with (go_at_call 106; refine (dve m e _ (by have := J.out.2.2.2.1; have := H.out.2.2.2; omega) (by rw [HM.out])).mono ?_; rintro y w3 ⟨⟨k', n', b', s', r', rfl⟩, hb⟩; have BB := zh (hb.trans ((below1 w3 (.cells #[.int .i64 k', .int .i64 n', .int .u64 b', .string ⟨s'.toArray⟩] 25)).mono hb.size)); clear hb)
    go_ret2
    exact RA.bad ST.out (step0 J.out.2.1 BB.out)
  ·obtain rfl : j = N := by omega
   have hjx : decide ((j : Int) < x) = false := by rw [decide_eq_false_iff_not]; have := H.out.2.1; omega
   have e0 := J.out.2.2.1
   rw [Nat.sub_self, rn_end] at e0
   by_cases hm : m = []
   ·subst hm
    have ST := zh (show ra l = (done, 0) from by rw [ra_is H.out.1 H.out.2.2.1, e0]; rfl)
    clear e0
    go_wp2
    go_ret2
    exact ⟨_, by rw [ST.out]; rfl, by rw [ST.out]; exact J.out.1, J.out.2.1⟩
   ·have hie : m.isEmpty = false := by cases m with | nil => exact absurd rfl hm | cons _ _ => rfl
    have h0 : 0 < m.length := List.length_pos_iff.2 hm
    have h1 : (0 : Int) < (m.length : Int) := by omega
    have ST := zh (show ra l = ([], 4) from by rw [ra_is H.out.1 H.out.2.2.1, e0]; unfold rf; rw [if_pos rfl, if_neg hm])
    clear e0
    go_wp2
    go_ret2
    exact RA.bad ST.out J.out.2.1
theorem dread_is (l : List UInt8) (w : World) (hl : l.length ≤ 1000000) : Calls Tryz.prog 78 #[.string ⟨l.toArray⟩] w (RA l w) := by
 rcases Pk.rd_cases l with ⟨N, r, hr, hN, hu⟩ | ⟨e, hr, he⟩
 ·by_cases h8 : 8 < N
  ·exact dr_many l r N N w rfl hr (by omega)
  ·exact dr_few l r N N w hl rfl hr (by omega)
 ·exact dr_err l e w hr (by omega)
end Go.Proofs.YtmgdciihpjifgaaGreatDoor.Rk
