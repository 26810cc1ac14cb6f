/-
  What the document's own value answers: the value that bytes begin with and what is behind, or the error. Condition: the bound named in each theorem.
  Rows of values that a call owns: made, a value more, a value stored. What readValue and the document's value answer, by the plain function. Condition: the bounds named in each theorem.
-/
import Derived.Test.YtmgdciihpjifgaaGreatDoorQpRkRead
import Derived.Laws.OwnMore
import Derived.OwnWalk
namespace Go.Proofs.YtmgdciihpjifgaaGreatDoor.Rk
open Go.RowKit

end Go.Proofs.YtmgdciihpjifgaaGreatDoor.Rk

namespace Go.Proofs.YtmgdciihpjifgaaGreatDoor.Rk
open Go.RowKit

theorem vcs_len (a : List V) : (vcs a).length = a.length * 4 := by
  induction a with
  | nil => rfl
  | cons x a ih => rw [vcs, List.length_append, ih]; simp [V.cells]; omega
theorem vcs_set : ∀ (xs : List V) (j : Nat) (x : V), j < xs.length → ((((vcs xs).set (j * 4) (.int .i64 x.k)).set (j * 4 + 1) (.int .i64 x.n)).set (j * 4 + 2) (.int .u64 x.b)).set (j * 4 + 3) (.string ⟨x.s.toArray⟩) = vcs (xs.set j x)
  | [], j, x, h => by simp at h
  | y :: xs, 0, x, _ => by simp [vcs, V.cells]
  | y :: xs, j + 1, x, h => by
    have ih := vcs_set xs j x (by simpa using h)
    have hc : y.cells.length = 4 := rfl
    rw [List.set_cons_succ, vcs, vcs, ← ih]
    rw [List.set_append_right _ _ (by rw [hc]; omega), List.set_append_right _ _ (by rw [hc]; omega), List.set_append_right _ _ (by rw [hc]; omega), List.set_append_right _ _ (by rw [hc]; omega), hc]
    rw [show (j + 1) * 4 - 4 = j * 4 by omega, show (j + 1) * 4 + 1 - 4 = j * 4 + 1 by omega, show (j + 1) * 4 + 2 - 4 = j * 4 + 2 by omega, show (j + 1) * 4 + 3 - 4 = j * 4 + 3 by omega]

theorem _root_.Go.Proofs.YtmgdciihpjifgaaGreatDoor.OwV.base {w : World} {b b' : Nat} {v : Value} {l : List V} (h : OwV w b v l) (hb : b' ≤ b) : OwV w b' v l := by
  refine ⟨h.1, ?_⟩
  rcases h.2 with hn | ⟨g, cap, cur, hv, hbg, rest⟩
  · exact .inl hn
  · exact .inr ⟨g, cap, cur, hv, Nat.le_trans hb hbg, rest⟩
/-- The value that is made. -/
def V0 : V := ⟨0, 0, 0, []⟩
theorem vcs_made (n : Nat) : (madeCells (Value.agg #[.int .i64 0, .int .i64 0, .int .u64 0, .string ⟨#[]⟩]).cells (n * 4)).toList = vcs (List.replicate n V0) := by
  have hz : (Value.agg #[.int .i64 0, .int .i64 0, .int .u64 0, .string ⟨#[]⟩]).cells = #[.int .i64 0, .int .i64 0, .int .u64 0, .string ⟨#[]⟩] := by simp [Value.cells]
  apply List.ext_getElem?
  intro m
  by_cases hm : m < n * 4
  · obtain ⟨i, j, rfl, hj⟩ : ∃ i j, m = i * 4 + j ∧ j < 4 := ⟨m / 4, m % 4, by omega, by omega⟩
    have hi : i < n := by omega
    rw [vcs_at (List.replicate n V0) i V0 j (by simp [hi]) hj, hz]
    have e : ∀ z : Array Value, (madeCells z (n * 4)).toList[i * 4 + j]? = some (z[(i * 4 + j) % z.size]!) := fun z => by simp [madeCells, hm]
    rw [e]
    show some ((#[.int .i64 0, .int .i64 0, .int .u64 0, .string ⟨#[]⟩] : Array Value)[(i * 4 + j) % 4]!) = _
    rw [show (i * 4 + j) % 4 = j by omega]
    have c : j = 0 ∨ j = 1 ∨ j = 2 ∨ j = 3 := by omega
    rcases c with rfl | rfl | rfl | rfl <;> rfl
  · rw [List.getElem?_eq_none (by simp [madeCells]; omega), List.getElem?_eq_none (by rw [vcs_len]; simp; omega)]

/-- A value of such a row: its cells, none of them under a mark; and what a store of another leaves. -/
theorem _root_.Go.Proofs.YtmgdciihpjifgaaGreatDoor.OwV.store {w : World} {b g n cap : Nat} {ys : List V} (h : OwV w b (.slice (some ⟨g, 0, none⟩) n cap) ys) (hn : n = ys.length) (j : Nat) (hj : j < ys.length) (x : V) :
    OwV ((((w.setCell ⟨g, j * 4, none⟩ (.int .i64 x.k)).setCell ⟨g, j * 4 + 1, none⟩ (.int .i64 x.n)).setCell ⟨g, j * 4 + 2, none⟩ (.int .u64 x.b)).setCell ⟨g, j * 4 + 3, none⟩ (.string ⟨x.s.toArray⟩)) b (.slice (some ⟨g, 0, none⟩) n cap) (ys.set j x) ∧
    b ≤ g ∧ g < w.heap.size ∧ (∀ i, w.frozen? ⟨g, i, none⟩ = false) := by
  subst hn
  unfold OwV at h ⊢
  have h1 := World.ownsRow.stored h (j * 4) (.int .i64 x.k)
  have h2 := World.ownsRow.stored h1.1 (j * 4 + 1) (.int .i64 x.n)
  have h3 := World.ownsRow.stored h2.1 (j * 4 + 2) (.int .u64 x.b)
  have h4 := World.ownsRow.stored h3.1 (j * 4 + 3) (.string ⟨x.s.toArray⟩)
  have l := World.ownsRow.lt h g rfl
  rw [List.length_set, ← vcs_set ys j x hj]
  exact ⟨h4.1, l.1, l.2, fun i => World.ownsRow.frozenAt h i⟩
theorem _root_.Go.Proofs.YtmgdciihpjifgaaGreatDoor.OwV.at {w : World} {b g n cap : Nat} {ys : List V} (h : OwV w b (.slice (some ⟨g, 0, none⟩) n cap) ys) (j : Nat) (y : V) (hj : ys[j]? = some y) :
    w.cell? ⟨g, j * 4, none⟩ = some (.int .i64 y.k) ∧ w.cell? ⟨g, j * 4 + 1, none⟩ = some (.int .i64 y.n) ∧ w.cell? ⟨g, j * 4 + 2, none⟩ = some (.int .u64 y.b) ∧ w.cell? ⟨g, j * 4 + 3, none⟩ = some (.string ⟨y.s.toArray⟩) := by
  have c : ∀ i u, i < 4 → y.cells[i]? = some u → w.cell? ⟨g, j * 4 + i, none⟩ = some u := fun i u hi hu => by
    have := World.ownsRow.cells h (g := g) rfl (j * 4 + i) u ((vcs_at ys j y i hj hi).trans hu)
    rwa [add_none] at this
  exact ⟨c 0 _ (by decide) rfl, c 1 _ (by decide) rfl, c 2 _ (by decide) rfl, c 3 _ (by decide) rfl⟩

section
variable {ops : Array Oper} {rest : List Oper} {o : Oper} {a : Act} {Q : Exit → Act → World → Prop}
/-- So many values made. -/
theorem makeV (w : World) (hgd : o.guard = none) (l c : Operand) (ho : o.op = Op.makeSlice 46 l c) (kl kc : IntKind) (L C : Int) (n : Nat) (hl : a.eval l = .int kl L) (hc : a.eval c = .int kc C) (hL : L = (n : Int)) (hC : C = (n : Int)) (hn : n ≤ 1000)
    (h : ∀ g w', w.heap.size = g → OwV w' w.heap.size (.slice (some ⟨g, 0, none⟩) n n) (List.replicate n V0) → Below w.heap.size w w' → wpList Tryz.prog ops Q rest (a.put o.dst (.slice (some ⟨g, 0, none⟩) n n)) w') : wpList Tryz.prog ops Q (o :: rest) a w := by
  obtain ⟨i0, hi, hz0, hz1, hz2⟩ := info_parts Tryz.infoV
  refine wpList_make_full w hgd l c 46 ho w.heap.size 25 i0 _ 4 Tryz.underlying46 hi hz0 hz1 kl kc L C n hl hc hL hC (by rw [hz2]; omega) (by unfold maxLen; omega) (Nat.le_refl _) ?_
  intro w' hown hgr
  refine h _ w' rfl ?_ ((Below.refl _ w).grown hgr (Nat.le_refl _) (fun k hk => by cases hk))
  unfold OwV
  rw [List.length_replicate, ← vcs_made]
  exact hown
end

theorem ck_null : Vl.ck 0 0 0 [] = 0 := by decide
theorem ck_int (n : Int) : Vl.ck 2 n 0 [] = 0 := by unfold Vl.ck; simp
theorem ck_hi (k : Int) (h : 5 < k) : Vl.ck k 0 0 [] = 5 := by unfold Vl.ck; rw [if_pos (by omega)]
theorem rv_is (l : List UInt8) (w : World) (hl : l.length ≤ 1000000) :
    Calls Tryz.prog 123 #[.string ⟨l.toArray⟩] w fun e w' => e = .returned (rd l).val ∧ Below w.heap.size w w' := by
  cases l with
  | nil => exact rv_nil w
  | cons x t =>
    have h0 : 1 ≤ (x :: t).length := by simp
    have hK : ∀ k : Int, (x.toNat : Int) = k → (Kc.nm ((x :: t).take 1) : Int) = k := fun k e => by rw [nm_one]; exact e
    have hlt : t.length ≤ 1000000 := by simp at hl; omega
    have hx := x.toNat_lt
    show Calls _ _ _ _ fun e w' => e = .returned (rdb x.toNat t).val ∧ _
    have c : (x.toNat : Int) = 0 ∨ (x.toNat : Int) = 1 ∨ (x.toNat : Int) = 2 ∨ (x.toNat : Int) = 3 ∨ (x.toNat : Int) = 4 ∨ (x.toNat : Int) = 5 ∨ 5 < (x.toNat : Int) := by omega
    rcases c with e | e | e | e | e | e | e
    · rw [e]
      show Calls _ _ _ _ fun e w' => e = .returned (chk 0 0 0 [] t).val ∧ _
      rw [chk_ok ck_null]; exact rv_0 (x :: t) t w h0 (hK _ e) rfl ck_null
    · rw [e]
      unfold rdb
      rw [if_pos rfl]
      by_cases hs : t.length < 1
      · rw [if_pos hs]; exact rv_1s (x :: t) t w h0 (hK _ e) rfl hs
      · rw [if_neg hs]
        by_cases hc : Vl.ck 1 (Kc.nm (t.take 1) : Int) 0 [] = 0
        · rw [chk_ok hc]; exact rv_1 (x :: t) t (t.drop 1) _ w h0 (hK _ e) rfl (by omega) rfl rfl (nm1_w t) hc
        · rw [chk_bad hc]; exact rv_1b (x :: t) t (t.drop 1) _ _ w h0 (hK _ e) rfl (by omega) rfl rfl (nm1_w t) rfl hc
    · rw [e]
      unfold rdb
      rw [if_neg (by decide), if_pos rfl]
      obtain ⟨⟨X, R, E⟩, hu⟩ : ∃ r, Pk.ri t = r := ⟨_, rfl⟩
      rw [hu]
      by_cases hE : E = 0
      · subst hE
        rw [if_pos rfl, chk_ok (ck_int X)]; exact rv_2 (x :: t) t R X w h0 (hK _ e) rfl hu (ck_int X)
      · rw [if_neg hE]; exact rv_2e (x :: t) t R X E w h0 (hK _ e) rfl hu hE
    · rw [e]
      unfold rdb
      rw [if_neg (by decide), if_neg (by decide), if_pos rfl]
      by_cases hs : t.length < 8
      · rw [if_pos hs]; exact rv_3s (x :: t) t w h0 (hK _ e) rfl hs
      · rw [if_neg hs]
        by_cases hc : Vl.ck 3 0 (Kc.nm (t.take 8) : Int) [] = 0
        · rw [chk_ok hc]; exact rv_3 (x :: t) t (t.drop 8) _ w h0 (hK _ e) rfl (by omega) rfl rfl (nm8_U t) hc
        · rw [chk_bad hc]; exact rv_3b (x :: t) t (t.drop 8) _ _ w h0 (hK _ e) rfl (by omega) rfl rfl (nm8_U t) rfl hc
    · rw [e]
      unfold rdb
      rw [if_neg (by decide), if_neg (by decide), if_neg (by decide), if_pos (by decide)]
      obtain ⟨⟨S, R, E⟩, hu⟩ : ∃ r, Pk.rt t = r := ⟨_, rfl⟩
      rw [hu]
      by_cases hE : E = 0
      · subst hE
        rw [if_pos rfl]
        by_cases hc : Vl.ck 4 0 0 S = 0
        · rw [chk_ok hc]; exact rv_4 (x :: t) t S R w h0 (hK _ e) rfl hlt hu hc
        · rw [chk_bad hc]; exact rv_4b (x :: t) t S R _ w h0 (hK _ e) rfl hlt hu rfl hc
      · rw [if_neg hE]; exact rv_4e (x :: t) t S R E w h0 (hK _ e) rfl hlt hu hE
    · rw [e]
      unfold rdb
      rw [if_neg (by decide), if_neg (by decide), if_neg (by decide), if_pos (by decide)]
      obtain ⟨⟨S, R, E⟩, hu⟩ : ∃ r, Pk.rt t = r := ⟨_, rfl⟩
      rw [hu]
      by_cases hE : E = 0
      · subst hE
        rw [if_pos rfl]
        by_cases hc : Vl.ck 5 0 0 S = 0
        · rw [chk_ok hc]; exact rv_5 (x :: t) t S R w h0 (hK _ e) rfl hlt hu hc
        · rw [chk_bad hc]; exact rv_5b (x :: t) t S R _ w h0 (hK _ e) rfl hlt hu rfl hc
      · rw [if_neg hE]; exact rv_5e (x :: t) t S R E w h0 (hK _ e) rfl hlt hu hE
    · unfold rdb
      rw [if_neg (by omega), if_neg (by omega), if_neg (by omega), if_neg (by omega), chk_bad (by rw [ck_hi _ e]; decide), ck_hi _ e]
      exact rv_hi (x :: t) t x.toNat w h0 (hK _ rfl) rfl e (ck_hi _ e) (by decide)

/-- What is behind is no longer. -/
theorem rd_less (l : List UInt8) (h : (rd l).e = 0) : (rd l).r.length ≤ l.length := by
  have := (rd_back l h).2.2.2
  have h2 := congrArg List.length this
  rw [List.length_append] at h2
  omega

end Go.Proofs.YtmgdciihpjifgaaGreatDoor.Rk
