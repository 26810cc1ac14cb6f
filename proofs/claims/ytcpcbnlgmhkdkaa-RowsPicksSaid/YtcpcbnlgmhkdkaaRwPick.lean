/-
  What Pick answers, the program's and the document's: a row of values that the call owns, or the error. Conditions: the bounds named in each theorem.
-/
import Derived.Test.YtcpcbnlgmhkdkaaRwReadRow
namespace Go.Proofs.Ytcpcbnlgmhkdkaa
open Go.RowKit

/-- A slice of numbers. -/
def SlI (W : World) (ao : Option Addr) (t : List Int) : Prop := ∀ (i : Nat) (x : Int), t[i]? = some x → ∃ a, ao = some a ∧ W.cell? (a.add i) = some (.int .i64 x)
theorem SlI.below {W W' : World} {ao : Option Addr} {t : List Int} (h : SlI W ao t) (hb : Below W.heap.size W W') : SlI W' ao t := by
  intro i x hi
  obtain ⟨a, ha, h0⟩ := h i x hi
  exact ⟨a, ha, keep0 h0 hb⟩

/-- What Pick hands back. -/
def PK (xs : List V) (t : List Int) (w : World) (e : Ending) (w' : World) : Prop := ∃ v, e = .returned (.tuple #[v, .int .i64 (pk xs t).2]) ∧ OwV w' w.heap.size v (pk xs t).1 ∧ Below w.heap.size w w'
theorem PK.bad {xs : List V} {t : List Int} {w w' : World} {j : Nat} (hj : j < t.length) (h : okp xs t[j] = false) (hb : Below w.heap.size w w') : PK xs t w (.returned (.tuple #[.slice none 0 0, .int .i64 1])) w' := by
  have e := pk_bad (List.getElem_mem hj) h
  exact ⟨_, by rw [e], by rw [e]; exact owv_nil _ _, hb⟩
theorem ps_len (xs : List V) (t : List Int) (j : Nat) (h : j ≤ t.length) : (ps xs (t.take j)).length = j := by simp [ps]; omega

set_option maxHeartbeats 4000000 in
theorem pick_is (xs : List V) (t : List Int) (ao bo : Option Addr) (ca cb : Nat) (w : World) (hl : xs.length ≤ 30) (hm : t.length ≤ 50) (ha : Sl w ao xs) (hb : SlI w bo t) :
    Calls Try.prog 18 #[.slice ao xs.length ca, .slice bo t.length cb] w (PK xs t w) := by
  have H := Lib.hid (And.intro ha (And.intro hb (And.intro hl hm)))
  clear ha hb hl hm
  go_enter Try.func18, Try.ntmps18
  go_wp2_with (at_make; refine makeV _ rfl _ _ rfl .i64 .i64 (t.length : Int) (t.length : Int) t.length rfl rfl rfl rfl (by have := H.out.2.2.2; omega) ?_; intro g w2 hg hO hb; have S := Lib.hid (And.intro hO hb); clear hO hb hg; go_frame)
  go_loopw [14] (fun i wr => ∃ j : Nat, i = .int .i64 j ∧ j ≤ t.length ∧ (t.take j).all (okp xs) = true ∧ OwV wr w.heap.size (.slice (some ⟨g, 0, none⟩) t.length t.length) (ps xs (t.take j) ++ List.replicate (t.length - j) V0) ∧ Below w.heap.size w wr) (fun i _ => t.length - (intOf i).toNat)
  case atStart => exact ⟨0, rfl, Nat.zero_le _, rfl, S.out.1, S.out.2⟩
  case round =>
    obtain ⟨j, rfl, hj, hall, hO, hbel⟩ := hrel
    have J := Lib.hid (And.intro hO (And.intro hbel hall))
    clear hO hbel hall
    by_cases hlt : j < t.length
    · obtain ⟨q, rfl, q0⟩ := H.out.2.1.below J.out.2.1 j t[j] (List.getElem?_eq_getElem hlt)
      have hw : wrap64 ((j : Int) + 1) = (j : Int) + 1 := by have := H.out.2.2.2; exact wrap_in _ (by omega) (by omega)
      obtain ⟨p, hp⟩ : ∃ p, t[j] = p := ⟨_, rfl⟩
      rw [hp] at q0
      by_cases hneg : p < 0
      · have HF := Lib.hid (show okp xs t[j] = false from by rw [hp]; unfold okp; rw [decide_eq_false_iff_not]; omega)
        clear hp
        go_wp2
        go_ret2
        exact PK.bad hlt HF.out J.out.2.1
      · by_cases hhi : (xs.length : Int) ≤ p
        · have HF := Lib.hid (show okp xs t[j] = false from by rw [hp]; unfold okp; rw [decide_eq_false_iff_not]; omega)
          have n1 : decide (p < 0) = false := by rw [decide_eq_false_iff_not]; exact hneg
          clear hp
          go_wp2
          go_ret2
          exact PK.bad hlt HF.out J.out.2.1
        · obtain ⟨i, rfl⟩ : ∃ i : Nat, p = (i : Int) := ⟨p.toNat, by omega⟩
          have hi : i < xs.length := by omega
          have n1 : decide ((i : Int) < 0) = false := by rw [decide_eq_false_iff_not]; exact hneg
          have n2 : decide ((xs.length : Int) ≤ (i : Int)) = false := by rw [decide_eq_false_iff_not]; exact hhi
          have HT := Lib.hid (show okp xs t[j] = true from by rw [hp]; unfold okp; rw [decide_eq_true_iff]; omega)
          have HP := Lib.hid (ps_next hlt hi hp)
          obtain ⟨a, rfl, a0, a1, a2, a3⟩ := H.out.1.below J.out.2.1 i xs[i] (List.getElem?_eq_getElem hi)
          have hd := ps_len xs t j (by omega)
          have hO3 := J.out.1
          have hy : (ps xs (t.take j) ++ List.replicate (t.length - j) V0)[j]? = some V0 := by
            rw [List.getElem?_append_right (by omega), List.getElem?_replicate]
            simp; omega
          obtain ⟨c0, c1, c2, c3⟩ := hO3.at j V0 hy
          obtain ⟨hst, hbg, hgl, hfz⟩ := hO3.store (by simp; omega) j (by simp; omega) xs[i]
          have f0 := hfz (j * 4)
          have f1 := hfz (j * 4 + 1)
          have f2 := hfz (j * 4 + 2)
          have f3 := hfz (j * 4 + 3)
          have K := Lib.hid (And.intro hst (And.intro hbg hd))
          clear hO3 hy hst hbg hgl hfz hd hp hneg hhi
          go_wp2
          go_roundw
          case rel => exact ⟨j + 1, by go_num, hlt, all_next hlt J.out.2.2 HT.out, by rw [HP.out, ← set_next _ t.length j _ K.out.2.2 hlt]; exact K.out.1, set4 J.out.2.1 K.out.2.1⟩
          case measure => rw [hw]; simp [intOf]; omega
    · obtain rfl : j = t.length := by omega
      have hO := J.out.1
      have hall := J.out.2.2
      rw [Nat.sub_self, List.replicate_zero, List.append_nil, List.take_length] at hO
      rw [List.take_length] at hall
      have ST := Lib.hid (And.intro hO (pk_ok hall))
      clear hO hall
      go_wp2
      go_ret2
      exact ⟨_, by rw [ST.out.2]; rfl, by rw [ST.out.2]; exact ST.out.1, J.out.2.1⟩

set_option maxHeartbeats 4000000 in
theorem dpick_is (xs : List V) (t : List Int) (ao bo : Option Addr) (ca cb : Nat) (w : World) (hl : xs.length ≤ 30) (hm : t.length ≤ 50) (ha : Sl w ao xs) (hb : SlI w bo t) :
    Calls Try.prog 19 #[.slice ao xs.length ca, .slice bo t.length cb] w (PK xs t w) := by
  have H := Lib.hid (And.intro ha (And.intro hb (And.intro hl hm)))
  clear ha hb hl hm
  go_enter Try.func19, Try.ntmps19
  go_wp2
  go_loopw [6, 7] (fun o i wr => ∃ j : Nat, i = .int .i64 j ∧ j ≤ t.length ∧ (t.take j).all (okp xs) = true ∧ OwV wr w.heap.size o (ps xs (t.take j)) ∧ Below w.heap.size w wr) (fun _ i _ => t.length - (intOf i).toNat)
  case atStart => exact ⟨0, rfl, Nat.zero_le _, rfl, owv_nil _ _, Below.refl _ _⟩
  case round =>
    obtain ⟨j, rfl, hj, hall, hO, hbel⟩ := hrel
    have J := Lib.hid (And.intro hO (And.intro hbel hall))
    clear hO hbel hall
    by_cases hlt : j < t.length
    · obtain ⟨q, rfl, q0⟩ := H.out.2.1.below J.out.2.1 j t[j] (List.getElem?_eq_getElem hlt)
      have hw : wrap64 ((j : Int) + 1) = (j : Int) + 1 := by have := H.out.2.2.2; exact wrap_in _ (by omega) (by omega)
      obtain ⟨p, hp⟩ : ∃ p, t[j] = p := ⟨_, rfl⟩
      rw [hp] at q0
      by_cases hneg : p < 0
      · have HF := Lib.hid (show okp xs t[j] = false from by rw [hp]; unfold okp; rw [decide_eq_false_iff_not]; omega)
        clear hp
        go_wp2
        go_ret2
        exact PK.bad hlt HF.out J.out.2.1
      · by_cases hhi : (xs.length : Int) ≤ p
        · have HF := Lib.hid (show okp xs t[j] = false from by rw [hp]; unfold okp; rw [decide_eq_false_iff_not]; omega)
          have n1 : decide (p < 0) = false := by rw [decide_eq_false_iff_not]; exact hneg
          clear hp
          go_wp2
          go_ret2
          exact PK.bad hlt HF.out J.out.2.1
        · obtain ⟨i, rfl⟩ : ∃ i : Nat, p = (i : Int) := ⟨p.toNat, by omega⟩
          have hi : i < xs.length := by omega
          have n1 : decide ((i : Int) < 0) = false := by rw [decide_eq_false_iff_not]; exact hneg
          have n2 : decide ((xs.length : Int) ≤ (i : Int)) = false := by rw [decide_eq_false_iff_not]; exact hhi
          have HT := Lib.hid (show okp xs t[j] = true from by rw [hp]; unfold okp; rw [decide_eq_true_iff]; omega)
          have HP := Lib.hid (ps_next hlt hi hp)
          obtain ⟨a, rfl, a0, a1, a2, a3⟩ := H.out.1.below J.out.2.1 i xs[i] (List.getElem?_eq_getElem hi)
          have hd := Lib.hid (ps_len xs t j (by omega))
          clear hp hneg hhi
          go_wp2_with (at_builtin; refine appV rfl _ _ rfl w.heap.size u6 (ps xs (t.take j)) xs[i] _ rfl J.out.1 rfl (by have := hd.out; have := H.out.2.2.2; omega) J.out.2.1.size ?_; intro v' w2 hown' hb'; have K := Lib.hid (And.intro hown' (J.out.2.1.trans hb')); clear hown' hb'; go_frame)
          go_roundw
          case rel => exact ⟨j + 1, by go_num, hlt, all_next hlt J.out.2.2 HT.out, by rw [HP.out]; exact K.out.1, K.out.2⟩
          case measure => rw [hw]; simp [intOf]; omega
    · obtain rfl : j = t.length := by omega
      have hO := J.out.1
      have hall := J.out.2.2
      rw [List.take_length] at hO hall
      have ST := Lib.hid (And.intro hO (pk_ok hall))
      clear hO hall
      go_wp2
      go_ret2
      exact ⟨_, by rw [ST.out.2]; rfl, by rw [ST.out.2]; exact ST.out.1, J.out.2.1⟩

end Go.Proofs.Ytcpcbnlgmhkdkaa
