/-
  Where a key stands: Find, by slices.BinarySearchFunc and strings.Compare. Conditions: lines by rising keys, and the bounds named in each theorem.
-/
import Derived.Test.YtfgakoldedpfoaaDoorShMem
import Derived.Test.YtfgakoldedpfoaaDoorShelf
import Derived.Shelf.Small.Strs
namespace Go.Proofs.YtfgakoldedpfoaaDoor
open Go.RowKit Go.Shelf
set_option linter.unusedVariables false

theorem cb_lt : ∀ (a b : List UInt8), Lib.compareBytes a b < 0 ↔ a < b
  | [], [] => by simp [Lib.compareBytes]
  | [], _ :: _ => by simp [Lib.compareBytes]
  | _ :: _, [] => by simp [Lib.compareBytes]
  | x :: a, y :: b => by
    rw [Lib.compareBytes, List.cons_lt_cons_iff]
    by_cases h1 : x < y
    · simp [h1]
    · rw [if_neg h1]
      by_cases h2 : y < x
      · rw [if_pos h2]
        have : x ≠ y := fun e => by subst e; exact h1 h2
        simp [h1, this]
      · rw [if_neg h2]
        have e : x = y := UInt8.le_antisymm (UInt8.not_lt.1 h2) (UInt8.not_lt.1 h1)
        subst e
        rw [cb_lt a b]
        simp
theorem cb_self : ∀ (a : List UInt8), Lib.compareBytes a a = 0
  | [] => by simp [Lib.compareBytes]
  | x :: a => by
    rw [Lib.compareBytes, if_neg (UInt8.lt_irrefl x), if_neg (UInt8.lt_irrefl x)]
    exact cb_self a
theorem cb_gt : ∀ (a b : List UInt8), 0 < Lib.compareBytes a b ↔ b < a
  | [], [] => by simp [Lib.compareBytes]
  | [], _ :: _ => by simp [Lib.compareBytes]
  | _ :: _, [] => by simp [Lib.compareBytes]
  | x :: a, y :: b => by
    rw [Lib.compareBytes, List.cons_lt_cons_iff]
    by_cases h1 : x < y
    · rw [if_pos h1]
      have h2 : ¬ y < x := UInt8.not_lt.2 (UInt8.le_of_lt h1)
      have : y ≠ x := fun e => by subst e; exact h2 h1
      simp [h2, this]
    · rw [if_neg h1]
      by_cases h2 : y < x
      · rw [if_pos h2]
        simp [h2]
      · rw [if_neg h2]
        have e : x = y := UInt8.le_antisymm (UInt8.not_lt.1 h2) (UInt8.not_lt.1 h1)
        subst e
        rw [cb_gt a b]
        simp
theorem cb_val : ∀ (a b : List UInt8), Lib.compareBytes a b = -1 ∨ Lib.compareBytes a b = 0 ∨ Lib.compareBytes a b = 1
  | [], [] => by simp [Lib.compareBytes]
  | [], _ :: _ => by simp [Lib.compareBytes]
  | _ :: _, [] => by simp [Lib.compareBytes]
  | x :: a, y :: b => by
    rw [Lib.compareBytes]
    split
    · exact .inl rfl
    · split
      · exact .inr (.inr rfl)
      · exact cb_val a b
theorem cb_m {a b : List UInt8} (h : a < b) : Lib.compareBytes a b = -1 := by
  have h1 := (cb_lt a b).2 h
  rcases cb_val a b with e | e | e <;> omega
theorem cb_p {a b : List UInt8} (h : b < a) : Lib.compareBytes a b = 1 := by
  have h1 := (cb_gt a b).2 h
  rcases cb_val a b with e | e | e <;> omega

theorem Nm.tri (a b : List UInt8) : a < b ∨ a = b ∨ b < a := by
  by_cases h : a < b
  · exact .inl h
  · by_cases e : a = b
    · exact .inr (.inl e)
    · exact .inr (.inr (key_or h e))
theorem strcmp_is (a b : List UInt8) (E : Int) (w : World) (hE : Lib.compareBytes a b = E) :
    Calls Tryd.prog 27 #[.string ⟨a.toArray⟩, .string ⟨b.toArray⟩] w fun e w' => e = .returned (.int .i64 E) ∧ w = w' := by
  have hcon := Any.strings_Compare Tryd.lays106 ⟨a.toArray⟩ ⟨b.toArray⟩ w
  change Calls Tryd.prog 27 _ _ _ at hcon
  have e : Lib.compareBytes (⟨a.toArray⟩ : ByteArray).data.toList (⟨b.toArray⟩ : ByteArray).data.toList = E := hE
  rw [e] at hcon
  refine hcon.mono ?_
  rintro e w' ⟨rfl, rfl⟩
  exact ⟨rfl, rfl⟩

set_option maxHeartbeats 1000000 in
theorem findc_is (k key : Nm.S) (ao : Option Addr) (n cap : Nat) (E : Int) (W : World) (hE : Lib.compareBytes k key = E) :
    Calls Tryd.prog 36 #[.agg #[.string ⟨k.toArray⟩, .slice ao n cap], .string ⟨key.toArray⟩] W fun e w' => e = .returned (.int .i64 E) ∧ Below W.heap.size W w' := by
  have X := Lib.hid hE
  clear hE
  go_enter Tryd.func36, Tryd.ntmps36
  go_wp2_with fail
  refine (strcmp_is k key E _ X.out).mono ?_
  rintro e w' ⟨rfl, rfl⟩
  go_wp2
  go_ret
  exact ⟨rfl, below1 _ _⟩

def klt (zs : List LV) (key : Nm.S) (n : Nat) : Prop := ∀ (i : Nat) (l : L), i < n → (lls zs)[i]? = some l → l.k < key
def kge (zs : List LV) (key : Nm.S) (n : Nat) : Prop := ∀ (i : Nat) (l : L), n ≤ i → (lls zs)[i]? = some l → ¬ l.k < key
theorem lls_get {zs : List LV} {i : Nat} (h : i < zs.length) : (lls zs)[i]? = some zs[i].l := by
  rw [List.getElem?_eq_getElem (by rw [lls_len]; exact h), lls_at h]
theorem klt_up {zs : List LV} {key : Nm.S} {m : Nat} (hr : Ris (lls zs)) (hm : m < zs.length) (h : zs[m].k < key) : klt zs key (m + 1) := by
  intro i l hi hl
  obtain ⟨hil, rfl⟩ := List.getElem?_eq_some_iff.1 hl
  rcases Nat.lt_or_ge i m with e | e
  · have := List.pairwise_iff_getElem.1 hr i m hil (by rw [lls_len]; exact hm) e
    rw [lls_at hm] at this
    exact List.lt_trans this h
  · obtain rfl : i = m := by omega
    rw [lls_at hm]; exact h
theorem kge_down {zs : List LV} {key : Nm.S} {m : Nat} (hr : Ris (lls zs)) (hm : m < zs.length) (h : ¬ zs[m].k < key) : kge zs key m := by
  intro i l hi hl
  obtain ⟨hil, rfl⟩ := List.getElem?_eq_some_iff.1 hl
  rcases Nat.lt_or_ge m i with e | e
  · have := List.pairwise_iff_getElem.1 hr m i (by rw [lls_len]; exact hm) hil e
    rw [lls_at hm] at this
    exact fun g => h (List.lt_trans this g)
  · obtain rfl : i = m := by omega
    rw [lls_at hm]; exact h
theorem klt_fnd {zs : List LV} {key : Nm.S} {n : Nat} (hn : n ≤ zs.length) (h : klt zs key n) (g : kge zs key n) : fnd (lls zs) key = n :=
  fnd_of (by rw [lls_len]; exact hn) h (fun l hl => g n l (Nat.le_refl _) hl)

theorem mid_is {lo hi m n : Nat} (h1 : n ≤ 1000) (h2 : lo ≤ hi) (h3 : hi ≤ n) (hm : (lo + hi) / 2 = m) : wrap64 (IntKind.u64.wrap (wrap64 ((lo : Int) + (hi : Int))) / 2) = (m : Int) := by
  rw [wrap_in ((lo : Int) + (hi : Int)) (by omega) (by omega), IntKind.wrap_u64, wrap_in _ (by omega) (by omega)]
  omega
set_option maxRecDepth 1000000 in
set_option maxHeartbeats 4000000 in
theorem bsearch_is (zs : List LV) (key : Nm.S) (n : Nat) (ao : Option Addr) (cap : Nat) (w : World) (hn : zs.length = n) (h : SlL w ao zs) (hl : zs.length ≤ 1000) (hr : Ris (lls zs)) (I : Nat) (B : Bool) (hI : fnd (lls zs) key = I) (hB : isk (lls zs) key = B) :
    Calls Tryd.prog 35 #[.slice ao n cap, .string ⟨key.toArray⟩, .func (.func 36) #[] #[]] w fun e w' => e = .returned (.tuple #[.int .i64 (I : Int), .bool B]) ∧ Below w.heap.size w w' := by
  subst hn
  have H := Lib.hid (And.intro h (And.intro hl (And.intro hr (And.intro hI hB))))
  clear h hl hr hI hB
  go_enter Tryd.func35, Tryd.ntmps35
  go_wp2
  go_loopw [9, 10] (fun s9 s10 wr => ∃ lo hi : Nat, s9 = .int .i64 lo ∧ s10 = .int .i64 hi ∧ lo ≤ hi ∧ hi ≤ zs.length ∧ Below w.heap.size w wr ∧ klt zs key lo ∧ kge zs key hi) (fun s9 s10 _ => (RowKit.intOf s10 - RowKit.intOf s9).toNat)
  case atStart => exact ⟨0, zs.length, rfl, rfl, Nat.zero_le _, Nat.le_refl _, Below.refl _ _, fun i l hi => absurd hi (Nat.not_lt_zero _), fun i l hi hl => by
    have := (List.getElem?_eq_some_iff.1 hl).1
    rw [lls_len] at this; omega⟩
  case round =>
    obtain ⟨lo, hi, rfl, rfl, hlh, hin, hb, hlo, hhi⟩ := hrel
    have J := Lib.hid (And.intro hb (And.intro hlo hhi))
    clear hb hlo hhi
    by_cases hlt : lo < hi
    · obtain ⟨m, hm⟩ : ∃ m, (lo + hi) / 2 = m := ⟨_, rfl⟩
      have hml : m < zs.length := by omega
      have hsz : zs.length < 4611686018427387904 := by have := H.out.2.1; omega
      obtain ⟨a, ha, y0, y1⟩ := H.out.1.below J.out.1 m zs[m] (List.getElem?_eq_getElem hml)
      subst ha
      obtain ⟨z, hz⟩ : ∃ z, zs[m] = z := ⟨_, rfl⟩
      rw [hz] at y0 y1
      subst hm
      by_cases hk : z.k < key
      · have Z := Lib.hid (And.intro (cb_m hk) (klt_up H.out.2.2.1 hml (hz ▸ hk)))
        clear hk hz
        go_wp2_with fail
        refine (findc_is z.k key z.ao z.xs.length z.cap (-1) _ Z.out.1).mono ?_
        rintro e w1 ⟨rfl, hb⟩
        have K := Lib.hid (step0 J.out.1 hb)
        clear hb
        go_wp2
        go_roundw
        case rel => exact ⟨(lo + hi) / 2 + 1, hi, by rw [show ((lo : Int) + (hi : Int)) / 2 + 1 = (((lo + hi) / 2 + 1 : Nat) : Int) by omega], rfl, by omega, hin, K.out, Z.out.2, J.out.2.2⟩
        case measure => simp [intOf]; omega
      · have hE : ¬ Lib.compareBytes z.k key < 0 := fun g => hk ((cb_lt _ _).1 g)
        obtain ⟨E, hEE⟩ : ∃ E, Lib.compareBytes z.k key = E := ⟨_, rfl⟩
        rw [hEE] at hE
        have hE' : decide (E < 0) = false := by rw [decide_eq_false_iff_not]; exact hE
        have Z := Lib.hid (And.intro hEE (kge_down H.out.2.2.1 hml (by rw [hz]; exact hk)))
        clear hk hz hEE hE
        go_wp2_with fail
        refine (findc_is z.k key z.ao z.xs.length z.cap E _ Z.out.1).mono ?_
        rintro e w1 ⟨rfl, hb⟩
        have K := Lib.hid (step0 J.out.1 hb)
        clear hb
        go_wp2
        go_roundw
        case rel => exact ⟨lo, (lo + hi) / 2, rfl, by rw [show ((lo : Int) + (hi : Int)) / 2 = (((lo + hi) / 2 : Nat) : Int) by omega], by omega, by omega, K.out, J.out.2.1, Z.out.2⟩
        case measure => simp [intOf]; omega
    · obtain rfl : lo = hi := by omega
      have hI : I = lo := by rw [← H.out.2.2.2.1]; exact klt_fnd hin J.out.2.1 J.out.2.2
      subst hI
      by_cases hn : I < zs.length
      · obtain ⟨a, ha, y0, y1⟩ := H.out.1.below J.out.1 I zs[I] (List.getElem?_eq_getElem hn)
        subst ha
        have d1 : (I : Int) < (zs.length : Int) := by omega
        have d2 : decide ((I : Int) < (zs.length : Int)) = true := by rw [decide_eq_true_iff]; exact d1
        obtain ⟨E, hEE⟩ : ∃ E, Lib.compareBytes zs[I].k key = E := ⟨_, rfl⟩
        have hB : B = (E == 0) := by
          rw [← H.out.2.2.2.2]
          refine isk_of H.out.2.2.2.1 _ (fun l hl => ?_) (fun g => by rw [lls_len] at g; omega)
          rw [lls_get hn] at hl
          obtain rfl := Option.some.inj hl
          show decide (zs[I].k = key) = _
          by_cases e : zs[I].k = key
          · rw [← hEE, e, cb_self]; simp
          · have : E ≠ 0 := fun h0 => by
              rcases Nm.tri zs[I].k key with h | h | h
              · have := (cb_lt _ _).2 h; omega
              · exact e h
              · have := (cb_gt _ _).2 h; omega
            simp [e, this]
        subst hB
        have Z := Lib.hid hEE
        clear hEE
        go_wp2_with fail
        refine (findc_is zs[I].k key zs[I].ao zs[I].xs.length zs[I].cap E _ Z.out).mono ?_
        rintro e w1 ⟨rfl, hb⟩
        have K := Lib.hid (step0 J.out.1 hb)
        clear hb
        go_wp2
        go_ret2
        exact ⟨rfl, K.out⟩
      · have d2 : decide ((I : Int) < (zs.length : Int)) = false := by rw [decide_eq_false_iff_not]; omega
        have hB : B = false := by
          rw [← H.out.2.2.2.2]
          exact isk_of H.out.2.2.2.1 _ (fun l hl => by
            have := (List.getElem?_eq_some_iff.1 hl).1
            rw [lls_len] at this; omega) (fun _ => rfl)
        subst hB
        go_wp2
        go_ret2
        exact ⟨rfl, J.out.1⟩

/-- Find, of a sheet. -/
theorem find_s (nm : Nm.S) (ks : Int) (cs : List C) (zs : List LV) (key : Nm.S) (ao lo : Option Addr) (cap n lc : Nat) (w : World) (hn : zs.length = n) (h : SlL w lo zs) (hl : zs.length ≤ 1000) (hr : Ris (lls zs)) (I : Nat) (B : Bool) (hI : fnd (lls zs) key = I) (hB : isk (lls zs) key = B) :
    Calls Tryd.prog 20 #[.agg #[.string ⟨nm.toArray⟩, .int .i64 ks, .slice ao cs.length cap, .slice lo n lc], .string ⟨key.toArray⟩] w fun e w' => e = .returned (.tuple #[.int .i64 (I : Int), .bool B]) ∧ Below w.heap.size w w' := by
  have H := Lib.hid (And.intro hn (And.intro h (And.intro hl (And.intro hr (And.intro hI hB)))))
  clear hn h hl hr hI hB
  go_enter Tryd.func20, Tryd.ntmps20
  go_wp2_with fail
  refine (bsearch_is zs key n lo lc _ H.out.1 (H.out.2.1.below (below1 _ _)) H.out.2.2.1 H.out.2.2.2.1 I B H.out.2.2.2.2.1 H.out.2.2.2.2.2).mono ?_
  rintro e w1 ⟨rfl, hb⟩
  have K := Lib.hid (step1 (Below.refl _ w) hb)
  clear hb
  go_wp2
  go_ret2
  exact ⟨rfl, K.out⟩

end Go.Proofs.YtfgakoldedpfoaaDoor
