/-
  Law UtfJoins' walk: the call returns true, and writes nothing that was there. Condition: no text is longer than a process can hold.
-/
import Derived.Test.YtcehhphmmcoaaaaUtfAwake
namespace Go.Proofs.Ytcehhphmmcoaaaa
open Go.RowKit

theorem string_list (s : ByteArray) : ∃ l : List UInt8, s = ⟨l.toArray⟩ ∧ s.size = l.length := ⟨s.data.toList, by cases s; simp, by cases s; simp [ByteArray.size]⟩

theorem vd_neg (l : List UInt8) (h : vd l = true) : 0 ≤ Utf.cn l := by simpa [vd] using h

set_option maxHeartbeats 1000000 in
theorem utfJoins_list (a b : List UInt8) (w : World) :
    Calls Try.prog 6 #[.string ⟨a.toArray⟩, .string ⟨b.toArray⟩] w fun e w' => e = .returned (.bool true) ∧ Below w.heap.size w w' := by
  by_cases la : 2000 < a.length
  · go_enter Try.func6, Try.ntmps6
    go_wp2_with fail
    refine (awake_any _).mono ?_
    rintro e w3 ⟨rfl, hb3⟩
    have Hb3 := Lib.hid hb3
    clear hb3
    go_wp2
    go_ret
    exact ⟨rfl, Hb3.out⟩
  by_cases lb : 2000 < b.length
  · go_enter Try.func6, Try.ntmps6
    go_wp2_with fail
    refine (awake_any _).mono ?_
    rintro e w3 ⟨rfl, hb3⟩
    have Hb3 := Lib.hid hb3
    clear hb3
    go_wp2
    go_ret
    exact ⟨rfl, Hb3.out⟩
  have la' : a.length ≤ maxLen := by unfold maxLen; omega
  have lb' : b.length ≤ maxLen := by unfold maxLen; omega
  cases va : vd a
  · go_enter Try.func6, Try.ntmps6
    go_wp2_with fail
    refine (valid_is a false _ la' va).mono ?_
    rintro e w' ⟨rfl, rfl⟩
    go_wp2_with fail
    refine (awake_any _).mono ?_
    rintro e w3 ⟨rfl, hb3⟩
    have Hb3 := Lib.hid hb3
    clear hb3
    go_wp2
    go_ret
    exact ⟨rfl, Hb3.out⟩
  cases vb : vd b
  · go_enter Try.func6, Try.ntmps6
    go_wp2_with fail
    refine (valid_is a true _ la' va).mono ?_
    rintro e w' ⟨rfl, rfl⟩
    go_wp2_with fail
    refine (valid_is b false _ lb' vb).mono ?_
    rintro e w' ⟨rfl, rfl⟩
    go_wp2_with fail
    refine (awake_any _).mono ?_
    rintro e w3 ⟨rfl, hb3⟩
    have Hb3 := Lib.hid hb3
    clear hb3
    go_wp2
    go_ret
    exact ⟨rfl, Hb3.out⟩
  have hc := Utf.cn_append a.length a b (Nat.le_refl _) (vd_neg a va) (vd_neg b vb)
  have ca := Utf.cn_ge a.length a (Nat.le_refl _)
  have cb := Utf.cn_ge b.length b (Nat.le_refl _)
  have vab : vd (a ++ b) = true := by
    have h1 := vd_neg a va
    have h2 := vd_neg b vb
    simp only [vd, hc, decide_eq_true_eq]; omega
  have lab' : (a ++ b).length ≤ maxLen := by unfold maxLen; rw [List.length_append]; omega
  have hcv := Lib.hid hc
  have hmk := ByteArray.mk_append_mk a b
  have Hva := Lib.hid va
  have Hvb := Lib.hid vb
  have Hvab := Lib.hid vab
  clear hc va vb vab
  go_enter Try.func6, Try.ntmps6
  go_wp2_with fail
  refine (valid_is a true _ la' Hva.out).mono ?_
  rintro e w' ⟨rfl, rfl⟩
  go_wp2_with fail
  refine (valid_is b true _ lb' Hvb.out).mono ?_
  rintro e w' ⟨rfl, rfl⟩
  go_wp2_with fail
  refine (valid_is (a ++ b) true _ lab' Hvab.out).mono ?_
  rintro e w' ⟨rfl, rfl⟩
  go_wp2_with fail
  refine (count_is (a ++ b) _ _ lab' hcv.out).mono ?_
  rintro e w' ⟨rfl, rfl⟩
  go_wp2_with fail
  refine (count_any a _ la').mono ?_
  rintro e w' ⟨rfl, rfl⟩
  go_wp2_with fail
  refine (count_any b _ lb').mono ?_
  rintro e w' ⟨rfl, rfl⟩
  go_wp2_with fail
  refine (awake_any _).mono ?_
  rintro e w3 ⟨rfl, hb3⟩
  have Hb3 := Lib.hid hb3
  clear hb3
  go_wp2
  go_ret
  exact ⟨rfl, Hb3.out⟩

theorem utfJoins_walk (a b : ByteArray) (w : World) (_ : a.size ≤ 140737488351232) (_ : b.size ≤ 140737488351232) :
    Calls Try.prog 6 #[.string a, .string b] w fun e w' => e = .returned (.bool true) ∧ Below w.heap.size w w' := by
  obtain ⟨la, rfl, _⟩ := string_list a
  obtain ⟨lb, rfl, _⟩ := string_list b
  exact utfJoins_list la lb w

end Go.Proofs.Ytcehhphmmcoaaaa
