/-
  Law UtfOrder's walk: the call returns true, and writes nothing that was there. No condition.
-/
import Derived.Test.YtcehhphmmcoaaaaUtfAwake
import Derived.Test.YtcehhphmmcoaaaaUtfOrderPlain
namespace Go.Proofs.Ytcehhphmmcoaaaa
open Go.RowKit

set_option maxHeartbeats 1000000 in
theorem utfOrder_walk (a b : Int) (w : World) (_ : (Lit.int .i64 a).wf = true) (_ : (Lit.int .i64 b).wf = true) :
    Calls Try.prog 7 #[.int .i64 a, .int .i64 b] w fun e w' => e = .returned (.bool true) ∧ Below w.heap.size w w' := by
  by_cases ha : Utf.wd a = 0
  · have h1 := Lib.hid (show Utf.pe a = 1 from by simp [Utf.pe, ha])
    clear ha
    go_enter Try.func7, Try.ntmps7
    go_wp2_with fail
    refine (put_is a _ 1 _ rfl h1.out).mono ?_
    rintro e w1 ⟨rfl, hb⟩
    have Hb := Lib.hid hb
    clear hb
    go_wp2_with fail
    refine (put_any b _).mono ?_
    rintro e w2 ⟨rfl, hb⟩
    have Hb2 := Lib.hid hb
    clear hb
    go_wp2_with fail
    refine (awake_any _).mono ?_
    rintro e w3 ⟨rfl, hb⟩
    have Hb3 := Lib.hid hb
    clear hb
    go_wp2
    go_ret
    exact ⟨rfl, (Hb.out.trans (Hb2.out.mono Hb.out.size)).trans (Hb3.out.mono (Nat.le_trans Hb.out.size Hb2.out.size))⟩
  by_cases hb : Utf.wd b = 0
  · have h0 := Lib.hid (show Utf.pe a = 0 from by simp [Utf.pe, ha])
    have h1 := Lib.hid (show Utf.pe b = 1 from by simp [Utf.pe, hb])
    clear ha hb
    go_enter Try.func7, Try.ntmps7
    go_wp2_with fail
    refine (put_is a _ 0 _ rfl h0.out).mono ?_
    rintro e w1 ⟨rfl, hb⟩
    have Hb := Lib.hid hb
    clear hb
    go_wp2_with fail
    refine (put_is b _ 1 _ rfl h1.out).mono ?_
    rintro e w2 ⟨rfl, hb⟩
    have Hb2 := Lib.hid hb
    clear hb
    go_wp2_with fail
    refine (awake_any _).mono ?_
    rintro e w3 ⟨rfl, hb⟩
    have Hb3 := Lib.hid hb
    clear hb
    go_wp2
    go_ret
    exact ⟨rfl, (Hb.out.trans (Hb2.out.mono Hb.out.size)).trans (Hb3.out.mono (Nat.le_trans Hb.out.size Hb2.out.size))⟩
  have h0 := Lib.hid (show Utf.pe a = 0 from by simp [Utf.pe, ha])
  have h1 := Lib.hid (show Utf.pe b = 0 from by simp [Utf.pe, hb])
  have h2 := Utf.less_pl a b ha hb
  have h3 := Utf.same_pl a b ha hb
  have H2 := Lib.hid h2
  have H3 := Lib.hid h3
  clear h2 h3 ha hb
  go_enter Try.func7, Try.ntmps7
  go_wp2_with fail
  refine (put_is a _ 0 _ rfl h0.out).mono ?_
  rintro e w1 ⟨rfl, hb⟩
  have Hb := Lib.hid hb
  clear hb
  go_wp2_with fail
  refine (put_is b _ 0 _ rfl h1.out).mono ?_
  rintro e w2 ⟨rfl, hb⟩
  have Hb2 := Lib.hid hb
  clear hb
  have hL : Op.bytesLess (Utf.pl a) (Utf.pl b) = decide (a < b) := by
    rw [Bool.eq_iff_iff, decide_eq_true_eq, H2.out]
  have hE : (Utf.pl a == Utf.pl b) = (a == b) := by
    rw [Bool.eq_iff_iff, beq_iff_eq, beq_iff_eq, H3.out]
  go_wp2_with fail
  refine (awake_any _).mono ?_
  rintro e w3 ⟨rfl, hb⟩
  have Hb3 := Lib.hid hb
  clear hb
  go_wp2
  go_ret
  exact ⟨rfl, (Hb.out.trans (Hb2.out.mono Hb.out.size)).trans (Hb3.out.mono (Nat.le_trans Hb.out.size Hb2.out.size))⟩

end Go.Proofs.Ytcehhphmmcoaaaa
