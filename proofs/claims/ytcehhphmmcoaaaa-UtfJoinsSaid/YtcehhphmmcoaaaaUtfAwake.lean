/-
  What awake answers: true. No condition.
-/
import Derived.Test.YtcehhphmmcoaaaaUtfRunes
import Derived.Test.YtcehhphmmcoaaaaUtfPut
namespace Go.Proofs.Ytcehhphmmcoaaaa
open Go.RowKit

theorem own_slice {w : World} {base : Nat} {e : TypeId} {size n : Nat} {v : Value} {xs : List Value} (h : w.ownsRow base e size v n xs) : ∃ a c, v = .slice a n c := by
  rcases h.2 with ⟨rfl, rfl⟩ | ⟨g, cap, cur, rfl, _⟩
  · exact ⟨_, _, rfl⟩
  · exact ⟨_, _, rfl⟩

theorem put_is (r : Int) (l : List UInt8) (x : Int) (w : World) (h : Utf.pl r = l) (g : Utf.pe r = x) :
    Calls Try.prog 8 #[.int .i64 r] w fun e w' => e = .returned (.tuple #[.string ⟨l.toArray⟩, .int .i64 x]) ∧ Below w.heap.size w w' := by
  rw [← h, ← g]; exact put_any r w

theorem count_is (l : List UInt8) (n : Int) (w : World) (hs : l.length ≤ maxLen) (h : Utf.cn l = n) :
    Calls Try.prog 18 #[.string ⟨l.toArray⟩] w fun e w' => e = .returned (.int .i64 n) ∧ w = w' := by
  rw [← h]; exact count_any l w hs

theorem valid_is (l : List UInt8) (b : Bool) (w : World) (hs : l.length ≤ maxLen) (h : vd l = b) :
    Calls Try.prog 20 #[.string ⟨l.toArray⟩] w fun e w' => e = .returned (.bool b) ∧ w = w' := by
  rw [← h]; exact valid_any l w hs

/-- Runes, told by its length alone. -/
theorem runes_len (l : List UInt8) (n : Nat) (w : World) (hs : l.length ≤ 8796093022208) (h : (Utf.rs l).length = n) :
    Calls Try.prog 16 #[.string ⟨l.toArray⟩] w fun e w' => ∃ a c, e = .returned (.slice a n c) ∧ Below w.heap.size w w' := by
  refine (runes_any l w hs).mono ?_
  rintro e w' ⟨v, rfl, ho, hb⟩
  obtain ⟨a, c, rfl⟩ := own_slice ho
  rw [h]
  exact ⟨a, c, rfl, hb⟩

set_option maxHeartbeats 1000000 in
theorem awake_any (w : World) :
    Calls Try.prog 12 #[] w fun e w' => e = .returned (.bool true) ∧ Below w.heap.size w w' := by
  go_enter Try.func12, Try.ntmps12
  go_wp2_with fail
  refine (put_is 228 [195, 164] 0 _ (by decide) (by decide)).mono ?_
  rintro e w1 ⟨rfl, hb⟩
  have Hb := Lib.hid hb
  clear hb
  go_wp2_with fail
  refine (next_is [195] 0 0 3 _ (by decide)).mono ?_
  rintro e w' ⟨rfl, rfl⟩
  go_wp2_with fail
  refine (next_is [192, 128] 0 0 7 _ (by decide)).mono ?_
  rintro e w' ⟨rfl, rfl⟩
  go_wp2_with fail
  refine (next_is [226, 130, 172, 120] 8364 3 0 _ (by decide)).mono ?_
  rintro e w' ⟨rfl, rfl⟩
  go_wp2_with fail
  refine (width_is 55296 0 _ (by decide)).mono ?_
  rintro e w' ⟨rfl, rfl⟩
  go_wp2_with fail
  refine (count_is [97, 195, 164] 2 _ (by decide) (by decide)).mono ?_
  rintro e w' ⟨rfl, rfl⟩
  go_wp2_with fail
  refine (valid_is [255] false _ (by decide) (by decide)).mono ?_
  rintro e w' ⟨rfl, rfl⟩
  go_wp2_with fail
  refine (runes_len [97, 98, 255] 2 _ (by decide) (by decide)).mono ?_
  rintro e w2 ⟨a, c, rfl, hb2⟩
  have Hb2 := Lib.hid hb2
  clear hb2
  go_wp2
  go_ret
  exact ⟨rfl, Hb.out.trans (Hb2.out.mono Hb.out.size)⟩

end Go.Proofs.Ytcehhphmmcoaaaa
