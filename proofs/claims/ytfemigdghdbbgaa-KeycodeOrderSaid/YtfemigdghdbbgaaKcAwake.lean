/-
  What awake answers. No condition.
-/
import Derived.Test.YtfemigdghdbbgaaKcReadRow
import Derived.Test.YtfemigdghdbbgaaKcAfter
namespace Go.Proofs.Ytfemigdghdbbgaa
open Go.RowKit

theorem kput_x (k n b : Int) (s T : List UInt8) (w : World) (hU : Rl.U b) (hn : -9223372036854775808 ≤ n ∧ n < 9223372036854775808) (h : Vl.ck k n b s = 0) (hT : pt k n b s = T) :
    Calls Try.prog 12 #[.agg #[.int .i64 k, .int .i64 n, .int .u64 b, .string ⟨s.toArray⟩]] w fun e w' => e = .returned (.tuple #[.string ⟨T.toArray⟩, .int .i64 0]) ∧ Below w.heap.size w w' := by
  subst hT; exact kput_ok k n b s w hU hn h
theorem after_x (s T : List UInt8) (w : World) (hs : s.length ≤ 1000000) (h : Kc.af s = T) :
    Calls Try.prog 20 #[.string ⟨s.toArray⟩] w fun e w' => e = .returned (.string ⟨T.toArray⟩) ∧ Below w.heap.size w w' := by
  subst h; exact after_is s w hs
theorem readRow_x (l : List UInt8) (xs : List V) (e : Int) (w : World) (hl : l.length ≤ 1000000) (h : ra l = (xs, e)) :
    Calls Try.prog 16 #[.string ⟨l.toArray⟩] w fun x w' => ∃ ao cap, x = .returned (.tuple #[.slice ao xs.length cap, .int .i64 e]) ∧ Sl w' ao xs ∧ Below w.heap.size w w' := by
  have := kreadRow_is l w hl
  rw [h] at this
  refine this.mono ?_
  rintro x w' ⟨v, rfl, hO, hb⟩
  obtain ⟨ao, cap, rfl, hs⟩ := hO.sl
  exact ⟨ao, cap, rfl, hs, hb⟩
theorem rreadRow_x (l : List UInt8) (xs : List V) (e : Int) (w : World) (hl : l.length ≤ 1000000) (h : ra l = (xs, e)) :
    Calls Try.prog 17 #[.string ⟨l.toArray⟩] w fun x w' => ∃ ao cap, x = .returned (.tuple #[.slice ao xs.length cap, .int .i64 e]) ∧ Sl w' ao xs ∧ Below w.heap.size w w' := by
  have := rreadRow_is l w hl
  rw [h] at this
  refine this.mono ?_
  rintro x w' ⟨v, rfl, hO, hb⟩
  obtain ⟨ao, cap, rfl, hs⟩ := hO.sl
  exact ⟨ao, cap, rfl, hs, hb⟩

theorem ra_ab : ra [2, 127, 255, 255, 255, 255, 255, 255, 255, 2, 128, 0, 0, 0, 0, 0, 0, 0] = ([⟨2, -1, 0, []⟩, ⟨2, 0, 0, []⟩], 0) := by kernel_rfl

set_option maxHeartbeats 2000000 in
theorem awake_any (w : World) :
    Calls Try.prog 9 #[] w fun e w' => e = .returned (.bool true) ∧ Below w.heap.size w w' := by
  go_enter Try.func9, Try.ntmps9
  go_wp2_with fail
  refine (kput_x 4 0 0 [0, 1] [4, 0, 255, 1, 0, 0] _ ⟨by decide, by decide⟩ (by decide) (by decide) (by decide)).mono ?_
  rintro e w1 ⟨rfl, hb⟩
  have A1 := Lib.hid hb
  clear hb
  go_wp2_with fail
  refine (kput_x 2 (-1) 0 [] [2, 127, 255, 255, 255, 255, 255, 255, 255] _ ⟨by decide, by decide⟩ (by decide) (by decide) (by decide)).mono ?_
  rintro e w2 ⟨rfl, hb⟩
  have A2 := Lib.hid (step0 A1.out hb)
  clear hb
  go_wp2_with fail
  refine (kput_x 2 0 0 [] [2, 128, 0, 0, 0, 0, 0, 0, 0] _ ⟨by decide, by decide⟩ (by decide) (by decide) (by decide)).mono ?_
  rintro e w3 ⟨rfl, hb⟩
  have A3 := Lib.hid (step0 A2.out hb)
  clear hb
  have cat : ByteArray.mk [4, 0, 255, 1, 0, 0].toArray ++ ⟨[122].toArray⟩ = ⟨[4, 0, 255, 1, 0, 0, 122].toArray⟩ := cat_list _ _
  have cat2 : ByteArray.mk [2, 127, 255, 255, 255, 255, 255, 255, 255].toArray ++ ⟨[2, 128, 0, 0, 0, 0, 0, 0, 0].toArray⟩ = ⟨[2, 127, 255, 255, 255, 255, 255, 255, 255, 2, 128, 0, 0, 0, 0, 0, 0, 0].toArray⟩ := cat_list _ _
  go_wp2_with fail
  refine (rdv [4, 0, 255, 1, 0, 0, 122] 4 0 0 0 [0, 1] [122] _ (by decide) rfl).mono ?_
  rintro e w4 ⟨rfl, hb⟩
  have A4 := Lib.hid (step0 A3.out hb)
  clear hb
  go_wp2_with fail
  refine (rdv [4, 97, 0] 0 0 0 3 [] [] _ (by decide) rfl).mono ?_
  rintro e w5 ⟨rfl, hb⟩
  have A5 := Lib.hid (step1 A4.out hb)
  have C5 := Lib.hid ((boxes_1 hb).2.2.2.2)
  clear hb
  go_wp2_with fail
  refine (rdv [5, 255, 0, 0] 0 0 0 4 [] [] _ (by decide) rfl).mono ?_
  rintro e w6 ⟨rfl, hb⟩
  have A6 := Lib.hid (step1 A5.out hb)
  have C6 := Lib.hid (keep1 C5.out hb)
  clear hb C5
  go_wp2_with fail
  refine (readRow_x [2, 127, 255, 255, 255, 255, 255, 255, 255, 2, 128, 0, 0, 0, 0, 0, 0, 0] [⟨2, -1, 0, []⟩, ⟨2, 0, 0, []⟩] 0 _ (by decide) ra_ab).mono ?_
  rintro e w7 ⟨ao, cap, rfl, _, hb⟩
  have A7 := Lib.hid (step1 A6.out hb)
  have c7 := keep1 C6.out hb
  clear hb C6
  go_wp2_with fail
  refine (after_x [1, 255] [2] _ (by decide) (by decide)).mono ?_
  rintro e w8 ⟨rfl, hb⟩
  have A8 := Lib.hid (step0 A7.out hb)
  clear hb
  go_wp2
  go_ret
  exact ⟨rfl, A8.out⟩

end Go.Proofs.Ytfemigdghdbbgaa
