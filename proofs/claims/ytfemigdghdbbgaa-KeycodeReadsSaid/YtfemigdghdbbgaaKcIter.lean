/-
  The two iterators of package keycode: what escaped and pieces go over, whatever is done in a round, so long as the text's box is kept. Conditions: the bounds named in each theorem.
-/
import Derived.RangeFuncNested
import Derived.RangeFuncBound
import Derived.RangeFuncCalls
import Derived.RangeFuncLeaves
import Derived.Shelf.Abstract
import Derived.Shelf.RegionOpen
import Derived.WalkKit
import Derived.OwnWalkIn
import Derived.TacticsInMore
import Derived.LoopNIn
import Derived.LoopIn
import Derived.Test.YtfemigdghdbbgaaKcRow
namespace Go.Proofs.Ytfemigdghdbbgaa
open Go.RowKit Go.Shelf
attribute [local go_sem] Oper.semAt_some

/-- A text as a value. -/
abbrev str (l : List UInt8) : Value := .string ⟨l.toArray⟩

/-- What escaped goes over. -/
def pcs (s : List UInt8) : List (List UInt8) := s.map Kc.pc ++ [[0, 0]]

theorem cut_one (s : List UInt8) (k : Nat) (h : k < s.length) : (ByteArray.mk s.toArray).extract k (k + 1) = ⟨[s[k]].toArray⟩ := by
  apply ByteArray.ext
  rw [ByteArray.data_extract]
  simp
  rw [List.drop_eq_getElem_cons h]
  rfl

theorem pcs_step (s : List UInt8) (k : Nat) (h : k < s.length) : (s.take (k + 1)).map Kc.pc = (s.take k).map Kc.pc ++ [Kc.pc s[k]] := by
  rw [List.take_succ_eq_append_getElem h, List.map_append]; rfl

theorem pcs_pre (s : List UInt8) (k : Nat) (h : k < s.length) : (s.take k).map Kc.pc ++ [Kc.pc s[k]] <+: pcs s := by
  rw [← pcs_step s k h]
  refine ⟨(s.drop (k + 1)).map Kc.pc ++ [[0, 0]], ?_⟩
  unfold pcs
  rw [← List.append_assoc, ← List.map_append, List.take_append_drop]

set_option maxRecDepth 100000 in
set_option maxHeartbeats 1000000 in
theorem esc1_in (n l Bn : Nat) (hn : 1 ≤ n) (s : List UInt8) (J Jx : List (List UInt8) → World → Prop) (hs : s.length ≤ 1000000)
    (hY : ∀ pre x W, x.length ≤ 2 → J pre W → pre.length < s.length + 1 → YieldAt Fence.wide (n - 1) Try.prog l #[str x] W fun e W' =>
      (e = .returned (.bool true) ∧ J (pre ++ [x]) W' ∧ (Boxed W Bn 9 (str s) → Boxed W' Bn 9 (str s))) ∨ (e = .returned (.bool false) ∧ Jx (pre ++ [x]) W'))
    (W : World) (hB : Boxed W Bn 9 (str s)) (h0 : J [] W) :
    CallsIn Fence.wide n Try.prog 62 #[.func (.yield l) #[] #[], .pointer (some ⟨Bn, 0, none⟩)] W fun e W' => (∃ v, e = .returned v) ∧
      ((∃ ys, ys = pcs s ∧ J ys W') ∨ (∃ pre, pre <+: pcs s ∧ Jx pre W')) := by
  refine callsIn_of_wp Try.func62 rfl trivial ?_ rfl
  simp only [Try.ntmps62, List.size_toArray, List.length_cons, List.length_nil, Nat.reduceAdd, Nat.reduceSub, Array.replicate_succ, Array.replicate_zero, List.push_toArray, List.append_toArray, List.nil_append, List.cons_append]
  have hc := hB.cell
  have HS := Lib.hid hs
  clear hs
  gi_wp2
  gi_loopw [7] (fun i wr => ∃ k : Nat, i = .int .i64 k ∧ k ≤ s.length ∧ J ((s.take k).map Kc.pc) wr ∧ Boxed wr Bn 9 (str s)) (fun i _ => s.length - (intOf i).toNat)
  case atStart => exact ⟨0, rfl, Nat.zero_le _, by simpa using h0, hB⟩
  case round =>
    obtain ⟨k, rfl, hk, hJ, hB⟩ := hrel
    have HJ := Lib.hid (And.intro hJ hB)
    have hc := hB.cell
    clear hJ hB
    by_cases hlt : k < s.length
    · obtain ⟨fn, tmps, assign, body, hy, hR⟩ := hY _ (Kc.pc s[k]) wr (Kc.pc_len _) HJ.out.1 (by simp; omega)
      have E := cut_one s k hlt
      have hw : wrap64 ((k : Int) + 1) = (k : Int) + 1 := by have := HS.out; exact wrap_in _ (by omega) (by omega)
      have ht : ((k : Int) + 1).toNat = k + 1 := by omega
      by_cases hz : s[k] = 0
      · rw [hz] at E
        have hp : Kc.pc s[k] = [0, 255] := by rw [hz]; rfl
        have HP := Lib.hid hp
        rw [hp] at hy
        clear hp
        gi_wp2
        refine hR.mono ?_
        rintro e W3 (⟨rfl, hJ3, hk3⟩ | ⟨rfl, hJx3⟩)
        · have H3 := Lib.hid (And.intro hJ3 (hk3 HJ.out.2))
          clear hJ3 hk3
          gi_wp2
          go_roundw
          case rel => exact ⟨k + 1, by go_num, hlt, by rw [pcs_step s k hlt]; exact H3.out.1, H3.out.2⟩
          case measure => rw [hw]; simp [intOf]; omega
        · gi_wp2
          refine bodyPost_ret (results_none rfl _ _ _) rfl ?_
          exact ⟨⟨_, rfl⟩, .inr ⟨_, pcs_pre s k hlt, hJx3⟩⟩
      · have hp : Kc.pc s[k] = [s[k]] := Kc.pc_n hz
        have hz1 : (s[k] == 0) = false := by simpa using hz
        have HP := Lib.hid hp
        rw [hp] at hy
        clear hp
        gi_wp2
        refine hR.mono ?_
        rintro e W3 (⟨rfl, hJ3, hk3⟩ | ⟨rfl, hJx3⟩)
        · have H3 := Lib.hid (And.intro hJ3 (hk3 HJ.out.2))
          clear hJ3 hk3
          gi_wp2
          go_roundw
          case rel => exact ⟨k + 1, by go_num, hlt, by rw [pcs_step s k hlt]; exact H3.out.1, H3.out.2⟩
          case measure => rw [hw]; simp [intOf]; omega
        · gi_wp2
          refine bodyPost_ret (results_none rfl _ _ _) rfl ?_
          exact ⟨⟨_, rfl⟩, .inr ⟨_, pcs_pre s k hlt, hJx3⟩⟩
    · obtain rfl : k = s.length := by omega
      obtain ⟨fn, tmps, assign, body, hy, hR⟩ := hY _ [0, 0] wr (by decide) HJ.out.1 (by simp)
      gi_wp2
      refine hR.mono ?_
      rintro e W3 (⟨rfl, hJ3, hk3⟩ | ⟨rfl, hJx3⟩)
      · gi_wp2
        go_end0
        exact ⟨⟨_, rfl⟩, .inl ⟨_, by rw [List.take_length]; rfl, hJ3⟩⟩
      · gi_wp2
        go_end0
        exact ⟨⟨_, rfl⟩, .inr ⟨_, by rw [List.take_length]; exact List.prefix_refl _, hJx3⟩⟩

/-- A piece of two bytes at most. -/
abbrev Sm : Type := { x : List UInt8 // x.length ≤ 2 }

/-- What escaped hands back. -/
theorem esc_stops (n Bn : Nat) (hn : 1 ≤ n) (s : List UInt8) (hs : s.length ≤ 1000000) (w : World) (hB : Boxed w Bn 9 (str s)) :
    SeqStopsK Fence.wide n Try.prog 62 #[.pointer (some ⟨Bn, 0, none⟩)] (fun x : Sm => #[str x.1]) (fun W W' => Boxed W Bn 9 (str s) → Boxed W' Bn 9 (str s))
      (fun xs => xs.map (·.1) = pcs s) (fun pre => pre.map (·.1) <+: pcs s) (s.length + 1) w := by
  intro l J Jx W hW _ _ hY h0
  refine (esc1_in n l Bn hn s (fun pre W => ∃ p : List Sm, p.map (·.1) = pre ∧ J p W) (fun pre W => ∃ p : List Sm, p.map (·.1) = pre ∧ Jx p W) hs ?_ W ((hW.block Bn hB.lt).trans hB) ⟨[], rfl, h0⟩).mono ?_
  · rintro pre x W hx ⟨p, rfl, hJ⟩ hlen
    obtain ⟨fn, tmps, assign, body, hy, hR⟩ := hY p ⟨x, hx⟩ W hJ (by simpa using hlen)
    refine ⟨fn, tmps, assign, body, hy, hR.mono ?_⟩
    rintro e W' (⟨rfl, hJ', hk⟩ | ⟨rfl, hJx⟩)
    · exact .inl ⟨rfl, ⟨p ++ [⟨x, hx⟩], by simp, hJ'⟩, hk⟩
    · exact .inr ⟨rfl, p ++ [⟨x, hx⟩], by simp, hJx⟩
  · rintro e W' ⟨he, h⟩
    refine ⟨he, ?_⟩
    rcases h with ⟨ys, rfl, p, hp, hJ⟩ | ⟨pre, hpre, p, rfl, hJ⟩
    · exact .inl ⟨p, hp, hJ⟩
    · exact .inr ⟨p, hpre, hJ⟩

theorem escaped_is (s : List UInt8) (w : World) :
    Calls Try.prog 49 #[str s] w fun e w' => e = .returned (.func (.func 62) #[] #[.pointer (some ⟨w.heap.size, 0, none⟩)]) ∧ w' = w.alloc (.cells #[str s] 9) := by
  go_enter Try.func49, Try.ntmps49
  go_wp2
  go_ret
  exact ⟨rfl, rfl⟩
theorem pieces_is (s : List UInt8) (w : World) :
    Calls Try.prog 66 #[str s] w fun e w' => e = .returned (.func (.func 73) #[] #[.pointer (some ⟨w.heap.size, 0, none⟩)]) ∧ w' = w.alloc (.cells #[str s] 9) := by
  go_enter Try.func66, Try.ntmps66
  go_wp2
  go_ret
  exact ⟨rfl, rfl⟩

end Go.Proofs.Ytfemigdghdbbgaa
