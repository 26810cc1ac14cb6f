/-
  What pieces goes over, whatever is done in a round, so long as the text's box is kept. Conditions: the bounds named in each theorem.
-/
import Derived.Test.YtfemigdghdbbgaaKcIter
import Derived.Test.YtfemigdghdbbgaaKcRange
import Derived.Test.YtfemigdghdbbgaaUtfCount
namespace Go.Proofs.Ytfemigdghdbbgaa
open Go.RowKit Go.Shelf
attribute [local go_sem] Oper.semAt_some

/-- A piece: a byte, and maybe one behind it. -/
abbrev Pc : Type := UInt8 × Option UInt8
def Pc.l (x : Pc) : List UInt8 := x.1 :: x.2.toList
/-- What pieces goes over. -/
def ps : List UInt8 → List Pc
  | [] => []
  | [x] => [(x, none)]
  | x :: y :: l => if x = 0 then (0, some y) :: ps l else (x, none) :: ps (y :: l)
theorem ps_n {x : UInt8} (l : List UInt8) (h : x ≠ 0) : ps (x :: l) = (x, none) :: ps l := by
  cases l with
  | nil => rfl
  | cons y l => rw [ps, if_neg h]
theorem ps_0 (y : UInt8) (l : List UInt8) : ps (0 :: y :: l) = (0, some y) :: ps l := by rw [ps, if_pos rfl]
theorem ps_len : ∀ (l : List UInt8), (ps l).length ≤ l.length
  | [] => Nat.le_refl _
  | [_] => Nat.le_refl _
  | x :: y :: l => by
    have h1 := ps_len l
    have h2 := ps_len (y :: l)
    by_cases h : x = 0
    · subst h; rw [ps_0]; simp; omega
    · rw [ps_n _ h]; simp at *; omega

theorem ps_at_n (m : List UInt8) (h : 0 < m.length) (hz : m[0] ≠ 0) : ps m = (m[0], none) :: ps m.tail := by
  match m, h, hz with
  | x :: t, _, hz => exact ps_n t hz
theorem ps_at_1 (m : List UInt8) (h : 0 < m.length) (hz : m[0] = 0) (h1 : ¬ 1 < m.length) : ps m = (0, none) :: ps m.tail := by
  match m, h, hz, h1 with
  | [x], _, hz, _ => obtain rfl : x = 0 := hz; rfl
  | x :: y :: t, _, _, h1 => exact absurd (by simp) h1
theorem ps_at_2 (m : List UInt8) (h : 1 < m.length) (hz : m[0] = 0) : ps m = ((0 : UInt8), some m[1]) :: ps (m.drop 2) := by
  match m, h, hz with
  | x :: y :: t, _, hz => obtain rfl : x = 0 := hz; exact ps_0 y t

theorem cut_two (m : List UInt8) (h : 1 < m.length) : (ByteArray.mk m.toArray).extract 0 2 = ⟨[m[0], m[1]].toArray⟩ := by
  match m, h with
  | x :: y :: l, _ => apply ByteArray.ext; rw [ByteArray.data_extract]; simp

set_option maxRecDepth 100000 in
set_option maxHeartbeats 1000000 in
theorem pieces1_in (n l Bn : Nat) (hn : 1 ≤ n) (s : List UInt8) (J Jx : List Pc → World → Prop) (hs : s.length ≤ 1000000)
    (hY : ∀ pre x W, pre ++ [x] <+: ps s → J pre W → YieldAt Fence.wide (n - 1) Try.prog l #[str (Pc.l x)] W fun e W' =>
      (e = .returned (.bool true) ∧ J (pre ++ [x]) W') ∨ (e = .returned (.bool false) ∧ Jx (pre ++ [x]) W'))
    (W : World) (hB : Boxed W Bn 9 (str s)) (h0 : J [] W) :
    CallsIn Fence.wide n Try.prog 73 #[.func (.yield l) #[] #[], .pointer (some ⟨Bn, 0, none⟩)] W fun e W' => (∃ v, e = .returned v) ∧
      ((∃ ys, ys = ps s ∧ J ys W') ∨ (∃ pre, pre <+: ps s ∧ Jx pre W')) := by
  refine callsIn_of_wp Try.func73 rfl trivial ?_ rfl
  simp only [Try.ntmps73, List.size_toArray, List.length_cons, List.length_nil, Nat.reduceAdd, Nat.reduceSub, Array.replicate_succ, Array.replicate_zero, List.push_toArray, List.append_toArray, List.nil_append, List.cons_append]
  have hc := hB.cell
  have HS := Lib.hid hs
  clear hs hB
  gi_wp2
  gi_loopw [3] (fun r wr => ∃ (m : List UInt8) (pre : List Pc), r = str m ∧ pre ++ ps m = ps s ∧ m.length ≤ 1000000 ∧ J pre wr) (fun r _ => slen r)
  case atStart => exact ⟨s, [], rfl, rfl, HS.out, h0⟩
  case round =>
    obtain ⟨m, pre, rfl, hps, hm, hJ⟩ := hrel
    have HJ := Lib.hid (And.intro hJ (And.intro hps hm))
    clear hJ hps hm hc HS
    by_cases hne : 0 < m.length
    · have hsz : 0 < (ByteArray.mk m.toArray).size := hne
      have hba : (ByteArray.mk m.toArray)[0] = m[0] := byte_at m 0 hne
      have hnn : ¬ m = [] := fun e => by subst e; exact absurd hne (by decide)
      have hie : m.isEmpty = false := by cases m with | nil => exact absurd rfl hnn | cons _ _ => rfl
      have e1 := cut_one m 0 hne
      have e3 := cut_from m 1
      by_cases hz : m[0] = 0
      · have hz1 : ((m[0].toNat : Int) == 0) = true := by rw [hz]; rfl
        have hz2 : (m[0].toNat : Int) = 0 := by rw [hz]; rfl
        by_cases h1 : 1 < m.length
        · have e2 := cut_two m h1
          have e4 := cut_from m 2
          have hl1 : decide ((1 : Int) < (m.length : Int)) = true := by rw [decide_eq_true_iff]; omega
          have hl2 : (1 : Int) < (m.length : Int) := by omega
          have hl3 : (2 : Int) ≤ (m.length : Int) := by omega
          have hpm := ps_at_2 m h1 hz
          obtain ⟨fn, tmps, assign, body, hy, hR⟩ := hY pre (0, some m[1]) wr ⟨_, by rw [← HJ.out.2.1, hpm]; exact List.append_cons _ _ _ |>.symm⟩ HJ.out.1
          have HP := Lib.hid hpm
          clear hpm
          dsimp only [Pc.l, Option.toList] at hy
          gi_wp2
          refine hR.mono ?_
          rintro e W3 (⟨rfl, hJ3⟩ | ⟨rfl, hJx3⟩)
          · gi_wp2
            go_roundw
            case rel => exact ⟨m.drop 2, _, rfl, by rw [← HJ.out.2.1, HP.out]; simp, by have := HJ.out.2.2; simp; omega, hJ3⟩
            case measure => simp [slen, ByteArray.size]; omega
          · gi_wp2
            refine bodyPost_ret (results_none rfl _ _ _) rfl ?_
            exact ⟨⟨_, rfl⟩, .inr ⟨_, ⟨ps (m.drop 2), by rw [← HJ.out.2.1, HP.out]; simp⟩, hJx3⟩⟩
        · have hl1 : decide ((1 : Int) < (m.length : Int)) = false := by rw [decide_eq_false_iff_not]; omega
          have hpm := ps_at_1 m hne hz h1
          obtain ⟨fn, tmps, assign, body, hy, hR⟩ := hY pre (0, none) wr ⟨_, by rw [← HJ.out.2.1, hpm]; exact List.append_cons _ _ _ |>.symm⟩ HJ.out.1
          have HP := Lib.hid hpm
          clear hpm
          dsimp only [Pc.l, Option.toList] at hy
          gi_wp2
          refine hR.mono ?_
          rintro e W3 (⟨rfl, hJ3⟩ | ⟨rfl, hJx3⟩)
          · gi_wp2
            go_roundw
            case rel => exact ⟨m.tail, _, rfl, by rw [← HJ.out.2.1, HP.out]; simp, by have := HJ.out.2.2; simp; omega, hJ3⟩
            case measure => simp [slen, ByteArray.size]; omega
          · gi_wp2
            refine bodyPost_ret (results_none rfl _ _ _) rfl ?_
            exact ⟨⟨_, rfl⟩, .inr ⟨_, ⟨ps (m.tail), by rw [← HJ.out.2.1, HP.out]; simp⟩, hJx3⟩⟩
      · have hz1 : ((m[0].toNat : Int) == 0) = false := beq_f (fun e => hz (UInt8.toNat_inj.1 (by show m[0].toNat = 0; omega)))
        have hpm := ps_at_n m hne hz
        obtain ⟨fn, tmps, assign, body, hy, hR⟩ := hY pre (m[0], none) wr ⟨_, by rw [← HJ.out.2.1, hpm]; exact List.append_cons _ _ _ |>.symm⟩ HJ.out.1
        have HP := Lib.hid hpm
        clear hpm
        dsimp only [Pc.l, Option.toList] at hy
        gi_wp2
        refine hR.mono ?_
        rintro e W3 (⟨rfl, hJ3⟩ | ⟨rfl, hJx3⟩)
        · gi_wp2
          go_roundw
          case rel => exact ⟨m.tail, _, rfl, by rw [← HJ.out.2.1, HP.out]; simp, by have := HJ.out.2.2; simp; omega, hJ3⟩
          case measure => simp [slen, ByteArray.size]; omega
        · gi_wp2
          refine bodyPost_ret (results_none rfl _ _ _) rfl ?_
          exact ⟨⟨_, rfl⟩, .inr ⟨_, ⟨ps (m.tail), by rw [← HJ.out.2.1, HP.out]; simp⟩, hJx3⟩⟩
    · obtain rfl : m = [] := List.eq_nil_of_length_eq_zero (by omega)
      gi_wp2
      go_end0
      exact ⟨⟨_, rfl⟩, .inl ⟨pre, by have := HJ.out.2.1; simpa [ps] using this, HJ.out.1⟩⟩

/-- What pieces hands back. -/
theorem pieces_go (n Bn : Nat) (hn : 1 ≤ n) (s : List UInt8) (hs : s.length ≤ 1000000) (w : World) (hB : Boxed w Bn 9 (str s)) :
    Goes n Try.prog 73 #[.pointer (some ⟨Bn, 0, none⟩)] (fun x : Pc => #[str (Pc.l x)]) (fun pre x => pre ++ [x] <+: ps s) (fun xs => xs = ps s) (fun pre => pre <+: ps s) w :=
  fun l J Jx W hW hY h0 => pieces1_in n l Bn hn s J Jx hs hY W ((hW.block Bn hB.lt).trans hB) h0

end Go.Proofs.Ytfemigdghdbbgaa
