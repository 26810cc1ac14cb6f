/-
 The two iterators of package keycode: what escaped and pieces go over, whatever is done in a round, so long as the text's box is kept. Conditions: the bounds named in each theorem.
 A range over a function whose rounds know what may come next: a loop that goes on or returns. No condition of the program's.
 What pieces goes over, whatever is done in a round, so long as the text's box is kept. Conditions: the bounds named in each theorem.
-/
import Derived.RangeFuncNested
import Derived.RangeFuncBound
import Derived.RangeFuncCalls
import Derived.RangeFuncLeaves
import Derived.Shelf.Abstract
import Derived.Shelf.RegionOpen
import Derived.WalkKit
import Derived.OwnWalkIn
import Derived.TacticsInMore
import Derived.LoopNIn
import Derived.LoopIn
import Derived.Test.YtmgdciihpjifgaaGreatDoorQrKcPutNum
import Derived.Test.YtmgdciihpjifgaaGreatDoorQrUtfCount
set_option maxHeartbeats 1000000
namespace Go.Proofs.YtmgdciihpjifgaaGreatDoor
open Go.RowKit Go.Shelf
attribute [local go_sem] Oper.semAt_some
abbrev str (l : List UInt8) : Value := .string ⟨l.toArray⟩
def pcs (s : List UInt8) : List (List UInt8) := s.map Kc.pc ++ [[0, 0]]
theorem cut_one (s : List UInt8) (k : Nat) (h : k < s.length) : (ByteArray.mk s.toArray).extract k (k + 1) = ⟨[s[k]].toArray⟩ := by
 apply ByteArray.ext
 rw [ByteArray.data_extract]
 simp
 rw [List.drop_eq_getElem_cons h]
 rfl
theorem pcs_step (s : List UInt8) (k : Nat) (h : k < s.length) : (s.take (k + 1)).map Kc.pc = (s.take k).map Kc.pc ++ [Kc.pc s[k]] := by
 rw [List.take_succ_eq_append_getElem h, List.map_append]; rfl
theorem pcs_pre (s : List UInt8) (k : Nat) (h : k < s.length) : (s.take k).map Kc.pc ++ [Kc.pc s[k]] <+: pcs s := by
 rw [← pcs_step s k h]
 refine ⟨(s.drop (k + 1)).map Kc.pc ++ [[0, 0]], ?_⟩
 unfold pcs
 rw [← List.append_assoc, ← List.map_append, List.take_append_drop]
set_option maxRecDepth 100000 in
theorem esc1_in (n l Bn : Nat) (hn : 1 ≤ n) (s : List UInt8) (J Jx : List (List UInt8) → World → Prop) (hs : s.length ≤ 1000000)
  (hY : ∀ pre x W, x.length ≤ 2 → J pre W → pre.length < s.length + 1 → YieldAt Fence.wide (n - 1) Tryz.prog l #[str x] W fun e W' =>
   (e = .returned (.bool true) ∧ J (pre ++ [x]) W' ∧ (Boxed W Bn 9 (str s) → Boxed W' Bn 9 (str s))) ∨ (e = .returned (.bool false) ∧ Jx (pre ++ [x]) W'))
  (W : World) (hB : Boxed W Bn 9 (str s)) (h0 : J [] W) :
  CallsIn Fence.wide n Tryz.prog 159 #[.func (.yield l) #[] #[], .pointer (some ⟨Bn, 0, none⟩)] W fun e W' => (∃ v, e = .returned v) ∧
   ((∃ ys, ys = pcs s ∧ J ys W') ∨ (∃ pre, pre <+: pcs s ∧ Jx pre W')) := by
 refine callsIn_of_wp Tryz.func159 rfl trivial ?_ rfl
 simp only [Tryz.ntmps159, List.size_toArray, List.length_cons, List.length_nil, Nat.reduceAdd, Nat.reduceSub, Array.replicate_succ, Array.replicate_zero, List.push_toArray, List.append_toArray, List.nil_append, List.cons_append]
 have hc := hB.cell
 have HS := zh hs
 clear hs
 gi_wp2
 gi_loopw [7] (fun i wr => ∃ k : Nat, i = .int .i64 k ∧ k ≤ s.length ∧ J ((s.take k).map Kc.pc) wr ∧ Boxed wr Bn 9 (str s)) (fun i _ => s.length - (intOf i).toNat)
 case atStart => exact ⟨0, rfl, Nat.zero_le _, by simpa using h0, hB⟩
 case round =>
  obtain ⟨k, rfl, hk, hJ, hB⟩ := hrel
  have HJ := zh (za hJ hB)
  have hc := hB.cell
  clear hJ hB
  by_cases hlt : k < s.length
  ·obtain ⟨fn, tmps, assign, body, hy, hR⟩ := hY _ (Kc.pc s[k]) wr (Kc.pc_len _) HJ.out.1 (by simp; omega)
   have E := cut_one s k hlt
   have hw : wrap64 ((k : Int) + 1) = (k : Int) + 1 := by have := HS.out; exact wrap_in _ (by omega) (by omega)
   have ht : ((k : Int) + 1).toNat = k + 1 := by omega
   by_cases hz : s[k] = 0
   ·rw [hz] at E
    have hp : Kc.pc s[k] = [0, 255] := by rw [hz]; rfl
    have HP := zh hp
    rw [hp] at hy
    clear hp
    gi_wp2
    refine hR.mono ?_
    rintro e W3 (⟨rfl, hJ3, hk3⟩ | ⟨rfl, hJx3⟩)
    ·have H3 := zh (za hJ3 (hk3 HJ.out.2))
     clear hJ3 hk3
     gi_wp2
     go_roundw
     case rel => exact ⟨k + 1, by go_num, hlt, by rw [pcs_step s k hlt]; exact H3.out.1, H3.out.2⟩
     case measure => rw [hw]; simp [intOf]; omega
    ·gi_wp2
     refine bodyPost_ret (results_none rfl _ _ _) rfl ?_
     exact ⟨⟨_, rfl⟩, .inr ⟨_, pcs_pre s k hlt, hJx3⟩⟩
   ·have hp : Kc.pc s[k] = [s[k]] := Kc.pc_n hz
    have hz1 : (s[k] == 0) = false := by simpa using hz
    have HP := zh hp
    rw [hp] at hy
    clear hp
    gi_wp2
    refine hR.mono ?_
    rintro e W3 (⟨rfl, hJ3, hk3⟩ | ⟨rfl, hJx3⟩)
    ·have H3 := zh (za hJ3 (hk3 HJ.out.2))
     clear hJ3 hk3
     gi_wp2
     go_roundw
     case rel => exact ⟨k + 1, by go_num, hlt, by rw [pcs_step s k hlt]; exact H3.out.1, H3.out.2⟩
     case measure => rw [hw]; simp [intOf]; omega
    ·gi_wp2
     refine bodyPost_ret (results_none rfl _ _ _) rfl ?_
     exact ⟨⟨_, rfl⟩, .inr ⟨_, pcs_pre s k hlt, hJx3⟩⟩
  ·obtain rfl : k = s.length := by omega
   obtain ⟨fn, tmps, assign, body, hy, hR⟩ := hY _ [0, 0] wr (by decide) HJ.out.1 (by simp)
   gi_wp2
   refine hR.mono ?_
   rintro e W3 (⟨rfl, hJ3, hk3⟩ | ⟨rfl, hJx3⟩)
   ·gi_wp2
    go_end0
    exact ⟨⟨_, rfl⟩, .inl ⟨_, by rw [List.take_length]; rfl, hJ3⟩⟩
   ·gi_wp2
    go_end0
    exact ⟨⟨_, rfl⟩, .inr ⟨_, by rw [List.take_length]; exact List.prefix_refl _, hJx3⟩⟩
abbrev Sm : Type := { x : List UInt8 // x.length ≤ 2 }
theorem esc_stops (n Bn : Nat) (hn : 1 ≤ n) (s : List UInt8) (hs : s.length ≤ 1000000) (w : World) (hB : Boxed w Bn 9 (str s)) :
  SeqStopsK Fence.wide n Tryz.prog 159 #[.pointer (some ⟨Bn, 0, none⟩)] (fun x : Sm => #[str x.1]) (fun W W' => Boxed W Bn 9 (str s) → Boxed W' Bn 9 (str s))
   (fun xs => xs.map (·.1) = pcs s) (fun pre => pre.map (·.1) <+: pcs s) (s.length + 1) w := by
 intro l J Jx W hW _ _ hY h0
 refine (esc1_in n l Bn hn s (fun pre W => ∃ p : List Sm, p.map (·.1) = pre ∧ J p W) (fun pre W => ∃ p : List Sm, p.map (·.1) = pre ∧ Jx p W) hs ?_ W ((hW.block Bn hB.lt).trans hB) ⟨[], rfl, h0⟩).mono ?_
 ·rintro pre x W hx ⟨p, rfl, hJ⟩ hlen
  obtain ⟨fn, tmps, assign, body, hy, hR⟩ := hY p ⟨x, hx⟩ W hJ (by simpa using hlen)
  refine ⟨fn, tmps, assign, body, hy, hR.mono ?_⟩
  rintro e W' (⟨rfl, hJ', hk⟩ | ⟨rfl, hJx⟩)
  ·exact .inl ⟨rfl, ⟨p ++ [⟨x, hx⟩], by simp, hJ'⟩, hk⟩
  ·exact .inr ⟨rfl, p ++ [⟨x, hx⟩], by simp, hJx⟩
 ·rintro e W' ⟨he, h⟩
  refine ⟨he, ?_⟩
  rcases h with ⟨ys, rfl, p, hp, hJ⟩ | ⟨pre, hpre, p, rfl, hJ⟩
  ·exact .inl ⟨p, hp, hJ⟩
  ·exact .inr ⟨p, hpre, hJ⟩
theorem escaped_is (s : List UInt8) (w : World) :
  Calls Tryz.prog 149 #[str s] w fun e w' => e = .returned (.func (.func 159) #[] #[.pointer (some ⟨w.heap.size, 0, none⟩)]) ∧ w' = w.alloc (.cells #[str s] 9) := by
 go_enter Tryz.func149, Tryz.ntmps149
 go_wp2
 go_ret
 exact ⟨rfl, rfl⟩
theorem pieces_is (s : List UInt8) (w : World) :
  Calls Tryz.prog 164 #[str s] w fun e w' => e = .returned (.func (.func 165) #[] #[.pointer (some ⟨w.heap.size, 0, none⟩)]) ∧ w' = w.alloc (.cells #[str s] 9) := by
 go_enter Tryz.func164, Tryz.ntmps164
 go_wp2
 go_ret
 exact ⟨rfl, rfl⟩
end Go.Proofs.YtmgdciihpjifgaaGreatDoor
namespace Go.Proofs.YtmgdciihpjifgaaGreatDoor
open Go.RowKit Go.Shelf
def Left {α : Type} (B : Nat) (I Ir : List α → World → Prop) (xs : List α) (W : World) : Exit → Act → World → Prop
 | .normal, _, W' => KeepsFrom B W W' ∧ I xs W'
 | .ret, _, W' => KeepsFrom B W W' ∧ Ir xs W'
 | _, _, _ => False
def Goes {α : Type} (n : Nat) (P : Program) (g : Nat) (lb : Array Value) (encs : α → Array Value) (Nx : List α → α → Prop) (S Sp : List α → Prop) (w : World) : Prop :=
 ∀ (l : Nat) (J Jx : List α → World → Prop) (W : World), Below w.heap.size w W →
  (∀ pre x V, Nx pre x → J pre V → YieldAt Fence.wide (n - 1) P l (encs x) V fun e V' => (e = .returned (.bool true) ∧ J (pre ++ [x]) V') ∨ (e = .returned (.bool false) ∧ Jx (pre ++ [x]) V')) →
  J [] W →
  CallsIn Fence.wide n P g (#[.func (.yield l) #[] #[]] ++ lb) W fun e W' => (∃ v, e = .returned v) ∧ ((∃ xs, S xs ∧ J xs W') ∨ (∃ pre, Sp pre ∧ Jx pre W'))
theorem range_known {α : Type} {n : Nat} {P : Program} {g : Operand} {ps : Array Tmp} {assign body : Code} {Q : Exit → Act → World → Prop} {a : Act} {w : World} {gf : Nat} {lb : Array Value} {encs : α → Array Value}
  {Nx : List α → α → Prop} {S Sp : List α → Prop} (h1 : 1 ≤ n) (hg : a.eval g = .func (.func gf) #[] lb) (eg : ∀ args w, (callFunc gf args).run P w = .ok (.enter gf args) w)
  (hseq : Goes (n - 1) P gf lb encs Nx S Sp w) (hps : ∀ x, (encs x).size = ps.size) (I Ir : List α → World → Prop) (hI : OwnFrom w.heap.size I) (hIr : OwnFrom w.heap.size Ir) (h0 : I [] w) (a₁ : α → Act)
  (hassign : ∀ (l : Nat) (x : α) (W : World) (K : Act → World → Prop), K (a₁ x) W →
   assign.wpIn (Fence.wide.inRound l) (n - 1 - 1) P (Exit.then K (fun _ _ _ => False)) { tmps := (ps.zip (encs x)).foldl (fun t (p, v) => t.setIfInBounds p v) a.tmps, defers := [] } W)
  (hbody : ∀ (l : Nat) (pre : List α) (x : α) (W : World), Nx pre x → I pre W → body.wpIn (Fence.wide.inRound l) (n - 1 - 1) P (Left w.heap.size I Ir (pre ++ [x]) W) (a₁ x) W)
  (hdone : ∀ (D : Nat) (xs : List α) (W : World), w.heap.size ≤ D → S xs → I xs W → W.heap[D]? = some (.deferred (some [])) → Q .normal { a with defers := { target := .collected D, args := #[] } :: a.defers } W)
  (hret : ∀ (D : Nat) (pre : List α) (W : World), w.heap.size ≤ D → Sp pre → Ir pre W → W.heap[D]? = some (.deferred (some [])) → Q .ret { a with defers := { target := .collected D, args := #[] } :: a.defers } W) :
  (Code.rangeFunc g ps assign body).wpIn Fence.wide n P Q a w := by
 refine wpIn_rangeFunc fun fn hfn => ?_
 obtain ⟨Z, hZ⟩ : ∃ Z, w.heap.size = Z := ⟨_, rfl⟩
 obtain ⟨L, hL⟩ : ∃ L : LoopState → Option Code → Loop, L = fun st pe => { state := st, pending := pe, fn := fn, tmps := a.tmps, params := ps, assign := assign, body := body, defers := Z } := ⟨_, rfl⟩
 obtain ⟨W1, hW1⟩ : ∃ W1, (w.alloc (.deferred (some []))).alloc (.loop (L .ready none)) = W1 := ⟨_, rfl⟩
 have r1 : W1.heap[Z + 1]? = some (.loop (L .ready none)) := by
  have := World.alloc_heap_new (w.alloc (.deferred (some []))) (.loop (L .ready none))
  rw [World.size_alloc, hZ, hW1] at this
  exact this
 have d1 : W1.heap[Z]? = some (.deferred (some [])) := by
  have h := World.alloc_heap_new w (.deferred (some []))
  rw [hZ] at h
  have h2 := Below.heap_alloc (w.alloc (.deferred (some []))) (.loop (L .ready none)) Z (by rw [World.size_alloc]; omega)
  rw [hW1] at h2
  exact h2.trans h
 have i1 : I [] W1 := by rw [← hW1]; exact hI.alloc _ (hI.alloc _ h0)
 have b1 : Below w.heap.size w W1 := by rw [← hW1]; exact ((Below.refl _ w).alloc (Nat.le_refl _) _).alloc (by simp) _
 rw [hZ] at hI hIr
 have one : ∀ (pre : List α) (x : α) (V : World), Nx pre x → (I pre V ∧ V.heap[Z + 1]? = some (.loop (L .ready none)) ∧ V.heap[Z]? = some (.deferred (some []))) →
   YieldAt Fence.wide (n - 1 - 1) P (Z + 1) (encs x) V fun e V' =>
    (e = .returned (.bool true) ∧ I (pre ++ [x]) V' ∧ V'.heap[Z + 1]? = some (.loop (L .ready none)) ∧ V'.heap[Z]? = some (.deferred (some []))) ∨
    (e = .returned (.bool false) ∧ Ir (pre ++ [x]) V' ∧ V'.heap[Z + 1]? = some (.loop (L .done (some .ret))) ∧ V'.heap[Z]? = some (.deferred (some []))) := by
  rintro pre x V hn ⟨hi, hr, hd⟩
  have hy := run_yield (P := P) (args := encs x) hr (by rw [hL]; exact hps x)
  rw [hL] at hy
  have hs := run_beginRound (P := P) hr (by rw [hL])
  obtain ⟨V1, hV1⟩ : ∃ V1, V.putObj (Z + 1) (.loop { L .ready none with state := .busy }) = V1 := ⟨_, rfl⟩
  rw [hV1] at hs
  have hr1 : V1.heap[Z + 1]? = some (.loop (L .busy none)) := by
   rw [← hV1, World.putObj_heap_same (Array.getElem?_eq_some_iff.1 hr).1, hL]
  have hd1 : V1.heap[Z]? = some (.deferred (some [])) := by
   rw [← hV1]; exact (World.putObj_heap_other (by omega)).trans hd
  have hi1 : I pre V1 := by rw [← hV1]; exact hI.putObj _ hi (by omega) hr rfl
  refine ⟨fn, _, assign, body, hy, roundIn_of_wpIn hfn (hassign (Z + 1) x V _ ⟨V1, hs, wpIn_mono (hbody (Z + 1) pre x V1 hn hi1) ?_⟩)⟩
  intro e a3 V3 hp
  rw [hZ] at hp
  cases e with
  | normal =>
   obtain ⟨hk, hi3⟩ := hp
   have hr3 := hk.same _ _ (by omega) hr1 rfl
   have hd3 := hk.same _ _ (Nat.le_refl _) hd1 rfl
   have he := run_endRound (P := P) none hr3
   refine ⟨_, _, he, .inl ⟨rfl, hI.putObj _ hi3 (by omega) hr3 rfl, ?_, (World.putObj_heap_other (by omega)).trans hd3⟩⟩
   rw [World.putObj_heap_same (Array.getElem?_eq_some_iff.1 hr3).1, hL]; rfl
  | ret =>
   obtain ⟨hk, hi3⟩ := hp
   have hr3 := hk.same _ _ (by omega) hr1 rfl
   have hd3 := hk.same _ _ (Nat.le_refl _) hd1 rfl
   have he := run_endRound (P := P) (some .ret) hr3
   refine ⟨_, _, he, .inr ⟨rfl, hIr.putObj _ hi3 (by omega) hr3 rfl, ?_, (World.putObj_heap_other (by omega)).trans hd3⟩⟩
   rw [World.putObj_heap_same (Array.getElem?_eq_some_iff.1 hr3).1, hL]; rfl
  | exit id => exact hp.elim
  | goto t => exact hp.elim
  | panic c => exact hp.elim
  | outgrown => exact hp.elim
 refine ⟨Z + 1, [{ target := .collected Z, args := #[] }], W1, { target := .fn (.func gf) lb, args := #[.func (.yield (Z + 1)) #[] #[]] }, W1, gf, #[.func (.yield (Z + 1)) #[] #[]] ++ lb, W1, ?_, ?_, fun _ _ => trivial, ?_, fun _ => h1, ?_⟩
 ·have := run_enterLoop_outer (P := P) (w := w) fn a.tmps ps assign body
  rw [hZ] at this
  rw [← hW1, hL]
  exact this
 ·simp only [resolve, hg]
  simp [go_sem]
 ·simp [invoke, go_sem, eg]
 ·refine (hseq (Z + 1) (fun pre V => I pre V ∧ V.heap[Z + 1]? = some (.loop (L .ready none)) ∧ V.heap[Z]? = some (.deferred (some []))) (fun pre V => Ir pre V ∧ V.heap[Z + 1]? = some (.loop (L .done (some .ret))) ∧ V.heap[Z]? = some (.deferred (some []))) W1 b1 one ⟨i1, r1, d1⟩).mono ?_
  rintro e W2 ⟨⟨v, rfl⟩, (⟨xs, hS, hi, hr, hd⟩ | ⟨pre, hSp, hi, hr, hd⟩)⟩
  ·have he := run_endLoop (P := P) hr (by rw [hL]; simp)
   rw [show (L .ready none).pending = none from by rw [hL]] at he
   exact ⟨none, _, he, hdone Z xs _ (by omega) hS (hI.putObj _ hi (by omega) hr rfl) ((World.putObj_heap_other (by omega)).trans hd)⟩
  ·have he := run_endLoop (P := P) hr (by rw [hL]; simp)
   rw [show (L .done (some .ret)).pending = some .ret from by rw [hL]] at he
   exact ⟨some .ret, _, he, wpIn_ret (hret Z pre _ (by omega) hSp (hIr.putObj _ hi (by omega) hr rfl) ((World.putObj_heap_other (by omega)).trans hd))⟩
end Go.Proofs.YtmgdciihpjifgaaGreatDoor
namespace Go.Proofs.YtmgdciihpjifgaaGreatDoor
open Go.RowKit Go.Shelf
attribute [local go_sem] Oper.semAt_some
abbrev Pc : Type := UInt8 × Option UInt8
def Pc.l (x : Pc) : List UInt8 := x.1 :: x.2.toList
def ps : List UInt8 → List Pc
 | [] => []
 | [x] => [(x, none)]
 | x :: y :: l => if x = 0 then (0, some y) :: ps l else (x, none) :: ps (y :: l)
theorem ps_n {x : UInt8} (l : List UInt8) (h : x ≠ 0) : ps (x :: l) = (x, none) :: ps l := by
 cases l with
 | nil => rfl
 | cons y l => rw [ps, if_neg h]
theorem ps_0 (y : UInt8) (l : List UInt8) : ps (0 :: y :: l) = (0, some y) :: ps l := by rw [ps, if_pos rfl]
theorem ps_len : ∀ (l : List UInt8), (ps l).length ≤ l.length
 | [] => Nat.le_refl _
 | [_] => Nat.le_refl _
 | x :: y :: l => by
  have h1 := ps_len l
  have h2 := ps_len (y :: l)
  by_cases h : x = 0
  ·subst h; rw [ps_0]; simp; omega
  ·rw [ps_n _ h]; simp at *; omega
theorem ps_at_n (m : List UInt8) (h : 0 < m.length) (hz : m[0] ≠ 0) : ps m = (m[0], none) :: ps m.tail := by
 match m, h, hz with
 | x :: t, _, hz => exact ps_n t hz
theorem ps_at_1 (m : List UInt8) (h : 0 < m.length) (hz : m[0] = 0) (h1 : ¬ 1 < m.length) : ps m = (0, none) :: ps m.tail := by
 match m, h, hz, h1 with
 | [x], _, hz, _ => obtain rfl : x = 0 := hz; rfl
 | x :: y :: t, _, _, h1 => exact absurd (by simp) h1
theorem ps_at_2 (m : List UInt8) (h : 1 < m.length) (hz : m[0] = 0) : ps m = ((0 : UInt8), some m[1]) :: ps (m.drop 2) := by
 match m, h, hz with
 | x :: y :: t, _, hz => obtain rfl : x = 0 := hz; exact ps_0 y t
theorem cut_two (m : List UInt8) (h : 1 < m.length) : (ByteArray.mk m.toArray).extract 0 2 = ⟨[m[0], m[1]].toArray⟩ := by
 match m, h with
 | x :: y :: l, _ => apply ByteArray.ext; rw [ByteArray.data_extract]; simp
set_option maxRecDepth 100000 in
theorem pieces1_in (n l Bn : Nat) (hn : 1 ≤ n) (s : List UInt8) (J Jx : List Pc → World → Prop) (hs : s.length ≤ 1000000)
  (hY : ∀ pre x W, pre ++ [x] <+: ps s → J pre W → YieldAt Fence.wide (n - 1) Tryz.prog l #[str (Pc.l x)] W fun e W' =>
   (e = .returned (.bool true) ∧ J (pre ++ [x]) W') ∨ (e = .returned (.bool false) ∧ Jx (pre ++ [x]) W'))
  (W : World) (hB : Boxed W Bn 9 (str s)) (h0 : J [] W) :
  CallsIn Fence.wide n Tryz.prog 165 #[.func (.yield l) #[] #[], .pointer (some ⟨Bn, 0, none⟩)] W fun e W' => (∃ v, e = .returned v) ∧
   ((∃ ys, ys = ps s ∧ J ys W') ∨ (∃ pre, pre <+: ps s ∧ Jx pre W')) := by
 refine callsIn_of_wp Tryz.func165 rfl trivial ?_ rfl
 simp only [Tryz.ntmps165, List.size_toArray, List.length_cons, List.length_nil, Nat.reduceAdd, Nat.reduceSub, Array.replicate_succ, Array.replicate_zero, List.push_toArray, List.append_toArray, List.nil_append, List.cons_append]
 have hc := hB.cell
 have HS := zh hs
 clear hs hB
 gi_wp2
 gi_loopw [3] (fun r wr => ∃ (m : List UInt8) (pre : List Pc), r = str m ∧ pre ++ ps m = ps s ∧ m.length ≤ 1000000 ∧ J pre wr) (fun r _ => slen r)
 case atStart => exact ⟨s, [], rfl, rfl, HS.out, h0⟩
 case round =>
  obtain ⟨m, pre, rfl, hps, hm, hJ⟩ := hrel
  have HJ := zh (za hJ (za hps hm))
  clear hJ hps hm hc HS
  by_cases hne : 0 < m.length
  ·have hsz : 0 < (ByteArray.mk m.toArray).size := hne
   have hba : (ByteArray.mk m.toArray)[0] = m[0] := byte_at m 0 hne
   have hnn : ¬ m = [] := fun e => by subst e; exact absurd hne (by decide)
   have hie : m.isEmpty = false := by cases m with | nil => exact absurd rfl hnn | cons _ _ => rfl
   have e1 := cut_one m 0 hne
   have e3 := cut_from m 1
   by_cases hz : m[0] = 0
   ·have hz1 : ((m[0].toNat : Int) == 0) = true := by rw [hz]; rfl
    have hz2 : (m[0].toNat : Int) = 0 := by rw [hz]; rfl
    by_cases h1 : 1 < m.length
    ·have e2 := cut_two m h1
     have e4 := cut_from m 2
     have hl1 : decide ((1 : Int) < (m.length : Int)) = true := by rw [decide_eq_true_iff]; omega
     have hl2 : (1 : Int) < (m.length : Int) := by omega
     have hl3 : (2 : Int) ≤ (m.length : Int) := by omega
     have hpm := ps_at_2 m h1 hz
     obtain ⟨fn, tmps, assign, body, hy, hR⟩ := hY pre (0, some m[1]) wr ⟨_, by rw [← HJ.out.2.1, hpm]; exact List.append_cons _ _ _ |>.symm⟩ HJ.out.1
     have HP := zh hpm
     clear hpm
     dsimp only [Pc.l, Option.toList] at hy
     gi_wp2
     refine hR.mono ?_
     rintro e W3 (⟨rfl, hJ3⟩ | ⟨rfl, hJx3⟩)
     ·gi_wp2
      go_roundw
      case rel => exact ⟨m.drop 2, _, rfl, by rw [← HJ.out.2.1, HP.out]; simp, by have := HJ.out.2.2; simp; omega, hJ3⟩
      case measure => simp [slen, ByteArray.size]; omega
     ·gi_wp2
      refine bodyPost_ret (results_none rfl _ _ _) rfl ?_
      exact ⟨⟨_, rfl⟩, .inr ⟨_, ⟨ps (m.drop 2), by rw [← HJ.out.2.1, HP.out]; simp⟩, hJx3⟩⟩
    ·have hl1 : decide ((1 : Int) < (m.length : Int)) = false := by rw [decide_eq_false_iff_not]; omega
     have hpm := ps_at_1 m hne hz h1
     obtain ⟨fn, tmps, assign, body, hy, hR⟩ := hY pre (0, none) wr ⟨_, by rw [← HJ.out.2.1, hpm]; exact List.append_cons _ _ _ |>.symm⟩ HJ.out.1
     have HP := zh hpm
     clear hpm
     dsimp only [Pc.l, Option.toList] at hy
     gi_wp2
     refine hR.mono ?_
     rintro e W3 (⟨rfl, hJ3⟩ | ⟨rfl, hJx3⟩)
     ·gi_wp2
      go_roundw
      case rel => exact ⟨m.tail, _, rfl, by rw [← HJ.out.2.1, HP.out]; simp, by have := HJ.out.2.2; simp; omega, hJ3⟩
      case measure => simp [slen, ByteArray.size]; omega
     ·gi_wp2
      refine bodyPost_ret (results_none rfl _ _ _) rfl ?_
      exact ⟨⟨_, rfl⟩, .inr ⟨_, ⟨ps (m.tail), by rw [← HJ.out.2.1, HP.out]; simp⟩, hJx3⟩⟩
   ·have hz1 : ((m[0].toNat : Int) == 0) = false := beq_f (fun e => hz (UInt8.toNat_inj.1 (by show m[0].toNat = 0; omega)))
    have hpm := ps_at_n m hne hz
    obtain ⟨fn, tmps, assign, body, hy, hR⟩ := hY pre (m[0], none) wr ⟨_, by rw [← HJ.out.2.1, hpm]; exact List.append_cons _ _ _ |>.symm⟩ HJ.out.1
    have HP := zh hpm
    clear hpm
    dsimp only [Pc.l, Option.toList] at hy
    gi_wp2
    refine hR.mono ?_
    rintro e W3 (⟨rfl, hJ3⟩ | ⟨rfl, hJx3⟩)
    ·gi_wp2
     go_roundw
     case rel => exact ⟨m.tail, _, rfl, by rw [← HJ.out.2.1, HP.out]; simp, by have := HJ.out.2.2; simp; omega, hJ3⟩
     case measure => simp [slen, ByteArray.size]; omega
    ·gi_wp2
     refine bodyPost_ret (results_none rfl _ _ _) rfl ?_
     exact ⟨⟨_, rfl⟩, .inr ⟨_, ⟨ps (m.tail), by rw [← HJ.out.2.1, HP.out]; simp⟩, hJx3⟩⟩
  ·obtain rfl : m = [] := List.eq_nil_of_length_eq_zero (by omega)
   gi_wp2
   go_end0
   exact ⟨⟨_, rfl⟩, .inl ⟨pre, by have := HJ.out.2.1; simpa [ps] using this, HJ.out.1⟩⟩
theorem pieces_go (n Bn : Nat) (hn : 1 ≤ n) (s : List UInt8) (hs : s.length ≤ 1000000) (w : World) (hB : Boxed w Bn 9 (str s)) :
  Goes n Tryz.prog 165 #[.pointer (some ⟨Bn, 0, none⟩)] (fun x : Pc => #[str (Pc.l x)]) (fun pre x => pre ++ [x] <+: ps s) (fun xs => xs = ps s) (fun pre => pre <+: ps s) w :=
 fun l J Jx W hW hY h0 => pieces1_in n l Bn hn s J Jx hs hY W ((hW.block Bn hB.lt).trans hB) h0
end Go.Proofs.YtmgdciihpjifgaaGreatDoor
