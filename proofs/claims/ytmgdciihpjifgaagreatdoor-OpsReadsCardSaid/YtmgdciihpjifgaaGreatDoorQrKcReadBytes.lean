/-
 The plain mathematics of readBytes: what pieces say of bytes that stand escaped. No condition.
 What readBytes answers of any text. Condition: the bound named in the theorem.
-/
import Derived.Test.YtmgdciihpjifgaaGreatDoorQrKcPieces
import Derived.Test.YtmgdciihpjifgaaGreatDoorQrKcRows
set_option maxHeartbeats 2000000
namespace Go.Proofs.YtmgdciihpjifgaaGreatDoor
def fine (x : Pc) : Prop := x.2 = none ∨ x = (0, some 255)
def tot : List Pc → Nat
 | [] => 0
 | x :: l => (Pc.l x).length + tot l
theorem tot_append (a b : List Pc) : tot (a ++ b) = tot a + tot b := by
 induction a with
 | nil => simp [tot]
 | cons x a ih => simp [tot, ih]; omega
theorem tot_snoc (a : List Pc) (x : Pc) : tot (a ++ [x]) = tot a + (Pc.l x).length := by rw [tot_append]; simp [tot]
theorem ps_none {t : List UInt8} {b : UInt8} {r : List Pc} (h : ps t = (b, none) :: r) : ∃ t', t = b :: t' ∧ r = ps t' := by
 match t, h with
 | [x], h => simp [ps] at h; exact ⟨[], by rw [h.1], h.2⟩
 | x :: y :: l, h =>
  by_cases hx : x = 0
  ·subst hx; rw [ps_0] at h; simp at h
  ·rw [ps_n _ hx] at h; simp at h; exact ⟨y :: l, by rw [h.1], h.2.symm⟩
theorem ps_some {t : List UInt8} {b c : UInt8} {r : List Pc} (h : ps t = (b, some c) :: r) : ∃ t', t = 0 :: c :: t' ∧ r = ps t' ∧ b = 0 := by
 match t, h with
 | [x], h => simp [ps] at h
 | x :: y :: l, h =>
  by_cases hx : x = 0
  ·subst hx; rw [ps_0] at h; simp at h; exact ⟨l, by rw [h.1.2], h.2.symm, h.1.1.symm⟩
  ·rw [ps_n _ hx] at h; simp at h
theorem ps_nil {t : List UInt8} (h : ps t = []) : t = [] := by
 match t, h with
 | [], _ => rfl
 | [x], h => simp [ps] at h
 | x :: y :: l, h =>
  by_cases hx : x = 0
  ·subst hx; rw [ps_0] at h; simp at h
  ·rw [ps_n _ hx] at h; simp at h
theorem cons_pre (x : UInt8) (d : List UInt8) (r : List UInt8 × List UInt8 × Int) : Kc.cons x (Kc.pre d r) = Kc.pre (x :: d) r := by
 unfold Kc.pre Kc.cons
 by_cases h : r.2.2 = 0
 ·simp [h]
 ·simp [h]
theorem un_step {t : List UInt8} {x : Pc} {r : List Pc} (h : ps t = x :: r) (hf : fine x) : ∃ t', t = Pc.l x ++ t' ∧ ps t' = r ∧ Kc.un t = Kc.cons x.1 (Kc.un t') := by
 obtain ⟨b, o⟩ := x
 rcases hf with hf | hf
 ·simp at hf; subst hf
  obtain ⟨t', rfl, rfl⟩ := ps_none h
  refine ⟨t', rfl, rfl, ?_⟩
  by_cases hb : b = 0
  ·subst hb
   cases t' with
   | nil => simp [Kc.un, Kc.cons]
   | cons y l => rw [ps_0] at h; simp at h
  ·exact Kc.un_n t' hb
 ·simp at hf; obtain ⟨rfl, rfl⟩ := hf
  obtain ⟨t', rfl, rfl, _⟩ := ps_some h
  exact ⟨t', rfl, rfl, Kc.un_0f t'⟩
theorem un_pre : ∀ (pre : List Pc) (t : List UInt8) (r : List Pc), ps t = pre ++ r → (∀ x ∈ pre, fine x) → tot pre ≤ t.length ∧ ps (t.drop (tot pre)) = r ∧ Kc.un t = Kc.pre (pre.map (·.1)) (Kc.un (t.drop (tot pre)))
 | [], t, r, h, _ => ⟨Nat.zero_le _, h, (Kc.pre_nil t).symm⟩
 | x :: pre, t, r, h, hf => by
  obtain ⟨t', rfl, h2, h3⟩ := un_step (r := pre ++ r) h (hf x (by simp))
  obtain ⟨h4, h5, h6⟩ := un_pre pre t' r h2 (fun y hy => hf y (by simp [hy]))
  have e : (Pc.l x ++ t').drop (tot (x :: pre)) = t'.drop (tot pre) := by
   rw [tot, List.drop_append]
   simp
  refine ⟨by simp [tot]; omega, by rw [e]; exact h5, ?_⟩
  rw [h3, h6, cons_pre, e]; rfl
theorem un_all {s : List UInt8} (h : ∀ x ∈ ps s, fine x) : Kc.un s = ([], [], 3) := by
 obtain ⟨h1, h2, h3⟩ := un_pre (ps s) s [] (by simp) h
 rw [h3, ps_nil h2]; rfl
theorem un_end {s : List UInt8} {pre r : List Pc} (h : ps s = pre ++ (0, some 0) :: r) (hf : ∀ x ∈ pre, fine x) : Kc.un s = (pre.map (·.1), s.drop (tot pre + 2), 0) ∧ tot pre + 2 ≤ s.length := by
 obtain ⟨h1, h2, h3⟩ := un_pre pre s _ h hf
 obtain ⟨t', h4, _⟩ := ps_some h2
 rw [h4, Kc.un_00] at h3
 have h5 : s.drop (tot pre + 2) = t' := by rw [← List.drop_drop, h4]; rfl
 refine ⟨by rw [h3, h5]; simp [Kc.pre], ?_⟩
 have := congrArg List.length h4
 simp at this
 omega
theorem un_bad {s : List UInt8} {pre r : List Pc} {b c : UInt8} (h : ps s = pre ++ (b, some c) :: r) (hf : ∀ x ∈ pre, fine x) (h0 : c ≠ 0) (hff : c ≠ 255) : Kc.un s = ([], [], 4) := by
 obtain ⟨h1, h2, h3⟩ := un_pre pre s _ h hf
 obtain ⟨t', h4, _⟩ := ps_some h2
 rw [h3, h4, Kc.un_0x t' h0 hff]; rfl
theorem some_zero {s : List UInt8} {pre : List Pc} {b c : UInt8} (h : pre ++ [(b, some c)] <+: ps s) (hf : ∀ x ∈ pre, fine x) : b = 0 := by
 obtain ⟨r, hr⟩ := h
 obtain ⟨_, h2, _⟩ := un_pre pre s ((b, some c) :: r) (by rw [← hr]; simp) hf
 exact (ps_some h2).choose_spec.2.2
theorem tot_le {s : List UInt8} {pre : List Pc} {x : Pc} (h : pre ++ [x] <+: ps s) (hf : ∀ x ∈ pre, fine x) : tot pre + (Pc.l x).length ≤ s.length := by
 obtain ⟨r, hr⟩ := h
 obtain ⟨h1, h2, _⟩ := un_pre pre s (x :: r) (by rw [← hr]; simp) hf
 obtain ⟨b, o⟩ := x
 cases o with
 | none => obtain ⟨t', h4, _⟩ := ps_none h2; have := congrArg List.length h4; simp [Pc.l] at this ⊢; omega
 | some c => obtain ⟨t', h4, _⟩ := ps_some h2; have := congrArg List.length h4; simp [Pc.l] at this ⊢; omega
end Go.Proofs.YtmgdciihpjifgaaGreatDoor
namespace Go.Proofs.YtmgdciihpjifgaaGreatDoor
open Go.RowKit Go.Shelf
attribute [local go_sem] Oper.semAt_some
theorem Blk.new' (W : World) (B : Nat) (cs : Array Value) (t : TypeId) (h : W.heap.size = B) : Blk (W.alloc (.cells cs t)) B cs t := by subst h; exact Blk.new W cs t
theorem Blk.drew {W : World} {B : Nat} {cs : Array Value} {t : TypeId} (h : Blk W B cs t) : Blk W.drew B cs t := h
theorem Blk.set {W : World} {B : Nat} {v : Value} {t : TypeId} (u : Value) (h : Blk W B #[v] t) : Blk (W.setCell ⟨B, 0, none⟩ u) B #[u] t := Boxed.set u h.boxed
theorem Ow.drew {W : World} {b : Nat} {v : Value} {l : List UInt8} (h : Ow W b v l) : Ow W.drew b v l := h.keep (below_drew1 (Below.refl _ _))
def Rm (Z z1 z2 z3 z4 z5 : Nat) (s : List UInt8) (w : World) (pre : List Pc) (W : World) : Prop :=
 (∃ v, Blk W z4 #[v] 102 ∧ Ow W Z v (pre.map (·.1))) ∧ Blk W z5 #[.int .i64 (tot pre)] 3 ∧ Blk W Z #[str s] 9 ∧
 Blk W z1 #[str []] 9 ∧ Blk W z2 #[str []] 9 ∧ Blk W z3 #[.int .i64 0] 35 ∧ Below Z w W ∧ (∀ x ∈ pre, fine x)
def Rx (Z z1 z2 z3 : Nat) (s : List UInt8) (w : World) (pre : List Pc) (W : World) : Prop :=
 pre <+: ps s → Blk W z1 #[str (Kc.un s).1] 9 ∧ Blk W z2 #[str (Kc.un s).2.1] 9 ∧ Blk W z3 #[.int .i64 (Kc.un s).2.2] 35 ∧ Below Z w W
theorem rm_own (Z z1 z2 z3 z4 z5 n0 : Nat) (s : List UInt8) (w : World) (hz : Z ≤ n0) (h0 : Z ≤ w.heap.size) : OwnFrom n0 (Rm Z z1 z2 z3 z4 z5 s w) := by
 rintro pre W W' row ⟨⟨v, hv, hO⟩, h5, hs, h1, h2, h3, hB, hf⟩ hg hr
 have hr' : ∀ r, row = some r → ∃ o : Obj, W.heap[r]? = some o ∧ o.isCells = false := fun r e => (hr r e).2
 exact ⟨⟨v, blk_own hv hg hr', row_own hO hg hr'⟩, blk_own h5 hg hr', blk_own hs hg hr', blk_own h1 hg hr', blk_own h2 hg hr', blk_own h3 hg hr', hB.grown hg (Nat.le_trans h0 hB.size) (fun k e => Nat.le_trans hz (hr k e).1), hf⟩
theorem rx_own (Z z1 z2 z3 n0 : Nat) (s : List UInt8) (w : World) (hz : Z ≤ n0) (h0 : Z ≤ w.heap.size) : OwnFrom n0 (Rx Z z1 z2 z3 s w) := by
 intro pre W W' row h hg hr hp
 obtain ⟨h1, h2, h3, hB⟩ := h hp
 have hr' : ∀ r, row = some r → ∃ o : Obj, W.heap[r]? = some o ∧ o.isCells = false := fun r e => (hr r e).2
 exact ⟨blk_own h1 hg hr', blk_own h2 hg hr', blk_own h3 hg hr', hB.grown hg (Nat.le_trans h0 hB.size) (fun k e => Nat.le_trans hz (hr k e).1)⟩
section
variable {o : Oper} {a : Act} {Q : Exit → Act → World → Prop} {K : Act → World → Prop}
theorem app1Op {F : Fence} {n : Nat} (s x : Operand) (ho : o.op = .call { callee := .builtin .append, args := #[s, x], argTypes := #[102, 102] })
  (base : Nat) (v : Value) (l : List UInt8) (b : UInt8) (c : Int) (w0 : World) (hc : Value.int .u8 c = bv b) (hs : a.eval s = v) (hown : Ow w0 base v l)
  (hx : a.eval x = .slice (some ⟨w0.heap.size, 0, none⟩) 1 1) (hlen : l.length ≤ 1000000000) (hb : base ≤ w0.heap.size)
  (h : ∀ v' w', Ow w' base v' (l ++ [b]) → (w0.alloc (.cells #[.int .u8 c] 5)).grownBy w' v.ownBlock → K (a.put o.dst v') w') : o.wpIn F n Tryz.prog a (w0.alloc (.cells #[.int .u8 c] 5)) K Q := by
 obtain ⟨i0, hi, hz0, hz1, hz2⟩ := info_parts Tryz.infoU8
 obtain ⟨v', w', hr, h2, h3, _⟩ := run_append_own (P := Tryz.prog) (w0.alloc (.cells #[.int .u8 c] 5)) base 102 o.type 5 i0 (.int .u8 0) 1 1 Tryz.underlying102 hi hz0 hz1 hz2 rfl (by decide) v _ _ (hown.alloc _) ⟨w0.heap.size, 0, none⟩ 1 1 [.int .u8 c] rfl
  (by intro j u hj
      match j, hj with
      | 0, hj => simp at hj; subst hj; simp [Addr.add]
      | (j + 1), hj => simp at hj)
  (by intro u hu; simp at hu; subst hu; rfl) (by unfold maxLen; omega) (by omega) (by simp; omega)
 unfold Oper.wpIn
 refine ⟨?_, ?_⟩
 ·simp [Oper.about, ho, resolve, Target.leads, Sem.run_pure]
 ·rw [Oper.semAt_plain F _ _ (by rw [ho]; intro c hc'; cases hc')]
  simp [execOp, ho, resolve, invoke, builtin, hs, hx, hr, Result.andThen]
  refine h v' w' ?_ h3
  unfold Ow
  rw [List.length_append, List.map_append, List.map_singleton, ← hc]; exact h2
end
theorem rb_next {Z z1 z2 z3 z4 z5 n0 : Nat} {s : List UInt8} {w W V w6 : World} {pre : List Pc} {x : Pc} {X : Int} {v v' : Value} {tmp : Obj} (hz : z1 = Z + 1 ∧ z2 = z1 + 1 ∧ z3 = z2 + 1 ∧ z4 = z3 + 1 ∧ z5 = z4 + 1)
  (q0 : Blk V Z #[str s] 9) (q1 : Blk V z1 #[str []] 9) (q2 : Blk V z2 #[str []] 9) (q3 : Blk V z3 #[.int .i64 0] 35) (q4 : Blk V z4 #[v] 102) (q5 : Blk V z5 #[.int .i64 X] 3)
  (qO : Ow V Z v (pre.map (·.1))) (qB : Below Z w V) (qK : KeepsOthers W V) (hf : ∀ x ∈ pre, fine x) (hx : fine x) (hX : X = (tot (pre ++ [x]) : Nat))
  (hown : Ow w6 Z v' (pre.map (·.1) ++ [x.1])) (hg : (V.drew.alloc tmp).grownBy w6 v.ownBlock) :
  (w6.cell? ⟨z4, 0, none⟩ = some v ∧ w6.frozen? ⟨z4, 0, none⟩ = false) ∧ KeepsFrom n0 W (w6.setCell ⟨z4, 0, none⟩ v') ∧ Rm Z z1 z2 z3 z4 z5 s w (pre ++ [x]) (w6.setCell ⟨z4, 0, none⟩ v') := by
 have hsz : Z ≤ V.heap.size := Nat.le_of_lt q0.lt
 obtain ⟨p1, p2, p3, p4, p5, p6⟩ := wrote (q4.drew.alloc tmp) (qO.drew.alloc tmp) (by simp; exact Nat.le_succ_of_le hsz) (show Z ≤ z4 by omega) hown hg
 have b1 : Below Z w (V.drew.alloc tmp) := (below_drew1 qB).alloc hsz tmp
 refine ⟨⟨p1.boxed.cell, p1.boxed.frozen⟩, (qK.trans ((KeepsOthers.drew V).trans ((KeepsOthers.alloc _ tmp).trans p5))).from n0, ⟨_, p2, ?_⟩, ?_, ?_, ?_, ?_, ?_, b1.trans p4, ?_⟩
 ·rw [List.map_append]; exact p3
 ·have := (p6 z5 _ _ (by omega) (by decide) (q5.drew.alloc tmp)).2
  rw [hX] at this; exact this
 ·exact (p6 Z _ _ (by omega) (by decide) (q0.drew.alloc tmp)).2
 ·exact (p6 z1 _ _ (by omega) (by decide) (q1.drew.alloc tmp)).2
 ·exact (p6 z2 _ _ (by omega) (by decide) (q2.drew.alloc tmp)).2
 ·exact (p6 z3 _ _ (by omega) (by decide) (q3.drew.alloc tmp)).2
 ·intro y hy
  rcases List.mem_append.1 hy with g | g
  ·exact hf y g
  ·obtain rfl := List.mem_singleton.1 g; exact hx
theorem rb_stop {Z z1 z2 z3 n0 : Nat} {s : List UInt8} {w W V : World} {pre : List Pc} {A B : List UInt8} {e : Int} (hz : z1 = Z + 1 ∧ z2 = z1 + 1 ∧ z3 = z2 + 1)
  (q1 : Blk V z1 #[str []] 9) (q2 : Blk V z2 #[str []] 9) (q3 : Blk V z3 #[.int .i64 0] 35) (qB : Below Z w V) (qK : KeepsOthers W V) (h : pre <+: ps s → Kc.un s = (A, B, e)) :
  KeepsFrom n0 W (((V.setCell ⟨z1, 0, none⟩ (str A)).setCell ⟨z2, 0, none⟩ (str B)).setCell ⟨z3, 0, none⟩ (.int .i64 e)) ∧ Rx Z z1 z2 z3 s w pre (((V.setCell ⟨z1, 0, none⟩ (str A)).setCell ⟨z2, 0, none⟩ (str B)).setCell ⟨z3, 0, none⟩ (.int .i64 e)) := by
 refine ⟨(((qK.trans (KeepsOthers.setCell _ _ _)).trans (KeepsOthers.setCell _ _ _)).trans (KeepsOthers.setCell _ _ _)).from n0, fun hp => ?_⟩
 rw [h hp]
 refine ⟨((q1.set _).other (by omega) _).other (by omega) _, ((q2.other (by omega) _).set _).other (by omega) _, ((q3.other (by omega) _).other (by omega) _).set _, ?_⟩
 exact ((qB.setCell (p := ⟨z1, 0, none⟩) (show Z ≤ z1 by omega) _).setCell (p := ⟨z2, 0, none⟩) (show Z ≤ z2 by omega) _).setCell (p := ⟨z3, 0, none⟩) (show Z ≤ z3 by omega) _
theorem rx_drew {Z z1 z2 z3 n0 : Nat} {s : List UInt8} {w W V : World} {pre : List Pc} (h : KeepsFrom n0 W V ∧ Rx Z z1 z2 z3 s w pre V) : KeepsFrom n0 W V.drew ∧ Rx Z z1 z2 z3 s w pre V.drew :=
 ⟨h.1.trans ((KeepsOthers.drew V).from n0), fun hp => ⟨(h.2 hp).1, (h.2 hp).2.1, (h.2 hp).2.2.1, below_drew1 (h.2 hp).2.2.2⟩⟩
set_option maxRecDepth 100000 in
theorem readBytes_is (s : List UInt8) (w : World) (hs : s.length ≤ 1000000) :
  Calls Tryz.prog 161 #[str s] w fun e w' => e = .returned (.tuple #[str (Kc.un s).1, str (Kc.un s).2.1, .int .i64 (Kc.un s).2.2]) ∧ Below w.heap.size w w' := by
 have HS := zh hs
 clear hs
 refine callsIn_wide.1 (callsIn_of_wp_marks (F := Fence.wide) (n := 3) Tryz.func161 rfl trivial ?_ rfl)
 simp only [Tryz.ntmps161, List.size_toArray, List.length_cons, List.length_nil, Nat.reduceAdd, Nat.reduceSub, Array.replicate_succ, Array.replicate_zero, List.push_toArray, List.append_toArray, List.nil_append, List.cons_append]
 refine wpIn_wide.2 ?_
 go_wp2_with (go_at_call 164; refine (pieces_is s _).mono ?_; rintro e w' ⟨rfl, rfl⟩)
 obtain ⟨W3, hW3⟩ : ∃ W3, (((((((w.alloc (.cells #[str s] 9)).alloc (.cells #[str []] 9)).alloc (.cells #[str []] 9)).alloc (.cells #[.int .i64 0] 35)).alloc (.cells #[.slice none 0 0] 102)).alloc (.cells #[.int .i64 0] 3)).alloc (.cells #[str s] 9)) = W3 := ⟨_, rfl⟩
 have k0 : Blk W3 w.heap.size #[str s] 9 := by rw [← hW3]; exact ((((((Blk.new w _ _).alloc _).alloc _).alloc _).alloc _).alloc _).alloc _
 have k1 : Blk W3 (w.heap.size + 1) #[str []] 9 := by rw [← hW3]; exact (((((Blk.new' _ _ _ _ (by simp)).alloc _).alloc _).alloc _).alloc _).alloc _
 have k2 : Blk W3 (w.heap.size + 1 + 1) #[str []] 9 := by rw [← hW3]; exact ((((Blk.new' _ _ _ _ (by simp)).alloc _).alloc _).alloc _).alloc _
 have k3 : Blk W3 (w.heap.size + 1 + 1 + 1) #[.int .i64 0] 35 := by rw [← hW3]; exact (((Blk.new' _ _ _ _ (by simp)).alloc _).alloc _).alloc _
 have k4 : Blk W3 (w.heap.size + 1 + 1 + 1 + 1) #[.slice none 0 0] 102 := by rw [← hW3]; exact ((Blk.new' _ _ _ _ (by simp)).alloc _).alloc _
 have k5 : Blk W3 (w.heap.size + 1 + 1 + 1 + 1 + 1) #[.int .i64 0] 3 := by rw [← hW3]; exact (Blk.new' _ _ _ _ (by simp)).alloc _
 have k6 : Blk W3 (w.heap.size + 1 + 1 + 1 + 1 + 1 + 1) #[str s] 9 := by rw [← hW3]; exact Blk.new' _ _ _ _ (by simp)
 have kB : Below w.heap.size w W3 := by
  rw [← hW3]
  have b1 := below1 w (.cells #[str s] 9)
  have b2 := b1.alloc b1.size (.cells #[str []] 9)
  have b3 := b2.alloc b2.size (.cells #[str []] 9)
  have b4 := b3.alloc b3.size (.cells #[.int .i64 0] 35)
  have b5 := b4.alloc b4.size (.cells #[.slice none 0 0] 102)
  have b6 := b5.alloc b5.size (.cells #[.int .i64 0] 3)
  exact b6.alloc b6.size _
 rw [hW3]
 clear hW3
 generalize h1 : w.heap.size + 1 = z1 at *
 generalize h2 : z1 + 1 = z2 at *
 generalize h3 : z2 + 1 = z3 at *
 generalize h4 : z3 + 1 = z4 at *
 generalize h5 : z4 + 1 = z5 at *
 generalize h6 : z5 + 1 = z6 at *
 have hmx : Tryz.prog.follows .mixedOrders = true := by kernel_rfl
 have kI : Rm w.heap.size z1 z2 z3 z4 z5 s w [] W3 := ⟨⟨_, k4, ow_nil _ _⟩, k5, k0, k1, k2, k3, kB, by simp⟩
 have E := zh (za kI (za k6 (za kB (za h1 (za h2 (za h3 (za h4 (za h5 h6))))))))
 clear kI k0 k1 k2 k3 k4 k5 k6 kB h1 h2 h3 h4 h5 h6
 refine (wpIn_wide (n := 3)).1 ?_
 refine' range_known (by decide) (gf := 165) (lb := #[.pointer (some ⟨z6, 0, none⟩)]) rfl (enters_of Tryz.func165 (by kernel_rfl) rfl)
  (pieces_go 2 z6 (by decide) s HS.out W3 E.out.2.1) (fun _ => rfl) (Rm w.heap.size z1 z2 z3 z4 z5 s w) (Rx w.heap.size z1 z2 z3 s w)
  (rm_own _ _ _ _ _ _ _ _ _ E.out.2.2.1.size (Nat.le_refl _)) (rx_own _ _ _ _ _ _ _ E.out.2.2.1.size (Nat.le_refl _)) E.out.1 _ ?assign ?body ?done ?ret
 case assign =>
  intro l x W K hK
  gi_wp2
  exact hK
 case body =>
  rintro j pre ⟨b, o⟩ W hn ⟨⟨v, hv, hO⟩, h5, hs, h1, h2, h3, hB, hf⟩
  have ht := tot_le hn hf
  obtain ⟨a5, m5, c5, rfl⟩ := hO.sl
  have y0 := hs.boxed.cell
  have y4 := hv.boxed.cell
  have y5 := h5.boxed.cell
  have f5 := h5.boxed.frozen
  obtain ⟨W5, hW5⟩ : ∃ W5 : Int → World, (fun x => W.setCell ⟨z5, 0, none⟩ (.int .i64 x)) = W5 := ⟨_, rfl⟩
  have q0 : ∀ x, Blk (W5 x) w.heap.size #[str s] 9 := fun x => by rw [← hW5]; exact hs.other (by have := E.out; omega) _
  have q1 : ∀ x, Blk (W5 x) z1 #[str []] 9 := fun x => by rw [← hW5]; exact h1.other (by have := E.out; omega) _
  have q2 : ∀ x, Blk (W5 x) z2 #[str []] 9 := fun x => by rw [← hW5]; exact h2.other (by have := E.out; omega) _
  have q3 : ∀ x, Blk (W5 x) z3 #[.int .i64 0] 35 := fun x => by rw [← hW5]; exact h3.other (by have := E.out; omega) _
  have q4 : ∀ x, Blk (W5 x) z4 #[.slice a5 m5 c5] 102 := fun x => by rw [← hW5]; exact hv.other (by have := E.out; omega) _
  have q5 : ∀ x, Blk (W5 x) z5 #[.int .i64 x] 3 := fun x => by rw [← hW5]; exact h5.set _
  have qO : ∀ x, Ow (W5 x) w.heap.size (.slice a5 m5 c5) (pre.map (·.1)) := fun x => by rw [← hW5]; exact hO.kept h5 (by decide) (grownBy_setCell' W z5 _)
  have qB : ∀ x, Below w.heap.size w (W5 x) := fun x => by rw [← hW5]; exact hB.setCell (p := ⟨z5, 0, none⟩) (show w.heap.size ≤ z5 by have := E.out; omega) _
  have qK : ∀ x, KeepsOthers W (W5 x) := fun x => by rw [← hW5]; exact KeepsOthers.setCell _ _ _
  have hW : ∀ x, W.setCell ⟨z5, 0, none⟩ (.int .i64 x) = W5 x := fun x => by rw [← hW5]
  have M := zh (za hn (za ht hf))
  have Qb := zh (za q0 (za q1 (za q2 (za q3 (za q4 (za q5 (za qO (za qB qK))))))))
  clear hv hO h5 hs h1 h2 h3 hB hW5 hn ht hf q0 q1 q2 q3 q4 q5 qO qB qK
  have HL := zh (show (pre.map (·.1)).length ≤ 1000000 from by
   have h1 := M.out.1.length_le
   have h2 := ps_len s
   have h3 := HS.out
   rw [List.length_append] at h1
   rw [List.length_map]
   omega)
  cases o with
  | none =>
   have ht : tot pre + 1 ≤ s.length := M.out.2.1
   have hw : wrap64 ((tot pre : Int) + 1) = (tot pre : Int) + 1 := by have := HS.out; exact wrap_in _ (by omega) (by omega)
   have e0 := (Qb.out.2.2.2.2.1 ((tot pre : Int) + 1)).boxed.cell
   have hba : (ByteArray.mk [b].toArray)[0]'(Nat.zero_lt_one) = b := rfl
   have e1 : ((W5 ((tot pre : Int) + 1)).alloc (.cells #[.int .u8 (b.toNat : Int)] 5)).cell? ⟨z4, 0, none⟩ = some (.slice a5 m5 c5) := ((Qb.out.2.2.2.2.1 ((tot pre : Int) + 1)).alloc _).boxed.cell
   have HF := zh (show fine (b, none) from .inl rfl)
   have HX := zh (show (tot pre : Int) + 1 = (tot (pre ++ [(b, none)]) : Nat) from by rw [tot_snoc]; rfl)
   clear ht
   dsimp only [Pc.l, Option.toList]
   gi_wp2
   refine wpIn_region_any hmx ?_
   change wpAnyIn _ _ _ _ _ _ _ _ _ (World.drew _)
   refine wpAnyIn_ready (rs := [0, 1]) (by kernel_rfl) (by simp) (AllReadyIn.cons rfl (fun K hK => ?_) (AllReadyIn.cons rfl (fun K hK => ?_) AllReadyIn.nil))
   ·go_simp
    refine hK _ _ ?_
    clear hK K
    refine wpAnyIn_ready (rs := [1]) (by kernel_rfl) (by simp) (AllReadyIn.cons rfl (fun K hK => ?_) AllReadyIn.nil)
    go_simp
    refine hK _ _ ?_
    clear hK K
    refine wpAnyIn_ready (rs := [2]) (by kernel_rfl) (by simp) (AllReadyIn.cons rfl (fun K hK => ?_) AllReadyIn.nil)
    go_simp
    refine hK _ _ ?_
    clear hK K
    refine wpAnyIn_ready (rs := [3]) (by kernel_rfl) (by simp) (AllReadyIn.cons rfl (fun K hK => ?_) AllReadyIn.nil)
    go_simp
    refine hK _ _ ?_
    clear hK K
    refine wpAnyIn_ready (rs := [4]) (by kernel_rfl) (by simp) (AllReadyIn.cons rfl (fun K hK => ?_) AllReadyIn.nil)
    rw [if_pos (by kernel_rfl)]
    refine app1Op _ _ rfl w.heap.size (.slice a5 m5 c5) (pre.map (·.1)) b _ (W5 ((tot pre : Int) + 1)).drew rfl rfl (Qb.out.2.2.2.2.2.2.1 _).drew rfl (by have := HL.out; omega) (by have := (Qb.out.1 ((tot pre : Int) + 1)).lt; simp; omega) ?_
    intro v' w6 hown' hg
    obtain ⟨g', cap', rfl⟩ := hown'.succ
    obtain ⟨⟨z8, z9⟩, z10⟩ := rb_next (n0 := W3.heap.size) (x := (b, none)) (by have := E.out; omega) (Qb.out.1 _) (Qb.out.2.1 _) (Qb.out.2.2.1 _) (Qb.out.2.2.2.1 _) (Qb.out.2.2.2.2.1 _) (Qb.out.2.2.2.2.2.1 ((tot pre : Int) + 1)) (Qb.out.2.2.2.2.2.2.1 _) (Qb.out.2.2.2.2.2.2.2.1 _) (Qb.out.2.2.2.2.2.2.2.2 _) M.out.2.2 HF.out HX.out hown' hg
    simp only [List.length_map] at z10
    have N := zh z10
    clear hown' hg z10
    refine hK _ _ ?_
    clear hK K
    simp only [Act.put, List.setIfInBounds_toArray]
    refine wpAnyIn_ready (rs := [5]) (by kernel_rfl) (by simp) (AllReadyIn.cons rfl (fun K hK => ?_) AllReadyIn.nil)
    go_simp
    refine hK _ _ ?_
    clear hK K
    refine wpAnyIn_done (by kernel_rfl) ?_ _
    gi_wp2
    exact N.out
   ·go_simp
    refine hK _ _ ?_
    clear hK K
    refine wpAnyIn_ready (rs := [0, 2]) (by kernel_rfl) (by simp) (AllReadyIn.cons rfl (fun K hK => ?_) (AllReadyIn.cons rfl (fun K hK => ?_) AllReadyIn.nil))
    ·go_simp
     refine hK _ _ ?_
     clear hK K
     refine wpAnyIn_ready (rs := [2]) (by kernel_rfl) (by simp) (AllReadyIn.cons rfl (fun K hK => ?_) AllReadyIn.nil)
     go_simp
     refine hK _ _ ?_
     clear hK K
     refine wpAnyIn_ready (rs := [3]) (by kernel_rfl) (by simp) (AllReadyIn.cons rfl (fun K hK => ?_) AllReadyIn.nil)
     go_simp
     refine hK _ _ ?_
     clear hK K
     refine wpAnyIn_ready (rs := [4]) (by kernel_rfl) (by simp) (AllReadyIn.cons rfl (fun K hK => ?_) AllReadyIn.nil)
     rw [if_pos (by kernel_rfl)]
     refine app1Op _ _ rfl w.heap.size (.slice a5 m5 c5) (pre.map (·.1)) b _ (W5 ((tot pre : Int) + 1)).drew rfl rfl (Qb.out.2.2.2.2.2.2.1 _).drew rfl (by have := HL.out; omega) (by have := (Qb.out.1 ((tot pre : Int) + 1)).lt; simp; omega) ?_
     intro v' w6 hown' hg
     obtain ⟨g', cap', rfl⟩ := hown'.succ
     obtain ⟨⟨z8, z9⟩, z10⟩ := rb_next (n0 := W3.heap.size) (x := (b, none)) (by have := E.out; omega) (Qb.out.1 _) (Qb.out.2.1 _) (Qb.out.2.2.1 _) (Qb.out.2.2.2.1 _) (Qb.out.2.2.2.2.1 _) (Qb.out.2.2.2.2.2.1 ((tot pre : Int) + 1)) (Qb.out.2.2.2.2.2.2.1 _) (Qb.out.2.2.2.2.2.2.2.1 _) (Qb.out.2.2.2.2.2.2.2.2 _) M.out.2.2 HF.out HX.out hown' hg
     simp only [List.length_map] at z10
     have N := zh z10
     clear hown' hg z10
     refine hK _ _ ?_
     clear hK K
     simp only [Act.put, List.setIfInBounds_toArray]
     refine wpAnyIn_ready (rs := [5]) (by kernel_rfl) (by simp) (AllReadyIn.cons rfl (fun K hK => ?_) AllReadyIn.nil)
     go_simp
     refine hK _ _ ?_
     clear hK K
     refine wpAnyIn_done (by kernel_rfl) ?_ _
     gi_wp2
     exact N.out
    ·go_simp
     refine hK _ _ ?_
     clear hK K
     refine wpAnyIn_ready (rs := [0, 3]) (by kernel_rfl) (by simp) (AllReadyIn.cons rfl (fun K hK => ?_) (AllReadyIn.cons rfl (fun K hK => ?_) AllReadyIn.nil))
     ·go_simp
      refine hK _ _ ?_
      clear hK K
      refine wpAnyIn_ready (rs := [3]) (by kernel_rfl) (by simp) (AllReadyIn.cons rfl (fun K hK => ?_) AllReadyIn.nil)
      go_simp
      refine hK _ _ ?_
      clear hK K
      refine wpAnyIn_ready (rs := [4]) (by kernel_rfl) (by simp) (AllReadyIn.cons rfl (fun K hK => ?_) AllReadyIn.nil)
      rw [if_pos (by kernel_rfl)]
      refine app1Op _ _ rfl w.heap.size (.slice a5 m5 c5) (pre.map (·.1)) b _ (W5 ((tot pre : Int) + 1)).drew rfl rfl (Qb.out.2.2.2.2.2.2.1 _).drew rfl (by have := HL.out; omega) (by have := (Qb.out.1 ((tot pre : Int) + 1)).lt; simp; omega) ?_
      intro v' w6 hown' hg
      obtain ⟨g', cap', rfl⟩ := hown'.succ
      obtain ⟨⟨z8, z9⟩, z10⟩ := rb_next (n0 := W3.heap.size) (x := (b, none)) (by have := E.out; omega) (Qb.out.1 _) (Qb.out.2.1 _) (Qb.out.2.2.1 _) (Qb.out.2.2.2.1 _) (Qb.out.2.2.2.2.1 _) (Qb.out.2.2.2.2.2.1 ((tot pre : Int) + 1)) (Qb.out.2.2.2.2.2.2.1 _) (Qb.out.2.2.2.2.2.2.2.1 _) (Qb.out.2.2.2.2.2.2.2.2 _) M.out.2.2 HF.out HX.out hown' hg
      simp only [List.length_map] at z10
      have N := zh z10
      clear hown' hg z10
      refine hK _ _ ?_
      clear hK K
      simp only [Act.put, List.setIfInBounds_toArray]
      refine wpAnyIn_ready (rs := [5]) (by kernel_rfl) (by simp) (AllReadyIn.cons rfl (fun K hK => ?_) AllReadyIn.nil)
      go_simp
      refine hK _ _ ?_
      clear hK K
      refine wpAnyIn_done (by kernel_rfl) ?_ _
      gi_wp2
      exact N.out
     ·go_simp
      refine hK _ _ ?_
      clear hK K
      refine wpAnyIn_ready (rs := [0]) (by kernel_rfl) (by simp) (AllReadyIn.cons rfl (fun K hK => ?_) AllReadyIn.nil)
      go_simp
      refine hK _ _ ?_
      clear hK K
      refine wpAnyIn_ready (rs := [4]) (by kernel_rfl) (by simp) (AllReadyIn.cons rfl (fun K hK => ?_) AllReadyIn.nil)
      rw [if_pos (by kernel_rfl)]
      refine app1Op _ _ rfl w.heap.size (.slice a5 m5 c5) (pre.map (·.1)) b _ (W5 ((tot pre : Int) + 1)).drew rfl rfl (Qb.out.2.2.2.2.2.2.1 _).drew rfl (by have := HL.out; omega) (by have := (Qb.out.1 ((tot pre : Int) + 1)).lt; simp; omega) ?_
      intro v' w6 hown' hg
      obtain ⟨g', cap', rfl⟩ := hown'.succ
      obtain ⟨⟨z8, z9⟩, z10⟩ := rb_next (n0 := W3.heap.size) (x := (b, none)) (by have := E.out; omega) (Qb.out.1 _) (Qb.out.2.1 _) (Qb.out.2.2.1 _) (Qb.out.2.2.2.1 _) (Qb.out.2.2.2.2.1 _) (Qb.out.2.2.2.2.2.1 ((tot pre : Int) + 1)) (Qb.out.2.2.2.2.2.2.1 _) (Qb.out.2.2.2.2.2.2.2.1 _) (Qb.out.2.2.2.2.2.2.2.2 _) M.out.2.2 HF.out HX.out hown' hg
      simp only [List.length_map] at z10
      have N := zh z10
      clear hown' hg z10
      refine hK _ _ ?_
      clear hK K
      simp only [Act.put, List.setIfInBounds_toArray]
      refine wpAnyIn_ready (rs := [5]) (by kernel_rfl) (by simp) (AllReadyIn.cons rfl (fun K hK => ?_) AllReadyIn.nil)
      go_simp
      refine hK _ _ ?_
      clear hK K
      refine wpAnyIn_done (by kernel_rfl) ?_ _
      gi_wp2
      exact N.out
  | some c =>
   obtain rfl := some_zero M.out.1 M.out.2.2
   have ht : tot pre + 2 ≤ s.length := M.out.2.1
   obtain ⟨T, hT⟩ : ∃ T, tot pre + 2 = T := ⟨_, rfl⟩
   have hw : wrap64 ((tot pre : Int) + 2) = (T : Int) := by have := HS.out; rw [← hT]; exact wrap_in _ (by omega) (by omega)
   have HT := zh hT
   have ht2 : (T : Int) ≤ (s.length : Int) := by omega
   clear ht hT
   by_cases c255 : c = 255
   ·subst c255
    have e0 := (Qb.out.2.2.2.2.1 (T : Int)).boxed.cell
    have hba : (ByteArray.mk [(0 : UInt8), 255].toArray)[0]'(Nat.zero_lt_succ _) = 0 := rfl
    have e1 : ((W5 (T : Int)).alloc (.cells #[.int .u8 0] 5)).cell? ⟨z4, 0, none⟩ = some (.slice a5 m5 c5) := ((Qb.out.2.2.2.2.1 (T : Int)).alloc _).boxed.cell
    have HF := zh (show fine (0, some 255) from .inr rfl)
    have HX := zh (show (T : Int) = (tot (pre ++ [((0 : UInt8), some (255 : UInt8))]) : Nat) from by rw [tot_snoc, ← HT.out]; rfl)
    dsimp only [Pc.l, Option.toList]
    gi_wp2
    refine wpIn_region_any hmx ?_
    change wpAnyIn _ _ _ _ _ _ _ _ _ (World.drew _)
    refine wpAnyIn_ready (rs := [0, 1]) (by kernel_rfl) (by simp) (AllReadyIn.cons rfl (fun K hK => ?_) (AllReadyIn.cons rfl (fun K hK => ?_) AllReadyIn.nil))
    ·go_simp
     refine hK _ _ ?_
     clear hK K
     refine wpAnyIn_ready (rs := [1]) (by kernel_rfl) (by simp) (AllReadyIn.cons rfl (fun K hK => ?_) AllReadyIn.nil)
     go_simp
     refine hK _ _ ?_
     clear hK K
     refine wpAnyIn_ready (rs := [2]) (by kernel_rfl) (by simp) (AllReadyIn.cons rfl (fun K hK => ?_) AllReadyIn.nil)
     go_simp
     refine hK _ _ ?_
     clear hK K
     refine wpAnyIn_ready (rs := [3]) (by kernel_rfl) (by simp) (AllReadyIn.cons rfl (fun K hK => ?_) AllReadyIn.nil)
     go_simp
     refine hK _ _ ?_
     clear hK K
     refine wpAnyIn_ready (rs := [4]) (by kernel_rfl) (by simp) (AllReadyIn.cons rfl (fun K hK => ?_) AllReadyIn.nil)
     rw [if_pos (by kernel_rfl)]
     refine app1Op _ _ rfl w.heap.size (.slice a5 m5 c5) (pre.map (·.1)) 0 _ (W5 (T : Int)).drew rfl rfl (Qb.out.2.2.2.2.2.2.1 _).drew rfl (by have := HL.out; omega) (by have := (Qb.out.1 (T : Int)).lt; simp; omega) ?_
     intro v' w6 hown' hg
     obtain ⟨g', cap', rfl⟩ := hown'.succ
     obtain ⟨⟨z8, z9⟩, z10⟩ := rb_next (n0 := W3.heap.size) (x := ((0 : UInt8), some (255 : UInt8))) (by have := E.out; omega) (Qb.out.1 _) (Qb.out.2.1 _) (Qb.out.2.2.1 _) (Qb.out.2.2.2.1 _) (Qb.out.2.2.2.2.1 _) (Qb.out.2.2.2.2.2.1 (T : Int)) (Qb.out.2.2.2.2.2.2.1 _) (Qb.out.2.2.2.2.2.2.2.1 _) (Qb.out.2.2.2.2.2.2.2.2 _) M.out.2.2 HF.out HX.out hown' hg
     simp only [List.length_map] at z10
     have N := zh z10
     clear hown' hg z10
     refine hK _ _ ?_
     clear hK K
     simp only [Act.put, List.setIfInBounds_toArray]
     refine wpAnyIn_ready (rs := [5]) (by kernel_rfl) (by simp) (AllReadyIn.cons rfl (fun K hK => ?_) AllReadyIn.nil)
     go_simp
     refine hK _ _ ?_
     clear hK K
     refine wpAnyIn_done (by kernel_rfl) ?_ _
     gi_wp2
     exact N.out
    ·go_simp
     refine hK _ _ ?_
     clear hK K
     refine wpAnyIn_ready (rs := [0, 2]) (by kernel_rfl) (by simp) (AllReadyIn.cons rfl (fun K hK => ?_) (AllReadyIn.cons rfl (fun K hK => ?_) AllReadyIn.nil))
     ·go_simp
      refine hK _ _ ?_
      clear hK K
      refine wpAnyIn_ready (rs := [2]) (by kernel_rfl) (by simp) (AllReadyIn.cons rfl (fun K hK => ?_) AllReadyIn.nil)
      go_simp
      refine hK _ _ ?_
      clear hK K
      refine wpAnyIn_ready (rs := [3]) (by kernel_rfl) (by simp) (AllReadyIn.cons rfl (fun K hK => ?_) AllReadyIn.nil)
      go_simp
      refine hK _ _ ?_
      clear hK K
      refine wpAnyIn_ready (rs := [4]) (by kernel_rfl) (by simp) (AllReadyIn.cons rfl (fun K hK => ?_) AllReadyIn.nil)
      rw [if_pos (by kernel_rfl)]
      refine app1Op _ _ rfl w.heap.size (.slice a5 m5 c5) (pre.map (·.1)) 0 _ (W5 (T : Int)).drew rfl rfl (Qb.out.2.2.2.2.2.2.1 _).drew rfl (by have := HL.out; omega) (by have := (Qb.out.1 (T : Int)).lt; simp; omega) ?_
      intro v' w6 hown' hg
      obtain ⟨g', cap', rfl⟩ := hown'.succ
      obtain ⟨⟨z8, z9⟩, z10⟩ := rb_next (n0 := W3.heap.size) (x := ((0 : UInt8), some (255 : UInt8))) (by have := E.out; omega) (Qb.out.1 _) (Qb.out.2.1 _) (Qb.out.2.2.1 _) (Qb.out.2.2.2.1 _) (Qb.out.2.2.2.2.1 _) (Qb.out.2.2.2.2.2.1 (T : Int)) (Qb.out.2.2.2.2.2.2.1 _) (Qb.out.2.2.2.2.2.2.2.1 _) (Qb.out.2.2.2.2.2.2.2.2 _) M.out.2.2 HF.out HX.out hown' hg
      simp only [List.length_map] at z10
      have N := zh z10
      clear hown' hg z10
      refine hK _ _ ?_
      clear hK K
      simp only [Act.put, List.setIfInBounds_toArray]
      refine wpAnyIn_ready (rs := [5]) (by kernel_rfl) (by simp) (AllReadyIn.cons rfl (fun K hK => ?_) AllReadyIn.nil)
      go_simp
      refine hK _ _ ?_
      clear hK K
      refine wpAnyIn_done (by kernel_rfl) ?_ _
      gi_wp2
      exact N.out
     ·go_simp
      refine hK _ _ ?_
      clear hK K
      refine wpAnyIn_ready (rs := [0, 3]) (by kernel_rfl) (by simp) (AllReadyIn.cons rfl (fun K hK => ?_) (AllReadyIn.cons rfl (fun K hK => ?_) AllReadyIn.nil))
      ·go_simp
       refine hK _ _ ?_
       clear hK K
       refine wpAnyIn_ready (rs := [3]) (by kernel_rfl) (by simp) (AllReadyIn.cons rfl (fun K hK => ?_) AllReadyIn.nil)
       go_simp
       refine hK _ _ ?_
       clear hK K
       refine wpAnyIn_ready (rs := [4]) (by kernel_rfl) (by simp) (AllReadyIn.cons rfl (fun K hK => ?_) AllReadyIn.nil)
       rw [if_pos (by kernel_rfl)]
       refine app1Op _ _ rfl w.heap.size (.slice a5 m5 c5) (pre.map (·.1)) 0 _ (W5 (T : Int)).drew rfl rfl (Qb.out.2.2.2.2.2.2.1 _).drew rfl (by have := HL.out; omega) (by have := (Qb.out.1 (T : Int)).lt; simp; omega) ?_
       intro v' w6 hown' hg
       obtain ⟨g', cap', rfl⟩ := hown'.succ
       obtain ⟨⟨z8, z9⟩, z10⟩ := rb_next (n0 := W3.heap.size) (x := ((0 : UInt8), some (255 : UInt8))) (by have := E.out; omega) (Qb.out.1 _) (Qb.out.2.1 _) (Qb.out.2.2.1 _) (Qb.out.2.2.2.1 _) (Qb.out.2.2.2.2.1 _) (Qb.out.2.2.2.2.2.1 (T : Int)) (Qb.out.2.2.2.2.2.2.1 _) (Qb.out.2.2.2.2.2.2.2.1 _) (Qb.out.2.2.2.2.2.2.2.2 _) M.out.2.2 HF.out HX.out hown' hg
       simp only [List.length_map] at z10
       have N := zh z10
       clear hown' hg z10
       refine hK _ _ ?_
       clear hK K
       simp only [Act.put, List.setIfInBounds_toArray]
       refine wpAnyIn_ready (rs := [5]) (by kernel_rfl) (by simp) (AllReadyIn.cons rfl (fun K hK => ?_) AllReadyIn.nil)
       go_simp
       refine hK _ _ ?_
       clear hK K
       refine wpAnyIn_done (by kernel_rfl) ?_ _
       gi_wp2
       exact N.out
      ·go_simp
       refine hK _ _ ?_
       clear hK K
       refine wpAnyIn_ready (rs := [0]) (by kernel_rfl) (by simp) (AllReadyIn.cons rfl (fun K hK => ?_) AllReadyIn.nil)
       go_simp
       refine hK _ _ ?_
       clear hK K
       refine wpAnyIn_ready (rs := [4]) (by kernel_rfl) (by simp) (AllReadyIn.cons rfl (fun K hK => ?_) AllReadyIn.nil)
       rw [if_pos (by kernel_rfl)]
       refine app1Op _ _ rfl w.heap.size (.slice a5 m5 c5) (pre.map (·.1)) 0 _ (W5 (T : Int)).drew rfl rfl (Qb.out.2.2.2.2.2.2.1 _).drew rfl (by have := HL.out; omega) (by have := (Qb.out.1 (T : Int)).lt; simp; omega) ?_
       intro v' w6 hown' hg
       obtain ⟨g', cap', rfl⟩ := hown'.succ
       obtain ⟨⟨z8, z9⟩, z10⟩ := rb_next (n0 := W3.heap.size) (x := ((0 : UInt8), some (255 : UInt8))) (by have := E.out; omega) (Qb.out.1 _) (Qb.out.2.1 _) (Qb.out.2.2.1 _) (Qb.out.2.2.2.1 _) (Qb.out.2.2.2.2.1 _) (Qb.out.2.2.2.2.2.1 (T : Int)) (Qb.out.2.2.2.2.2.2.1 _) (Qb.out.2.2.2.2.2.2.2.1 _) (Qb.out.2.2.2.2.2.2.2.2 _) M.out.2.2 HF.out HX.out hown' hg
       simp only [List.length_map] at z10
       have N := zh z10
       clear hown' hg z10
       refine hK _ _ ?_
       clear hK K
       simp only [Act.put, List.setIfInBounds_toArray]
       refine wpAnyIn_ready (rs := [5]) (by kernel_rfl) (by simp) (AllReadyIn.cons rfl (fun K hK => ?_) AllReadyIn.nil)
       go_simp
       refine hK _ _ ?_
       clear hK K
       refine wpAnyIn_done (by kernel_rfl) ?_ _
       gi_wp2
       exact N.out
   ·have g1 := (Qb.out.2.1 (T : Int)).boxed.cell
    have g2 := (Qb.out.2.2.1 (T : Int)).boxed.cell
    have g3 := (Qb.out.2.2.2.1 (T : Int)).boxed.cell
    have f1 := (Qb.out.2.1 (T : Int)).boxed.frozen
    have f2 := (Qb.out.2.2.1 (T : Int)).boxed.frozen
    have f3 := (Qb.out.2.2.2.1 (T : Int)).boxed.frozen
    have n12 : z1 ≠ z2 := by have := E.out; omega
    have n13 : z1 ≠ z3 := by have := E.out; omega
    have n23 : z2 ≠ z3 := by have := E.out; omega
    by_cases c0 : c = 0
    ·subst c0
     have e0 := (Qb.out.1 (T : Int)).boxed.cell
     have e4 := (Qb.out.2.2.2.2.1 (T : Int)).boxed.cell
     have e5 := (Qb.out.2.2.2.2.2.1 (T : Int)).boxed.cell
     have cv := conv_own _ (Qb.out.2.2.2.2.2.2.1 (T : Int)).drew
     have ct := cut_from s T
     have n01 : w.heap.size ≠ z1 := by have := E.out; omega
     have n51 : z5 ≠ z1 := by have := E.out; omega
     have n10 := n01.symm
     have n15 := n51.symm
     have n21 := n12.symm
     have n31 := n13.symm
     have n32 := n23.symm
     dsimp only [Pc.l, Option.toList]
     gi_wp2
     gi_region_with_o (fail)
     all_goals gi_wp2
     all_goals exact rx_drew (rb_stop (by have := E.out; omega) (Qb.out.2.1 _) (Qb.out.2.2.1 _) (Qb.out.2.2.2.1 _) (Qb.out.2.2.2.2.2.2.2.1 _) (Qb.out.2.2.2.2.2.2.2.2 _) (fun ⟨r, hr⟩ => by have := (un_end (pre := pre) (r := r) (by rw [← hr]; simp) M.out.2.2).1; rw [HT.out] at this; exact this))
    ·have p1 : (c == 0) = false := by simpa using c0
     have p2 : (c == 255) = false := by simpa using c255
     have p3 : (c != 255) = true := by simpa using c255
     dsimp only [Pc.l, Option.toList]
     gi_wp2
     exact rb_stop (by have := E.out; omega) (Qb.out.2.1 _) (Qb.out.2.2.1 _) (Qb.out.2.2.2.1 _) (Qb.out.2.2.2.2.2.2.2.1 _) (Qb.out.2.2.2.2.2.2.2.2 _) (fun ⟨r, hr⟩ => un_bad (pre := pre) (r := r) (b := 0) (c := c) (by rw [← hr]; simp) M.out.2.2 c0 c255)
 case done =>
  rintro D ys W hD rfl ⟨_, _, _, h1, h2, h3, hB, hf⟩ hK
  have g1 := h1.boxed.cell
  have g2 := h2.boxed.cell
  have g3 := h3.boxed.cell
  have f1 := h1.boxed.frozen
  have f2 := h2.boxed.frozen
  have f3 := h3.boxed.frozen
  have n12 : z1 ≠ z2 := by have := E.out; omega
  have n13 : z1 ≠ z3 := by have := E.out; omega
  have n23 : z2 ≠ z3 := by have := E.out; omega
  have st := rb_stop (n0 := 0) (pre := []) (A := []) (B := []) (e := 3) (by have := E.out; omega) h1 h2 h3 hB (KeepsOthers.refl W) (fun _ => un_all hf)
  have ky := st.1.same D _ (Nat.zero_le _) hK rfl
  obtain ⟨r1, r2, r3, rB⟩ := st.2 (List.nil_prefix)
  have hD2 : w.heap.size ≤ D := Nat.le_trans E.out.2.2.1.size hD
  have U := zh (za r1 (za r2 (za r3 (za rB (za hD2 ky)))))
  clear h1 h2 h3 hB hf st r1 r2 r3 rB ky hK hD hD2
  go_wp2
  refine ⟨by simp, .inl ⟨_, _, rfl, run_takeDeferred U.out.2.2.2.2.2, ?_⟩⟩
  have x1 := (blk_own U.out.1 (grownBy_putObj' _ D (.deferred none)) (fun r e => by cases e; exact ⟨_, U.out.2.2.2.2.2, rfl⟩)).boxed.cell
  have x2 := (blk_own U.out.2.1 (grownBy_putObj' _ D (.deferred none)) (fun r e => by cases e; exact ⟨_, U.out.2.2.2.2.2, rfl⟩)).boxed.cell
  have x3 := (blk_own U.out.2.2.1 (grownBy_putObj' _ D (.deferred none)) (fun r e => by cases e; exact ⟨_, U.out.2.2.2.2.2, rfl⟩)).boxed.cell
  refine ⟨.tuple #[str (Kc.un s).1, str (Kc.un s).2.1, .int .i64 (Kc.un s).2.2], ?_, rfl, U.out.2.2.2.1.grown (grownBy_putObj' _ D _) U.out.2.2.2.1.size (fun k e => by cases e; exact U.out.2.2.2.2.1)⟩
  simp [results, Tryz.results161, go_sem, x1, x2, x3]
 case ret =>
  rintro D pre W hD hp hx hK
  obtain ⟨r1, r2, r3, rB⟩ := hx hp
  have hD2 : w.heap.size ≤ D := Nat.le_trans E.out.2.2.1.size hD
  go_wp2
  refine ⟨by simp, .inl ⟨_, _, rfl, run_takeDeferred hK, ?_⟩⟩
  have own : ∀ r, some D = some r → ∃ o : Obj, W.heap[r]? = some o ∧ o.isCells = false := fun r e => by cases e; exact ⟨_, hK, rfl⟩
  have x1 := (blk_own r1 (grownBy_putObj' _ D (.deferred none)) own).boxed.cell
  have x2 := (blk_own r2 (grownBy_putObj' _ D (.deferred none)) own).boxed.cell
  have x3 := (blk_own r3 (grownBy_putObj' _ D (.deferred none)) own).boxed.cell
  refine ⟨.tuple #[str (Kc.un s).1, str (Kc.un s).2.1, .int .i64 (Kc.un s).2.2], ?_, rfl, rB.grown (grownBy_putObj' _ D _) rB.size (fun k e => by cases e; exact hD2)⟩
  simp [results, Tryz.results161, go_sem, x1, x2, x3]
end Go.Proofs.YtmgdciihpjifgaaGreatDoor
