/-
  What the example of the statements about an arena answers: true. No condition.
-/
import Derived.Test.YtlommgljkjkmkaaArSet
import Derived.Test.YtlommgljkjkmkaaArLive
namespace Go.Proofs.Ytlommgljkjkmkaa.Gn
open Go.RowKit
set_option linter.unusedVariables false
set_option linter.unusedSimpArgs false

/-- An arena, and refs in boxes beside it. -/
def St (W0 w : World) (p : Nat) (M : Nat → Prop) (a : Arn Int) (bs : List (Nat × Int × Int)) : Prop :=
  W0.heap.size ≤ p ∧ Ar w p M a ∧ (∀ b ∈ bs, Blk w b.1 #[.int .i64 b.2.1, .int .i64 b.2.2] 33 ∧ ¬ M b.1) ∧ Below W0.heap.size W0 w
section
variable {W0 w w' : World} {p : Nat} {M : Nat → Prop} {a a' : Arn Int} {bs : List (Nat × Int × Int)}
theorem St.call (h : St W0 w p M a bs) (hto : ArTo w p M a' w') : ∃ M', St W0 w' p M' a' bs := by
  obtain ⟨h1, h2, h3, h4⟩ := h
  obtain ⟨M', k1, k2, k3⟩ := hto
  refine ⟨M', h1, k1, fun b hb => ?_, h4.trans (k3.below (fun k hk => Nat.le_trans h1 (h2.from k hk).1) h4.size)⟩
  obtain ⟨q1, q2⟩ := h3 b hb
  refine ⟨q1.move (k3.block _ q1.lt q2), fun e => ?_⟩
  rcases k2 _ e with e | e
  · exact q2 e
  · have := q1.lt; omega
theorem St.keep (h : St W0 w p M a bs) (hb : Below w.heap.size w w') : St W0 w' p M a bs :=
  ⟨h.1, h.2.1.keep hb, fun b hm => ⟨(h.2.2.1 b hm).1.below hb, (h.2.2.1 b hm).2⟩, step0 h.2.2.2 hb⟩
theorem St.box (h : St W0 w p M a bs) (x y : Int) : St W0 (w.alloc (.cells #[.int .i64 x, .int .i64 y] 33)) p M a ((w.heap.size, x, y) :: bs) := by
  have q := h.keep (below1 w (.cells #[.int .i64 x, .int .i64 y] 33))
  refine ⟨q.1, q.2.1, fun b hb => ?_, q.2.2.2⟩
  rcases List.mem_cons.1 hb with rfl | hb
  · exact ⟨Blk.new w _ _, fun e => by have := (h.2.1.from _ e).2; simp at this⟩
  · exact q.2.2.1 b hb
theorem St.cell (h : St W0 w p M a bs) {b : Nat × Int × Int} (hb : b ∈ bs) : w.cell? ⟨b.1, 0, none⟩ = some (.int .i64 b.2.1) ∧ w.cell? ⟨b.1, 1, none⟩ = some (.int .i64 b.2.2) := ⟨(h.2.2.1 b hb).1.cell 0, (h.2.2.1 b hb).1.cell 1⟩
theorem St.new (h : Ar w W0.heap.size M a) (hb : Below W0.heap.size W0 w) : St W0 w W0.heap.size M a [] := ⟨Nat.le_refl _, h, (fun b hb => by cases hb), hb⟩
end

/-- Take, its answers by name. -/
theorem take_eq (a : Arn Int) (N : Int) (p : Nat) (M : Nat → Prop) (x I G : Int) (b : Arn Int) (w : World) (ha : Ar w p M a) (hok : a.ok N) (hN : 0 ≤ N) (hN' : N ≤ 1000000) (hr : a.room ≠ 0) (hI : (a.at : Int) = I) (hG : a.gen 0 + 1 = G) (hb : a.take 0 x = b) :
    Calls Try.prog 11 #[.pointer (some ⟨p, 0, none⟩), .int .i64 x] w fun e w' => e = .returned (.tuple #[.agg #[.int .i64 I, .int .i64 G], .int .i64 0]) ∧ ArTo w p M b w' := by
  subst hI hG hb
  exact take_ok a N p M x w ha hok hN hN' hr
theorem get_eq (a : Arn Int) (p : Nat) (M : Nat → Prop) (i : Nat) (x : ASl Int) (I G X : Int) (w : World) (ha : Ar w p M a) (hi : a.sl[i]? = some x) (hk : x.k = true) (hsz : a.sl.length ≤ 5000) (hI : (i : Int) = I) (hG : x.g = G) (hX : x.h = X) :
    Calls Try.prog 13 #[.pointer (some ⟨p, 0, none⟩), .agg #[.int .i64 I, .int .i64 G]] w fun e w' => e = .returned (.tuple #[.int .i64 X, .bool true]) ∧ Below w.heap.size w w' := by
  subst hI hG hX
  exact get_ok a p M i x w ha hi hk hsz
theorem set_eq (a : Arn Int) (p : Nat) (M : Nat → Prop) (i : Nat) (x : ASl Int) (I G y : Int) (b : Arn Int) (w : World) (ha : Ar w p M a) (hi : a.sl[i]? = some x) (hk : x.k = true) (hsz : a.sl.length ≤ 5000) (hbz : a.bk.length ≤ 5000) (hI : (i : Int) = I) (hG : x.g = G) (hb : a.put i x.g y = b) :
    Calls Try.prog 14 #[.pointer (some ⟨p, 0, none⟩), .agg #[.int .i64 I, .int .i64 G], .int .i64 y] w fun e w' => e = .returned (.bool true) ∧ ArTo w p M b w' := by
  subst hI hG hb
  exact set_ok a p M i x y w ha hi hk hsz hbz
theorem free_eq (a : Arn Int) (p : Nat) (M : Nat → Prop) (i : Nat) (x : ASl Int) (I G : Int) (b : Arn Int) (w : World) (ha : Ar w p M a) (hi : a.sl[i]? = some x) (hk : x.k = true) (hsz : a.sl.length ≤ 5000) (hbz : a.bk.length ≤ 5000) (hI : (i : Int) = I) (hG : x.g = G) (hb : a.free 0 i x.g = b) :
    Calls Try.prog 16 #[.pointer (some ⟨p, 0, none⟩), .agg #[.int .i64 I, .int .i64 G]] w fun e w' => e = .returned (.bool true) ∧ ArTo w p M b w' := by
  subst hI hG hb
  exact free_ok a p M i x w ha hi hk hsz hbz

def Ex0 : Arn Int := ⟨2, [], []⟩
def Ex1 : Arn Int := ⟨2, [⟨5, 1, true⟩], []⟩
def Ex2 : Arn Int := ⟨2, [⟨5, 1, true⟩, ⟨6, 1, true⟩], []⟩
def Ex3 : Arn Int := ⟨2, [⟨0, 1, false⟩, ⟨6, 1, true⟩], [0]⟩
def Ex4 : Arn Int := ⟨2, [⟨8, 2, true⟩, ⟨6, 1, true⟩], []⟩
def Ex5 : Arn Int := ⟨2, [⟨9, 2, true⟩, ⟨6, 1, true⟩], []⟩
theorem ok0 : Ex0.ok 0 := Arn.ok_new 2 (by decide)
theorem ok1 : Ex1.ok 1 := ok0.take (z := 0) (by decide) (by decide) 5
theorem ok2 : Ex2.ok 2 := ok1.take (z := 0) (by decide) (by decide) 6
theorem ok3 : Ex3.ok 2 := ok2.free (z := 0) (i := 0) (y := ⟨5, 1, true⟩) rfl rfl
theorem ok4 : Ex4.ok 3 := ok3.take (z := 0) (by decide) (by decide) 8

set_option maxHeartbeats 8000000 in
set_option maxRecDepth 100000 in
theorem awake_any (w : World) :
    Calls Try.prog 6 #[] w fun e w' => e = .returned (.bool true) ∧ Below w.heap.size w w' := by
  go_enter Try.func6, Try.ntmps6
  go_wp2_with fail
  refine (new_is 2 _ 2 rfl).mono ?_
  rintro _ w1 ⟨rfl, hA, hb⟩
  obtain ⟨p, hp⟩ : ∃ p, w.heap.size = p := ⟨_, rfl⟩
  obtain ⟨M1, hM1⟩ : ∃ M : Nat → Prop, (fun k => k = w.heap.size) = M := ⟨_, rfl⟩
  have S1 := Lib.hid (show St w w1 p M1 Ex0 [] from by rw [← hp, ← hM1]; exact St.new hA hb)
  rw [hp]
  clear hA hb hM1
  go_wp2_with fail
  refine (take_eq Ex0 0 p _ 5 0 1 Ex1 _ S1.out.2.1 ok0 (by decide) (by decide) (by decide) rfl rfl rfl).mono ?_
  rintro _ w2 ⟨rfl, hto⟩
  obtain ⟨M2, hS⟩ := S1.out.call hto
  have S2 := Lib.hid (hS.box 0 1)
  clear hto hS
  go_wp2_with fail
  refine (take_eq Ex1 1 p _ 6 1 1 Ex2 _ S2.out.2.1 ok1 (by decide) (by decide) (by decide) rfl rfl rfl).mono ?_
  rintro _ w3 ⟨rfl, hto⟩
  obtain ⟨M3, hS⟩ := S2.out.call hto
  have S3 := Lib.hid (hS.box 1 1)
  clear hto hS
  go_wp2_with fail
  refine (take_full Ex2 2 p _ 7 _ S3.out.2.1 ok2 rfl).mono ?_
  rintro _ w4 ⟨rfl, hb⟩
  have S4 := Lib.hid ((S3.out.keep hb).box 0 0)
  clear hb
  obtain ⟨x0, x1⟩ := S4.out.cell (b := (w2.heap.size, 0, 1)) (by simp)
  go_wp2_with fail
  refine (get_eq Ex2 p _ 0 ⟨5, 1, true⟩ 0 1 5 _ S4.out.2.1 rfl rfl (by decide) rfl rfl rfl).mono ?_
  rintro _ w5 ⟨rfl, hb⟩
  have S5 := Lib.hid (S4.out.keep hb)
  clear hb x0 x1
  obtain ⟨x0, x1⟩ := S5.out.cell (b := (w2.heap.size, 0, 1)) (by simp)
  go_wp2_with fail
  refine (free_eq Ex2 p _ 0 ⟨5, 1, true⟩ 0 1 Ex3 _ S5.out.2.1 rfl rfl (by decide) (by decide) rfl rfl rfl).mono ?_
  rintro _ w6 ⟨rfl, hto⟩
  obtain ⟨M6, hS⟩ := S5.out.call hto
  have S6 := Lib.hid hS
  clear hto hS x0 x1
  obtain ⟨x0, x1⟩ := S6.out.cell (b := (w2.heap.size, 0, 1)) (by simp)
  go_wp2_with fail
  refine (get_no Ex3 p _ 0 1 _ S6.out.2.1 rfl).mono ?_
  rintro _ w7 ⟨rfl, hb⟩
  have S7 := Lib.hid (S6.out.keep hb)
  clear hb x0 x1
  go_wp2_with fail
  refine (take_eq Ex3 2 p _ 8 0 2 Ex4 _ S7.out.2.1 ok3 (by decide) (by decide) (by decide) rfl rfl rfl).mono ?_
  rintro _ w8 ⟨rfl, hto⟩
  obtain ⟨M8, hS⟩ := S7.out.call hto
  have S8 := Lib.hid (hS.box 0 2)
  clear hto hS
  obtain ⟨x0, x1⟩ := S8.out.cell (b := (w2.heap.size, 0, 1)) (by simp)
  obtain ⟨x2, x3⟩ := S8.out.cell (b := (w3.heap.size, 1, 1)) (by simp)
  obtain ⟨x4, x5⟩ := S8.out.cell (b := (w8.heap.size, 0, 2)) (by simp)
  go_wp2_with fail
  refine (room_is Ex4 3 p _ _ S8.out.2.1 ok4).mono ?_
  rintro _ w9 ⟨rfl, hb⟩
  rw [show Ex4.room = 0 from rfl]
  have S9 := Lib.hid (S8.out.keep hb)
  clear hb x0 x1 x2 x3 x4 x5
  obtain ⟨x0, x1⟩ := S9.out.cell (b := (w2.heap.size, 0, 1)) (by simp)
  obtain ⟨x2, x3⟩ := S9.out.cell (b := (w3.heap.size, 1, 1)) (by simp)
  obtain ⟨x4, x5⟩ := S9.out.cell (b := (w8.heap.size, 0, 2)) (by simp)
  go_wp2_with fail
  refine (live_is Ex4 3 p _ _ S9.out.2.1 ok4).mono ?_
  rintro _ w10 ⟨lv, rfl, hL, hb⟩
  obtain ⟨lo, lc, rfl, hjunk⟩ := hL.sl
  rw [show (Ex4.lv Ex4.sl.length).length = 2 from rfl]
  have S10 := Lib.hid (S9.out.keep hb)
  clear hb x0 x1 x2 x3 x4 x5 hjunk hL
  obtain ⟨x0, x1⟩ := S10.out.cell (b := (w2.heap.size, 0, 1)) (by simp)
  obtain ⟨x2, x3⟩ := S10.out.cell (b := (w3.heap.size, 1, 1)) (by simp)
  obtain ⟨x4, x5⟩ := S10.out.cell (b := (w8.heap.size, 0, 2)) (by simp)
  go_wp2_with fail
  refine (set_no Ex4 p _ 0 1 1 _ S10.out.2.1 rfl).mono ?_
  rintro _ w11 ⟨rfl, hb⟩
  have S11 := Lib.hid (S10.out.keep hb)
  clear hb x0 x1 x2 x3 x4 x5
  obtain ⟨x0, x1⟩ := S11.out.cell (b := (w2.heap.size, 0, 1)) (by simp)
  obtain ⟨x2, x3⟩ := S11.out.cell (b := (w3.heap.size, 1, 1)) (by simp)
  obtain ⟨x4, x5⟩ := S11.out.cell (b := (w8.heap.size, 0, 2)) (by simp)
  go_wp2_with fail
  refine (set_eq Ex4 p _ 0 ⟨8, 2, true⟩ 0 2 9 Ex5 _ S11.out.2.1 rfl rfl (by decide) (by decide) rfl rfl rfl).mono ?_
  rintro _ w12 ⟨rfl, hto⟩
  obtain ⟨M12, hS⟩ := S11.out.call hto
  have S12 := Lib.hid hS
  clear hto hS x0 x1 x2 x3 x4 x5
  go_wp2
  go_ret
  exact ⟨rfl, S12.out.2.2.2⟩

end Go.Proofs.Ytlommgljkjkmkaa.Gn
