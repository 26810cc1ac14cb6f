/-
  What Row answers: the bytes of values, one behind the other, or the first error. Conditions: the bounds named in each theorem.
-/
import Derived.Test.YtfemigdghdbbgaaKcPut
import Derived.Test.YtfemigdghdbbgaaKcVals
namespace Go.Proofs.Ytfemigdghdbbgaa
open Go.RowKit

def V.ck (x : V) : Int := Vl.ck x.k x.n x.b x.s
def V.pt (x : V) : List UInt8 := Go.Proofs.Ytfemigdghdbbgaa.pt x.k x.n x.b x.s

/-- The first error of a row; its bytes. -/
def re : List V → Int
  | [] => 0
  | x :: xs => if x.ck = 0 then re xs else x.ck
def rb : List V → List UInt8
  | [] => []
  | x :: xs => x.pt ++ rb xs

theorem rb_append (a b : List V) : rb (a ++ b) = rb a ++ rb b := by
  induction a with
  | nil => rfl
  | cons x a ih => simp [rb, ih]
theorem rb_snoc (a : List V) (x : V) : rb (a ++ [x]) = rb a ++ x.pt := by rw [rb_append]; simp [rb]
theorem re_fine {xs : List V} (h : re xs = 0) : ∀ x ∈ xs, x.ck = 0 := by
  induction xs with
  | nil => simp
  | cons y xs ih =>
    rw [re] at h
    by_cases g : y.ck = 0
    · rw [if_pos g] at h
      intro x hx
      rcases List.mem_cons.1 hx with rfl | e
      · exact g
      · exact ih h x e
    · rw [if_neg g] at h; exact absurd h g
theorem re_of {xs : List V} (h : ∀ x ∈ xs, x.ck = 0) : re xs = 0 := by
  induction xs with
  | nil => rfl
  | cons y xs ih => rw [re, if_pos (h y (by simp))]; exact ih (fun x hx => h x (by simp [hx]))
theorem re_append {a : List V} (b : List V) (h : re a = 0) : re (a ++ b) = re b := by
  induction a with
  | nil => rfl
  | cons y a ih =>
    rw [re] at h
    by_cases g : y.ck = 0
    · rw [if_pos g] at h; rw [List.cons_append, re, if_pos g, ih h]
    · rw [if_neg g] at h; exact absurd h g
theorem rb_len {xs : List V} (h : ∀ x ∈ xs, x.ck = 0) : (rb xs).length ≤ 131 * xs.length := by
  induction xs with
  | nil => simp [rb]
  | cons y xs ih =>
    have h1 := ih (fun x hx => h x (by simp [hx]))
    have h2 := (pt_len (h y (by simp))).1
    simp [rb]
    unfold V.pt
    omega
theorem take_next (xs : List V) (j : Nat) (h : j < xs.length) : xs.take (j + 1) = xs.take j ++ [xs[j]] := List.take_succ_eq_append_getElem h
theorem re_next (xs : List V) (j : Nat) (h : j < xs.length) (h0 : re (xs.take j) = 0) (h1 : xs[j].ck = 0) : re (xs.take (j + 1)) = 0 := by
  rw [take_next xs j h, re_append _ h0, re, if_pos h1]; rfl
theorem re_stop (xs : List V) (j : Nat) (h : j < xs.length) (h0 : re (xs.take j) = 0) (h1 : xs[j].ck ≠ 0) : re xs = xs[j].ck := by
  conv => lhs; rw [← List.take_append_drop j xs]
  rw [re_append _ h0, List.drop_eq_getElem_cons h, re, if_neg h1]

/-- What a row is written as. -/
def rt (xs : List V) : List UInt8 := if re xs = 0 then rb xs else []
theorem rt_ok {xs : List V} (h : re xs = 0) : rt xs = rb xs := by unfold rt; rw [if_pos h]
theorem rt_bad {xs : List V} (h : re xs ≠ 0) : rt xs = [] := by unfold rt; rw [if_neg h]

set_option maxHeartbeats 2000000 in
theorem krow_is (xs : List V) (ao : Option Addr) (cap : Nat) (w : World) (h : Sl w ao xs) (hl : xs.length ≤ 30) (ho : ∀ x ∈ xs, x.ok) :
    Calls Try.prog 10 #[.slice ao xs.length cap] w fun e w' => e = .returned (.tuple #[.string ⟨(rt xs).toArray⟩, .int .i64 (re xs)]) ∧ Below w.heap.size w w' := by
  have H := Lib.hid (And.intro h (And.intro hl ho))
  clear h hl ho
  go_enter Try.func10, Try.ntmps10
  go_wp2
  go_loopw [4, 10] (fun o i wr => ∃ j : Nat, i = .int .i64 j ∧ j ≤ xs.length ∧ Below w.heap.size w wr ∧ Ow wr w.heap.size o (rb (xs.take j)) ∧ re (xs.take j) = 0) (fun _ i _ => xs.length - (intOf i).toNat)
  case atStart => exact ⟨0, rfl, Nat.zero_le _, Below.refl _ _, ow_nil _ _, rfl⟩
  case round =>
    obtain ⟨j, rfl, hj, hb, hO, hre⟩ := hrel
    have J := Lib.hid (And.intro hb (And.intro hO hre))
    clear hb hO hre
    by_cases hlt : j < xs.length
    · obtain ⟨a, rfl, h0, h1, h2, h3⟩ := H.out.1.below J.out.1 j xs[j] (List.getElem?_eq_getElem hlt)
      have hw : wrap64 ((j : Int) + 1) = (j : Int) + 1 := by have := H.out.2.1; exact wrap_in _ (by omega) (by omega)
      have hok := Lib.hid (H.out.2.2 _ (List.getElem_mem hlt))
      by_cases hc : xs[j].ck = 0
      · have HC := Lib.hid hc
        clear hc
        go_wp2_with fail
        refine (check_is _ _ _ 0 _ _ hok.out.1 HC.out).mono ?_
        rintro e w1 ⟨rfl, hb⟩
        obtain ⟨_, c0, c1, c2, c3⟩ := boxes_1 hb
        have B1 := Lib.hid (old_1 hb)
        clear hb
        go_wp2_with fail
        refine (put_is w.heap.size _ (rb (xs.take j)) _ _ _ _ _ (J.out.2.1.keep B1.out) (Nat.le_trans J.out.1.size B1.out.size) ?len HC.out hok.out.1 hok.out.2).mono ?_
        case len =>
          have h5 := rb_len (re_fine J.out.2.2)
          rw [List.length_take] at h5
          have := H.out.2.1
          omega
        rintro e w2 ⟨v2, rfl, hO2, hb2⟩
        have K := Lib.hid (And.intro hO2 ((step0 J.out.1 B1.out).trans hb2))
        clear hO2 hb2
        go_wp2
        go_roundw
        case rel => exact ⟨j + 1, by go_num, hlt, K.out.2, by rw [take_next xs j hlt, rb_snoc]; exact K.out.1, re_next xs j hlt J.out.2.2 HC.out⟩
        case measure => rw [hw]; simp [intOf]; omega
      · have HC := Lib.hid hc
        have r1 := bne_t hc
        have r2 := beq_f hc
        have HR := Lib.hid (re_stop xs j hlt J.out.2.2 hc)
        go_wp2_with fail
        refine (check_is _ _ _ xs[j].ck _ _ hok.out.1 rfl).mono ?_
        rintro e w1 ⟨rfl, hb⟩
        have B1 := Lib.hid (step1 J.out.1 hb)
        clear hb
        go_wp2
        go_ret2
        exact ⟨ret_si (a := []) (rt_bad (by rw [HR.out]; exact HC.out)).symm HR.out.symm, B1.out⟩
    · obtain rfl : j = xs.length := by omega
      have hO := J.out.2.1
      have hr := J.out.2.2
      rw [List.take_length] at hO hr
      have cv := conv_own _ hO
      have K := Lib.hid (And.intro (rt_ok hr) hr)
      clear hO hr
      go_wp2
      go_ret2
      exact ⟨ret_si K.out.1.symm K.out.2.symm, J.out.1⟩

end Go.Proofs.Ytfemigdghdbbgaa
