/-
  What Read answers, the program's and the document's: a row of values that the call owns, or the error. Condition: the bound named in each theorem.
-/
import Derived.Test.YtmgdciihpjifgaaGreatDoorQpRkRefRead
namespace Go.Proofs.YtmgdciihpjifgaaGreatDoor.Rk
open Go.RowKit

theorem rui_is (l R : List UInt8) (N : Nat) (x e : Int) (w : World) (hx : (N : Int) = x) (h : Pk.rd l 0 0 = (N, R, e)) :
    Calls Tryz.prog 93 #[.string ⟨l.toArray⟩] w fun y w' => y = .returned (.tuple #[.int .u64 x, .string ⟨R.toArray⟩, .int .i64 e]) ∧ Below w.heap.size w w' := by
  subst hx
  refine (readUint_is l R N e w h).mono ?_
  rintro x w' ⟨rfl, n, rfl⟩
  exact ⟨rfl, below_drewV n (Below.refl _ _)⟩
theorem rvx (l : List UInt8) (k n b e : Int) (s r : List UInt8) (w : World) (hl : l.length ≤ 1000000) (h : rd l = ⟨k, n, b, s, r, e⟩) :
    Calls Tryz.prog 123 #[.string ⟨l.toArray⟩] w fun x w' => x = .returned (.tuple #[.agg #[.int .i64 k, .int .i64 n, .int .u64 b, .string ⟨s.toArray⟩], .string ⟨r.toArray⟩, .int .i64 e]) ∧ Below w.heap.size w w' := by
  have := rv_is l w hl
  rw [h] at this
  exact this

/-- What Read hands back. -/
def RA (l : List UInt8) (w : World) (e : Ending) (w' : World) : Prop := ∃ v, e = .returned (.tuple #[v, .int .i64 (ra l).2]) ∧ OwV w' w.heap.size v (ra l).1 ∧ Below w.heap.size w w'
theorem RA.bad {l : List UInt8} {w w' : World} {E : Int} (h : ra l = ([], E)) (hb : Below w.heap.size w w') : RA l w (.returned (.tuple #[.slice none 0 0, .int .i64 E])) w' :=
  ⟨_, by rw [h], by rw [h]; exact owv_nil _ _, hb⟩

set_option maxHeartbeats 1000000 in
theorem rr_err (l : List UInt8) (e : Int) (w : World) (h : Pk.rd l 0 0 = (0, [], e)) (he : e ≠ 0) :
    Calls Tryz.prog 105 #[.string ⟨l.toArray⟩] w (RA l w) := by
  have H := Lib.hid (And.intro h he)
  have e1 := bne_t he
  have e2 := beq_f he
  clear h
  go_enter Tryz.func105, Tryz.ntmps105
  go_wp2_with fail
  refine (rui_is l [] 0 0 e _ rfl H.out.1).mono ?_
  rintro x w1 ⟨rfl, hb⟩
  have B1 := Lib.hid hb
  clear hb
  go_wp2
  go_ret2
  exact RA.bad (ra_bad H.out.1 H.out.2) B1.out

set_option maxHeartbeats 1000000 in
theorem rr_many (l R : List UInt8) (N : Nat) (x : Int) (w : World) (hx : (N : Int) = x) (h : Pk.rd l 0 0 = (N, R, 0)) (hN : 8 < x) :
    Calls Tryz.prog 105 #[.string ⟨l.toArray⟩] w (RA l w) := by
  have H := Lib.hid (And.intro h (And.intro hx (show 8 < N by omega)))
  clear h hx
  go_enter Tryz.func105, Tryz.ntmps105
  go_wp2_with fail
  refine (rui_is l R N x 0 _ H.out.2.1 H.out.1).mono ?_
  rintro y w1 ⟨rfl, hb⟩
  have B1 := Lib.hid hb
  clear hb
  go_wp2
  go_ret2
  exact RA.bad (ra_many H.out.1 H.out.2.2) B1.out

theorem set_next (done : List V) (N j : Nat) (x : V) (hd : done.length = j) (hj : j < N) : (done ++ List.replicate (N - j) V0).set j x = (done ++ [x]) ++ List.replicate (N - (j + 1)) V0 := by
  rw [List.set_append_right _ _ (by omega), hd, Nat.sub_self, show N - j = (N - (j + 1)) + 1 by omega, List.replicate_succ, List.set_cons_zero, List.append_assoc]
  rfl
theorem set4 {b g : Nat} {w w3 : World} {o0 o1 o2 o3 : Nat} {u0 u1 u2 u3 : Value} (h : Below b w w3) (hg : b ≤ g) : Below b w ((((w3.setCell ⟨g, o0, none⟩ u0).setCell ⟨g, o1, none⟩ u1).setCell ⟨g, o2, none⟩ u2).setCell ⟨g, o3, none⟩ u3) :=
  (((h.setCell (p := ⟨g, o0, none⟩) hg u0).setCell (p := ⟨g, o1, none⟩) hg u1).setCell (p := ⟨g, o2, none⟩) hg u2).setCell (p := ⟨g, o3, none⟩) hg u3

set_option maxHeartbeats 4000000 in
theorem rr_few (l R : List UInt8) (N : Nat) (x : Int) (w : World) (hl : l.length ≤ 1000000) (hx : (N : Int) = x) (h : Pk.rd l 0 0 = (N, R, 0)) (hN : x ≤ 8) :
    Calls Tryz.prog 105 #[.string ⟨l.toArray⟩] w (RA l w) := by
  have h8 : decide ((8 : Int) < x) = false := by rw [decide_eq_false_iff_not]; omega
  have H := Lib.hid (And.intro h (And.intro hx (And.intro (show ¬ 8 < N by omega) hl)))
  have HR := Lib.hid (show R.length ≤ l.length from by
    have := (Pk.rd_ok l N R h).2
    have h2 := congrArg List.length this
    rw [List.length_append] at h2
    omega)
  clear h hx hN hl
  go_enter Tryz.func105, Tryz.ntmps105
  go_wp2_with fail
  refine (rui_is l R N x 0 _ H.out.2.1 H.out.1).mono ?_
  rintro y w1 ⟨rfl, hb⟩
  have B1 := Lib.hid hb
  clear hb
  go_wp2_with (at_make; refine makeV _ rfl _ _ rfl .u64 .u64 x x N rfl rfl H.out.2.1.symm H.out.2.1.symm (by have := H.out.2.2.1; omega) ?_; intro g w2 hg hO hb; have S := Lib.hid (And.intro (hO.base B1.out.size) (step0 B1.out hb)); clear hO hb hg; go_frame)
  go_loopw [5, 24] (fun q i wr => ∃ (j : Nat) (m : List UInt8) (done : List V), q = .string ⟨m.toArray⟩ ∧ i = .int .i64 j ∧ j ≤ N ∧ done.length = j ∧ OwV wr w.heap.size (.slice (some ⟨g, 0, none⟩) N N) (done ++ List.replicate (N - j) V0) ∧ Below w.heap.size w wr ∧ rn N R = pv done (rn (N - j) m) ∧ m.length ≤ l.length) (fun _ i _ => N - (intOf i).toNat)
  case atStart => exact ⟨0, R, [], rfl, rfl, Nat.zero_le _, rfl, S.out.1, S.out.2, (pv_nil _ _).symm, HR.out⟩
  case round =>
    obtain ⟨j, m, done, rfl, rfl, hj, hd, hO, hb, hr, hm⟩ := hrel
    have J := Lib.hid (And.intro hO (And.intro hb (And.intro hr (And.intro hm hd))))
    clear hO hb hr hm hd
    by_cases hlt : j < N
    · obtain ⟨⟨k, n, b, s, r, e⟩, hR⟩ : ∃ Q, rd m = Q := ⟨_, rfl⟩
      have HM := Lib.hid hR
      have hw : wrap64 ((j : Int) + 1) = (j : Int) + 1 := by have := H.out.2.2.1; exact wrap_in _ (by omega) (by omega)
      clear hR
      by_cases he : e = 0
      · subst he
        have st := rn_step (l := m) (N - (j + 1)) (by rw [HM.out]) done
        have ls := rd_less m (by rw [HM.out])
        rw [HM.out, show N - (j + 1) + 1 = N - j by omega] at st
        rw [HM.out] at ls
        have ST := Lib.hid (And.intro st ls)
        clear st ls
        go_wp2_with fail
        refine (rvx m k n b 0 s r _ (by have := J.out.2.2.2.1; have := H.out.2.2.2; omega) HM.out).mono ?_
        rintro y w3 ⟨rfl, hb⟩
        have hO3 := J.out.1.keep hb
        have hy : (done ++ List.replicate (N - j) V0)[j]? = some V0 := by
          have := J.out.2.2.2.2
          rw [List.getElem?_append_right (by omega), List.getElem?_replicate]
          simp; omega
        obtain ⟨c0, c1, c2, c3⟩ := hO3.at j V0 hy
        obtain ⟨hst, hbg, hgl, hfz⟩ := hO3.store (by have := J.out.2.2.2.2; simp; omega) j (by have := J.out.2.2.2.2; simp; omega) ⟨k, n, b, s⟩
        have f0 := hfz (j * 4)
        have f1 := hfz (j * 4 + 1)
        have f2 := hfz (j * 4 + 2)
        have f3 := hfz (j * 4 + 3)
        have K := Lib.hid (And.intro hst (And.intro hbg (step0 J.out.2.1 hb)))
        clear hb hO3 hy hst hbg hgl hfz
        go_wp2
        go_roundw
        case rel => exact ⟨j + 1, r, done ++ [⟨k, n, b, s⟩], rfl, by go_num, hlt, by have := J.out.2.2.2.2; simp; omega, by rw [← set_next done N j _ J.out.2.2.2.2 hlt]; exact K.out.1, set4 K.out.2.2 K.out.2.1, J.out.2.2.1.trans ST.out.1, by have := J.out.2.2.2.1; have h5 : r.length ≤ m.length := ST.out.2; omega⟩
        case measure => rw [hw]; simp [intOf]; omega
      · have e1 := bne_t he
        have e2 := beq_f he
        have st := rn_err (l := m) (N - (j + 1)) (by rw [HM.out]; exact he) done
        rw [HM.out, show N - (j + 1) + 1 = N - j by omega] at st
        have ST := Lib.hid (show ra l = ([], e) from by
          rw [ra_is H.out.1 H.out.2.2.1, J.out.2.2.1, st]; exact if_neg he)
        clear st
        go_wp2_with fail
        refine (rvx m k n b e s r _ (by have := J.out.2.2.2.1; have := H.out.2.2.2; omega) HM.out).mono ?_
        rintro y w3 ⟨rfl, hb⟩
        have hO3 := J.out.1.keep hb
        have hy : (done ++ List.replicate (N - j) V0)[j]? = some V0 := by
          have := J.out.2.2.2.2
          rw [List.getElem?_append_right (by omega), List.getElem?_replicate]
          simp; omega
        obtain ⟨c0, c1, c2, c3⟩ := hO3.at j V0 hy
        obtain ⟨hst, hbg, hgl, hfz⟩ := hO3.store (by have := J.out.2.2.2.2; simp; omega) j (by have := J.out.2.2.2.2; simp; omega) ⟨k, n, b, s⟩
        have f0 := hfz (j * 4)
        have f1 := hfz (j * 4 + 1)
        have f2 := hfz (j * 4 + 2)
        have f3 := hfz (j * 4 + 3)
        have K := Lib.hid (And.intro hst (And.intro hbg (step0 J.out.2.1 hb)))
        clear hb hO3 hy hst hbg hgl hfz
        go_wp2
        go_ret2
        exact RA.bad ST.out (set4 K.out.2.2 K.out.2.1)
    · obtain rfl : j = N := by omega
      have e0 := J.out.2.2.1
      rw [Nat.sub_self, rn_end] at e0
      by_cases hm : m = []
      · subst hm
        have ST := Lib.hid (show ra l = (done, 0) from by rw [ra_is H.out.1 H.out.2.2.1, e0]; rfl)
        clear e0
        go_wp2
        go_ret2
        have hO := J.out.1
        rw [Nat.sub_self, List.replicate_zero, List.append_nil] at hO
        exact ⟨_, by rw [ST.out]; rfl, by rw [ST.out]; exact hO, J.out.2.1⟩
      · have hie : m.isEmpty = false := by cases m with | nil => exact absurd rfl hm | cons _ _ => rfl
        have ST := Lib.hid (show ra l = ([], 4) from by rw [ra_is H.out.1 H.out.2.2.1, e0]; unfold rf; rw [if_pos rfl, if_neg hm])
        clear e0
        go_wp2
        go_ret2
        exact RA.bad ST.out J.out.2.1

theorem rread_is (l : List UInt8) (w : World) (hl : l.length ≤ 1000000) : Calls Tryz.prog 105 #[.string ⟨l.toArray⟩] w (RA l w) := by
  rcases Pk.rd_cases l with ⟨N, r, hr, hN, hu⟩ | ⟨e, hr, he⟩
  · by_cases h8 : 8 < N
    · exact rr_many l r N N w rfl hr (by omega)
    · exact rr_few l r N N w hl rfl hr (by omega)
  · exact rr_err l e w hr (by omega)

end Go.Proofs.YtmgdciihpjifgaaGreatDoor.Rk
