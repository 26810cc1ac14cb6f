/-
  What is behind what bytes begin with is their end; what is read keeps a value's bounds. Conditions: none.
  What bytes begin with, of a change: readNames, withTexts, readFields. Conditions: texts of 1000000 bytes at most.
-/
import Derived.Test.YtmgdciihpjifgaaGreatDoorQpOpPlain
import Derived.Test.YtmgdciihpjifgaaGreatDoorQpOpPutD
import Derived.Test.YtmgdciihpjifgaaGreatDoorQpScRead
import Derived.BigRegion
namespace Go.Proofs.YtmgdciihpjifgaaGreatDoor
open Go.RowKit

theorem bnd_sf {α β : Type} {x : α × List UInt8 × Int} {z : β} {f : α → List UInt8 → β × List UInt8 × Int} {l : List UInt8} (h : x.2.1 <:+ l) (g : ∀ a r, r <:+ l → (f a r).2.1 <:+ l) : (bnd x z f).2.1 <:+ l := by
  unfold bnd
  split
  · exact List.nil_suffix
  · exact g _ _ h
theorem rd_sf (l : List UInt8) : (Pk.rd l 0 0).2.1 <:+ l := by
  rcases Pk.rd_cases l with ⟨N, r, h, _, e⟩ | ⟨e, h, _⟩
  · rw [h]; exact ⟨_, e⟩
  · rw [h]; exact List.nil_suffix
theorem small_sf (top : Nat) (ps : Int) (l : List UInt8) : (small top ps l).2.1 <:+ l := by
  unfold small
  split
  · exact List.nil_suffix
  · split
    · exact List.nil_suffix
    · exact rd_sf l
theorem smb_sf (bot top : Nat) (ps : Int) (l : List UInt8) : (smb bot top ps l).2.1 <:+ l := by
  unfold smb
  split
  · exact List.nil_suffix
  · exact small_sf top ps l
theorem rt_sf (l : List UInt8) : (Pk.rt l).2.1 <:+ l := by
  rcases Pk.rd_cases l with ⟨N, r, h, _, e⟩ | ⟨e, h, he⟩
  · by_cases g : r.length < N
    · rw [Pk.rt_short l r N h g]; exact List.nil_suffix
    · rw [Pk.rt_end l r N h (by omega)]
      exact (List.drop_suffix N r).trans ⟨_, e⟩
  · rw [Pk.rt_bad l e h (by omega)]; exact List.nil_suffix
theorem rts_sf : ∀ (n : Nat) (l : List UInt8), (rts n l).2.1 <:+ l
  | 0, l => List.suffix_refl l
  | n + 1, l => by
    rw [rts]
    exact bnd_sf (rt_sf l) fun s r hr => bnd_sf ((rts_sf n r).trans hr) fun ss q hq => hq
theorem kun_sf (l : List UInt8) : (Kc.un l).2.1 <:+ l := by
  have c : ∀ (x : UInt8) (r : List UInt8 × List UInt8 × Int) (m : List UInt8), r.2.1 <:+ m → (Kc.cons x r).2.1 <:+ m := by
    intro x r m h
    unfold Kc.cons
    split
    · exact h
    · exact List.nil_suffix
  induction l using Kc.un.induct with
  | case1 => exact List.suffix_refl _
  | case2 x => exact List.nil_suffix
  | case3 l => rw [Kc.un_00]; exact ⟨[0, 0], rfl⟩
  | case4 l h ih => rw [Kc.un_0f]; exact c _ _ _ (ih.trans ⟨[0, 255], rfl⟩)
  | case5 y l h g => rw [Kc.un_0x l h g]; exact List.nil_suffix
  | case6 x y l h ih => rw [Kc.un_n (y :: l) h]; exact c _ _ _ (ih.trans ⟨[x], rfl⟩)
theorem kchk_sf (k n b : Int) (s : List UInt8) {r m : List UInt8} (h : r <:+ m) : (chk k n b s r).r <:+ m := by
  unfold chk
  split
  · exact h
  · exact List.nil_suffix
theorem krd_sf (l : List UInt8) : (rd l).r <:+ l := by
  cases l with
  | nil => exact List.nil_suffix
  | cons x t =>
    rw [rd]
    split
    · exact List.nil_suffix
    · have up : ∀ {q : List UInt8}, q <:+ t → q <:+ x :: t := fun h => h.trans ⟨[x], rfl⟩
      unfold rdb
      split
      · split
        · exact List.nil_suffix
        · exact kchk_sf _ _ _ _ (up (List.drop_suffix _ _))
      · split
        · split
          · exact List.nil_suffix
          · exact kchk_sf _ _ _ _ (up (List.drop_suffix _ _))
        · split
          · split
            · exact List.nil_suffix
            · split
              · exact kchk_sf _ _ _ _ (up (List.drop_suffix _ _))
              · exact List.nil_suffix
          · split
            · split
              · exact kchk_sf _ _ _ _ (up (kun_sf t))
              · exact List.nil_suffix
            · exact kchk_sf _ _ _ _ (up (List.suffix_refl _))
theorem rdf_sf (l : List UInt8) : (rdf l).2.1 <:+ l := by
  unfold rdf
  split
  · exact List.nil_suffix
  · rename_i b r
    split
    · exact List.nil_suffix
    · exact ⟨[b], rfl⟩
theorem rdc_sf (l : List UInt8) : (rdc l).2.1 <:+ l := by
  unfold rdc
  split
  · exact List.nil_suffix
  · split
    · exact List.nil_suffix
    · split
      · exact List.nil_suffix
      · split
        · exact List.nil_suffix
        · exact (krd_sf _).trans ((rdf_sf _).trans ((small_sf _ _ _).trans (rt_sf l)))
theorem rdcs_sf : ∀ (n : Nat) (l : List UInt8), (rdcs n l).2.1 <:+ l
  | 0, l => List.suffix_refl l
  | n + 1, l => by
    rw [rdcs]
    split
    · exact List.nil_suffix
    · split
      · exact List.nil_suffix
      · exact (rdcs_sf n _).trans (rdc_sf l)
theorem rdt_sf (l : List UInt8) : (rdt l).2.1 <:+ l := by
  have h : (rdr l).2.1 <:+ l := by
    unfold rdr
    split
    · exact List.nil_suffix
    · split
      · exact List.nil_suffix
      · split
        · exact List.nil_suffix
        · split
          · exact List.nil_suffix
          · exact (rdcs_sf _ _).trans ((small_sf _ _ _).trans ((small_sf _ _ _).trans (rt_sf l)))
  unfold rdt
  split
  · exact List.nil_suffix
  · split
    · exact List.nil_suffix
    · exact h
theorem rfs_sf (l : List UInt8) : (rfs l).2.1 <:+ l := by
  unfold rfs
  exact bnd_sf (smb_sf _ _ _ l) fun _ r1 h1 => bnd_sf ((rts_sf _ r1).trans h1) fun _ r2 h2 => bnd_sf ((small_sf _ _ r2).trans h2) fun _ r3 h3 => bnd_sf ((small_sf _ _ r3).trans h3) fun _ r4 h4 => bnd_sf ((rts_sf _ r4).trans h4) fun _ _ h5 => h5
theorem rtb_sf (c : Ch) (l : List UInt8) : (rtb c l).2.1 <:+ l := by
  unfold rtb
  split
  · exact bnd_sf (rdt_sf l) fun _ _ h => h
  · exact List.suffix_refl l
theorem rck_sf (m : List UInt8) (c : Ch) {r l : List UInt8} (h : r <:+ l) : (rck m c r).2.1 <:+ l := by
  unfold rck
  split
  · exact List.nil_suffix
  · exact h
theorem rdch_sf (l : List UInt8) : (rdch l).2.1 <:+ l := by
  unfold rdch
  exact bnd_sf (bnd_sf (rfs_sf l) fun c r h => (rtb_sf c r).trans h) fun c r h => rck_sf l c h
theorem rrw_sf (l : List UInt8) : (rrw l).2.1 <:+ l := by
  unfold rrw
  refine bnd_sf (rt_sf l) fun t r h => ?_
  split
  · exact List.nil_suffix
  · exact h
theorem roc_sf (k : Nat) (tb : Nm.S) (a b c : List V) (mx : Nat) (l : List UInt8) : (roc k tb a b c mx l).2.1 <:+ l := by
  unfold roc
  split
  · exact bnd_sf (rdch_sf l) fun _ _ h => h
  · exact List.suffix_refl l
theorem rop_sf (l : List UInt8) : (rop l).2.1 <:+ l := by
  unfold rop
  exact bnd_sf (smb_sf _ _ _ l) fun _ r1 h1 => bnd_sf ((rt_sf r1).trans h1) fun _ r2 h2 => bnd_sf ((rrw_sf r2).trans h2) fun _ r3 h3 => bnd_sf ((rrw_sf r3).trans h3) fun _ r4 h4 => bnd_sf ((rrw_sf r4).trans h4) fun _ r5 h5 => bnd_sf ((small_sf _ _ r5).trans h5) fun _ r6 h6 => (roc_sf _ _ _ _ _ _ r6).trans h6
theorem suf_cut {r l : List UInt8} (h : r <:+ l) : l.take (l.length - r.length) ++ r = l := by
  obtain ⟨p, rfl⟩ := h
  simp
theorem suf_len {r l : List UInt8} (h : r <:+ l) : r.length ≤ l.length := h.length_le

/-- What is read as it should be. -/
theorem bnd_inv {α β : Type} {x : α × List UInt8 × Int} {z : β} {f : α → List UInt8 → β × List UInt8 × Int} {b : β} {r : List UInt8} (h : bnd x z f = (b, r, 0)) : ∃ a q, x = (a, q, 0) ∧ f a q = (b, r, 0) := by
  obtain ⟨a, q, e⟩ := x
  unfold bnd at h
  split at h
  · rename_i g
    obtain ⟨_, _, h3⟩ : z = b ∧ [] = r ∧ e = 0 := by simpa using h
    exact absurd h3 g
  · rename_i g
    obtain rfl : e = 0 := by simpa using g
    exact ⟨a, q, rfl, h⟩
theorem bnd_fst {α β : Type} {x : α × List UInt8 × Int} {z : β} {f : α → List UInt8 → β × List UInt8 × Int} {p : β → Prop} (hz : p z) (h : ∀ a q, x = (a, q, 0) → p (f a q).1) : p (bnd x z f).1 := by
  obtain ⟨a, q, e⟩ := x
  unfold bnd
  split
  · exact hz
  · rename_i g
    obtain rfl : e = 0 := by simpa using g
    exact h a q rfl
theorem rts_bad : ∀ (n : Nat) (l : List UInt8), (rts n l).2.2 ≠ 0 → (rts n l).1 = [] ∧ (rts n l).2.1 = []
  | 0, l, h => absurd rfl h
  | n + 1, l, h => by
    rw [rts] at h ⊢
    rcases e : Pk.rt l with ⟨s, q, E⟩
    by_cases hE : E = 0
    · subst hE
      rw [e] at h
      rw [bnd_ok rfl] at h ⊢
      rcases e2 : rts n q with ⟨ss, q2, E2⟩
      by_cases hE2 : E2 = 0
      · subst hE2
        rw [e2, bnd_ok rfl] at h
        exact absurd rfl h
      · rw [bnd_err rfl hE2]
        exact ⟨rfl, rfl⟩
    · rw [bnd_err rfl hE]
      exact ⟨rfl, rfl⟩
theorem rdt_ok' (l : List UInt8) : ∀ c ∈ (rdt l).1.cs, c.d.ok := by
  have h : ∀ c ∈ (rdr l).1.cs, c.d.ok := by
    unfold rdr
    split
    · simp [T0]
    · split
      · simp [T0]
      · split
        · simp [T0]
        · split
          · simp [T0]
          · exact (rdcs_ok _ _).1
  unfold rdt
  split
  · simp [T0]
  · split
    · simp [T0]
    · exact h
theorem rdch_okv (l : List UInt8) : (rdch l).1.okv := by
  have t0 : T0.cs = [] := rfl
  have z : C0.d.ok := okv0.1
  unfold rdch
  refine bnd_fst (p := Ch.okv) okv0 fun c r h => ?_
  obtain ⟨c1, r1, h1, h2⟩ := bnd_inv h
  have k1 : c1.okv := by
    have : (rfs l).1.okv := by
      unfold rfs
      exact bnd_fst (p := Ch.okv) okv0 fun _ _ _ => bnd_fst (p := Ch.okv) okv0 fun _ _ _ => bnd_fst (p := Ch.okv) okv0 fun _ _ _ => bnd_fst (p := Ch.okv) okv0 fun _ _ _ => bnd_fst (p := Ch.okv) okv0 fun _ _ _ => ⟨z, by simp [mkc, t0]⟩
    rw [h1] at this
    exact this
  have k2 : c.okv := by
    have : (rtb c1 r1).1.okv := by
      unfold rtb
      split
      · refine bnd_fst (p := Ch.okv) okv0 fun t q ht => ?_
        have o : ∀ x ∈ t.cs, x.d.ok := by have := rdt_ok' r1; rw [ht] at this; exact this
        unfold Ch.wt
        split
        · exact ⟨k1.1, o⟩
        · refine ⟨?_, k1.2⟩
          rcases e : t.cs.getLast? with _ | x
          · rw [List.getLastD_eq_getLast?, e]; exact z
          · rw [List.getLastD_eq_getLast?, e]; exact o x (List.mem_of_getLast? e)
      · exact k1
    rw [h2] at this
    exact this
  unfold rck
  split
  · exact okv0
  · exact k2
theorem rrw_okv (l : List UInt8) : ∀ x ∈ (rrw l).1, x.ok := by
  unfold rrw
  refine bnd_fst (p := fun a : List V => ∀ x ∈ a, x.ok) (by simp) fun t r h => ?_
  rcases e : Rk.ra t with ⟨xs, E⟩
  by_cases g : E = 0
  · subst g
    simp only [ne_eq, not_true_eq_false, if_false]
    exact (Rk.ra_back e).2.2.2
  · simp [g]
theorem rop_okv (l : List UInt8) : (rop l).1.okv := by
  have z : O0.okv := ⟨by simp [O0], by simp [O0], by simp [O0], okv0⟩
  unfold rop
  refine bnd_fst (p := O.okv) z fun _ _ _ => bnd_fst (p := O.okv) z fun _ _ _ => bnd_fst (p := O.okv) z fun a r3 h3 => bnd_fst (p := O.okv) z fun b r4 h4 => bnd_fst (p := O.okv) z fun c r5 h5 => bnd_fst (p := O.okv) z fun mx r6 h6 => ?_
  have i3 := congrArg Prod.fst h3
  have i4 := congrArg Prod.fst h4
  have i5 := congrArg Prod.fst h5
  simp only at i3 i4 i5
  unfold roc
  split
  · refine bnd_fst (p := O.okv) z fun ch q hq => ⟨i3 ▸ rrw_okv _, i4 ▸ rrw_okv _, i5 ▸ rrw_okv _, ?_⟩
    have := rdch_okv r6
    rw [hq] at this
    exact this
  · exact ⟨i3 ▸ rrw_okv _, i4 ▸ rrw_okv _, i5 ▸ rrw_okv _, okv0⟩
theorem rdch_pe {l : List UInt8} {c : Ch} {r : List UInt8} (h : rdch l = (c, r, 0)) : c.pe = 0 ∧ c.pb = l.take (l.length - r.length) := by
  obtain ⟨c1, r1, _, h2⟩ := bnd_inv h
  unfold rck at h2
  split at h2
  · have : (4 : Int) = 0 := congrArg (·.2.2) h2
    omega
  · rename_i g
    obtain ⟨rfl, rfl⟩ : c1 = c ∧ r1 = r := by simpa using h2
    exact ⟨Decidable.byContradiction fun q => g (.inl q), Decidable.byContradiction fun q => g (.inr q)⟩
theorem rdo_pe {l : List UInt8} {o : O} {r : List UInt8} (h : rdo l = (o, r, 0)) : o.pe = 0 ∧ o.pb ++ r = l ∧ o.okv := by
  obtain ⟨o1, r1, h1, h2⟩ := bnd_inv h
  have k := rop_okv l
  have s := rop_sf l
  rw [h1] at k s
  unfold rck2 at h2
  split at h2
  · have : (4 : Int) = 0 := congrArg (·.2.2) h2
    omega
  · rename_i g
    obtain ⟨rfl, rfl⟩ : o1 = o ∧ r1 = r := by simpa using h2
    refine ⟨Decidable.byContradiction fun q => g (.inl q), ?_, k⟩
    have e : o1.pb = l.take (l.length - r1.length) := Decidable.byContradiction fun q => g (.inr q)
    rw [e]
    exact suf_cut s

end Go.Proofs.YtmgdciihpjifgaaGreatDoor

namespace Go.Proofs.YtmgdciihpjifgaaGreatDoor
open Go.RowKit

/-- Behind some texts that are read: those, and what is read further. -/
def prT (d : List Nm.S) (r : List Nm.S × List UInt8 × Int) : List Nm.S × List UInt8 × Int := if r.2.2 ≠ 0 then ([], [], r.2.2) else (d ++ r.1, r.2.1, 0)
theorem prT_nil (n : Nat) (l : List UInt8) : prT [] (rts n l) = rts n l := by
  unfold prT
  rcases e : rts n l with ⟨a, b, c⟩
  by_cases h : c = 0
  · subst h; simp
  · have := rts_bad n l (by rw [e]; exact h)
    rw [e] at this
    obtain ⟨rfl, rfl⟩ : a = [] ∧ b = [] := this
    simp [h]
theorem prT_step {l r : List UInt8} {s : Nm.S} (d : List Nm.S) (n : Nat) (h : Pk.rt l = (s, r, 0)) : prT d (rts (n + 1) l) = prT (d ++ [s]) (rts n r) := by
  rw [rts, bnd_ok h]
  rcases e : rts n r with ⟨a, b, c⟩
  by_cases hc : c = 0
  · subst hc
    rw [bnd_ok rfl]
    simp [prT]
  · rw [bnd_err rfl hc]
    simp [prT, hc]
theorem prT_err {l r : List UInt8} {s : Nm.S} {e : Int} (d : List Nm.S) (n : Nat) (h : Pk.rt l = (s, r, e)) (he : e ≠ 0) : prT d (rts (n + 1) l) = ([], [], e) := by
  rw [rts, bnd_err h he]
  simp [prT, he]
theorem prT_end (d : List Nm.S) (l : List UInt8) : prT d (rts 0 l) = (d, l, 0) := by simp [prT, rts]
theorem bnd_bnd {α β γ : Type} (x : α × List UInt8 × Int) (z : β) (f : α → List UInt8 → β × List UInt8 × Int) (z' : γ) (g : β → List UInt8 → γ × List UInt8 × Int) : bnd (bnd x z f) z' g = bnd x z' fun a r => bnd (f a r) z' g := by
  obtain ⟨a, r, e⟩ := x
  by_cases h : e = 0
  · subst h; rw [bnd_ok rfl, bnd_ok rfl]
  · rw [bnd_err rfl h, bnd_err rfl h, bnd_err rfl h]
/-- A number of names, and they. -/
def rns' (l : List UInt8) : List Nm.S × List UInt8 × Int := bnd (small 8 1 l) [] fun n r => rts n r
theorem rfs_is (l : List UInt8) : rfs l = bnd (smb 1 6 1 l) Ch0 fun k l1 => bnd (rts 5 l1) Ch0 fun ts l2 => bnd (small 100 1 l2) Ch0 fun ty l3 => bnd (rns' l3) Ch0 fun ns l5 => (mkc k ts ty ns, l5, 0) := by
  unfold rfs rns'
  simp only [bnd_bnd]
/-- What readNames, texts tell. -/
def RN (R : List Nm.S × List UInt8 × Int) (w : World) (e : Ending) (w' : World) : Prop :=
  ∃ v, e = .returned (.tuple #[v, .string ⟨R.2.1.toArray⟩, .int .i64 R.2.2]) ∧ OwS w' w.heap.size v R.1 ∧ Below w.heap.size w w'
theorem RN.sl {R : List Nm.S × List UInt8 × Int} {w w' : World} {e : Ending} (h : RN R w e w') : ∃ no nc, e = .returned (.tuple #[.slice no R.1.length nc, .string ⟨R.2.1.toArray⟩, .int .i64 R.2.2]) ∧ SlS w' no R.1 ∧ Up w.heap.size no ∧ Below w.heap.size w w' := by
  obtain ⟨v, rfl, hO, hb⟩ := h
  obtain ⟨ao, cap, rfl, hs⟩ := hO.sl
  refine ⟨ao, cap, rfl, hs, ?_, hb⟩
  intro a ha
  subst ha
  rcases hO.2 with ⟨hv, _⟩ | ⟨g, _, _, hv, hg, _⟩
  · cases hv
  · cases hv; exact hg

set_option maxHeartbeats 4000000 in
theorem readNames_is (l : List UInt8) (w : World) (hl : l.length ≤ 1000000) :
    Calls Tryz.prog 65 #[.string ⟨l.toArray⟩] w (RN (rns' l) w) := by
  obtain ⟨N, L1, E, h1⟩ : ∃ N L1 E, small 8 1 l = (N, L1, E) := ⟨_, _, _, rfl⟩
  have n1 := suf_len (small_sf 8 1 l)
  have n2 := small_top 8 1 l
  rw [h1] at n1 n2
  simp only at n1 n2
  have X := Lib.hid (And.intro h1 (And.intro n2 (show L1.length ≤ 1000000 by omega)))
  have eR : rns' l = bnd (N, L1, E) [] fun n r => rts n r := by unfold rns'; rw [h1]
  obtain ⟨R, hR⟩ : ∃ R, rns' l = R := ⟨_, rfl⟩
  rw [hR]
  have HR := Lib.hid (eR.symm.trans hR)
  clear n1 n2 h1 hl eR hR
  go_enter Tryz.func65, Tryz.ntmps65
  go_wp2_with fail
  refine (upTo_is 8 8 1 N E l L1 N _ rfl (by decide) X.out.1 rfl).mono ?_
  rintro y w1 ⟨rfl, hb⟩
  have B1 := Lib.hid hb
  clear hb
  by_cases hE : E = 0
  · subst hE
    have HR := Lib.hid ((bnd_ok rfl _ _).symm.trans HR.out)
    go_wp2_with (at_make; refine makeT _ rfl _ _ rfl .i64 .i64 (N : Int) (N : Int) N rfl rfl rfl rfl (by have := X.out; omega) ?_; intro g w2 hg hO hb; have S := Lib.hid (And.intro (hO.base B1.out.size) (B1.out.trans (hb.mono B1.out.size))); clear hO hb hg; go_frame)
    go_loopw [0, 21] (fun s i wr => ∃ (j : Nat) (d : List Nm.S) (L : List UInt8), s = .string ⟨L.toArray⟩ ∧ i = .int .i64 j ∧ j ≤ N ∧ d.length = j ∧ rts N L1 = prT d (rts (N - j) L) ∧ L.length ≤ 1000000 ∧ OwS wr w.heap.size (.slice (some ⟨g, 0, none⟩) N N) (d ++ List.replicate (N - j) []) ∧ Below w.heap.size w wr) (fun _ i _ => N - (intOf i).toNat)
    case atStart => exact ⟨0, [], L1, rfl, rfl, Nat.zero_le _, rfl, (prT_nil _ _).symm, X.out.2.2, S.out.1, S.out.2⟩
    case round =>
      obtain ⟨j, d, L, rfl, rfl, hj, hd, hQ, hL, hO, hbel⟩ := hrel
      have J := Lib.hid (And.intro hO (And.intro hbel (And.intro hd (And.intro hQ hL))))
      clear hO hbel hd hQ hL
      by_cases hlt : j < N
      · have hw : wrap64 ((j : Int) + 1) = (j : Int) + 1 := by have := X.out; exact wrap_in _ (by omega) (by omega)
        obtain ⟨s, r, e, hs⟩ : ∃ s r e, Pk.rt L = (s, r, e) := ⟨_, _, _, rfl⟩
        have lr := suf_len (rt_sf L)
        rw [hs] at lr
        have Y := Lib.hid (And.intro hs (show r.length ≤ 1000000 by have := J.out.2.2.2.2; simp only at lr; omega))
        have eN : N - j = (N - (j + 1)) + 1 := by omega
        clear hs lr
        go_wp2_with fail
        refine (textR L s r e _ J.out.2.2.2.2 Y.out.1).mono ?_
        rintro y w6 ⟨rfl, hb⟩
        have hO3 := J.out.1.keep hb
        have hy : (d ++ List.replicate (N - j) [])[j]? = some [] := by
          rw [List.getElem?_append_right (by have := J.out.2.2.1; omega), List.getElem?_replicate, J.out.2.2.1, if_pos (by omega)]
        obtain ⟨hst, hbg, hgl, hfz, hc⟩ := hO3.store (by have := J.out.2.2.1; simp; omega) j [] hy s
        have K := Lib.hid (And.intro hst (And.intro hbg (step0 J.out.2.1 hb)))
        clear hO3 hy hst hbg hgl hb
        by_cases he : e = 0
        · subst he
          have Q := Lib.hid (show rts N L1 = prT (d ++ [s]) (rts (N - (j + 1)) r) from by rw [J.out.2.2.2.1, eN]; exact prT_step d _ Y.out.1)
          clear eN
          go_wp2
          go_roundw
          case rel => exact ⟨j + 1, d ++ [s], r, rfl, by go_num, hlt, by simp [J.out.2.2.1], Q.out, Y.out.2, by rw [← tset_next _ N j _ J.out.2.2.1 hlt]; exact K.out.1, below_set K.out.2.2 K.out.2.1 _ _⟩
          case measure => rw [hw]; simp [intOf]; omega
        · have e1 := bne_t he
          have Q := Lib.hid (show rts N L1 = ([], [], e) from by rw [J.out.2.2.2.1, eN]; exact prT_err d _ Y.out.1 he)
          clear eN he
          go_wp2
          go_ret3
          rw [← HR.out, Q.out]
          exact ⟨_, rfl, ows_nil _ _, below_set K.out.2.2 K.out.2.1 _ _⟩
      · obtain rfl : j = N := by omega
        have hR := J.out.2.2.2.1
        have hO := J.out.1
        rw [Nat.sub_self, prT_end] at hR
        rw [Nat.sub_self, List.replicate_zero, List.append_nil] at hO
        have ST := Lib.hid (And.intro hR hO)
        clear hR hO
        go_wp2
        go_ret3
        rw [← HR.out, ST.out.1]
        exact ⟨_, rfl, ST.out.2, J.out.2.1⟩
  · have e1 := bne_t hE
    have HR := Lib.hid ((bnd_err rfl hE _ _).symm.trans HR.out)
    clear hE
    go_wp2
    go_ret3
    rw [← HR.out]
    exact ⟨_, rfl, ows_nil _ _, B1.out⟩

theorem below3s (w : World) (a b c : Obj) : Below w.heap.size w (((w.alloc a).alloc b).alloc c) := (below2s w a b).alloc (by simp; omega) c
theorem Ch.set_tx (c : Ch) (no : Option Addr) (nc : Nat) (dO : Option Addr) (dc : Nat) (s0 s1 s2 s3 s4 : Nm.S) : (((((c.a no nc dO dc).setIfInBounds 1 (.string ⟨s0.toArray⟩)).setIfInBounds 2 (.string ⟨s1.toArray⟩)).setIfInBounds 3 (.string ⟨s2.toArray⟩)).setIfInBounds 4 (.string ⟨s3.toArray⟩)).setIfInBounds 5 (.string ⟨s4.toArray⟩) = (⟨c.kind, s0, s1, s2, s3, s4, c.type, c.names, c.col, c.df⟩ : Ch).a no nc dO dc := by simp [Ch.a]
set_option maxHeartbeats 1000000 in
theorem withTexts_is (c : Ch) (no : Option Addr) (nc : Nat) (dO : Option Addr) (dc : Nat) (s0 s1 s2 s3 s4 : Nm.S) (w : World) :
    Calls Tryz.prog 64 #[.agg (c.a no nc dO dc), .agg (sa [s0, s1, s2, s3, s4])] w fun e w' => e = .returned (.agg ((⟨c.kind, s0, s1, s2, s3, s4, c.type, c.names, c.col, c.df⟩ : Ch).a no nc dO dc)) ∧ Below w.heap.size w w' := by
  have hmx : Tryz.prog.follows .mixedOrders = true := by kernel_rfl
  have hsa : sa [s0, s1, s2, s3, s4] = #[.string ⟨s0.toArray⟩, .string ⟨s1.toArray⟩, .string ⟨s2.toArray⟩, .string ⟨s3.toArray⟩, .string ⟨s4.toArray⟩] := rfl
  rw [hsa]
  clear hsa
  go_enter Tryz.func64, Tryz.ntmps64
  go_wp2
  go_region
  rw [Ch.set_tx]
  go_wp2_with (first | ((refine (?_ : wpList _ _ _ (Oper.mk _ (Op.load 32 _) _ _ _ _ :: _) _ _)); refine wpList_load_blk rfl 32 _ rfl (w.heap.size) rfl ((⟨c.kind, s0, s1, s2, s3, s4, c.type, c.names, c.col, c.df⟩ : Ch).a no nc dO dc) _ (((Blk.new w _ _).alloc _).alloc _) Tryz.underlying32 rfl (infoCh) ?_; go_frame) | ((refine (?_ : wpList _ _ _ (Oper.mk _ (Op.store 32 _ _) _ _ _ _ :: _) _ _)); refine wpList_store_blk rfl 32 _ _ rfl (w.heap.size + 1 + 1) (Ch0.a none 0 none 0) ((⟨c.kind, s0, s1, s2, s3, s4, c.type, c.names, c.col, c.df⟩ : Ch).a no nc dO dc) rfl rfl (Blk.new' _ _ _ _ (by simp)) (by first | rfl | simp [sa_size]) (infoCh) (Ch.a_one _ _ _ _ _) ?_))
  intro w3 q3 r3
  go_wp2
  exact bodyPost_ret (results_1 Tryz.results64 rfl (loadCh q3)) rfl ⟨rfl, r3.below _ _ (by omega) (below3s w _ _ _).drew⟩

end Go.Proofs.YtmgdciihpjifgaaGreatDoor
