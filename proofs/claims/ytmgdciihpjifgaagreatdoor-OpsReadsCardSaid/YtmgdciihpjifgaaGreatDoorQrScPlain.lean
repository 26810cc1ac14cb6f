/-
 Tables as plain mathematics: may a column, a table be; which rows and keys fit; a table's bytes, what bytes begin with, and that the one undoes the other. Conditions: the bounds named in each theorem.
 The plain mathematics of package rows: a row's bytes, what bytes are a row, and that the one undoes the other; rows compared; values picked. Conditions: the bounds named in each theorem.
 What the document's SameRow and CmpRow answer of any two rows. Conditions: the bounds named in each theorem.
-/
import Derived.Test.YtmgdciihpjifgaaGreatDoorQrKcReadRow
import Derived.Test.YtmgdciihpjifgaaGreatDoorQrNmCheck
import Derived.Test.YtmgdciihpjifgaaGreatDoorQrPackInts
import Derived.Test.YtmgdciihpjifgaaGreatDoorQrKcRead
import Derived.Test.YtmgdciihpjifgaaGreatDoorQrVlRefCheck
import Derived.Test.YtmgdciihpjifgaaGreatDoorQrKcVals
import Derived.Deep.RegionHeld3
set_option maxHeartbeats 2000000
namespace Go.Proofs.YtmgdciihpjifgaaGreatDoor
open Go.RowKit
structure C where
 name : List UInt8
 kind : Int
 null : Bool
 d : V
structure T where
 name : List UInt8
 keys : Int
 cs : List C
def C.ck (c : C) : Int :=
 if Nm.ck c.name ≠ 0 then Nm.ck c.name else if c.kind < 1 ∨ 5 < c.kind then 5 else if c.d.ck ≠ 0 then c.d.ck
 else if c.d.k ≠ 0 ∧ c.d.k ≠ c.kind then 11 else 0
def cl : List C → Int
 | [] => 0
 | c :: cs => if c.ck = 0 then cl cs else c.ck
def nl (cs : List C) (k : Nat) : Bool := (cs.take k).any C.null
def T.ck (t : T) : Int :=
 if Nm.ck t.name ≠ 0 then Nm.ck t.name else if t.cs.length < 1 ∨ 8 < t.cs.length then 2 else if t.keys < 1 ∨ 3 < t.keys ∨ (t.cs.length : Int) < t.keys then 1
 else if cl t.cs ≠ 0 then cl t.cs else if Nm.un (t.cs.map C.name) = false then 12 else if nl t.cs t.keys.toNat = true then 11 else 0
theorem cl_all {cs : List C} (h : cl cs = 0) : ∀ c ∈ cs, c.ck = 0 := by
 induction cs with
 | nil => simp
 | cons c cs ih =>
  rw [cl] at h
  split at h
  ·rename_i g
   intro x hx
   rcases List.mem_cons.1 hx with rfl | hx
   ·exact g
   ·exact ih h x hx
  ·rename_i g; exact absurd h g
theorem cl_of {cs : List C} (h : ∀ c ∈ cs, c.ck = 0) : cl cs = 0 := by
 induction cs with
 | nil => rfl
 | cons c cs ih => rw [cl, if_pos (h c (List.mem_cons_self ..))]; exact ih fun x hx => h x (List.mem_cons_of_mem _ hx)
theorem cl_stop (cs : List C) (j : Nat) (hj : j < cs.length) (h0 : ∀ c ∈ cs.take j, c.ck = 0) (h1 : cs[j].ck ≠ 0) : cl cs = cs[j].ck := by
 induction cs generalizing j with
 | nil => simp at hj
 | cons c cs ih =>
  cases j with
  | zero => rw [cl, if_neg (show ¬ c.ck = 0 from h1)]; rfl
  | succ j =>
   rw [cl, if_pos (h0 c (by simp))]
   exact ih j (by simpa using hj) (fun x hx => h0 x (by simp [hx])) h1
theorem take_all {cs : List C} {j : Nat} (hj : j < cs.length) {p : C → Prop} (h : ∀ c ∈ cs.take j, p c) (h1 : p cs[j]) : ∀ c ∈ cs.take (j + 1), p c := by
 rw [List.take_succ_eq_append_getElem hj]
 intro x hx
 rcases List.mem_append.1 hx with g | g
 ·exact h x g
 ·obtain rfl := List.mem_singleton.1 g; exact h1
theorem nm_ck_len {s : List UInt8} (h : Nm.ck s = 0) : s.length ≤ 16 := by
 unfold Nm.ck at h
 split at h
 ·omega
 ·rename_i g; simp only [not_or] at g; omega
theorem C.ck_ok {c : C} (h : c.ck = 0) : Nm.ck c.name = 0 ∧ 1 ≤ c.kind ∧ c.kind ≤ 5 ∧ c.d.ck = 0 ∧ (c.d.k = 0 ∨ c.d.k = c.kind) := by
 unfold C.ck at h
 split at h
 ·rename_i g; exact absurd h g
 ·rename_i g0
  split at h
  ·omega
  ·rename_i g1
   split at h
   ·rename_i g; exact absurd h g
   ·rename_i g2
    split at h
    ·omega
    ·rename_i g3
     refine ⟨by omega, by omega, by omega, by omega, ?_⟩
     by_cases e : c.d.k = 0
     ·exact .inl e
     ·by_cases e' : c.d.k = c.kind
      ·exact .inr e'
      ·exact absurd ⟨e, e'⟩ g3
theorem T.ck_ok {t : T} (h : t.ck = 0) : Nm.ck t.name = 0 ∧ 1 ≤ t.cs.length ∧ t.cs.length ≤ 8 ∧ 1 ≤ t.keys ∧ t.keys ≤ 3 ∧ t.keys ≤ t.cs.length ∧ (∀ c ∈ t.cs, c.ck = 0) := by
 unfold T.ck at h
 split at h
 ·rename_i g; exact absurd h g
 ·rename_i g0
  split at h
  ·omega
  ·rename_i g1
   split at h
   ·omega
   ·rename_i g2
    split at h
    ·rename_i g; exact absurd h g
    ·rename_i g3
     exact ⟨by omega, by omega, by omega, by omega, by omega, by omega, cl_all (by omega)⟩
def C.sm (a b : C) : Bool := decide (a.name = b.name) && decide (a.kind = b.kind) && (a.null == b.null) && Vl.sm a.d.k a.d.n a.d.b a.d.s b.d.k b.d.n b.d.b b.d.s
def csm : List C → List C → Bool
 | [], [] => true
 | a :: x, b :: y => C.sm a b && csm x y
 | _, _ => false
def T.sm (t u : T) : Bool := decide (t.name = u.name) && decide (t.keys = u.keys) && csm t.cs u.cs
def flag (b : Bool) : List UInt8 := if b = true then [1] else [0]
def C.pt (c : C) : List UInt8 := Pk.tx c.name ++ Pk.un c.kind.toNat ++ flag c.null ++ c.d.pt
def cb : List C → List UInt8
 | [] => []
 | c :: cs => c.pt ++ cb cs
def T.hd (t : T) : List UInt8 := Pk.tx t.name ++ Pk.un t.keys.toNat ++ Pk.un t.cs.length
def T.by (t : T) : List UInt8 := t.hd ++ cb t.cs
def T.pt (t : T) : List UInt8 := if t.ck ≠ 0 then [] else t.by
theorem cb_append (a b : List C) : cb (a ++ b) = cb a ++ cb b := by
 induction a with
 | nil => rfl
 | cons c a ih => rw [List.cons_append, cb, cb, ih, List.append_assoc]
theorem cb_next {cs : List C} {j : Nat} (hj : j < cs.length) : cb (cs.take (j + 1)) = cb (cs.take j) ++ cs[j].pt := by
 rw [List.take_succ_eq_append_getElem hj, cb_append]; simp [cb]
theorem flag_len (b : Bool) : (flag b).length = 1 := by unfold flag; split <;> rfl
theorem vpt_len {x : V} (h : x.ck = 0) : x.pt.length ≤ 131 := by
 have := rb_len (xs := [x]) (by simpa using h)
 simpa [rb] using this
theorem C.pt_len {c : C} (h : c.ck = 0) : c.pt.length ≤ 200 := by
 obtain ⟨h0, h1, h2, h3, _⟩ := C.ck_ok h
 have l0 := nm_ck_len h0
 have l1 := Pk.ub_len 9 c.name.length
 have l2 := Pk.ub_len 9 c.kind.toNat
 have l3 := vpt_len h3
 have l4 := flag_len c.null
 unfold C.pt Pk.tx Pk.un
 simp only [List.length_append]
 omega
theorem cb_len {cs : List C} (h : ∀ c ∈ cs, c.ck = 0) : (cb cs).length ≤ 200 * cs.length := by
 induction cs with
 | nil => simp [cb]
 | cons c cs ih =>
  have := C.pt_len (h c (List.mem_cons_self ..))
  have := ih fun x hx => h x (List.mem_cons_of_mem _ hx)
  rw [cb]; simp only [List.length_append, List.length_cons]; omega
theorem hd_len {t : T} (h : t.ck = 0) : t.hd.length ≤ 60 := by
 obtain ⟨h0, h1, h2, h3, h4, h5, h6⟩ := T.ck_ok h
 have l0 := nm_ck_len h0
 have l1 := Pk.ub_len 9 t.name.length
 have l2 := Pk.ub_len 9 t.keys.toNat
 have l3 := Pk.ub_len 9 t.cs.length
 unfold T.hd Pk.tx Pk.un
 simp only [List.length_append]
 omega
theorem by_len {t : T} (h : t.ck = 0) : t.by.length ≤ 2000 := by
 obtain ⟨h0, h1, h2, h3, h4, h5, h6⟩ := T.ck_ok h
 have := cb_len h6
 have := hd_len h
 unfold T.by
 simp only [List.length_append]
 omega
def small (top : Nat) (past : Int) (l : List UInt8) : Nat × List UInt8 × Int :=
 if (Pk.rd l 0 0).2.2 ≠ 0 then (0, [], (Pk.rd l 0 0).2.2) else if top < (Pk.rd l 0 0).1 then (0, [], past) else ((Pk.rd l 0 0).1, (Pk.rd l 0 0).2.1, 0)
def smb (bot top : Nat) (past : Int) (l : List UInt8) : Nat × List UInt8 × Int :=
 if (small top past l).2.2 = 0 ∧ (small top past l).1 < bot then (0, [], past) else small top past l
def C0 : C := ⟨[], 0, false, ⟨0, 0, 0, []⟩⟩
def T0 : T := ⟨[], 0, []⟩
def rdf (l : List UInt8) : Bool × List UInt8 × Int :=
 match l with
 | [] => (false, [], 3)
 | b :: r => if 1 < b.toNat then (false, [], 4) else (decide (b.toNat = 1), r, 0)
def rdc (l : List UInt8) : C × List UInt8 × Int :=
 if (Pk.rt l).2.2 ≠ 0 then (C0, [], (Pk.rt l).2.2) else
 if (small 100 1 (Pk.rt l).2.1).2.2 ≠ 0 then (C0, [], (small 100 1 (Pk.rt l).2.1).2.2) else
 if (rdf (small 100 1 (Pk.rt l).2.1).2.1).2.2 ≠ 0 then (C0, [], (rdf (small 100 1 (Pk.rt l).2.1).2.1).2.2) else
 if (rd (rdf (small 100 1 (Pk.rt l).2.1).2.1).2.1).e ≠ 0 then (C0, [], (rd (rdf (small 100 1 (Pk.rt l).2.1).2.1).2.1).e) else
 (⟨(Pk.rt l).1, (small 100 1 (Pk.rt l).2.1).1, (rdf (small 100 1 (Pk.rt l).2.1).2.1).1,
  ⟨(rd (rdf (small 100 1 (Pk.rt l).2.1).2.1).2.1).k, (rd (rdf (small 100 1 (Pk.rt l).2.1).2.1).2.1).n, (rd (rdf (small 100 1 (Pk.rt l).2.1).2.1).2.1).b, (rd (rdf (small 100 1 (Pk.rt l).2.1).2.1).2.1).s⟩⟩,
  (rd (rdf (small 100 1 (Pk.rt l).2.1).2.1).2.1).r, 0)
def rdcs : Nat → List UInt8 → List C × List UInt8 × Int
 | 0, l => ([], l, 0)
 | n + 1, l => if (rdc l).2.2 ≠ 0 then ([], [], (rdc l).2.2) else if (rdcs n (rdc l).2.1).2.2 ≠ 0 then ([], [], (rdcs n (rdc l).2.1).2.2) else ((rdc l).1 :: (rdcs n (rdc l).2.1).1, (rdcs n (rdc l).2.1).2.1, 0)
def rdr (l : List UInt8) : T × List UInt8 × Int :=
 if (Pk.rt l).2.2 ≠ 0 then (T0, [], (Pk.rt l).2.2) else
 if (small 100 1 (Pk.rt l).2.1).2.2 ≠ 0 then (T0, [], (small 100 1 (Pk.rt l).2.1).2.2) else
 if (small 8 2 (small 100 1 (Pk.rt l).2.1).2.1).2.2 ≠ 0 then (T0, [], (small 8 2 (small 100 1 (Pk.rt l).2.1).2.1).2.2) else
 if (rdcs (small 8 2 (small 100 1 (Pk.rt l).2.1).2.1).1 (small 8 2 (small 100 1 (Pk.rt l).2.1).2.1).2.1).2.2 ≠ 0 then (T0, [], (rdcs (small 8 2 (small 100 1 (Pk.rt l).2.1).2.1).1 (small 8 2 (small 100 1 (Pk.rt l).2.1).2.1).2.1).2.2) else
 (⟨(Pk.rt l).1, (small 100 1 (Pk.rt l).2.1).1, (rdcs (small 8 2 (small 100 1 (Pk.rt l).2.1).2.1).1 (small 8 2 (small 100 1 (Pk.rt l).2.1).2.1).2.1).1⟩,
  (rdcs (small 8 2 (small 100 1 (Pk.rt l).2.1).2.1).1 (small 8 2 (small 100 1 (Pk.rt l).2.1).2.1).2.1).2.1, 0)
def rdt (l : List UInt8) : T × List UInt8 × Int := if (rdr l).2.2 ≠ 0 then (T0, [], (rdr l).2.2) else if (rdr l).1.ck ≠ 0 then (T0, [], (rdr l).1.ck) else rdr l
theorem rt_len (l : List UInt8) : (Pk.rt l).2.1.length ≤ l.length := by
 rcases Pk.rd_cases l with ⟨N, r, h, _, e⟩ | ⟨e, h, he⟩
 ·have hr : r.length ≤ l.length := by rw [← e, List.length_append]; omega
  by_cases g : r.length < N
  ·rw [Pk.rt_short l r N h g]; simp
  ·rw [Pk.rt_end l r N h (by omega)]; simp; omega
 ·rw [Pk.rt_bad l e h (by omega)]; simp
theorem small_len (top : Nat) (past : Int) (l : List UInt8) : (small top past l).2.1.length ≤ l.length := by
 unfold small
 split
 ·simp
 ·split
  ·simp
  ·rcases Pk.rd_cases l with ⟨N, r, h, _, e⟩ | ⟨e, h, he⟩
   ·rw [h, ← e]; simp
   ·rw [h]; simp
theorem small_top (top : Nat) (past : Int) (l : List UInt8) : (small top past l).1 ≤ top := by
 unfold small
 split
 ·exact Nat.zero_le _
 ·split
  ·exact Nat.zero_le _
  ·rename_i h; exact Nat.le_of_not_lt h
theorem rdf_len (l : List UInt8) : (rdf l).2.1.length ≤ l.length := by
 unfold rdf
 split
 ·simp
 ·split <;> simp
theorem nm_lt (l : List UInt8) : 0 ≤ (Kc.nm (l.take 8) : Int) ∧ (Kc.nm (l.take 8) : Int) < 18446744073709551616 := nm8_U l
theorem chk_b {k n b : Int} {s r : List UInt8} (hb : Rl.U b) (hn : -9223372036854775808 ≤ n ∧ n < 9223372036854775808) : Rl.U (chk k n b s r).b ∧ -9223372036854775808 ≤ (chk k n b s r).n ∧ (chk k n b s r).n < 9223372036854775808 := by
 unfold chk
 split
 ·exact ⟨hb, hn⟩
 ·exact ⟨u0, by simp [Rd.bad], by simp [Rd.bad]⟩
theorem bad_b (e : Int) : Rl.U (Rd.bad e).b ∧ -9223372036854775808 ≤ (Rd.bad e).n ∧ (Rd.bad e).n < 9223372036854775808 := ⟨u0, by simp [Rd.bad], by simp [Rd.bad]⟩
theorem rd_b (l : List UInt8) : Rl.U (rd l).b ∧ -9223372036854775808 ≤ (rd l).n ∧ (rd l).n < 9223372036854775808 := by
 cases l with
 | nil => exact bad_b 3
 | cons x l =>
  rw [rd]
  split
  ·exact bad_b 4
  ·unfold rdb
   have z : (-9223372036854775808 : Int) ≤ 0 ∧ (0 : Int) < 9223372036854775808 := by omega
   split
   ·split
    ·exact bad_b 3
    ·refine chk_b u0 ?_
     have h1 : (Kc.nm (l.take 1) : Int) < 9223372036854775808 := by
      have := nm1_w l
      unfold wrap64 at this
      omega
     omega
   ·split
    ·split
     ·exact bad_b 3
     ·have := nm_lt l; exact chk_b u0 (by omega)
    ·split
     ·split
      ·exact bad_b 3
      ·split
       ·exact chk_b (Rl.bk_U _ (nm8_U l)) z
       ·exact bad_b 4
     ·split
      ·split
       ·exact chk_b u0 z
       ·exact bad_b _
      ·exact chk_b u0 z
theorem rdc_ok (l : List UInt8) : (rdc l).1.d.ok := by
 have z : C0.d.ok := ⟨u0, by simp [C0], by simp [C0]⟩
 unfold rdc
 split
 ·exact z
 ·split
  ·exact z
  ·split
   ·exact z
   ·split
    ·exact z
    ·exact rd_b _
theorem rd_len (l : List UInt8) : (rd l).e = 0 → (rd l).r.length ≤ l.length := fun h => Nat.le_of_lt (rd_less l h)
theorem rdc_len (l : List UInt8) : (rdc l).2.1.length ≤ l.length := by
 have h1 := rt_len l
 have h2 := small_len 100 1 (Pk.rt l).2.1
 have h3 := rdf_len (small 100 1 (Pk.rt l).2.1).2.1
 have h4 := rd_len (rdf (small 100 1 (Pk.rt l).2.1).2.1).2.1
 unfold rdc
 split
 ·simp
 ·split
  ·simp
  ·split
   ·simp
   ·split
    ·simp
    ·rename_i g; have := h4 (by omega); simp only; omega
def pc (d : List C) (r : List C × List UInt8 × Int) : List C × List UInt8 × Int := if r.2.2 ≠ 0 then ([], [], r.2.2) else (d ++ r.1, r.2.1, 0)
theorem rdcs_shape : ∀ (n : Nat) (l : List UInt8), rdcs n l = pc [] (rdcs n l)
 | 0, l => rfl
 | n + 1, l => by
  unfold pc
  rw [rdcs]
  split
  ·rfl
  ·split
   ·rfl
   ·simp
theorem pc_step {n : Nat} {l : List UInt8} (d : List C) (h : (rdc l).2.2 = 0) : pc d (rdcs (n + 1) l) = pc (d ++ [(rdc l).1]) (rdcs n (rdc l).2.1) := by
 rw [rdcs, if_neg (by simpa using h)]
 unfold pc
 by_cases g : (rdcs n (rdc l).2.1).2.2 = 0
 ·simp [g]
 ·simp [g]
theorem pc_err {n : Nat} {l : List UInt8} (d : List C) (h : (rdc l).2.2 ≠ 0) : pc d (rdcs (n + 1) l) = ([], [], (rdc l).2.2) := by
 rw [rdcs, if_pos h]
 unfold pc
 simp [h]
theorem rdcs_ok : ∀ (n : Nat) (l : List UInt8), (∀ c ∈ (rdcs n l).1, c.d.ok) ∧ ((rdcs n l).2.2 = 0 → (rdcs n l).1.length = n) ∧ (rdcs n l).2.1.length ≤ l.length
 | 0, l => ⟨by simp [rdcs], fun _ => rfl, Nat.le_refl _⟩
 | n + 1, l => by
  obtain ⟨h1, h2, h3⟩ := rdcs_ok n (rdc l).2.1
  have h4 := rdc_len l
  rw [rdcs]
  split
  ·rename_i g; exact ⟨by simp, fun e => absurd e g, by simp⟩
  ·split
   ·rename_i g; exact ⟨by simp, fun e => absurd e g, by simp⟩
   ·rename_i g
    refine ⟨?_, fun _ => ?_, ?_⟩
    ·intro c hc
     rcases List.mem_cons.1 hc with rfl | hc
     ·exact rdc_ok l
     ·exact h1 c hc
    ·simp only [List.length_cons]; rw [h2 (by simpa using g)]
    ·simp only; omega
end Go.Proofs.YtmgdciihpjifgaaGreatDoor
namespace Go.Proofs.YtmgdciihpjifgaaGreatDoor.Rk
theorem bn_snoc : ∀ (k n d : Nat), d < 256 → Kc.bn (k + 1) (n * 256 + d) = Kc.bn k n ++ [UInt8.ofNat d]
 | 0, n, d, h => by
  show [UInt8.ofNat ((n * 256 + d) / 256 ^ 0)] = [UInt8.ofNat d]
  rw [Kc.eq_of ((n * 256 + d) / 256 ^ 0) d (by rw [Nat.pow_zero, Nat.div_one]; omega)]
 | k + 1, n, d, h => by
  have e : (n * 256 + d) / 256 ^ (k + 1) = n / 256 ^ k := by
   rw [Nat.pow_succ, Nat.mul_comm (256 ^ k) 256, ← Nat.div_div_eq_div_mul, show (n * 256 + d) / 256 = n from by omega]
  rw [Kc.bn, e, bn_snoc k n d h]
  rfl
theorem bn_nm (l : List UInt8) : Kc.bn l.length (Kc.nm l) = l := by
 have h : ∀ (m : List UInt8), Kc.bn m.reverse.length (Kc.nm m.reverse) = m.reverse := by
  intro m
  induction m with
  | nil => rfl
  | cons x m ih =>
   rw [List.reverse_cons, Kc.nm_snoc, List.length_append, List.length_singleton, bn_snoc _ _ _ x.toNat_lt, ih, UInt8.ofNat_toNat]
 have := h l.reverse
 simpa using this
theorem nm_one (x : UInt8) (l : List UInt8) : Kc.nm ((x :: l).take 1) = x.toNat := by simp [Kc.nm]
def pb (k n b : Int) (s : List UInt8) : List UInt8 :=
 if k = 1 then Kc.bn 1 n.toNat else if k = 2 then Pk.un (Pk.zz n) else if k = 3 then Kc.bn 8 b.toNat
 else if k = 4 ∨ k = 5 then Pk.tx s else []
def pt (k n b : Int) (s : List UInt8) : List UInt8 := UInt8.ofNat k.toNat :: pb k n b s
theorem un_len (n : Nat) : (Pk.un n).length ≤ 10 ∧ 1 ≤ (Pk.un n).length := ⟨(Pk.ub_len 9 n).2, (Pk.ub_len 9 n).1⟩
theorem pt_len {k n b : Int} {s : List UInt8} (hs : s.length ≤ 64) : (pt k n b s).length ≤ 75 := by
 have h1 := Kc.bn_len 1 n.toNat
 have h2 := un_len (Pk.zz n)
 have h3 := Kc.bn_len 8 b.toNat
 have h4 := un_len s.length
 unfold pt pb Pk.tx
 (repeat' split) <;> simp <;> omega
def chk (k n b : Int) (s r : List UInt8) : Rd := if Vl.ck k n b s = 0 then ⟨k, n, b, s, r, 0⟩ else .bad (Vl.ck k n b s)
theorem chk_ok {k n b : Int} {s r : List UInt8} (h : Vl.ck k n b s = 0) : chk k n b s r = ⟨k, n, b, s, r, 0⟩ := by unfold chk; rw [if_pos h]
theorem chk_bad {k n b : Int} {s r : List UInt8} (h : Vl.ck k n b s ≠ 0) : chk k n b s r = .bad (Vl.ck k n b s) := by unfold chk; rw [if_neg h]
def rdb (k : Int) (l : List UInt8) : Rd :=
 if k = 1 then (if l.length < 1 then .bad 3 else chk 1 (Kc.nm (l.take 1)) 0 [] (l.drop 1))
 else if k = 2 then (if (Pk.ri l).2.2 = 0 then chk 2 (Pk.ri l).1 0 [] (Pk.ri l).2.1 else .bad (Pk.ri l).2.2)
 else if k = 3 then (if l.length < 8 then .bad 3 else chk 3 0 (Kc.nm (l.take 8)) [] (l.drop 8))
 else if k = 4 ∨ k = 5 then (if (Pk.rt l).2.2 = 0 then chk k 0 0 (Pk.rt l).1 (Pk.rt l).2.1 else .bad (Pk.rt l).2.2)
 else chk k 0 0 [] l
def rd : List UInt8 → Rd
 | [] => .bad 3
 | x :: l => rdb x.toNat l
theorem chk_e {k n b : Int} {s r : List UInt8} (h : (chk k n b s r).e = 0) : Vl.ck k n b s = 0 ∧ chk k n b s r = ⟨k, n, b, s, r, 0⟩ := by
 by_cases g : Vl.ck k n b s = 0
 ·exact ⟨g, chk_ok g⟩
 ·rw [chk_bad g] at h; exact absurd h g
theorem rd_back (l : List UInt8) (h : (rd l).e = 0) : Vl.ck (rd l).k (rd l).n (rd l).b (rd l).s = 0 ∧ Rl.U (rd l).b ∧ (-9223372036854775808 ≤ (rd l).n ∧ (rd l).n < 9223372036854775808) ∧ pt (rd l).k (rd l).n (rd l).b (rd l).s ++ (rd l).r = l := by
 cases l with
 | nil => exact absurd h (by decide)
 | cons x t =>
  have hx := x.toNat_lt
  have ox : UInt8.ofNat ((x.toNat : Int)).toNat = x := by rw [Int.toNat_natCast, UInt8.ofNat_toNat]
  have u0 : Rl.U 0 := ⟨by decide, by decide⟩
  have fin : ∀ (k n b : Int) (s r : List UInt8), (x.toNat : Int) = k → rd (x :: t) = chk k n b s r → Rl.U b → (-9223372036854775808 ≤ n ∧ n < 9223372036854775808) → pb k n b s ++ r = t → Vl.ck (rd (x :: t)).k (rd (x :: t)).n (rd (x :: t)).b (rd (x :: t)).s = 0 ∧ Rl.U (rd (x :: t)).b ∧ (-9223372036854775808 ≤ (rd (x :: t)).n ∧ (rd (x :: t)).n < 9223372036854775808) ∧ pt (rd (x :: t)).k (rd (x :: t)).n (rd (x :: t)).b (rd (x :: t)).s ++ (rd (x :: t)).r = x :: t := by
   intro k n b s r hk e hU hn hp
   rw [e] at h
   have := chk_e h
   rw [e, this.2]
   refine ⟨this.1, hU, hn, ?_⟩
   show UInt8.ofNat k.toNat :: (pb k n b s ++ r) = _
   rw [hp, ← hk, ox]
  by_cases k1 : (x.toNat : Int) = 1
  ·by_cases hs : t.length < 1
   ·have : rd (x :: t) = .bad 3 := by show rdb _ _ = _; unfold rdb; rw [if_pos k1, if_pos hs]
    rw [this] at h; exact absurd h (by decide)
   ·have g := Kc.nm_lt (t.take 1)
    have g2 : (t.take 1).length = 1 := by rw [List.length_take]; omega
    rw [g2] at g
    refine fin 1 (Kc.nm (t.take 1)) 0 [] (t.drop 1) k1 (by show rdb _ _ = _; unfold rdb; rw [if_pos k1, if_neg hs]) u0 (by omega) ?_
    have : pb 1 (Kc.nm (t.take 1) : Int) 0 [] = Kc.bn 1 (Kc.nm (t.take 1)) := rfl
    have b1 := bn_nm (t.take 1)
    rw [g2] at b1
    rw [this, b1, List.take_append_drop]
  by_cases k2 : (x.toNat : Int) = 2
  ·rcases Pk.rd_cases t with ⟨N, r, hr, hN, hu⟩ | ⟨e, hr, he⟩
   ·obtain ⟨m, hm, hz, hbd⟩ := Pk.zz_ri t r N hr
    refine fin 2 m 0 [] r k2 (by show rdb _ _ = _; unfold rdb; rw [if_neg k1, if_pos k2, hm, if_pos rfl]) u0 (by have := hbd hN; omega) ?_
    show Pk.un (Pk.zz m) ++ r = t
    rw [hz, hu]
   ·have : rd (x :: t) = .bad e := by show rdb _ _ = _; unfold rdb; rw [if_neg k1, if_pos k2, Pk.ri_bad t e hr (by omega), if_neg (by show ¬ e = 0; omega)]
    rw [this] at h
    have h' : e = 0 := h
    omega
  by_cases k3 : (x.toNat : Int) = 3
  ·by_cases hs : t.length < 8
   ·have : rd (x :: t) = .bad 3 := by show rdb _ _ = _; unfold rdb; rw [if_neg k1, if_neg k2, if_pos k3, if_pos hs]
    rw [this] at h; exact absurd h (by decide)
   ·have g2 : (t.take 8).length = 8 := by rw [List.length_take]; omega
    refine fin 3 0 (Kc.nm (t.take 8)) [] (t.drop 8) k3 (by show rdb _ _ = _; unfold rdb; rw [if_neg k1, if_neg k2, if_pos k3, if_neg hs]) (nm8_U t) (by omega) ?_
    have : pb 3 0 (Kc.nm (t.take 8) : Int) [] = Kc.bn 8 (Kc.nm (t.take 8)) := rfl
    have b1 := bn_nm (t.take 8)
    rw [g2] at b1
    rw [this, b1, List.take_append_drop]
  by_cases k4 : (x.toNat : Int) = 4 ∨ (x.toNat : Int) = 5
  ·rcases Pk.rd_cases t with ⟨N, r, hr, hN, hu⟩ | ⟨e, hr, he⟩
   ·by_cases hle : r.length < N
    ·have : rd (x :: t) = .bad 3 := by show rdb _ _ = _; unfold rdb; rw [if_neg k1, if_neg k2, if_neg k3, if_pos k4, Pk.rt_short t r N hr hle, if_neg (by decide)]
     rw [this] at h; exact absurd h (by decide)
    ·refine fin x.toNat 0 0 (r.take N) (r.drop N) rfl (by show rdb _ _ = _; unfold rdb; rw [if_neg k1, if_neg k2, if_neg k3, if_pos k4, Pk.rt_end t r N hr (by omega), if_pos rfl]) u0 (by omega) ?_
     have : pb (x.toNat : Int) 0 0 (r.take N) = Pk.tx (r.take N) := by unfold pb; rw [if_neg k1, if_neg k2, if_neg k3, if_pos k4]
     have e : (r.take N).length = N := by rw [List.length_take]; omega
     rw [this]
     unfold Pk.tx
     rw [e, List.append_assoc, List.take_append_drop, hu]
   ·have : rd (x :: t) = .bad e := by show rdb _ _ = _; unfold rdb; rw [if_neg k1, if_neg k2, if_neg k3, if_pos k4, Pk.rt_bad t e hr (by omega), if_neg (by show ¬ e = 0; omega)]
    rw [this] at h
    have h' : e = 0 := h
    omega
  ·refine fin x.toNat 0 0 [] t rfl (by show rdb _ _ = _; unfold rdb; rw [if_neg k1, if_neg k2, if_neg k3, if_neg k4]) u0 (by omega) ?_
   have : pb (x.toNat : Int) 0 0 [] = [] := by unfold pb; rw [if_neg k1, if_neg k2, if_neg k3, if_neg k4]
   rw [this]; rfl
def _root_.Go.Proofs.YtmgdciihpjifgaaGreatDoor.V.rp (x : V) : List UInt8 := Go.Proofs.YtmgdciihpjifgaaGreatDoor.Rk.pt x.k x.n x.b x.s
def _root_.Go.Proofs.YtmgdciihpjifgaaGreatDoor.Rd.v (R : Rd) : V := ⟨R.k, R.n, R.b, R.s⟩
def rb : List V → List UInt8
 | [] => []
 | x :: xs => x.rp ++ rb xs
theorem rb_append (a b : List V) : rb (a ++ b) = rb a ++ rb b := by
 induction a with
 | nil => rfl
 | cons x a ih => simp [rb, ih]
theorem rb_snoc (a : List V) (x : V) : rb (a ++ [x]) = rb a ++ x.rp := by rw [rb_append]; simp [rb]
theorem rb_len {xs : List V} (h : ∀ x ∈ xs, x.ck = 0) : (rb xs).length ≤ 75 * xs.length := by
 induction xs with
 | nil => simp [rb]
 | cons y xs ih =>
  have h1 := ih (fun x hx => h x (by simp [hx]))
  have h2 := pt_len (k := y.k) (n := y.n) (b := y.b) (Vl.ck_ok (h y (by simp))).2.2.2.2.2.2.2
  simp [rb]
  unfold V.rp
  omega
def pe (xs : List V) : Int := if 8 < xs.length then 2 else re xs
def pw (xs : List V) : List UInt8 := if pe xs = 0 then Pk.un xs.length ++ rb xs else []
theorem pe_long {xs : List V} (h : 8 < xs.length) : pe xs = 2 := by unfold pe; rw [if_pos h]
theorem pe_short {xs : List V} (h : ¬ 8 < xs.length) : pe xs = re xs := by unfold pe; rw [if_neg h]
theorem pw_ok {xs : List V} (h : pe xs = 0) : pw xs = Pk.un xs.length ++ rb xs := by unfold pw; rw [if_pos h]
theorem pw_bad {xs : List V} (h : pe xs ≠ 0) : pw xs = [] := by unfold pw; rw [if_neg h]
theorem pe_len {xs : List V} (h : pe xs = 0) : xs.length ≤ 8 ∧ re xs = 0 := by
 by_cases g : 8 < xs.length
 ·rw [pe_long g] at h; exact absurd h (by decide)
 ·rw [pe_short g] at h; exact ⟨by omega, h⟩
theorem pw_len (xs : List V) : (pw xs).length ≤ 610 := by
 by_cases h : pe xs = 0
 ·have g := pe_len h
  have h1 := rb_len (re_fine g.2)
  have h2 := un_len xs.length
  rw [pw_ok h, List.length_append]; omega
 ·rw [pw_bad h]; simp
def rn : Nat → List UInt8 → List V × List UInt8 × Int
 | 0, l => ([], l, 0)
 | n + 1, l => if (rd l).e = 0 then (if (rn n (rd l).r).2.2 = 0 then ((rd l).v :: (rn n (rd l).r).1, (rn n (rd l).r).2.1, 0) else ([], [], (rn n (rd l).r).2.2)) else ([], [], (rd l).e)
def pv (d : List V) (r : List V × List UInt8 × Int) : List V × List UInt8 × Int := if r.2.2 = 0 then (d ++ r.1, r.2.1, 0) else ([], [], r.2.2)
theorem rn_shape : ∀ (n : Nat) (l : List UInt8), (rn n l).2.2 = 0 ∨ ((rn n l).1 = [] ∧ (rn n l).2.1 = [])
 | 0, _ => .inl rfl
 | n + 1, l => by
  rw [rn]
  (repeat' split) <;> simp
theorem pv_nil (n : Nat) (l : List UInt8) : pv [] (rn n l) = rn n l := by
 unfold pv
 by_cases h : (rn n l).2.2 = 0
 ·rw [if_pos h]; exact Prod.ext rfl (Prod.ext rfl h.symm)
 ·rw [if_neg h]
  have := (rn_shape n l).resolve_left h
  exact Prod.ext this.1.symm (Prod.ext this.2.symm rfl)
theorem rn_step {l : List UInt8} (n : Nat) (he : (rd l).e = 0) (d : List V) : pv d (rn (n + 1) l) = pv (d ++ [(rd l).v]) (rn n (rd l).r) := by
 rw [rn, if_pos he]
 unfold pv
 by_cases h : (rn n (rd l).r).2.2 = 0
 ·rw [if_pos h, if_pos rfl, if_pos h]; simp
 ·rw [if_neg h, if_neg h, if_neg h]
theorem rn_err {l : List UInt8} (n : Nat) (he : (rd l).e ≠ 0) (d : List V) : pv d (rn (n + 1) l) = ([], [], (rd l).e) := by
 rw [rn, if_neg he]
 unfold pv
 rw [if_neg he]
theorem rn_end (l : List UInt8) (d : List V) : pv d (rn 0 l) = (d, l, 0) := by unfold pv rn; simp
def rf (r : List V × List UInt8 × Int) : List V × Int := if r.2.2 = 0 then (if r.2.1 = [] then (r.1, 0) else ([], 4)) else ([], r.2.2)
def ra (l : List UInt8) : List V × Int :=
 if (Pk.rd l 0 0).2.2 = 0 then (if 8 < (Pk.rd l 0 0).1 then ([], 2) else rf (rn (Pk.rd l 0 0).1 (Pk.rd l 0 0).2.1)) else ([], (Pk.rd l 0 0).2.2)
theorem ra_bad {l : List UInt8} {e : Int} (h : Pk.rd l 0 0 = (0, [], e)) (he : ¬ e = 0) : ra l = ([], e) := by unfold ra; rw [h]; exact if_neg he
theorem ra_many {l r : List UInt8} {N : Nat} (h : Pk.rd l 0 0 = (N, r, 0)) (hN : 8 < N) : ra l = ([], 2) := by unfold ra; rw [h, if_pos rfl, if_pos hN]
theorem ra_is {l r : List UInt8} {N : Nat} (h : Pk.rd l 0 0 = (N, r, 0)) (hN : ¬ 8 < N) : ra l = rf (rn N r) := by unfold ra; rw [h, if_pos rfl, if_neg hN]
theorem rn_back : ∀ (n : Nat) (l : List UInt8), (rn n l).2.2 = 0 → (rn n l).1.length = n ∧ rb (rn n l).1 ++ (rn n l).2.1 = l ∧ (∀ x ∈ (rn n l).1, x.ck = 0) ∧ ∀ x ∈ (rn n l).1, x.ok
 | 0, l, _ => ⟨rfl, rfl, by simp [rn], by simp [rn]⟩
 | n + 1, l, h => by
  rw [rn] at h ⊢
  by_cases he : (rd l).e = 0
  ·rw [if_pos he] at h ⊢
   by_cases g : (rn n (rd l).r).2.2 = 0
   ·rw [if_pos g]
    obtain ⟨i1, i2, i3, i4⟩ := rn_back n (rd l).r g
    obtain ⟨b1, b2, b3, b4⟩ := rd_back l he
    refine ⟨by simp [i1], ?_, ?_, ?_⟩
    ·show (rd l).v.rp ++ rb (rn n (rd l).r).1 ++ (rn n (rd l).r).2.1 = l
     rw [List.append_assoc, i2]; exact b4
    ·intro x hx
     rcases List.mem_cons.1 hx with rfl | hx
     ·exact b1
     ·exact i3 x hx
    ·intro x hx
     rcases List.mem_cons.1 hx with rfl | hx
     ·exact ⟨b2, b3⟩
     ·exact i4 x hx
   ·rw [if_neg g] at h; exact absurd h g
  ·rw [if_neg he] at h; exact absurd h he
theorem ra_back {l : List UInt8} {xs : List V} (h : ra l = (xs, 0)) : pe xs = 0 ∧ pw xs = l ∧ xs.length ≤ 8 ∧ ∀ x ∈ xs, x.ok := by
 rcases Pk.rd_cases l with ⟨N, r, hr, hN, hu⟩ | ⟨e, hr, he⟩
 ·by_cases h8 : 8 < N
  ·rw [ra_many hr h8] at h; simp at h
  ·rw [ra_is hr h8] at h
   unfold rf at h
   by_cases g : (rn N r).2.2 = 0
   ·rw [if_pos g] at h
    by_cases g2 : (rn N r).2.1 = []
    ·rw [if_pos g2] at h
     obtain ⟨i1, i2, i3, i4⟩ := rn_back N r g
     have hx : (rn N r).1 = xs := congrArg Prod.fst h
     rw [hx] at i1 i2 i3 i4
     rw [g2, List.append_nil] at i2
     have hp : pe xs = 0 := by rw [pe_short (by omega)]; exact re_of i3
     refine ⟨hp, ?_, by omega, i4⟩
     rw [pw_ok hp, i1, i2, hu]
    ·rw [if_neg g2] at h; simp at h
   ·rw [if_neg g] at h
    exact absurd (congrArg Prod.snd h) g
 ·rw [ra_bad hr (by omega)] at h
  have : e = 0 := congrArg Prod.snd h
  omega
def _root_.Go.Proofs.YtmgdciihpjifgaaGreatDoor.V.sm (x y : V) : Bool := Vl.sm x.k x.n x.b x.s y.k y.n y.b y.s
theorem _root_.Go.Proofs.YtmgdciihpjifgaaGreatDoor.V.sm_self (x : V) : x.sm x = true := by unfold V.sm Vl.sm; simp
def rs : List V → List V → Bool
 | [], [] => true
 | [], _ :: _ => false
 | _ :: _, [] => false
 | x :: xs, y :: ys => x.sm y && rs xs ys
def al (f : V → V → Bool) : List V → List V → Nat
 | x :: xs, y :: ys => if f x y = true then al f xs ys + 1 else 0
 | _, _ => 0
theorem al_le (f : V → V → Bool) : ∀ (xs ys : List V), al f xs ys ≤ xs.length ∧ al f xs ys ≤ ys.length
 | [], _ => by simp [al]
 | _ :: _, [] => by simp [al]
 | x :: xs, y :: ys => by
  have := al_le f xs ys
  rw [al]
  split <;> simp <;> omega
theorem al_drop (f : V → V → Bool) {xs ys : List V} {j : Nat} (h1 : j < xs.length) (h2 : j < ys.length) (h : f xs[j] ys[j] = true) : al f (xs.drop j) (ys.drop j) = al f (xs.drop (j + 1)) (ys.drop (j + 1)) + 1 := by
 rw [List.drop_eq_getElem_cons h1, List.drop_eq_getElem_cons h2, al, if_pos h]
theorem al_stop (f : V → V → Bool) {xs ys : List V} {j : Nat} (h1 : j < xs.length) (h2 : j < ys.length) (h : f xs[j] ys[j] = false) : al f (xs.drop j) (ys.drop j) = 0 := by
 rw [List.drop_eq_getElem_cons h1, List.drop_eq_getElem_cons h2, al, if_neg (by rw [h]; decide)]
theorem al_end (f : V → V → Bool) {xs ys : List V} {j : Nat} (h : ¬ j < xs.length ∨ ¬ j < ys.length) : al f (xs.drop j) (ys.drop j) = 0 := by
 have a := al_le f (xs.drop j) (ys.drop j)
 rw [List.length_drop, List.length_drop] at a
 omega
theorem rs_al : ∀ (xs ys : List V), xs.length = ys.length → (al V.sm xs ys = xs.length ↔ rs xs ys = true)
 | [], [], _ => by simp [al, rs]
 | [], _ :: _, h => by simp at h
 | _ :: _, [], h => by simp at h
 | x :: xs, y :: ys, h => by
  have ih := rs_al xs ys (by simpa using h)
  rw [al, rs]
  by_cases g : x.sm y = true
  ·rw [if_pos g, g, Bool.true_and, List.length_cons, ← ih]
   omega
  ·rw [if_neg g, List.length_cons]
   simp only [Bool.not_eq_true] at g
   rw [g]
   simp
theorem rs_len : ∀ (xs ys : List V), rs xs ys = true → xs.length = ys.length
 | [], [], _ => rfl
 | [], _ :: _, h => by simp [rs] at h
 | _ :: _, [], h => by simp [rs] at h
 | x :: xs, y :: ys, h => by
  rw [rs, Bool.and_eq_true] at h
  simp [rs_len xs ys h.2]
theorem rs_self : ∀ (xs : List V), rs xs xs = true
 | [] => rfl
 | x :: xs => by rw [rs, V.sm_self, rs_self xs]; rfl
theorem rs_drop {xs ys : List V} {j : Nat} (h1 : j < xs.length) (h2 : j < ys.length) (h : xs[j].sm ys[j] = true) : rs (xs.drop j) (ys.drop j) = rs (xs.drop (j + 1)) (ys.drop (j + 1)) := by
 rw [List.drop_eq_getElem_cons h1, List.drop_eq_getElem_cons h2, rs, h, Bool.true_and]
theorem rs_stop {xs ys : List V} {j : Nat} (h1 : j < xs.length) (h2 : j < ys.length) (h : xs[j].sm ys[j] = false) : rs (xs.drop j) (ys.drop j) = false := by
 rw [List.drop_eq_getElem_cons h1, List.drop_eq_getElem_cons h2, rs, h, Bool.false_and]
theorem rs_end {xs ys : List V} {j : Nat} (h1 : j = xs.length) (h2 : j = ys.length) : rs (xs.drop j) (ys.drop j) = true := by
 rw [List.drop_of_length_le (by omega), List.drop_of_length_le (by omega)]; rfl
def ps (xs : List V) (at' : List Int) : List V := at'.map fun p => xs.getD p.toNat ⟨0, 0, 0, []⟩
end Go.Proofs.YtmgdciihpjifgaaGreatDoor.Rk
namespace Go.Proofs.YtmgdciihpjifgaaGreatDoor.Rk
open Go.RowKit
theorem sameRow_is (xs ys : List V) (ao bo : Option Addr) (ca cb : Nat) (w : World) (hl : xs.length ≤ 9223372036854775807) (ha : Sl w ao xs) (hb : Sl w bo ys) :
  Calls Tryz.prog 79 #[.slice ao xs.length ca, .slice bo ys.length cb] w fun e w' => e = .returned (.bool (rs xs ys)) ∧ Below w.heap.size w w' := by
 have hmx : Tryz.prog.follows .mixedOrders = true := by kernel_rfl
 by_cases hne : xs.length = ys.length
 ·have H := zh (za ha (za hb (za hl hne)))
  have n1 : ((xs.length : Int) == (ys.length : Int)) = true := beq_t (by omega)
  have n2 : ((xs.length : Int) != (ys.length : Int)) = false := by simp [hne]
  clear ha hb hl hne
  go_enter Tryz.func79, Tryz.ntmps79
  go_wp2
  go_loopw [5] (fun i wr => ∃ j : Nat, i = .int .i64 j ∧ j ≤ xs.length ∧ Below w.heap.size w wr ∧ rs xs ys = rs (xs.drop j) (ys.drop j)) (fun i _ => xs.length - (intOf i).toNat)
  case atStart => exact ⟨0, rfl, Nat.zero_le _, Below.refl _ _, rfl⟩
  case round =>
   obtain ⟨j, rfl, hj, hbel, hrs⟩ := hrel
   have J := zh (za hbel hrs)
   clear hbel hrs
   by_cases hlt : j < xs.length
   ·have hlu : j < ys.length := by have := H.out.2.2.2; omega
    obtain ⟨a, rfl, a0, a1, a2, a3⟩ := H.out.1.below J.out.1 j xs[j] (List.getElem?_eq_getElem hlt)
    obtain ⟨b, rfl, b0, b1, b2, b3⟩ := H.out.2.1.below J.out.1 j ys[j] (List.getElem?_eq_getElem hlu)
    have hw : wrap64 ((j : Int) + 1) = (j : Int) + 1 := by have := H.out.2.2.1; exact wrap_in _ (by omega) (by omega)
    by_cases hs : xs[j].sm ys[j] = true
    ·have HE := zh hs
     have HN := zh (rs_drop hlt hlu hs)
     clear hs
     go_wp2
     go_region_with (go_at_call 70; refine (rsame_is _ _ _ _ _ _ _ _ true _ HE.out).mono ?_; rintro e w1 ⟨rfl, hb1⟩; have K := zh (step0 (below_drew1 J.out.1) hb1); clear hb1)
     all_goals go_wp2
     all_goals go_roundw
     all_goals first
      | exact ⟨j + 1, by go_num, hlt, K.out, J.out.2.trans HN.out⟩
      | (rw [hw]; simp [intOf]; omega)
    ·have hs2 : xs[j].sm ys[j] = false := by simpa using hs
     have HE := zh hs2
     have HN := zh (J.out.2.trans (rs_stop hlt hlu hs2))
     clear hs hs2
     go_wp2
     go_region_with (go_at_call 70; refine (rsame_is _ _ _ _ _ _ _ _ false _ HE.out).mono ?_; rintro e w1 ⟨rfl, hb1⟩; have K := zh (step0 (below_drew1 J.out.1) hb1); clear hb1)
     all_goals go_wp2
     all_goals go_ret
     all_goals exact ⟨ret_bool HN.out.symm, K.out⟩
   ·obtain rfl : j = xs.length := by omega
    have HN := zh (J.out.2.trans (rs_end rfl H.out.2.2.2))
    go_wp2
    go_ret
    exact ⟨ret_bool HN.out.symm, J.out.1⟩
 ·have hf : rs xs ys = false := by
   cases h : rs xs ys with
   | false => rfl
   | true => exact absurd (rs_len xs ys h) hne
  have n1 : ((xs.length : Int) == (ys.length : Int)) = false := beq_f (by omega)
  have n2 : ((xs.length : Int) != (ys.length : Int)) = true := bne_t (by omega)
  rw [hf]
  clear ha hb hl hne hf
  go_enter Tryz.func79, Tryz.ntmps79
  go_wp2
  go_ret
  exact ⟨rfl, Below.refl _ _⟩
theorem same06 (xs ys : List V) (r : Bool) (ao bo : Option Addr) (ca cb : Nat) (w : World) (hl : xs.length ≤ 9223372036854775807) (ha : Sl w ao xs) (hb : Sl w bo ys) (h : rs xs ys = r) :
  Calls Tryz.prog 53 #[.slice ao xs.length ca, .slice bo ys.length cb] w fun e w' => e = .returned (.bool r) ∧ Below w.heap.size w w' := by
 subst h
 have H := zh (za hl (za ha hb))
 clear hl ha hb
 go_enter Tryz.func53, Tryz.ntmps53
 go_wp2_with fail
 refine (sameRow_is xs ys ao bo ca cb _ H.out.1 H.out.2.1 H.out.2.2).mono ?_
 rintro e w1 ⟨rfl, hb⟩
 have B := zh hb
 clear hb
 go_wp2
 go_ret
 exact ⟨rfl, B.out⟩
end Go.Proofs.YtmgdciihpjifgaaGreatDoor.Rk
