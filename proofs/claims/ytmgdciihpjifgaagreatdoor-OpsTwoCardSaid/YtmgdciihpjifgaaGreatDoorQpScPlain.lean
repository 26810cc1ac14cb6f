/-
  Tables as plain mathematics: may a column, a table be; which rows and keys fit; a table's bytes, what bytes begin with, and that the one undoes the other. Conditions: the bounds named in each theorem.
-/
import Derived.Test.YtmgdciihpjifgaaGreatDoorQpKcRefPlain
import Derived.Test.YtmgdciihpjifgaaGreatDoorQpNmCheck
import Derived.Test.YtmgdciihpjifgaaGreatDoorQpPackInts
namespace Go.Proofs.YtmgdciihpjifgaaGreatDoor
open Go.RowKit

/-- A column. -/
structure C where
  name : List UInt8
  kind : Int
  null : Bool
  d : V
/-- A table. -/
structure T where
  name : List UInt8
  keys : Int
  cs : List C

/-- Why a column may not be; the first error of columns; why a table may not be. -/
def C.ck (c : C) : Int :=
  if Nm.ck c.name ≠ 0 then Nm.ck c.name else if c.kind < 1 ∨ 5 < c.kind then 5 else if c.d.ck ≠ 0 then c.d.ck
  else if c.d.k ≠ 0 ∧ c.d.k ≠ c.kind then 11 else 0
def cl : List C → Int
  | [] => 0
  | c :: cs => if c.ck = 0 then cl cs else c.ck
def nl (cs : List C) (k : Nat) : Bool := (cs.take k).any C.null
def T.ck (t : T) : Int :=
  if Nm.ck t.name ≠ 0 then Nm.ck t.name else if t.cs.length < 1 ∨ 8 < t.cs.length then 2 else if t.keys < 1 ∨ 3 < t.keys ∨ (t.cs.length : Int) < t.keys then 1
  else if cl t.cs ≠ 0 then cl t.cs else if Nm.un (t.cs.map C.name) = false then 12 else if nl t.cs t.keys.toNat = true then 11 else 0

theorem cl_all {cs : List C} (h : cl cs = 0) : ∀ c ∈ cs, c.ck = 0 := by
  induction cs with
  | nil => simp
  | cons c cs ih =>
    rw [cl] at h
    split at h
    · rename_i g
      intro x hx
      rcases List.mem_cons.1 hx with rfl | hx
      · exact g
      · exact ih h x hx
    · rename_i g; exact absurd h g
theorem cl_of {cs : List C} (h : ∀ c ∈ cs, c.ck = 0) : cl cs = 0 := by
  induction cs with
  | nil => rfl
  | cons c cs ih => rw [cl, if_pos (h c (List.mem_cons_self ..))]; exact ih fun x hx => h x (List.mem_cons_of_mem _ hx)
theorem cl_stop (cs : List C) (j : Nat) (hj : j < cs.length) (h0 : ∀ c ∈ cs.take j, c.ck = 0) (h1 : cs[j].ck ≠ 0) : cl cs = cs[j].ck := by
  induction cs generalizing j with
  | nil => simp at hj
  | cons c cs ih =>
    cases j with
    | zero => rw [cl, if_neg (show ¬ c.ck = 0 from h1)]; rfl
    | succ j =>
      rw [cl, if_pos (h0 c (by simp))]
      exact ih j (by simpa using hj) (fun x hx => h0 x (by simp [hx])) h1
theorem take_all {cs : List C} {j : Nat} (hj : j < cs.length) {p : C → Prop} (h : ∀ c ∈ cs.take j, p c) (h1 : p cs[j]) : ∀ c ∈ cs.take (j + 1), p c := by
  rw [List.take_succ_eq_append_getElem hj]
  intro x hx
  rcases List.mem_append.1 hx with g | g
  · exact h x g
  · obtain rfl := List.mem_singleton.1 g; exact h1

theorem nm_ck_len {s : List UInt8} (h : Nm.ck s = 0) : s.length ≤ 16 := by
  unfold Nm.ck at h
  split at h
  · omega
  · rename_i g; simp only [not_or] at g; omega
theorem C.ck_ok {c : C} (h : c.ck = 0) : Nm.ck c.name = 0 ∧ 1 ≤ c.kind ∧ c.kind ≤ 5 ∧ c.d.ck = 0 ∧ (c.d.k = 0 ∨ c.d.k = c.kind) := by
  unfold C.ck at h
  split at h
  · rename_i g; exact absurd h g
  · rename_i g0
    split at h
    · omega
    · rename_i g1
      split at h
      · rename_i g; exact absurd h g
      · rename_i g2
        split at h
        · omega
        · rename_i g3
          refine ⟨by omega, by omega, by omega, by omega, ?_⟩
          by_cases e : c.d.k = 0
          · exact .inl e
          · by_cases e' : c.d.k = c.kind
            · exact .inr e'
            · exact absurd ⟨e, e'⟩ g3
theorem T.ck_ok {t : T} (h : t.ck = 0) : Nm.ck t.name = 0 ∧ 1 ≤ t.cs.length ∧ t.cs.length ≤ 8 ∧ 1 ≤ t.keys ∧ t.keys ≤ 3 ∧ t.keys ≤ t.cs.length ∧ (∀ c ∈ t.cs, c.ck = 0) := by
  unfold T.ck at h
  split at h
  · rename_i g; exact absurd h g
  · rename_i g0
    split at h
    · omega
    · rename_i g1
      split at h
      · omega
      · rename_i g2
        split at h
        · rename_i g; exact absurd h g
        · rename_i g3
          exact ⟨by omega, by omega, by omega, by omega, by omega, by omega, cl_all (by omega)⟩

/-- Are two columns, two lists of them, two tables the same? -/
def C.sm (a b : C) : Bool := decide (a.name = b.name) && decide (a.kind = b.kind) && (a.null == b.null) && Vl.sm a.d.k a.d.n a.d.b a.d.s b.d.k b.d.n b.d.b b.d.s
def csm : List C → List C → Bool
  | [], [] => true
  | a :: x, b :: y => C.sm a b && csm x y
  | _, _ => false
def T.sm (t u : T) : Bool := decide (t.name = u.name) && decide (t.keys = u.keys) && csm t.cs u.cs
/-- The bytes of a column, of columns, of a table. -/
def flag (b : Bool) : List UInt8 := if b = true then [1] else [0]
def C.pt (c : C) : List UInt8 := Pk.tx c.name ++ Pk.un c.kind.toNat ++ flag c.null ++ c.d.pt
def cb : List C → List UInt8
  | [] => []
  | c :: cs => c.pt ++ cb cs
def T.hd (t : T) : List UInt8 := Pk.tx t.name ++ Pk.un t.keys.toNat ++ Pk.un t.cs.length
def T.by (t : T) : List UInt8 := t.hd ++ cb t.cs
def T.pt (t : T) : List UInt8 := if t.ck ≠ 0 then [] else t.by
theorem cb_append (a b : List C) : cb (a ++ b) = cb a ++ cb b := by
  induction a with
  | nil => rfl
  | cons c a ih => rw [List.cons_append, cb, cb, ih, List.append_assoc]
theorem cb_next {cs : List C} {j : Nat} (hj : j < cs.length) : cb (cs.take (j + 1)) = cb (cs.take j) ++ cs[j].pt := by
  rw [List.take_succ_eq_append_getElem hj, cb_append]; simp [cb]
theorem flag_len (b : Bool) : (flag b).length = 1 := by unfold flag; split <;> rfl
theorem vpt_len {x : V} (h : x.ck = 0) : x.pt.length ≤ 131 := by
  have := rb_len (xs := [x]) (by simpa using h)
  simpa [rb] using this
theorem C.pt_len {c : C} (h : c.ck = 0) : c.pt.length ≤ 200 := by
  obtain ⟨h0, h1, h2, h3, _⟩ := C.ck_ok h
  have l0 := nm_ck_len h0
  have l1 := Pk.ub_len 9 c.name.length
  have l2 := Pk.ub_len 9 c.kind.toNat
  have l3 := vpt_len h3
  have l4 := flag_len c.null
  unfold C.pt Pk.tx Pk.un
  simp only [List.length_append]
  omega
theorem cb_len {cs : List C} (h : ∀ c ∈ cs, c.ck = 0) : (cb cs).length ≤ 200 * cs.length := by
  induction cs with
  | nil => simp [cb]
  | cons c cs ih =>
    have := C.pt_len (h c (List.mem_cons_self ..))
    have := ih fun x hx => h x (List.mem_cons_of_mem _ hx)
    rw [cb]; simp only [List.length_append, List.length_cons]; omega
theorem hd_len {t : T} (h : t.ck = 0) : t.hd.length ≤ 60 := by
  obtain ⟨h0, h1, h2, h3, h4, h5, h6⟩ := T.ck_ok h
  have l0 := nm_ck_len h0
  have l1 := Pk.ub_len 9 t.name.length
  have l2 := Pk.ub_len 9 t.keys.toNat
  have l3 := Pk.ub_len 9 t.cs.length
  unfold T.hd Pk.tx Pk.un
  simp only [List.length_append]
  omega
theorem by_len {t : T} (h : t.ck = 0) : t.by.length ≤ 2000 := by
  obtain ⟨h0, h1, h2, h3, h4, h5, h6⟩ := T.ck_ok h
  have := cb_len h6
  have := hd_len h
  unfold T.by
  simp only [List.length_append]
  omega

/-- What bytes begin with: a number up to top; a column; so many columns; a table; what is behind; the error. -/
def small (top : Nat) (past : Int) (l : List UInt8) : Nat × List UInt8 × Int :=
  if (Pk.rd l 0 0).2.2 ≠ 0 then (0, [], (Pk.rd l 0 0).2.2) else if top < (Pk.rd l 0 0).1 then (0, [], past) else ((Pk.rd l 0 0).1, (Pk.rd l 0 0).2.1, 0)
/-- A number from bot to top. -/
def smb (bot top : Nat) (past : Int) (l : List UInt8) : Nat × List UInt8 × Int :=
  if (small top past l).2.2 = 0 ∧ (small top past l).1 < bot then (0, [], past) else small top past l
def C0 : C := ⟨[], 0, false, ⟨0, 0, 0, []⟩⟩
def T0 : T := ⟨[], 0, []⟩
def rdf (l : List UInt8) : Bool × List UInt8 × Int :=
  match l with
  | [] => (false, [], 3)
  | b :: r => if 1 < b.toNat then (false, [], 4) else (decide (b.toNat = 1), r, 0)
def rdc (l : List UInt8) : C × List UInt8 × Int :=
  if (Pk.rt l).2.2 ≠ 0 then (C0, [], (Pk.rt l).2.2) else
  if (small 100 1 (Pk.rt l).2.1).2.2 ≠ 0 then (C0, [], (small 100 1 (Pk.rt l).2.1).2.2) else
  if (rdf (small 100 1 (Pk.rt l).2.1).2.1).2.2 ≠ 0 then (C0, [], (rdf (small 100 1 (Pk.rt l).2.1).2.1).2.2) else
  if (rd (rdf (small 100 1 (Pk.rt l).2.1).2.1).2.1).e ≠ 0 then (C0, [], (rd (rdf (small 100 1 (Pk.rt l).2.1).2.1).2.1).e) else
  (⟨(Pk.rt l).1, (small 100 1 (Pk.rt l).2.1).1, (rdf (small 100 1 (Pk.rt l).2.1).2.1).1,
    ⟨(rd (rdf (small 100 1 (Pk.rt l).2.1).2.1).2.1).k, (rd (rdf (small 100 1 (Pk.rt l).2.1).2.1).2.1).n, (rd (rdf (small 100 1 (Pk.rt l).2.1).2.1).2.1).b, (rd (rdf (small 100 1 (Pk.rt l).2.1).2.1).2.1).s⟩⟩,
    (rd (rdf (small 100 1 (Pk.rt l).2.1).2.1).2.1).r, 0)
def rdcs : Nat → List UInt8 → List C × List UInt8 × Int
  | 0, l => ([], l, 0)
  | n + 1, l => if (rdc l).2.2 ≠ 0 then ([], [], (rdc l).2.2) else if (rdcs n (rdc l).2.1).2.2 ≠ 0 then ([], [], (rdcs n (rdc l).2.1).2.2) else ((rdc l).1 :: (rdcs n (rdc l).2.1).1, (rdcs n (rdc l).2.1).2.1, 0)
/-- Without the question whether it may be; with it. -/
def rdr (l : List UInt8) : T × List UInt8 × Int :=
  if (Pk.rt l).2.2 ≠ 0 then (T0, [], (Pk.rt l).2.2) else
  if (small 100 1 (Pk.rt l).2.1).2.2 ≠ 0 then (T0, [], (small 100 1 (Pk.rt l).2.1).2.2) else
  if (small 8 2 (small 100 1 (Pk.rt l).2.1).2.1).2.2 ≠ 0 then (T0, [], (small 8 2 (small 100 1 (Pk.rt l).2.1).2.1).2.2) else
  if (rdcs (small 8 2 (small 100 1 (Pk.rt l).2.1).2.1).1 (small 8 2 (small 100 1 (Pk.rt l).2.1).2.1).2.1).2.2 ≠ 0 then (T0, [], (rdcs (small 8 2 (small 100 1 (Pk.rt l).2.1).2.1).1 (small 8 2 (small 100 1 (Pk.rt l).2.1).2.1).2.1).2.2) else
  (⟨(Pk.rt l).1, (small 100 1 (Pk.rt l).2.1).1, (rdcs (small 8 2 (small 100 1 (Pk.rt l).2.1).2.1).1 (small 8 2 (small 100 1 (Pk.rt l).2.1).2.1).2.1).1⟩,
    (rdcs (small 8 2 (small 100 1 (Pk.rt l).2.1).2.1).1 (small 8 2 (small 100 1 (Pk.rt l).2.1).2.1).2.1).2.1, 0)
def rdt (l : List UInt8) : T × List UInt8 × Int := if (rdr l).2.2 ≠ 0 then (T0, [], (rdr l).2.2) else if (rdr l).1.ck ≠ 0 then (T0, [], (rdr l).1.ck) else rdr l

/-! ### What is written is read -/
theorem small_un (top : Nat) (past : Int) (n : Nat) (r : List UInt8) (h : n ≤ top) (hn : (n : Int) < 18446744073709551616) : small top past (Pk.un n ++ r) = (n, r, 0) := by
  unfold small
  rw [Pk.rd_un n r hn]
  simp only [ne_eq, not_true_eq_false, if_false]
  rw [if_neg (by omega)]
theorem rdf_flag (b : Bool) (r : List UInt8) : rdf (flag b ++ r) = (b, r, 0) := by cases b <;> simp [flag, rdf]
theorem rdc_pt {c : C} (h : c.ck = 0) (ho : c.d.ok) (r : List UInt8) : rdc (c.pt ++ r) = (c, r, 0) := by
  obtain ⟨h0, h1, h2, h3, _⟩ := C.ck_ok h
  have l0 := nm_ck_len h0
  have e0 : Pk.rt (c.pt ++ r) = (c.name, Pk.un c.kind.toNat ++ (flag c.null ++ (c.d.pt ++ r)), 0) := by
    unfold C.pt
    simp only [List.append_assoc]
    exact Pk.rt_tx _ _ (by omega)
  have e1 := small_un 100 1 c.kind.toNat (flag c.null ++ (c.d.pt ++ r)) (by omega) (by omega)
  have e2 := rdf_flag c.null (c.d.pt ++ r)
  have e3 : rd (c.d.pt ++ r) = ⟨c.d.k, c.d.n, c.d.b, c.d.s, r, 0⟩ := rd_pt h3 ho.1 ho.2 r
  unfold rdc
  simp only [e0, e1, e2, e3, ne_eq, not_true_eq_false, if_false]
  obtain ⟨n, k, l, ⟨k1, n1, b1, s1⟩⟩ := c
  simp only [Prod.mk.injEq, C.mk.injEq, and_true, true_and]
  show ((k.toNat : Nat) : Int) = k
  have : 1 ≤ k := h1
  omega
theorem rdcs_cb : ∀ (cs : List C) (r : List UInt8), (∀ c ∈ cs, c.ck = 0) → (∀ c ∈ cs, c.d.ok) → rdcs cs.length (cb cs ++ r) = (cs, r, 0)
  | [], r, _, _ => rfl
  | c :: cs, r, h, ho => by
    have e1 := rdc_pt (h c (List.mem_cons_self ..)) (ho c (List.mem_cons_self ..)) (cb cs ++ r)
    have e2 := rdcs_cb cs r (fun x hx => h x (List.mem_cons_of_mem _ hx)) (fun x hx => ho x (List.mem_cons_of_mem _ hx))
    rw [List.length_cons, cb, List.append_assoc, rdcs]
    simp only [e1, e2, ne_eq, not_true_eq_false, if_false]
theorem rdt_by {t : T} (h : t.ck = 0) (ho : ∀ c ∈ t.cs, c.d.ok) (r : List UInt8) : rdt (t.by ++ r) = (t, r, 0) := by
  obtain ⟨h0, h1, h2, h3, h4, h5, h6⟩ := T.ck_ok h
  have l0 := nm_ck_len h0
  have e0 : Pk.rt (t.by ++ r) = (t.name, Pk.un t.keys.toNat ++ (Pk.un t.cs.length ++ (cb t.cs ++ r)), 0) := by
    unfold T.by T.hd
    simp only [List.append_assoc]
    exact Pk.rt_tx _ _ (by omega)
  have e1 := small_un 100 1 t.keys.toNat (Pk.un t.cs.length ++ (cb t.cs ++ r)) (by omega) (by omega)
  have e2 := small_un 8 2 t.cs.length (cb t.cs ++ r) h2 (by omega)
  have e3 := rdcs_cb t.cs r h6 ho
  have e : rdr (t.by ++ r) = (t, r, 0) := by
    unfold rdr
    simp only [e0, e1, e2, e3, ne_eq, not_true_eq_false, if_false]
    obtain ⟨n, k, cs⟩ := t
    simp only [Prod.mk.injEq, T.mk.injEq, and_true, true_and]
    show ((k.toNat : Nat) : Int) = k
    have : 1 ≤ k := h3
    omega
  unfold rdt
  rw [e, if_neg (by simp), if_neg (by simpa using h)]
/-! ### What is read: bounds -/
theorem rt_len (l : List UInt8) : (Pk.rt l).2.1.length ≤ l.length := by
  rcases Pk.rd_cases l with ⟨N, r, h, _, e⟩ | ⟨e, h, he⟩
  · have hr : r.length ≤ l.length := by rw [← e, List.length_append]; omega
    by_cases g : r.length < N
    · rw [Pk.rt_short l r N h g]; simp
    · rw [Pk.rt_end l r N h (by omega)]; simp; omega
  · rw [Pk.rt_bad l e h (by omega)]; simp
theorem small_len (top : Nat) (past : Int) (l : List UInt8) : (small top past l).2.1.length ≤ l.length := by
  unfold small
  split
  · simp
  · split
    · simp
    · rcases Pk.rd_cases l with ⟨N, r, h, _, e⟩ | ⟨e, h, he⟩
      · rw [h, ← e]; simp
      · rw [h]; simp
theorem small_top (top : Nat) (past : Int) (l : List UInt8) : (small top past l).1 ≤ top := by
  unfold small
  split
  · exact Nat.zero_le _
  · split
    · exact Nat.zero_le _
    · rename_i h; exact Nat.le_of_not_lt h
theorem rdf_len (l : List UInt8) : (rdf l).2.1.length ≤ l.length := by
  unfold rdf
  split
  · simp
  · split <;> simp
theorem nm_lt (l : List UInt8) : 0 ≤ (Kc.nm (l.take 8) : Int) ∧ (Kc.nm (l.take 8) : Int) < 18446744073709551616 := nm8_U l
theorem chk_b {k n b : Int} {s r : List UInt8} (hb : Rl.U b) (hn : -9223372036854775808 ≤ n ∧ n < 9223372036854775808) : Rl.U (chk k n b s r).b ∧ -9223372036854775808 ≤ (chk k n b s r).n ∧ (chk k n b s r).n < 9223372036854775808 := by
  unfold chk
  split
  · exact ⟨hb, hn⟩
  · exact ⟨u0, by simp [Rd.bad], by simp [Rd.bad]⟩
theorem bad_b (e : Int) : Rl.U (Rd.bad e).b ∧ -9223372036854775808 ≤ (Rd.bad e).n ∧ (Rd.bad e).n < 9223372036854775808 := ⟨u0, by simp [Rd.bad], by simp [Rd.bad]⟩
/-- What is read as a value keeps a value's bounds. -/
theorem rd_b (l : List UInt8) : Rl.U (rd l).b ∧ -9223372036854775808 ≤ (rd l).n ∧ (rd l).n < 9223372036854775808 := by
  cases l with
  | nil => exact bad_b 3
  | cons x l =>
    rw [rd]
    split
    · exact bad_b 4
    · unfold rdb
      have z : (-9223372036854775808 : Int) ≤ 0 ∧ (0 : Int) < 9223372036854775808 := by omega
      split
      · split
        · exact bad_b 3
        · refine chk_b u0 ?_
          have h1 : (Kc.nm (l.take 1) : Int) < 9223372036854775808 := by
            have := nm1_w l
            unfold wrap64 at this
            omega
          omega
      · split
        · split
          · exact bad_b 3
          · have := nm_lt l; exact chk_b u0 (by omega)
        · split
          · split
            · exact bad_b 3
            · split
              · exact chk_b (Rl.bk_U _ (nm8_U l)) z
              · exact bad_b 4
          · split
            · split
              · exact chk_b u0 z
              · exact bad_b _
            · exact chk_b u0 z
theorem rdc_ok (l : List UInt8) : (rdc l).1.d.ok := by
  have z : C0.d.ok := ⟨u0, by simp [C0], by simp [C0]⟩
  unfold rdc
  split
  · exact z
  · split
    · exact z
    · split
      · exact z
      · split
        · exact z
        · exact rd_b _
theorem rd_len (l : List UInt8) : (rd l).e = 0 → (rd l).r.length ≤ l.length := fun h => Nat.le_of_lt (rd_less l h)
theorem rdc_len (l : List UInt8) : (rdc l).2.1.length ≤ l.length := by
  have h1 := rt_len l
  have h2 := small_len 100 1 (Pk.rt l).2.1
  have h3 := rdf_len (small 100 1 (Pk.rt l).2.1).2.1
  have h4 := rd_len (rdf (small 100 1 (Pk.rt l).2.1).2.1).2.1
  unfold rdc
  split
  · simp
  · split
    · simp
    · split
      · simp
      · split
        · simp
        · rename_i g; have := h4 (by omega); simp only; omega
/-- Behind some columns that are read: those, and what is read further. -/
def pc (d : List C) (r : List C × List UInt8 × Int) : List C × List UInt8 × Int := if r.2.2 ≠ 0 then ([], [], r.2.2) else (d ++ r.1, r.2.1, 0)
theorem rdcs_shape : ∀ (n : Nat) (l : List UInt8), rdcs n l = pc [] (rdcs n l)
  | 0, l => rfl
  | n + 1, l => by
    unfold pc
    rw [rdcs]
    split
    · rfl
    · split
      · rfl
      · simp
theorem pc_step {n : Nat} {l : List UInt8} (d : List C) (h : (rdc l).2.2 = 0) : pc d (rdcs (n + 1) l) = pc (d ++ [(rdc l).1]) (rdcs n (rdc l).2.1) := by
  rw [rdcs, if_neg (by simpa using h)]
  unfold pc
  by_cases g : (rdcs n (rdc l).2.1).2.2 = 0
  · simp [g]
  · simp [g]
theorem pc_err {n : Nat} {l : List UInt8} (d : List C) (h : (rdc l).2.2 ≠ 0) : pc d (rdcs (n + 1) l) = ([], [], (rdc l).2.2) := by
  rw [rdcs, if_pos h]
  unfold pc
  simp [h]
theorem rdcs_ok : ∀ (n : Nat) (l : List UInt8), (∀ c ∈ (rdcs n l).1, c.d.ok) ∧ ((rdcs n l).2.2 = 0 → (rdcs n l).1.length = n) ∧ (rdcs n l).2.1.length ≤ l.length
  | 0, l => ⟨by simp [rdcs], fun _ => rfl, Nat.le_refl _⟩
  | n + 1, l => by
    obtain ⟨h1, h2, h3⟩ := rdcs_ok n (rdc l).2.1
    have h4 := rdc_len l
    rw [rdcs]
    split
    · rename_i g; exact ⟨by simp, fun e => absurd e g, by simp⟩
    · split
      · rename_i g; exact ⟨by simp, fun e => absurd e g, by simp⟩
      · rename_i g
        refine ⟨?_, fun _ => ?_, ?_⟩
        · intro c hc
          rcases List.mem_cons.1 hc with rfl | hc
          · exact rdc_ok l
          · exact h1 c hc
        · simp only [List.length_cons]; rw [h2 (by simpa using g)]
        · simp only; omega

end Go.Proofs.YtmgdciihpjifgaaGreatDoor
