/-
 Changes and what is asked as plain mathematics: their bytes, the first error, what bytes begin with. Conditions: none.
 What is behind what bytes begin with is their end; what is read keeps a value's bounds. Conditions: none.
-/
import Derived.Test.YtmgdciihpjifgaaGreatDoorQrScPlain
namespace Go.Proofs.YtmgdciihpjifgaaGreatDoor
open Go.RowKit
structure Ch where
 kind : Int
 table : Nm.S
 other : Nm.S
 to : Nm.S
 also : Nm.S
 name : Nm.S
 type : Int
 names : List Nm.S
 col : C
 df : T
def Ch0 : Ch := ⟨0, [], [], [], [], [], 0, [], C0, T0⟩
structure O where
 kind : Int
 table : Nm.S
 row : List V
 lo : List V
 hi : List V
 max : Int
 ch : Ch
def O0 : O := ⟨0, [], [], [], [], 0, Ch0⟩
def Ch.tx (c : Ch) : List Nm.S := [c.table, c.other, c.to, c.also, c.name]
def lng (l : List Nm.S) : Bool := l.any fun s => decide (16 < s.length)
def arn (c : C) : T := ⟨[120], 1, [⟨if c.name = [107] then [106] else [107], 2, false, ⟨0, 0, 0, []⟩⟩, c]⟩
def Ch.ce (c : Ch) : Int :=
 if c.kind < 1 ∨ 6 < c.kind ∨ c.type < 0 ∨ 100 < c.type ∨ 8 < c.names.length then 1 else if lng c.tx = true ∨ lng c.names = true then 8 else 0
def Ch.tt (c : Ch) : T := if c.kind = 1 then c.df else arn c.col
def Ch.te (c : Ch) : Int := if c.kind = 1 ∨ c.kind = 2 then c.tt.ck else 0
def Ch.tb (c : Ch) : List UInt8 := if c.kind = 1 ∨ c.kind = 2 then c.tt.pt else []
def Ch.pe (c : Ch) : Int := if c.ce ≠ 0 then c.ce else c.te
def txs : List Nm.S → List UInt8
 | [] => []
 | s :: l => Pk.tx s ++ txs l
def Ch.hd (c : Ch) : List UInt8 := Pk.un c.kind.toNat ++ (txs c.tx ++ (Pk.un c.type.toNat ++ (Pk.un c.names.length ++ txs c.names)))
def Ch.pb (c : Ch) : List UInt8 := if c.pe ≠ 0 then [] else c.hd ++ c.tb
def bnd {α β : Type} (x : α × List UInt8 × Int) (z : β) (f : α → List UInt8 → β × List UInt8 × Int) : β × List UInt8 × Int :=
 if x.2.2 ≠ 0 then (z, [], x.2.2) else f x.1 x.2.1
theorem bnd_err {α β : Type} {x : α × List UInt8 × Int} {a : α} {r : List UInt8} {e : Int} (h : x = (a, r, e)) (he : e ≠ 0) (z : β) (f : α → List UInt8 → β × List UInt8 × Int) : bnd x z f = (z, [], e) := by
 subst h; exact if_pos he
theorem bnd_ok {α β : Type} {x : α × List UInt8 × Int} {a : α} {r : List UInt8} (h : x = (a, r, 0)) (z : β) (f : α → List UInt8 → β × List UInt8 × Int) : bnd x z f = f a r := by
 subst h; exact if_neg (by simp)
def rts : Nat → List UInt8 → List Nm.S × List UInt8 × Int
 | 0, l => ([], l, 0)
 | n + 1, l => bnd (Pk.rt l) [] fun s r => bnd (rts n r) [] fun ss q => (s :: ss, q, 0)
def mkc (k : Nat) (ts : List Nm.S) (ty : Nat) (ns : List Nm.S) : Ch := ⟨k, ts.getD 0 [], ts.getD 1 [], ts.getD 2 [], ts.getD 3 [], ts.getD 4 [], ty, ns, C0, T0⟩
def rfs (l : List UInt8) : Ch × List UInt8 × Int :=
 bnd (smb 1 6 1 l) Ch0 fun k l1 => bnd (rts 5 l1) Ch0 fun ts l2 => bnd (small 100 1 l2) Ch0 fun ty l3 => bnd (small 8 1 l3) Ch0 fun n l4 => bnd (rts n l4) Ch0 fun ns l5 => (mkc k ts ty ns, l5, 0)
def Ch.wt (c : Ch) (t : T) : Ch := if c.kind = 1 then ⟨c.kind, c.table, c.other, c.to, c.also, c.name, c.type, c.names, c.col, t⟩ else ⟨c.kind, c.table, c.other, c.to, c.also, c.name, c.type, c.names, t.cs.getLastD C0, c.df⟩
def rtb (c : Ch) (l : List UInt8) : Ch × List UInt8 × Int := if c.kind = 1 ∨ c.kind = 2 then bnd (rdt l) Ch0 fun t r => (c.wt t, r, 0) else (c, l, 0)
def rck (l : List UInt8) (c : Ch) (r : List UInt8) : Ch × List UInt8 × Int := if c.pe ≠ 0 ∨ c.pb ≠ l.take (l.length - r.length) then (Ch0, [], 4) else (c, r, 0)
def rdch (l : List UInt8) : Ch × List UInt8 × Int := bnd (bnd (rfs l) Ch0 rtb) Ch0 (rck l)
def O.pe (o : O) : Int :=
 if o.kind < 1 ∨ 9 < o.kind ∨ o.max < 0 ∨ 64 < o.max then 1 else if 16 < o.table.length then 8 else if Rk.pe o.row ≠ 0 then Rk.pe o.row
 else if Rk.pe o.lo ≠ 0 then Rk.pe o.lo else if Rk.pe o.hi ≠ 0 then Rk.pe o.hi else if o.kind = 6 then o.ch.pe else 0
def O.hd (o : O) : List UInt8 := Pk.un o.kind.toNat ++ (Pk.tx o.table ++ (Pk.tx (Rk.pw o.row) ++ (Pk.tx (Rk.pw o.lo) ++ (Pk.tx (Rk.pw o.hi) ++ Pk.un o.max.toNat))))
def O.cb (o : O) : List UInt8 := if o.kind = 6 then o.ch.pb else []
def O.pb (o : O) : List UInt8 := if o.pe ≠ 0 then [] else o.hd ++ o.cb
def rrw (l : List UInt8) : List V × List UInt8 × Int := bnd (Pk.rt l) [] fun t r => if (Rk.ra t).2 ≠ 0 then ([], [], (Rk.ra t).2) else ((Rk.ra t).1, r, 0)
def roc (k : Nat) (tb : Nm.S) (a b c : List V) (mx : Nat) (l : List UInt8) : O × List UInt8 × Int :=
 if k = 6 then bnd (rdch l) O0 fun ch r => (⟨k, tb, a, b, c, mx, ch⟩, r, 0) else (⟨k, tb, a, b, c, mx, Ch0⟩, l, 0)
def rop (l : List UInt8) : O × List UInt8 × Int :=
 bnd (smb 1 9 1 l) O0 fun k l1 => bnd (Pk.rt l1) O0 fun tb l2 => bnd (rrw l2) O0 fun a l3 => bnd (rrw l3) O0 fun b l4 => bnd (rrw l4) O0 fun c l5 => bnd (small 64 1 l5) O0 fun mx l6 => roc k tb a b c mx l6
def rck2 (l : List UInt8) (o : O) (r : List UInt8) : O × List UInt8 × Int := if o.pe ≠ 0 ∨ o.pb ≠ l.take (l.length - r.length) then (O0, [], 4) else (o, r, 0)
def rdo (l : List UInt8) : O × List UInt8 × Int := bnd (rop l) O0 (rck2 l)
def O.sm (a b : O) : Bool :=
 decide (a.kind = b.kind) && decide (a.table = b.table) && decide (a.max = b.max) && Rk.rs a.row b.row && Rk.rs a.lo b.lo && Rk.rs a.hi b.hi && (decide (a.kind ≠ 6) || (decide (a.ch.pe = 0) && decide (b.ch.pe = 0) && decide (a.ch.pb = b.ch.pb)))
theorem lng_all {l : List Nm.S} (h : ¬ lng l = true) : ∀ s ∈ l, s.length ≤ 16 := by
 intro s hs
 unfold lng at h
 simp only [List.any_eq_true, decide_eq_true_eq, not_exists, not_and, Nat.not_lt] at h
 exact h s hs
theorem Ch.ce_ok {c : Ch} (h : c.ce = 0) : 1 ≤ c.kind ∧ c.kind ≤ 6 ∧ 0 ≤ c.type ∧ c.type ≤ 100 ∧ c.names.length ≤ 8 ∧ (∀ s ∈ c.tx, s.length ≤ 16) ∧ ∀ s ∈ c.names, s.length ≤ 16 := by
 unfold Ch.ce at h
 split at h
 ·omega
 ·rename_i g
  split at h
  ·omega
  ·rename_i g2
   exact ⟨by omega, by omega, by omega, by omega, by omega, lng_all fun q => g2 (.inl q), lng_all fun q => g2 (.inr q)⟩
theorem Ch.pe_ok {c : Ch} (h : c.pe = 0) : c.ce = 0 ∧ c.te = 0 := by
 unfold Ch.pe at h
 split at h
 ·rename_i g; exact absurd h g
 ·rename_i g; exact ⟨by omega, h⟩
def Ch.okv (c : Ch) : Prop := c.col.d.ok ∧ ∀ x ∈ c.df.cs, x.d.ok
theorem okv0 : Ch0.okv := ⟨⟨u0, by simp [Ch0, C0], by simp [Ch0, C0]⟩, by simp [Ch0, T0]⟩
theorem vz_ok : V.ok ⟨0, 0, 0, []⟩ := ⟨u0, by decide, by decide⟩
theorem O.pe_ok {o : O} (h : o.pe = 0) : 1 ≤ o.kind ∧ o.kind ≤ 9 ∧ 0 ≤ o.max ∧ o.max ≤ 64 ∧ o.table.length ≤ 16 ∧ Rk.pe o.row = 0 ∧ Rk.pe o.lo = 0 ∧ Rk.pe o.hi = 0 ∧ (o.kind = 6 → o.ch.pe = 0) := by
 unfold O.pe at h
 split at h
 ·omega
 ·rename_i g1
  split at h
  ·omega
  ·rename_i g2
   split at h
   ·rename_i g; exact absurd h g
   ·rename_i g3
    split at h
    ·rename_i g; exact absurd h g
    ·rename_i g4
     split at h
     ·rename_i g; exact absurd h g
     ·rename_i g5
      refine ⟨by omega, by omega, by omega, by omega, by omega, by omega, by omega, by omega, fun k => ?_⟩
      rwa [if_pos k] at h
def O.okv (o : O) : Prop := (∀ x ∈ o.row, x.ok) ∧ (∀ x ∈ o.lo, x.ok) ∧ (∀ x ∈ o.hi, x.ok) ∧ o.ch.okv
theorem O.sm_self {o : O} (h : o.kind = 6 → o.ch.pe = 0) : o.sm o = true := by
 unfold O.sm
 simp only [decide_true, Rk.rs_self, Bool.true_and, Bool.or_eq_true, Bool.and_eq_true, decide_eq_true_eq]
 by_cases g : o.kind = 6
 ·exact .inr ⟨⟨h g, h g⟩, trivial⟩
 ·exact .inl g
end Go.Proofs.YtmgdciihpjifgaaGreatDoor
namespace Go.Proofs.YtmgdciihpjifgaaGreatDoor
open Go.RowKit
theorem bnd_sf {α β : Type} {x : α × List UInt8 × Int} {z : β} {f : α → List UInt8 → β × List UInt8 × Int} {l : List UInt8} (h : x.2.1 <:+ l) (g : ∀ a r, r <:+ l → (f a r).2.1 <:+ l) : (bnd x z f).2.1 <:+ l := by
 unfold bnd
 split
 ·exact List.nil_suffix
 ·exact g _ _ h
theorem rd_sf (l : List UInt8) : (Pk.rd l 0 0).2.1 <:+ l := by
 rcases Pk.rd_cases l with ⟨N, r, h, _, e⟩ | ⟨e, h, _⟩
 ·rw [h]; exact ⟨_, e⟩
 ·rw [h]; exact List.nil_suffix
theorem small_sf (top : Nat) (ps : Int) (l : List UInt8) : (small top ps l).2.1 <:+ l := by
 unfold small
 split
 ·exact List.nil_suffix
 ·split
  ·exact List.nil_suffix
  ·exact rd_sf l
theorem smb_sf (bot top : Nat) (ps : Int) (l : List UInt8) : (smb bot top ps l).2.1 <:+ l := by
 unfold smb
 split
 ·exact List.nil_suffix
 ·exact small_sf top ps l
theorem rt_sf (l : List UInt8) : (Pk.rt l).2.1 <:+ l := by
 rcases Pk.rd_cases l with ⟨N, r, h, _, e⟩ | ⟨e, h, he⟩
 ·by_cases g : r.length < N
  ·rw [Pk.rt_short l r N h g]; exact List.nil_suffix
  ·rw [Pk.rt_end l r N h (by omega)]
   exact (List.drop_suffix N r).trans ⟨_, e⟩
 ·rw [Pk.rt_bad l e h (by omega)]; exact List.nil_suffix
theorem rts_sf : ∀ (n : Nat) (l : List UInt8), (rts n l).2.1 <:+ l
 | 0, l => List.suffix_refl l
 | n + 1, l => by
  rw [rts]
  exact bnd_sf (rt_sf l) fun s r hr => bnd_sf ((rts_sf n r).trans hr) fun ss q hq => hq
theorem kun_sf (l : List UInt8) : (Kc.un l).2.1 <:+ l := by
 have c : ∀ (x : UInt8) (r : List UInt8 × List UInt8 × Int) (m : List UInt8), r.2.1 <:+ m → (Kc.cons x r).2.1 <:+ m := by
  intro x r m h
  unfold Kc.cons
  split
  ·exact h
  ·exact List.nil_suffix
 induction l using Kc.un.induct with
 | case1 => exact List.suffix_refl _
 | case2 x => exact List.nil_suffix
 | case3 l => rw [Kc.un_00]; exact ⟨[0, 0], rfl⟩
 | case4 l h ih => rw [Kc.un_0f]; exact c _ _ _ (ih.trans ⟨[0, 255], rfl⟩)
 | case5 y l h g => rw [Kc.un_0x l h g]; exact List.nil_suffix
 | case6 x y l h ih => rw [Kc.un_n (y :: l) h]; exact c _ _ _ (ih.trans ⟨[x], rfl⟩)
theorem kchk_sf (k n b : Int) (s : List UInt8) {r m : List UInt8} (h : r <:+ m) : (chk k n b s r).r <:+ m := by
 unfold chk
 split
 ·exact h
 ·exact List.nil_suffix
theorem krd_sf (l : List UInt8) : (rd l).r <:+ l := by
 cases l with
 | nil => exact List.nil_suffix
 | cons x t =>
  rw [rd]
  split
  ·exact List.nil_suffix
  ·have up : ∀ {q : List UInt8}, q <:+ t → q <:+ x :: t := fun h => h.trans ⟨[x], rfl⟩
   unfold rdb
   split
   ·split
    ·exact List.nil_suffix
    ·exact kchk_sf _ _ _ _ (up (List.drop_suffix _ _))
   ·split
    ·split
     ·exact List.nil_suffix
     ·exact kchk_sf _ _ _ _ (up (List.drop_suffix _ _))
    ·split
     ·split
      ·exact List.nil_suffix
      ·split
       ·exact kchk_sf _ _ _ _ (up (List.drop_suffix _ _))
       ·exact List.nil_suffix
     ·split
      ·split
       ·exact kchk_sf _ _ _ _ (up (kun_sf t))
       ·exact List.nil_suffix
      ·exact kchk_sf _ _ _ _ (up (List.suffix_refl _))
theorem rdf_sf (l : List UInt8) : (rdf l).2.1 <:+ l := by
 unfold rdf
 split
 ·exact List.nil_suffix
 ·rename_i b r
  split
  ·exact List.nil_suffix
  ·exact ⟨[b], rfl⟩
theorem rdc_sf (l : List UInt8) : (rdc l).2.1 <:+ l := by
 unfold rdc
 split
 ·exact List.nil_suffix
 ·split
  ·exact List.nil_suffix
  ·split
   ·exact List.nil_suffix
   ·split
    ·exact List.nil_suffix
    ·exact (krd_sf _).trans ((rdf_sf _).trans ((small_sf _ _ _).trans (rt_sf l)))
theorem rdcs_sf : ∀ (n : Nat) (l : List UInt8), (rdcs n l).2.1 <:+ l
 | 0, l => List.suffix_refl l
 | n + 1, l => by
  rw [rdcs]
  split
  ·exact List.nil_suffix
  ·split
   ·exact List.nil_suffix
   ·exact (rdcs_sf n _).trans (rdc_sf l)
theorem rdt_sf (l : List UInt8) : (rdt l).2.1 <:+ l := by
 have h : (rdr l).2.1 <:+ l := by
  unfold rdr
  split
  ·exact List.nil_suffix
  ·split
   ·exact List.nil_suffix
   ·split
    ·exact List.nil_suffix
    ·split
     ·exact List.nil_suffix
     ·exact (rdcs_sf _ _).trans ((small_sf _ _ _).trans ((small_sf _ _ _).trans (rt_sf l)))
 unfold rdt
 split
 ·exact List.nil_suffix
 ·split
  ·exact List.nil_suffix
  ·exact h
theorem rfs_sf (l : List UInt8) : (rfs l).2.1 <:+ l := by
 unfold rfs
 exact bnd_sf (smb_sf _ _ _ l) fun _ r1 h1 => bnd_sf ((rts_sf _ r1).trans h1) fun _ r2 h2 => bnd_sf ((small_sf _ _ r2).trans h2) fun _ r3 h3 => bnd_sf ((small_sf _ _ r3).trans h3) fun _ r4 h4 => bnd_sf ((rts_sf _ r4).trans h4) fun _ _ h5 => h5
theorem rtb_sf (c : Ch) (l : List UInt8) : (rtb c l).2.1 <:+ l := by
 unfold rtb
 split
 ·exact bnd_sf (rdt_sf l) fun _ _ h => h
 ·exact List.suffix_refl l
theorem rck_sf (m : List UInt8) (c : Ch) {r l : List UInt8} (h : r <:+ l) : (rck m c r).2.1 <:+ l := by
 unfold rck
 split
 ·exact List.nil_suffix
 ·exact h
theorem rdch_sf (l : List UInt8) : (rdch l).2.1 <:+ l := by
 unfold rdch
 exact bnd_sf (bnd_sf (rfs_sf l) fun c r h => (rtb_sf c r).trans h) fun c r h => rck_sf l c h
theorem rrw_sf (l : List UInt8) : (rrw l).2.1 <:+ l := by
 unfold rrw
 refine bnd_sf (rt_sf l) fun t r h => ?_
 split
 ·exact List.nil_suffix
 ·exact h
theorem roc_sf (k : Nat) (tb : Nm.S) (a b c : List V) (mx : Nat) (l : List UInt8) : (roc k tb a b c mx l).2.1 <:+ l := by
 unfold roc
 split
 ·exact bnd_sf (rdch_sf l) fun _ _ h => h
 ·exact List.suffix_refl l
theorem rop_sf (l : List UInt8) : (rop l).2.1 <:+ l := by
 unfold rop
 exact bnd_sf (smb_sf _ _ _ l) fun _ r1 h1 => bnd_sf ((rt_sf r1).trans h1) fun _ r2 h2 => bnd_sf ((rrw_sf r2).trans h2) fun _ r3 h3 => bnd_sf ((rrw_sf r3).trans h3) fun _ r4 h4 => bnd_sf ((rrw_sf r4).trans h4) fun _ r5 h5 => bnd_sf ((small_sf _ _ r5).trans h5) fun _ r6 h6 => (roc_sf _ _ _ _ _ _ r6).trans h6
theorem suf_cut {r l : List UInt8} (h : r <:+ l) : l.take (l.length - r.length) ++ r = l := by
 obtain ⟨p, rfl⟩ := h
 simp
theorem suf_len {r l : List UInt8} (h : r <:+ l) : r.length ≤ l.length := h.length_le
theorem bnd_inv {α β : Type} {x : α × List UInt8 × Int} {z : β} {f : α → List UInt8 → β × List UInt8 × Int} {b : β} {r : List UInt8} (h : bnd x z f = (b, r, 0)) : ∃ a q, x = (a, q, 0) ∧ f a q = (b, r, 0) := by
 obtain ⟨a, q, e⟩ := x
 unfold bnd at h
 split at h
 ·rename_i g
  obtain ⟨_, _, h3⟩ : z = b ∧ [] = r ∧ e = 0 := by simpa using h
  exact absurd h3 g
 ·rename_i g
  obtain rfl : e = 0 := by simpa using g
  exact ⟨a, q, rfl, h⟩
theorem bnd_fst {α β : Type} {x : α × List UInt8 × Int} {z : β} {f : α → List UInt8 → β × List UInt8 × Int} {p : β → Prop} (hz : p z) (h : ∀ a q, x = (a, q, 0) → p (f a q).1) : p (bnd x z f).1 := by
 obtain ⟨a, q, e⟩ := x
 unfold bnd
 split
 ·exact hz
 ·rename_i g
  obtain rfl : e = 0 := by simpa using g
  exact h a q rfl
theorem rts_len : ∀ (n : Nat) (l : List UInt8) (ts : List Nm.S) (r : List UInt8), rts n l = (ts, r, 0) → ts.length = n
 | 0, l, ts, r, h => by
  obtain ⟨rfl, _⟩ : [] = ts ∧ l = r := by simpa [rts] using h
  rfl
 | n + 1, l, ts, r, h => by
  rw [rts] at h
  obtain ⟨s, q, _, h⟩ := bnd_inv h
  obtain ⟨ss, q2, h2, h⟩ := bnd_inv h
  obtain ⟨rfl, _⟩ : s :: ss = ts ∧ q2 = r := by simpa using h
  simp [rts_len n q ss q2 h2]
theorem rts_bad : ∀ (n : Nat) (l : List UInt8), (rts n l).2.2 ≠ 0 → (rts n l).1 = [] ∧ (rts n l).2.1 = []
 | 0, l, h => absurd rfl h
 | n + 1, l, h => by
  rw [rts] at h ⊢
  rcases e : Pk.rt l with ⟨s, q, E⟩
  by_cases hE : E = 0
  ·subst hE
   rw [e] at h
   rw [bnd_ok rfl] at h ⊢
   rcases e2 : rts n q with ⟨ss, q2, E2⟩
   by_cases hE2 : E2 = 0
   ·subst hE2
    rw [e2, bnd_ok rfl] at h
    exact absurd rfl h
   ·rw [bnd_err rfl hE2]
    exact ⟨rfl, rfl⟩
  ·rw [bnd_err rfl hE]
   exact ⟨rfl, rfl⟩
theorem rdt_ok' (l : List UInt8) : ∀ c ∈ (rdt l).1.cs, c.d.ok := by
 have h : ∀ c ∈ (rdr l).1.cs, c.d.ok := by
  unfold rdr
  split
  ·simp [T0]
  ·split
   ·simp [T0]
   ·split
    ·simp [T0]
    ·split
     ·simp [T0]
     ·exact (rdcs_ok _ _).1
 unfold rdt
 split
 ·simp [T0]
 ·split
  ·simp [T0]
  ·exact h
theorem rdch_okv (l : List UInt8) : (rdch l).1.okv := by
 have t0 : T0.cs = [] := rfl
 have z : C0.d.ok := okv0.1
 unfold rdch
 refine bnd_fst (p := Ch.okv) okv0 fun c r h => ?_
 obtain ⟨c1, r1, h1, h2⟩ := bnd_inv h
 have k1 : c1.okv := by
  have : (rfs l).1.okv := by
   unfold rfs
   exact bnd_fst (p := Ch.okv) okv0 fun _ _ _ => bnd_fst (p := Ch.okv) okv0 fun _ _ _ => bnd_fst (p := Ch.okv) okv0 fun _ _ _ => bnd_fst (p := Ch.okv) okv0 fun _ _ _ => bnd_fst (p := Ch.okv) okv0 fun _ _ _ => ⟨z, by simp [mkc, t0]⟩
  rw [h1] at this
  exact this
 have k2 : c.okv := by
  have : (rtb c1 r1).1.okv := by
   unfold rtb
   split
   ·refine bnd_fst (p := Ch.okv) okv0 fun t q ht => ?_
    have o : ∀ x ∈ t.cs, x.d.ok := by have := rdt_ok' r1; rw [ht] at this; exact this
    unfold Ch.wt
    split
    ·exact ⟨k1.1, o⟩
    ·refine ⟨?_, k1.2⟩
     rcases e : t.cs.getLast? with _ | x
     ·rw [List.getLastD_eq_getLast?, e]; exact z
     ·rw [List.getLastD_eq_getLast?, e]; exact o x (List.mem_of_getLast? e)
   ·exact k1
  rw [h2] at this
  exact this
 unfold rck
 split
 ·exact okv0
 ·exact k2
theorem rrw_okv (l : List UInt8) : ∀ x ∈ (rrw l).1, x.ok := by
 unfold rrw
 refine bnd_fst (p := fun a : List V => ∀ x ∈ a, x.ok) (by simp) fun t r h => ?_
 rcases e : Rk.ra t with ⟨xs, E⟩
 by_cases g : E = 0
 ·subst g
  simp only [ne_eq, not_true_eq_false, if_false]
  exact (Rk.ra_back e).2.2.2
 ·simp [g]
theorem rop_okv (l : List UInt8) : (rop l).1.okv := by
 have z : O0.okv := ⟨by simp [O0], by simp [O0], by simp [O0], okv0⟩
 unfold rop
 refine bnd_fst (p := O.okv) z fun _ _ _ => bnd_fst (p := O.okv) z fun _ _ _ => bnd_fst (p := O.okv) z fun a r3 h3 => bnd_fst (p := O.okv) z fun b r4 h4 => bnd_fst (p := O.okv) z fun c r5 h5 => bnd_fst (p := O.okv) z fun mx r6 h6 => ?_
 have i3 := congrArg Prod.fst h3
 have i4 := congrArg Prod.fst h4
 have i5 := congrArg Prod.fst h5
 simp only at i3 i4 i5
 unfold roc
 split
 ·refine bnd_fst (p := O.okv) z fun ch q hq => ⟨i3 ▸ rrw_okv _, i4 ▸ rrw_okv _, i5 ▸ rrw_okv _, ?_⟩
  have := rdch_okv r6
  rw [hq] at this
  exact this
 ·exact ⟨i3 ▸ rrw_okv _, i4 ▸ rrw_okv _, i5 ▸ rrw_okv _, okv0⟩
theorem rdch_pe {l : List UInt8} {c : Ch} {r : List UInt8} (h : rdch l = (c, r, 0)) : c.pe = 0 ∧ c.pb = l.take (l.length - r.length) := by
 obtain ⟨c1, r1, _, h2⟩ := bnd_inv h
 unfold rck at h2
 split at h2
 ·have : (4 : Int) = 0 := congrArg (·.2.2) h2
  omega
 ·rename_i g
  obtain ⟨rfl, rfl⟩ : c1 = c ∧ r1 = r := by simpa using h2
  exact ⟨Decidable.byContradiction fun q => g (.inl q), Decidable.byContradiction fun q => g (.inr q)⟩
theorem rdo_pe {l : List UInt8} {o : O} {r : List UInt8} (h : rdo l = (o, r, 0)) : o.pe = 0 ∧ o.pb ++ r = l ∧ o.okv := by
 obtain ⟨o1, r1, h1, h2⟩ := bnd_inv h
 have k := rop_okv l
 have s := rop_sf l
 rw [h1] at k s
 unfold rck2 at h2
 split at h2
 ·have : (4 : Int) = 0 := congrArg (·.2.2) h2
  omega
 ·rename_i g
  obtain ⟨rfl, rfl⟩ : o1 = o ∧ r1 = r := by simpa using h2
  refine ⟨Decidable.byContradiction fun q => g (.inl q), ?_, k⟩
  have e : o1.pb = l.take (l.length - r1.length) := Decidable.byContradiction fun q => g (.inr q)
  rw [e]
  exact suf_cut s
end Go.Proofs.YtmgdciihpjifgaaGreatDoor
