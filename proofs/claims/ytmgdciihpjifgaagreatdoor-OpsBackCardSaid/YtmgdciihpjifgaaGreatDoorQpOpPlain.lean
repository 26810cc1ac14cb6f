/-
  Changes and what is asked as plain mathematics: their bytes, the first error, what bytes begin with. Conditions: none.
-/
import Derived.Test.YtmgdciihpjifgaaGreatDoorQpScPlain
import Derived.Test.YtmgdciihpjifgaaGreatDoorQpRkPlain
namespace Go.Proofs.YtmgdciihpjifgaaGreatDoor
open Go.RowKit

/-- A change. -/
structure Ch where
  kind : Int
  table : Nm.S
  other : Nm.S
  to : Nm.S
  also : Nm.S
  name : Nm.S
  type : Int
  names : List Nm.S
  col : C
  df : T
def Ch0 : Ch := ⟨0, [], [], [], [], [], 0, [], C0, T0⟩
/-- What is asked. -/
structure O where
  kind : Int
  table : Nm.S
  row : List V
  lo : List V
  hi : List V
  max : Int
  ch : Ch
def O0 : O := ⟨0, [], [], [], [], 0, Ch0⟩

/-- The bytes of a change, and the first error. -/
def Ch.tx (c : Ch) : List Nm.S := [c.table, c.other, c.to, c.also, c.name]
def lng (l : List Nm.S) : Bool := l.any fun s => decide (16 < s.length)
def arn (c : C) : T := ⟨[120], 1, [⟨if c.name = [107] then [106] else [107], 2, false, ⟨0, 0, 0, []⟩⟩, c]⟩
def Ch.ce (c : Ch) : Int :=
  if c.kind < 1 ∨ 6 < c.kind ∨ c.type < 0 ∨ 100 < c.type ∨ 8 < c.names.length then 1 else if lng c.tx = true ∨ lng c.names = true then 8 else 0
def Ch.tt (c : Ch) : T := if c.kind = 1 then c.df else arn c.col
def Ch.te (c : Ch) : Int := if c.kind = 1 ∨ c.kind = 2 then c.tt.ck else 0
def Ch.tb (c : Ch) : List UInt8 := if c.kind = 1 ∨ c.kind = 2 then c.tt.pt else []
def Ch.pe (c : Ch) : Int := if c.ce ≠ 0 then c.ce else c.te
def txs : List Nm.S → List UInt8
  | [] => []
  | s :: l => Pk.tx s ++ txs l
def Ch.hd (c : Ch) : List UInt8 := Pk.un c.kind.toNat ++ (txs c.tx ++ (Pk.un c.type.toNat ++ (Pk.un c.names.length ++ txs c.names)))
def Ch.pb (c : Ch) : List UInt8 := if c.pe ≠ 0 then [] else c.hd ++ c.tb

/-- A reading behind a reading: the error goes on. -/
def bnd {α β : Type} (x : α × List UInt8 × Int) (z : β) (f : α → List UInt8 → β × List UInt8 × Int) : β × List UInt8 × Int :=
  if x.2.2 ≠ 0 then (z, [], x.2.2) else f x.1 x.2.1
theorem bnd_err {α β : Type} {x : α × List UInt8 × Int} {a : α} {r : List UInt8} {e : Int} (h : x = (a, r, e)) (he : e ≠ 0) (z : β) (f : α → List UInt8 → β × List UInt8 × Int) : bnd x z f = (z, [], e) := by
  subst h; exact if_pos he
theorem bnd_ok {α β : Type} {x : α × List UInt8 × Int} {a : α} {r : List UInt8} (h : x = (a, r, 0)) (z : β) (f : α → List UInt8 → β × List UInt8 × Int) : bnd x z f = f a r := by
  subst h; exact if_neg (by simp)
/-- So many texts. -/
def rts : Nat → List UInt8 → List Nm.S × List UInt8 × Int
  | 0, l => ([], l, 0)
  | n + 1, l => bnd (Pk.rt l) [] fun s r => bnd (rts n r) [] fun ss q => (s :: ss, q, 0)
/-- What bytes begin with: a change's first fields; with its table; whether these are its bytes. -/
def mkc (k : Nat) (ts : List Nm.S) (ty : Nat) (ns : List Nm.S) : Ch := ⟨k, ts.getD 0 [], ts.getD 1 [], ts.getD 2 [], ts.getD 3 [], ts.getD 4 [], ty, ns, C0, T0⟩
def rfs (l : List UInt8) : Ch × List UInt8 × Int :=
  bnd (smb 1 6 1 l) Ch0 fun k l1 => bnd (rts 5 l1) Ch0 fun ts l2 => bnd (small 100 1 l2) Ch0 fun ty l3 => bnd (small 8 1 l3) Ch0 fun n l4 => bnd (rts n l4) Ch0 fun ns l5 => (mkc k ts ty ns, l5, 0)
def Ch.wt (c : Ch) (t : T) : Ch := if c.kind = 1 then ⟨c.kind, c.table, c.other, c.to, c.also, c.name, c.type, c.names, c.col, t⟩ else ⟨c.kind, c.table, c.other, c.to, c.also, c.name, c.type, c.names, t.cs.getLastD C0, c.df⟩
def rtb (c : Ch) (l : List UInt8) : Ch × List UInt8 × Int := if c.kind = 1 ∨ c.kind = 2 then bnd (rdt l) Ch0 fun t r => (c.wt t, r, 0) else (c, l, 0)
def rck (l : List UInt8) (c : Ch) (r : List UInt8) : Ch × List UInt8 × Int := if c.pe ≠ 0 ∨ c.pb ≠ l.take (l.length - r.length) then (Ch0, [], 4) else (c, r, 0)
def rdch (l : List UInt8) : Ch × List UInt8 × Int := bnd (bnd (rfs l) Ch0 rtb) Ch0 (rck l)

/-- The bytes of what is asked, and the first error. -/
def O.pe (o : O) : Int :=
  if o.kind < 1 ∨ 9 < o.kind ∨ o.max < 0 ∨ 64 < o.max then 1 else if 16 < o.table.length then 8 else if Rk.pe o.row ≠ 0 then Rk.pe o.row
  else if Rk.pe o.lo ≠ 0 then Rk.pe o.lo else if Rk.pe o.hi ≠ 0 then Rk.pe o.hi else if o.kind = 6 then o.ch.pe else 0
def O.hd (o : O) : List UInt8 := Pk.un o.kind.toNat ++ (Pk.tx o.table ++ (Pk.tx (Rk.pw o.row) ++ (Pk.tx (Rk.pw o.lo) ++ (Pk.tx (Rk.pw o.hi) ++ Pk.un o.max.toNat))))
def O.cb (o : O) : List UInt8 := if o.kind = 6 then o.ch.pb else []
def O.pb (o : O) : List UInt8 := if o.pe ≠ 0 then [] else o.hd ++ o.cb
def rrw (l : List UInt8) : List V × List UInt8 × Int := bnd (Pk.rt l) [] fun t r => if (Rk.ra t).2 ≠ 0 then ([], [], (Rk.ra t).2) else ((Rk.ra t).1, r, 0)
def roc (k : Nat) (tb : Nm.S) (a b c : List V) (mx : Nat) (l : List UInt8) : O × List UInt8 × Int :=
  if k = 6 then bnd (rdch l) O0 fun ch r => (⟨k, tb, a, b, c, mx, ch⟩, r, 0) else (⟨k, tb, a, b, c, mx, Ch0⟩, l, 0)
def rop (l : List UInt8) : O × List UInt8 × Int :=
  bnd (smb 1 9 1 l) O0 fun k l1 => bnd (Pk.rt l1) O0 fun tb l2 => bnd (rrw l2) O0 fun a l3 => bnd (rrw l3) O0 fun b l4 => bnd (rrw l4) O0 fun c l5 => bnd (small 64 1 l5) O0 fun mx l6 => roc k tb a b c mx l6
def rck2 (l : List UInt8) (o : O) (r : List UInt8) : O × List UInt8 × Int := if o.pe ≠ 0 ∨ o.pb ≠ l.take (l.length - r.length) then (O0, [], 4) else (o, r, 0)
def rdo (l : List UInt8) : O × List UInt8 × Int := bnd (rop l) O0 (rck2 l)

/-- Is all that is written the same? -/
def O.sm (a b : O) : Bool :=
  decide (a.kind = b.kind) && decide (a.table = b.table) && decide (a.max = b.max) && Rk.rs a.row b.row && Rk.rs a.lo b.lo && Rk.rs a.hi b.hi && (decide (a.kind ≠ 6) || (decide (a.ch.pe = 0) && decide (b.ch.pe = 0) && decide (a.ch.pb = b.ch.pb)))

/-! ### What is written is read -/
theorem lng_all {l : List Nm.S} (h : ¬ lng l = true) : ∀ s ∈ l, s.length ≤ 16 := by
  intro s hs
  unfold lng at h
  simp only [List.any_eq_true, decide_eq_true_eq, not_exists, not_and, Nat.not_lt] at h
  exact h s hs
theorem rts_txs : ∀ (l : List Nm.S) (r : List UInt8), (∀ s ∈ l, s.length ≤ 1000000) → rts l.length (txs l ++ r) = (l, r, 0)
  | [], r, _ => rfl
  | s :: l, r, h => by
    have e1 : Pk.rt (Pk.tx s ++ (txs l ++ r)) = (s, txs l ++ r, 0) := Pk.rt_tx _ _ (by have := h s (List.mem_cons_self ..); omega)
    have e2 := rts_txs l r fun x hx => h x (List.mem_cons_of_mem _ hx)
    rw [List.length_cons, txs, List.append_assoc, rts, bnd_ok e1, bnd_ok e2]
theorem smb_un (bot top : Nat) (past : Int) (n : Nat) (r : List UInt8) (h0 : bot ≤ n) (h : n ≤ top) (hn : (n : Int) < 18446744073709551616) : smb bot top past (Pk.un n ++ r) = (n, r, 0) := by
  unfold smb
  rw [small_un top past n r h hn, if_neg (by simp; omega)]
theorem Ch.ce_ok {c : Ch} (h : c.ce = 0) : 1 ≤ c.kind ∧ c.kind ≤ 6 ∧ 0 ≤ c.type ∧ c.type ≤ 100 ∧ c.names.length ≤ 8 ∧ (∀ s ∈ c.tx, s.length ≤ 16) ∧ ∀ s ∈ c.names, s.length ≤ 16 := by
  unfold Ch.ce at h
  split at h
  · omega
  · rename_i g
    split at h
    · omega
    · rename_i g2
      exact ⟨by omega, by omega, by omega, by omega, by omega, lng_all fun q => g2 (.inl q), lng_all fun q => g2 (.inr q)⟩
theorem Ch.pe_ok {c : Ch} (h : c.pe = 0) : c.ce = 0 ∧ c.te = 0 := by
  unfold Ch.pe at h
  split at h
  · rename_i g; exact absurd h g
  · rename_i g; exact ⟨by omega, h⟩
theorem rfs_hd {c : Ch} (h : c.ce = 0) (r : List UInt8) : rfs (c.hd ++ r) = (⟨c.kind, c.table, c.other, c.to, c.also, c.name, c.type, c.names, C0, T0⟩, r, 0) := by
  obtain ⟨h1, h2, h3, h4, h5, h6, h7⟩ := Ch.ce_ok h
  have e1 := smb_un 1 6 1 c.kind.toNat (txs c.tx ++ (Pk.un c.type.toNat ++ (Pk.un c.names.length ++ (txs c.names ++ r)))) (by omega) (by omega) (by omega)
  have e2 : rts 5 (txs c.tx ++ (Pk.un c.type.toNat ++ (Pk.un c.names.length ++ (txs c.names ++ r)))) = _ := rts_txs c.tx _ fun s hs => by have := h6 s hs; omega
  have e3 := small_un 100 1 c.type.toNat (Pk.un c.names.length ++ (txs c.names ++ r)) (by omega) (by omega)
  have e4 := small_un 8 1 c.names.length (txs c.names ++ r) h5 (by omega)
  have e5 := rts_txs c.names r fun s hs => by have := h7 s hs; omega
  unfold Ch.hd rfs
  simp only [List.append_assoc]
  rw [bnd_ok e1, bnd_ok e2, bnd_ok e3, bnd_ok e4, bnd_ok e5]
  have k1 : ((c.kind.toNat : Nat) : Int) = c.kind := by omega
  have k2 : ((c.type.toNat : Nat) : Int) = c.type := by omega
  unfold mkc
  rw [k1, k2]
  rfl
/-- What is read anew of a change. -/
def Ch.nrm (c : Ch) : Ch := ⟨c.kind, c.table, c.other, c.to, c.also, c.name, c.type, c.names, if c.kind = 2 then c.col else C0, if c.kind = 1 then c.df else T0⟩
theorem nrm_ce (c : Ch) : c.nrm.ce = c.ce := rfl
theorem nrm_tt (c : Ch) (h : c.kind = 1 ∨ c.kind = 2) : c.nrm.tt = c.tt := by
  unfold Ch.tt Ch.nrm
  rcases h with h | h
  · simp [h]
  · simp [h]
theorem nrm_te (c : Ch) : c.nrm.te = c.te := by
  unfold Ch.te
  by_cases h : c.kind = 1 ∨ c.kind = 2
  · rw [if_pos h, if_pos (show c.nrm.kind = 1 ∨ c.nrm.kind = 2 from h), nrm_tt c h]
  · rw [if_neg h, if_neg (show ¬ (c.nrm.kind = 1 ∨ c.nrm.kind = 2) from h)]
theorem nrm_tb (c : Ch) : c.nrm.tb = c.tb := by
  unfold Ch.tb
  by_cases h : c.kind = 1 ∨ c.kind = 2
  · rw [if_pos h, if_pos (show c.nrm.kind = 1 ∨ c.nrm.kind = 2 from h), nrm_tt c h]
  · rw [if_neg h, if_neg (show ¬ (c.nrm.kind = 1 ∨ c.nrm.kind = 2) from h)]
theorem nrm_pe (c : Ch) : c.nrm.pe = c.pe := by unfold Ch.pe; rw [nrm_ce, nrm_te]
theorem nrm_pb (c : Ch) : c.nrm.pb = c.pb := by unfold Ch.pb; rw [nrm_pe, nrm_tb]; rfl
/-- A change's values may be held. -/
def Ch.okv (c : Ch) : Prop := c.col.d.ok ∧ ∀ x ∈ c.df.cs, x.d.ok
theorem okv0 : Ch0.okv := ⟨⟨u0, by simp [Ch0, C0], by simp [Ch0, C0]⟩, by simp [Ch0, T0]⟩
theorem vz_ok : V.ok ⟨0, 0, 0, []⟩ := ⟨u0, by decide, by decide⟩
theorem tt_ok {c : Ch} (h : c.okv) : ∀ x ∈ c.tt.cs, x.d.ok := by
  unfold Ch.tt
  split
  · exact h.2
  · intro x hx
    simp only [arn, List.mem_cons, List.not_mem_nil, or_false] at hx
    rcases hx with rfl | rfl
    · exact vz_ok
    · exact h.1
theorem rdch_pb {c : Ch} (h : c.pe = 0) (ho : c.okv) (r : List UInt8) : rdch (c.pb ++ r) = (c.nrm, r, 0) := by
  obtain ⟨h1, h2⟩ := Ch.pe_ok h
  have hb : c.pb = c.hd ++ c.tb := by unfold Ch.pb; rw [if_neg (by simpa using h)]
  have e1 := rfs_hd h1 (c.tb ++ r)
  have e2 : rtb ⟨c.kind, c.table, c.other, c.to, c.also, c.name, c.type, c.names, C0, T0⟩ (c.tb ++ r) = (c.nrm, r, 0) := by
    unfold rtb
    by_cases g : c.kind = 1 ∨ c.kind = 2
    · rw [if_pos g]
      have k0 : c.tt.ck = 0 := by unfold Ch.te at h2; rwa [if_pos g] at h2
      have k1 : c.tb = c.tt.by := by unfold Ch.tb T.pt; rw [if_pos g, if_neg (by simpa using k0)]
      rw [k1, bnd_ok (rdt_by k0 (tt_ok ho) r)]
      unfold Ch.wt Ch.nrm Ch.tt
      rcases g with g | g
      · simp [g]
      · simp [g, arn]
    · rw [if_neg g]
      have k1 : c.tb = [] := by unfold Ch.tb; rw [if_neg g]
      rw [k1]
      unfold Ch.nrm
      rw [if_neg (fun q => g (.inr q)), if_neg (fun q => g (.inl q))]
      rfl
  unfold rdch
  rw [hb, List.append_assoc, bnd_ok e1, bnd_ok e2, ← List.append_assoc, ← hb]
  unfold rck
  rw [if_neg ?_]
  rw [nrm_pe, nrm_pb]
  simp [h]

theorem O.pe_ok {o : O} (h : o.pe = 0) : 1 ≤ o.kind ∧ o.kind ≤ 9 ∧ 0 ≤ o.max ∧ o.max ≤ 64 ∧ o.table.length ≤ 16 ∧ Rk.pe o.row = 0 ∧ Rk.pe o.lo = 0 ∧ Rk.pe o.hi = 0 ∧ (o.kind = 6 → o.ch.pe = 0) := by
  unfold O.pe at h
  split at h
  · omega
  · rename_i g1
    split at h
    · omega
    · rename_i g2
      split at h
      · rename_i g; exact absurd h g
      · rename_i g3
        split at h
        · rename_i g; exact absurd h g
        · rename_i g4
          split at h
          · rename_i g; exact absurd h g
          · rename_i g5
            refine ⟨by omega, by omega, by omega, by omega, by omega, by omega, by omega, by omega, fun k => ?_⟩
            rwa [if_pos k] at h
def O.nrm (o : O) : O := ⟨o.kind, o.table, o.row, o.lo, o.hi, o.max, if o.kind = 6 then o.ch.nrm else Ch0⟩
theorem onrm_pe (o : O) : o.nrm.pe = o.pe := by
  unfold O.pe O.nrm
  simp only
  by_cases h : o.kind = 6
  · simp only [h, if_true, nrm_pe]
  · simp only [h, if_false]
theorem onrm_pb (o : O) : o.nrm.pb = o.pb := by
  unfold O.pb O.cb
  rw [onrm_pe]
  unfold O.nrm O.hd
  simp only
  by_cases h : o.kind = 6
  · simp only [h, if_true, nrm_pb]
  · simp only [h, if_false]
theorem rrw_tx {xs : List V} (h : Rk.pe xs = 0) (o : ∀ x ∈ xs, x.ok) (r : List UInt8) : rrw (Pk.tx (Rk.pw xs) ++ r) = (xs, r, 0) := by
  have e1 : Pk.rt (Pk.tx (Rk.pw xs) ++ r) = (Rk.pw xs, r, 0) := Pk.rt_tx _ _ (by have := Rk.pw_len xs; omega)
  unfold rrw
  rw [bnd_ok e1, Rk.ra_pw h o]
  simp
/-- All values may be held. -/
def O.okv (o : O) : Prop := (∀ x ∈ o.row, x.ok) ∧ (∀ x ∈ o.lo, x.ok) ∧ (∀ x ∈ o.hi, x.ok) ∧ o.ch.okv
theorem rop_pb {o : O} (h : o.pe = 0) (ho : o.okv) (r : List UInt8) : rop (o.pb ++ r) = (o.nrm, r, 0) := by
  obtain ⟨h1, h2, h3, h4, h5, h6, h7, h8, h9⟩ := O.pe_ok h
  obtain ⟨o1, o2, o3, o4⟩ := ho
  have hb : o.pb = o.hd ++ o.cb := by unfold O.pb; rw [if_neg (by simpa using h)]
  have e6 := small_un 64 1 o.max.toNat (o.cb ++ r) (by omega) (by omega)
  have e5 := rrw_tx h8 o3 (Pk.un o.max.toNat ++ (o.cb ++ r))
  have e4 := rrw_tx h7 o2 (Pk.tx (Rk.pw o.hi) ++ (Pk.un o.max.toNat ++ (o.cb ++ r)))
  have e3 := rrw_tx h6 o1 (Pk.tx (Rk.pw o.lo) ++ (Pk.tx (Rk.pw o.hi) ++ (Pk.un o.max.toNat ++ (o.cb ++ r))))
  have e2 := Pk.rt_tx o.table (Pk.tx (Rk.pw o.row) ++ (Pk.tx (Rk.pw o.lo) ++ (Pk.tx (Rk.pw o.hi) ++ (Pk.un o.max.toNat ++ (o.cb ++ r))))) (by omega)
  have e1 := smb_un 1 9 1 o.kind.toNat (Pk.tx o.table ++ (Pk.tx (Rk.pw o.row) ++ (Pk.tx (Rk.pw o.lo) ++ (Pk.tx (Rk.pw o.hi) ++ (Pk.un o.max.toNat ++ (o.cb ++ r)))))) (by omega) (by omega) (by omega)
  have k1 : ((o.kind.toNat : Nat) : Int) = o.kind := by omega
  have k2 : ((o.max.toNat : Nat) : Int) = o.max := by omega
  rw [hb]
  unfold rop O.hd
  simp only [List.append_assoc]
  rw [bnd_ok e1, bnd_ok e2, bnd_ok e3, bnd_ok e4, bnd_ok e5, bnd_ok e6]
  unfold roc O.nrm O.cb
  by_cases g : o.kind = 6
  · have g' : o.kind.toNat = 6 := by omega
    rw [if_pos g', if_pos g, if_pos g, bnd_ok (rdch_pb (h9 g) o4 r), k1, k2]
  · have g' : ¬ o.kind.toNat = 6 := by omega
    rw [if_neg g', if_neg g, if_neg g, k1, k2]
    rfl
theorem rdo_pb {o : O} (h : o.pe = 0) (ho : o.okv) (r : List UInt8) : rdo (o.pb ++ r) = (o.nrm, r, 0) := by
  unfold rdo
  rw [bnd_ok (rop_pb h ho r)]
  unfold rck2
  rw [if_neg ?_]
  rw [onrm_pe, onrm_pb]
  simp [h]
theorem O.sm_nrm {o : O} (h : o.pe = 0) : o.sm o.nrm = true := by
  obtain ⟨_, _, _, _, _, _, _, _, h9⟩ := O.pe_ok h
  unfold O.sm O.nrm
  simp only [decide_true, Rk.rs_self, Bool.true_and, Bool.or_eq_true, Bool.and_eq_true, decide_eq_true_eq]
  by_cases g : o.kind = 6
  · refine .inr ?_
    rw [if_pos g, nrm_pe, nrm_pb]
    exact ⟨⟨h9 g, h9 g⟩, rfl⟩
  · exact .inl g
end Go.Proofs.YtmgdciihpjifgaaGreatDoor
