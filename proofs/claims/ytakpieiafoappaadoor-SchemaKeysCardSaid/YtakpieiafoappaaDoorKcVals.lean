/-
  The plain mathematics of a value's bytes: what Put writes, what Read reads, and that the bytes keep the order. Conditions: the bounds named in each theorem.
  Rows of values in memory: what a slice of values holds. What Few answers.
-/
import Derived.Test.YtakpieiafoappaaDoorVlSame
import Derived.Test.YtakpieiafoappaaDoorKcPutNum
import Derived.Test.YtakpieiafoappaaDoorVlWorld
import Derived.LoopN
namespace Go.Proofs.YtakpieiafoappaaDoor

/-- A value's bytes. -/
def pb (k n b : Int) (s : List UInt8) : List UInt8 :=
  if k = 1 then Kc.bn 1 n.toNat else if k = 2 then Kc.bn 8 (n + 9223372036854775808).toNat else if k = 3 then Kc.bn 8 (Rl.ky b).toNat
  else if k = 4 ∨ k = 5 then Kc.esc s else []
def pt (k n b : Int) (s : List UInt8) : List UInt8 := UInt8.ofNat k.toNat :: pb k n b s

theorem pt_len {k n b : Int} {s : List UInt8} (h : Vl.ck k n b s = 0) : (pt k n b s).length ≤ 131 ∧ 1 ≤ (pt k n b s).length := by
  have hs := (Vl.ck_ok h).2.2.2.2.2.2.2
  have he := Kc.es_len s
  have h1 := Kc.bn_len 1 n.toNat
  have h2 := Kc.bn_len 8 (n + 9223372036854775808).toNat
  have h3 := Kc.bn_len 8 (Rl.ky b).toNat
  unfold pt pb Kc.esc
  (repeat' split) <;> simp <;> omega

theorem of_lt {a b : Int} (h0 : 0 ≤ a) (h1 : a < b) (h2 : b ≤ 5) : UInt8.ofNat a.toNat < UInt8.ofNat b.toNat := Kc.lt_of _ _ (by omega)

/-- Of two values the lesser one has the lesser bytes, at a byte of both. -/
theorem pt_D {k n b : Int} {s : List UInt8} {k' n' b' : Int} {s' : List UInt8} (h : Vl.ck k n b s = 0) (h' : Vl.ck k' n' b' s' = 0) (hb : Rl.U b) (hb' : Rl.U b')
    (hn : -9223372036854775808 ≤ n ∧ n < 9223372036854775808) (hn' : -9223372036854775808 ≤ n' ∧ n' < 9223372036854775808) (c : Vl.vc k n b s k' n' b' s' < 0) : Kc.D (pt k n b s) (pt k' n' b' s') := by
  obtain ⟨k0, k5, hkn, hkb, hks, hk1, hcn, hl⟩ := Vl.ck_ok h
  obtain ⟨k0', k5', hkn', hkb', hks', hk1', hcn', hl'⟩ := Vl.ck_ok h'
  unfold Vl.vc Vl.or4 at c
  by_cases e : k = k'
  · subst e
    rw [if_pos ((Vl.ic_zero k k).2 rfl)] at c
    suffices g : Kc.D (pb k n b s) (pb k n' b' s') from Kc.D.pre [UInt8.ofNat k.toNat] g
    by_cases en : n = n'
    · subst en
      rw [if_pos ((Vl.ic_zero n n).2 rfl)] at c
      by_cases eb : b = b'
      · subst eb
        rw [if_pos ((Rl.cp_zero b b hb hb).2 rfl)] at c
        have hlt : s < s' := by
          unfold Vl.sc at c
          by_cases g : s < s'
          · exact g
          · rw [if_neg g] at c; split at c <;> omega
        have hk : k = 4 ∨ k = 5 := by
          by_cases g : s = []
          · exact hks' (fun e => by subst e; subst g; exact absurd hlt (List.lt_irrefl _))
          · exact hks g
        unfold pb
        rw [if_neg (by omega), if_neg (by omega), if_neg (by omega), if_pos hk, if_neg (by omega), if_neg (by omega), if_neg (by omega), if_pos hk]
        exact Kc.esc_D s s' hlt
      · have hk : k = 3 := by
          by_cases g : b = 0
          · exact hkb' (fun e => eb (by rw [g, e]))
          · exact hkb g
        subst hk
        have hz : Rl.cp b b' ≠ 0 := fun e => eb (by have := (Rl.cp_zero b b' hb hb').1 e; rw [hcn, hcn'] at this; exact this)
        rw [if_neg hz] at c
        have hlt : Rl.ky b < Rl.ky b' := by
          unfold Rl.cp at c
          by_cases g : Rl.ky b < Rl.ky b'
          · exact g
          · rw [if_neg g] at c; split at c <;> omega
        have u := Rl.ky_U b hb
        have u' := Rl.ky_U b' hb'
        unfold Rl.U at u u'
        unfold pb
        refine Kc.bn_D 8 _ _ ?_
        rw [Nat.mod_eq_of_lt (by show _ < 18446744073709551616; omega), Nat.mod_eq_of_lt (by show _ < 18446744073709551616; omega)]
        omega
    · have hz : Vl.ic n n' ≠ 0 := fun e => en ((Vl.ic_zero n n').1 e)
      rw [if_neg hz] at c
      have hlt : n < n' := by unfold Vl.ic at c; (repeat' split at c) <;> omega
      have hk : k = 1 ∨ k = 2 := by
        by_cases g : n = 0
        · exact hkn' (fun e => en (by rw [g, e]))
        · exact hkn g
      rcases hk with rfl | rfl
      · have := hk1 rfl
        have := hk1' rfl
        unfold pb
        refine Kc.bn_D 1 _ _ ?_
        rw [Nat.mod_eq_of_lt (by show _ < 256; omega), Nat.mod_eq_of_lt (by show _ < 256; omega)]
        omega
      · unfold pb
        refine Kc.bn_D 8 _ _ ?_
        rw [Nat.mod_eq_of_lt (by show _ < 18446744073709551616; omega), Nat.mod_eq_of_lt (by show _ < 18446744073709551616; omega)]
        omega
  · have hz : Vl.ic k k' ≠ 0 := fun g => e ((Vl.ic_zero k k').1 g)
    rw [if_neg hz] at c
    have hlt : k < k' := by unfold Vl.ic at c; (repeat' split at c) <;> omega
    exact Kc.D.head _ _ (of_lt k0 hlt k5')

/-- What bytes begin with: the value, what is behind, the error. -/
structure Rd where
  k : Int
  n : Int
  b : Int
  s : List UInt8
  r : List UInt8
  e : Int
def Rd.bad (e : Int) : Rd := ⟨0, 0, 0, [], [], e⟩
def chk (k n b : Int) (s r : List UInt8) : Rd := if Vl.ck k n b s = 0 then ⟨k, n, b, s, r, 0⟩ else .bad 4
def rdb (k : Int) (l : List UInt8) : Rd :=
  if k = 1 then (if l.length < 1 then .bad 3 else chk 1 (Kc.nm (l.take 1)) 0 [] (l.drop 1))
  else if k = 2 then (if l.length < 8 then .bad 3 else chk 2 ((Kc.nm (l.take 8) : Int) - 9223372036854775808) 0 [] (l.drop 8))
  else if k = 3 then (if l.length < 8 then .bad 3 else if Rl.bo (Kc.nm (l.take 8)) = true then chk 3 0 (Rl.bk (Kc.nm (l.take 8))) [] (l.drop 8) else .bad 4)
  else if k = 4 ∨ k = 5 then (if (Kc.un l).2.2 = 0 then chk k 0 0 (Kc.un l).1 (Kc.un l).2.1 else .bad (Kc.un l).2.2)
  else chk k 0 0 [] l
def rd : List UInt8 → Rd
  | [] => .bad 3
  | x :: l => if 5 < x.toNat then .bad 4 else rdb x.toNat l

theorem of_k {k : Int} (h0 : 0 ≤ k) (h5 : k ≤ 5) : ((UInt8.ofNat k.toNat).toNat : Int) = k := by rw [UInt8.toNat_ofNat']; omega

theorem rd_pt {k n b : Int} {s : List UInt8} (h : Vl.ck k n b s = 0) (hb : Rl.U b) (hn : -9223372036854775808 ≤ n ∧ n < 9223372036854775808) (r : List UInt8) : rd (pt k n b s ++ r) = ⟨k, n, b, s, r, 0⟩ := by
  obtain ⟨k0, k5, hkn, hkb, hks, hk1, hcn, hl⟩ := Vl.ck_ok h
  have ek := of_k k0 k5
  have fin : ∀ (n' b' : Int) (s' r' : List UInt8), n' = n → b' = b → s' = s → r' = r → chk k n' b' s' r' = ⟨k, n, b, s, r, 0⟩ := by
    rintro n' b' s' r' rfl rfl rfl rfl; unfold chk; rw [if_pos h]
  unfold pt
  show rd (UInt8.ofNat k.toNat :: (pb k n b s ++ r)) = _
  rw [rd, if_neg (by omega), ek]
  have c : k = 0 ∨ k = 1 ∨ k = 2 ∨ k = 3 ∨ (k = 4 ∨ k = 5) := by omega
  rcases c with e | e | e | e | e
  · have n0 : n = 0 := by omega
    have b0 : b = 0 := by omega
    have s0 : s = [] := by
      by_cases g : s = []
      · exact g
      · have := hks g; omega
    subst e
    exact fin _ _ _ _ n0.symm b0.symm s0.symm (by unfold pb; rfl)
  · have b0 : b = 0 := by omega
    have s0 : s = [] := by
      by_cases g : s = []
      · exact g
      · have := hks g; omega
    subst e
    have g1 := hk1 rfl
    have ep : pb 1 n b s = Kc.bn 1 n.toNat := rfl
    have l1 := Kc.bn_len 1 n.toNat
    rw [ep]
    unfold rdb
    rw [if_pos rfl, if_neg (by rw [List.length_append, l1]; omega)]
    refine fin _ _ _ _ ?_ b0.symm s0.symm ?_
    · rw [List.take_left' l1]
      have : Kc.nm (Kc.bn 1 n.toNat) = n.toNat := by
        unfold Kc.nm; rw [Kc.fold_bn 1 n.toNat 0, Nat.mod_eq_of_lt (by show _ < 256; omega)]; omega
      omega
    · exact List.drop_left' l1
  · have b0 : b = 0 := by omega
    have s0 : s = [] := by
      by_cases g : s = []
      · exact g
      · have := hks g; omega
    subst e
    have ep : pb 2 n b s = Kc.bn 8 (n + 9223372036854775808).toNat := rfl
    have l1 := Kc.bn_len 8 (n + 9223372036854775808).toNat
    rw [ep]
    unfold rdb
    rw [if_neg (by decide), if_pos rfl, if_neg (by rw [List.length_append, l1]; omega)]
    refine fin _ _ _ _ ?_ b0.symm s0.symm ?_
    · rw [List.take_left' l1, Kc.nm_bn _ (by omega)]; omega
    · exact List.drop_left' l1
  · have n0 : n = 0 := by omega
    have s0 : s = [] := by
      by_cases g : s = []
      · exact g
      · have := hks g; omega
    subst e
    have ep : pb 3 n b s = Kc.bn 8 (Rl.ky b).toNat := rfl
    have l1 := Kc.bn_len 8 (Rl.ky b).toNat
    have u := Rl.ky_U b hb
    have u2 := u
    unfold Rl.U at u2
    have e1 : ((Kc.nm (Kc.bn 8 (Rl.ky b).toNat) : Nat) : Int) = Rl.ky b := by rw [Kc.nm_bn _ (by omega)]; omega
    rw [ep]
    unfold rdb
    rw [if_neg (by decide), if_neg (by decide), if_pos rfl, if_neg (by rw [List.length_append, l1]; omega), List.take_left' l1, e1, if_pos (Rl.bo_ky b hb)]
    refine fin _ _ _ _ n0.symm ?_ s0.symm (List.drop_left' l1)
    rw [Rl.bk_ky b hb, hcn]
  · have n0 : n = 0 := by omega
    have b0 : b = 0 := by omega
    have ep : pb k n b s = Kc.esc s := by unfold pb; rw [if_neg (by omega), if_neg (by omega), if_neg (by omega), if_pos e]
    rw [ep]
    unfold rdb
    rw [if_neg (by omega), if_neg (by omega), if_neg (by omega), if_pos e, Kc.un_esc, if_pos rfl]
    exact fin _ _ _ _ n0.symm b0.symm rfl rfl

theorem rd_short {k n b : Int} {s : List UInt8} (h : Vl.ck k n b s = 0) (i : Nat) (hi : i < (pt k n b s).length) : rd ((pt k n b s).take i) = .bad 3 := by
  obtain ⟨k0, k5, hkn, hkb, hks, hk1, hcn, hl⟩ := Vl.ck_ok h
  have ek := of_k k0 k5
  match i, hi with
  | 0, _ => rfl
  | i + 1, hi =>
    unfold pt at hi ⊢
    show rd (UInt8.ofNat k.toNat :: (pb k n b s).take i) = _
    rw [List.length_cons] at hi
    rw [rd, if_neg (by omega), ek]
    have c : k = 0 ∨ k = 1 ∨ k = 2 ∨ k = 3 ∨ (k = 4 ∨ k = 5) := by omega
    rcases c with e | e | e | e | e
    · subst e; unfold pb at hi; simp at hi
    · subst e
      have ep : pb 1 n b s = Kc.bn 1 n.toNat := rfl
      have l1 := Kc.bn_len 1 n.toNat
      rw [ep] at hi ⊢
      unfold rdb
      rw [if_pos rfl, if_pos (by rw [List.length_take]; omega)]
    · subst e
      have ep : pb 2 n b s = Kc.bn 8 (n + 9223372036854775808).toNat := rfl
      have l1 := Kc.bn_len 8 (n + 9223372036854775808).toNat
      rw [ep] at hi ⊢
      unfold rdb
      rw [if_neg (by decide), if_pos rfl, if_pos (by rw [List.length_take]; omega)]
    · subst e
      have ep : pb 3 n b s = Kc.bn 8 (Rl.ky b).toNat := rfl
      have l1 := Kc.bn_len 8 (Rl.ky b).toNat
      rw [ep] at hi ⊢
      unfold rdb
      rw [if_neg (by decide), if_neg (by decide), if_pos rfl, if_pos (by rw [List.length_take]; omega)]
    · have ep : pb k n b s = Kc.esc s := by unfold pb; rw [if_neg (by omega), if_neg (by omega), if_neg (by omega), if_pos e]
      rw [ep] at hi ⊢
      unfold rdb
      rw [if_neg (by omega), if_neg (by omega), if_neg (by omega), if_pos e, Kc.un_short s i (by omega), if_neg (by decide)]

end Go.Proofs.YtakpieiafoappaaDoor

namespace Go.Proofs.YtakpieiafoappaaDoor
open Go.RowKit

/-- A value. -/
structure V where
  k : Int
  n : Int
  b : Int
  s : List UInt8

def V.val (x : V) : Value := .agg #[.int .i64 x.k, .int .i64 x.n, .int .u64 x.b, .string ⟨x.s.toArray⟩]
def V.cells (x : V) : List Value := [.int .i64 x.k, .int .i64 x.n, .int .u64 x.b, .string ⟨x.s.toArray⟩]

/-- The bounds of a value's fields. -/
def V.ok (x : V) : Prop := Rl.U x.b ∧ -9223372036854775808 ≤ x.n ∧ x.n < 9223372036854775808

/-- Cell by cell. -/
def At (W : World) (p : Addr) (x : V) : Prop :=
  W.cell? p = some (.int .i64 x.k) ∧ W.cell? ⟨p.block, p.off + 1, none⟩ = some (.int .i64 x.n) ∧ W.cell? ⟨p.block, p.off + 2, none⟩ = some (.int .u64 x.b) ∧ W.cell? ⟨p.block, p.off + 3, none⟩ = some (.string ⟨x.s.toArray⟩)

/-- A slice of values. -/
def Sl (W : World) (ao : Option Addr) (xs : List V) : Prop := ∀ (i : Nat) (x : V), xs[i]? = some x → ∃ a, ao = some a ∧ At W (a.add (i * 4)) x

theorem Sl.below {W W' : World} {ao : Option Addr} {xs : List V} (h : Sl W ao xs) (hb : Below W.heap.size W W') : Sl W' ao xs := by
  intro i x hi
  obtain ⟨a, ha, h0, h1, h2, h3⟩ := h i x hi
  exact ⟨a, ha, keep0 h0 hb, keep0 h1 hb, keep0 h2 hb, keep0 h3 hb⟩

set_option maxHeartbeats 1000000 in
theorem few_yes (xs : List V) (ao : Option Addr) (cap : Nat) (w : World) (h : Sl w ao xs) (hl : xs.length ≤ 30) (hs : ∀ x ∈ xs, x.s.length ≤ 2000) :
    Calls Tryd.prog 5 #[.slice ao xs.length cap] w fun e w' => e = .returned (.int .i64 1) ∧ Below w.heap.size w w' := by
  have l1 : decide ((30 : Int) < (xs.length : Int)) = false := by rw [decide_eq_false_iff_not]; omega
  have H := Lib.hid (And.intro h (And.intro hl hs))
  clear h hl hs
  go_enter Tryd.func5, Tryd.ntmps5
  go_wp2
  go_loopw [3] (fun i wr => ∃ j : Nat, i = .int .i64 j ∧ j ≤ xs.length ∧ Below w.heap.size w wr) (fun i _ => xs.length - (intOf i).toNat)
  case atStart => exact ⟨0, rfl, Nat.zero_le _, Below.refl _ _⟩
  case round =>
    obtain ⟨j, rfl, hj, hb⟩ := hrel
    have HB := Lib.hid hb
    clear hb
    by_cases hlt : j < xs.length
    · obtain ⟨a, rfl, h0, h1, h2, h3⟩ := H.out.1.below HB.out j xs[j] (List.getElem?_eq_getElem hlt)
      have hw : wrap64 ((j : Int) + 1) = (j : Int) + 1 := by have := H.out.2.1; exact wrap_in _ (by omega) (by omega)
      go_wp2_with fail
      refine (few_1 _ _ _ _ _ (H.out.2.2 _ (List.getElem_mem hlt))).mono ?_
      rintro e w1 ⟨rfl, hb1⟩
      have HB1 := Lib.hid (HB.out.trans (hb1.mono HB.out.size))
      clear hb1
      go_wp2
      go_roundw
      case rel => exact ⟨j + 1, by go_num, hlt, HB1.out⟩
      case measure => rw [hw]; simp [intOf]; omega
    · obtain rfl : j = xs.length := by omega
      go_wp2
      go_ret
      exact ⟨rfl, HB.out⟩

set_option maxHeartbeats 1000000 in
theorem few_no (xs : List V) (ao : Option Addr) (cap : Nat) (w : World) (h : Sl w ao xs) (hn : ¬ (xs.length ≤ 30 ∧ ∀ x ∈ xs, x.s.length ≤ 2000)) :
    Calls Tryd.prog 5 #[.slice ao xs.length cap] w fun e w' => e = .returned (.int .i64 0) ∧ Below w.heap.size w w' := by
  by_cases hl : xs.length ≤ 30
  · have l1 : decide ((30 : Int) < (xs.length : Int)) = false := by rw [decide_eq_false_iff_not]; omega
    have H := Lib.hid (And.intro h (And.intro hl hn))
    clear h hl hn
    go_enter Tryd.func5, Tryd.ntmps5
    go_wp2
    go_loopw [3] (fun i wr => ∃ j : Nat, i = .int .i64 j ∧ j ≤ xs.length ∧ Below w.heap.size w wr ∧ ∀ x ∈ xs.take j, x.s.length ≤ 2000) (fun i _ => xs.length - (intOf i).toNat)
    case atStart => exact ⟨0, rfl, Nat.zero_le _, Below.refl _ _, by simp⟩
    case round =>
      obtain ⟨j, rfl, hj, hb, ha⟩ := hrel
      have HB := Lib.hid (And.intro hb ha)
      clear hb ha
      by_cases hlt : j < xs.length
      · obtain ⟨a, rfl, h0, h1, h2, h3⟩ := H.out.1.below HB.out.1 j xs[j] (List.getElem?_eq_getElem hlt)
        have hw : wrap64 ((j : Int) + 1) = (j : Int) + 1 := by have := H.out.2.1; exact wrap_in _ (by omega) (by omega)
        by_cases hs : xs[j].s.length ≤ 2000
        · have HB2 := Lib.hid (show ∀ x ∈ xs.take (j + 1), x.s.length ≤ 2000 from by
            rw [List.take_succ_eq_append_getElem hlt]
            intro x hx
            rcases List.mem_append.1 hx with g | g
            · exact HB.out.2 x g
            · obtain rfl := List.mem_singleton.1 g; exact hs)
          have HS := Lib.hid hs
          clear hs
          go_wp2_with fail
          refine (few_1 _ _ _ _ _ HS.out).mono ?_
          rintro e w1 ⟨rfl, hb1⟩
          have HB1 := Lib.hid (HB.out.1.trans (hb1.mono HB.out.1.size))
          clear hb1
          go_wp2
          go_roundw
          case rel => exact ⟨j + 1, by go_num, hlt, HB1.out, HB2.out⟩
          case measure => rw [hw]; simp [intOf]; omega
        · have HS := Lib.hid hs
          clear hs
          go_wp2_with fail
          refine (few_0 _ _ _ _ _ (Nat.lt_of_not_le HS.out)).mono ?_
          rintro e w1 ⟨rfl, hb1⟩
          have HB1 := Lib.hid (HB.out.1.trans (hb1.mono HB.out.1.size))
          clear hb1
          go_wp2
          go_ret
          exact ⟨rfl, HB1.out⟩
      · exfalso
        refine H.out.2.2 ⟨H.out.2.1, ?_⟩
        have := HB.out.2
        rwa [List.take_of_length_le (by omega)] at this
  · have l1 : (30 : Int) < (xs.length : Int) := by omega
    clear h hn hl
    go_enter Tryd.func5, Tryd.ntmps5
    go_wp2
    go_ret
    exact ⟨rfl, Below.refl _ _⟩

end Go.Proofs.YtakpieiafoappaaDoor
