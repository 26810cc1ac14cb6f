/-
  The plain mathematics of a value's bytes: what Put writes, what Read reads, and that the bytes keep the order. Conditions: the bounds named in each theorem.
  Rows of values in memory: what a slice of values holds. What Few answers.
  What readNumber and the document's Number answer. Conditions: the bounds named in each theorem.
-/
import Derived.Test.YtmgdciihpjifgaaGreatDoorQpVlSame
import Derived.Test.YtmgdciihpjifgaaGreatDoorQpKcPutNum
import Derived.Test.YtmgdciihpjifgaaGreatDoorQpVlWorld
import Derived.LoopN
import Derived.Test.YtmgdciihpjifgaaGreatDoorQpUtfCount
import Derived.WalkSpells
import Derived.WalkLawsBesides
import Derived.Laws.BitsAllLaws
import Derived.BigQuiet
import Derived.Deep.QuietTactic
namespace Go.Proofs.YtmgdciihpjifgaaGreatDoor

/-- A value's bytes. -/
def pb (k n b : Int) (s : List UInt8) : List UInt8 :=
  if k = 1 then Kc.bn 1 n.toNat else if k = 2 then Kc.bn 8 (n + 9223372036854775808).toNat else if k = 3 then Kc.bn 8 (Rl.ky b).toNat
  else if k = 4 ∨ k = 5 then Kc.esc s else []
def pt (k n b : Int) (s : List UInt8) : List UInt8 := UInt8.ofNat k.toNat :: pb k n b s

theorem pt_len {k n b : Int} {s : List UInt8} (h : Vl.ck k n b s = 0) : (pt k n b s).length ≤ 131 ∧ 1 ≤ (pt k n b s).length := by
  have hs := (Vl.ck_ok h).2.2.2.2.2.2.2
  have he := Kc.es_len s
  have h1 := Kc.bn_len 1 n.toNat
  have h2 := Kc.bn_len 8 (n + 9223372036854775808).toNat
  have h3 := Kc.bn_len 8 (Rl.ky b).toNat
  unfold pt pb Kc.esc
  (repeat' split) <;> simp <;> omega

/-- What bytes begin with: the value, what is behind, the error. -/
structure Rd where
  k : Int
  n : Int
  b : Int
  s : List UInt8
  r : List UInt8
  e : Int
def Rd.bad (e : Int) : Rd := ⟨0, 0, 0, [], [], e⟩
def chk (k n b : Int) (s r : List UInt8) : Rd := if Vl.ck k n b s = 0 then ⟨k, n, b, s, r, 0⟩ else .bad 4
def rdb (k : Int) (l : List UInt8) : Rd :=
  if k = 1 then (if l.length < 1 then .bad 3 else chk 1 (Kc.nm (l.take 1)) 0 [] (l.drop 1))
  else if k = 2 then (if l.length < 8 then .bad 3 else chk 2 ((Kc.nm (l.take 8) : Int) - 9223372036854775808) 0 [] (l.drop 8))
  else if k = 3 then (if l.length < 8 then .bad 3 else if Rl.bo (Kc.nm (l.take 8)) = true then chk 3 0 (Rl.bk (Kc.nm (l.take 8))) [] (l.drop 8) else .bad 4)
  else if k = 4 ∨ k = 5 then (if (Kc.un l).2.2 = 0 then chk k 0 0 (Kc.un l).1 (Kc.un l).2.1 else .bad (Kc.un l).2.2)
  else chk k 0 0 [] l
def rd : List UInt8 → Rd
  | [] => .bad 3
  | x :: l => if 5 < x.toNat then .bad 4 else rdb x.toNat l

theorem of_k {k : Int} (h0 : 0 ≤ k) (h5 : k ≤ 5) : ((UInt8.ofNat k.toNat).toNat : Int) = k := by rw [UInt8.toNat_ofNat']; omega

theorem rd_pt {k n b : Int} {s : List UInt8} (h : Vl.ck k n b s = 0) (hb : Rl.U b) (hn : -9223372036854775808 ≤ n ∧ n < 9223372036854775808) (r : List UInt8) : rd (pt k n b s ++ r) = ⟨k, n, b, s, r, 0⟩ := by
  obtain ⟨k0, k5, hkn, hkb, hks, hk1, hcn, hl⟩ := Vl.ck_ok h
  have ek := of_k k0 k5
  have fin : ∀ (n' b' : Int) (s' r' : List UInt8), n' = n → b' = b → s' = s → r' = r → chk k n' b' s' r' = ⟨k, n, b, s, r, 0⟩ := by
    rintro n' b' s' r' rfl rfl rfl rfl; unfold chk; rw [if_pos h]
  unfold pt
  show rd (UInt8.ofNat k.toNat :: (pb k n b s ++ r)) = _
  rw [rd, if_neg (by omega), ek]
  have c : k = 0 ∨ k = 1 ∨ k = 2 ∨ k = 3 ∨ (k = 4 ∨ k = 5) := by omega
  rcases c with e | e | e | e | e
  · have n0 : n = 0 := by omega
    have b0 : b = 0 := by omega
    have s0 : s = [] := by
      by_cases g : s = []
      · exact g
      · have := hks g; omega
    subst e
    exact fin _ _ _ _ n0.symm b0.symm s0.symm (by unfold pb; rfl)
  · have b0 : b = 0 := by omega
    have s0 : s = [] := by
      by_cases g : s = []
      · exact g
      · have := hks g; omega
    subst e
    have g1 := hk1 rfl
    have ep : pb 1 n b s = Kc.bn 1 n.toNat := rfl
    have l1 := Kc.bn_len 1 n.toNat
    rw [ep]
    unfold rdb
    rw [if_pos rfl, if_neg (by rw [List.length_append, l1]; omega)]
    refine fin _ _ _ _ ?_ b0.symm s0.symm ?_
    · rw [List.take_left' l1]
      have : Kc.nm (Kc.bn 1 n.toNat) = n.toNat := by
        unfold Kc.nm; rw [Kc.fold_bn 1 n.toNat 0, Nat.mod_eq_of_lt (by show _ < 256; omega)]; omega
      omega
    · exact List.drop_left' l1
  · have b0 : b = 0 := by omega
    have s0 : s = [] := by
      by_cases g : s = []
      · exact g
      · have := hks g; omega
    subst e
    have ep : pb 2 n b s = Kc.bn 8 (n + 9223372036854775808).toNat := rfl
    have l1 := Kc.bn_len 8 (n + 9223372036854775808).toNat
    rw [ep]
    unfold rdb
    rw [if_neg (by decide), if_pos rfl, if_neg (by rw [List.length_append, l1]; omega)]
    refine fin _ _ _ _ ?_ b0.symm s0.symm ?_
    · rw [List.take_left' l1, Kc.nm_bn _ (by omega)]; omega
    · exact List.drop_left' l1
  · have n0 : n = 0 := by omega
    have s0 : s = [] := by
      by_cases g : s = []
      · exact g
      · have := hks g; omega
    subst e
    have ep : pb 3 n b s = Kc.bn 8 (Rl.ky b).toNat := rfl
    have l1 := Kc.bn_len 8 (Rl.ky b).toNat
    have u := Rl.ky_U b hb
    have u2 := u
    unfold Rl.U at u2
    have e1 : ((Kc.nm (Kc.bn 8 (Rl.ky b).toNat) : Nat) : Int) = Rl.ky b := by rw [Kc.nm_bn _ (by omega)]; omega
    rw [ep]
    unfold rdb
    rw [if_neg (by decide), if_neg (by decide), if_pos rfl, if_neg (by rw [List.length_append, l1]; omega), List.take_left' l1, e1, if_pos (Rl.bo_ky b hb)]
    refine fin _ _ _ _ n0.symm ?_ s0.symm (List.drop_left' l1)
    rw [Rl.bk_ky b hb, hcn]
  · have n0 : n = 0 := by omega
    have b0 : b = 0 := by omega
    have ep : pb k n b s = Kc.esc s := by unfold pb; rw [if_neg (by omega), if_neg (by omega), if_neg (by omega), if_pos e]
    rw [ep]
    unfold rdb
    rw [if_neg (by omega), if_neg (by omega), if_neg (by omega), if_pos e, Kc.un_esc, if_pos rfl]
    exact fin _ _ _ _ n0.symm b0.symm rfl rfl

end Go.Proofs.YtmgdciihpjifgaaGreatDoor

namespace Go.Proofs.YtmgdciihpjifgaaGreatDoor
open Go.RowKit

/-- A value. -/
structure V where
  k : Int
  n : Int
  b : Int
  s : List UInt8

def V.val (x : V) : Value := .agg #[.int .i64 x.k, .int .i64 x.n, .int .u64 x.b, .string ⟨x.s.toArray⟩]
def V.cells (x : V) : List Value := [.int .i64 x.k, .int .i64 x.n, .int .u64 x.b, .string ⟨x.s.toArray⟩]

/-- The bounds of a value's fields. -/
def V.ok (x : V) : Prop := Rl.U x.b ∧ -9223372036854775808 ≤ x.n ∧ x.n < 9223372036854775808

/-- Cell by cell. -/
def At (W : World) (p : Addr) (x : V) : Prop :=
  W.cell? p = some (.int .i64 x.k) ∧ W.cell? ⟨p.block, p.off + 1, none⟩ = some (.int .i64 x.n) ∧ W.cell? ⟨p.block, p.off + 2, none⟩ = some (.int .u64 x.b) ∧ W.cell? ⟨p.block, p.off + 3, none⟩ = some (.string ⟨x.s.toArray⟩)

/-- A slice of values. -/
def Sl (W : World) (ao : Option Addr) (xs : List V) : Prop := ∀ (i : Nat) (x : V), xs[i]? = some x → ∃ a, ao = some a ∧ At W (a.add (i * 4)) x

theorem Sl.below {W W' : World} {ao : Option Addr} {xs : List V} (h : Sl W ao xs) (hb : Below W.heap.size W W') : Sl W' ao xs := by
  intro i x hi
  obtain ⟨a, ha, h0, h1, h2, h3⟩ := h i x hi
  exact ⟨a, ha, keep0 h0 hb, keep0 h1 hb, keep0 h2 hb, keep0 h3 hb⟩

set_option maxHeartbeats 1000000 in
theorem few_yes (xs : List V) (ao : Option Addr) (cap : Nat) (w : World) (h : Sl w ao xs) (hl : xs.length ≤ 30) (hs : ∀ x ∈ xs, x.s.length ≤ 2000) :
    Calls Tryz.prog 46 #[.slice ao xs.length cap] w fun e w' => e = .returned (.int .i64 1) ∧ Below w.heap.size w w' := by
  have l1 : decide ((30 : Int) < (xs.length : Int)) = false := by rw [decide_eq_false_iff_not]; omega
  have H := Lib.hid (And.intro h (And.intro hl hs))
  clear h hl hs
  go_enter Tryz.func46, Tryz.ntmps46
  go_wp2
  go_loopw [3] (fun i wr => ∃ j : Nat, i = .int .i64 j ∧ j ≤ xs.length ∧ Below w.heap.size w wr) (fun i _ => xs.length - (intOf i).toNat)
  case atStart => exact ⟨0, rfl, Nat.zero_le _, Below.refl _ _⟩
  case round =>
    obtain ⟨j, rfl, hj, hb⟩ := hrel
    have HB := Lib.hid hb
    clear hb
    by_cases hlt : j < xs.length
    · obtain ⟨a, rfl, h0, h1, h2, h3⟩ := H.out.1.below HB.out j xs[j] (List.getElem?_eq_getElem hlt)
      have hw : wrap64 ((j : Int) + 1) = (j : Int) + 1 := by have := H.out.2.1; exact wrap_in _ (by omega) (by omega)
      go_wp2_with fail
      refine (few_1 _ _ _ _ _ (H.out.2.2 _ (List.getElem_mem hlt))).mono ?_
      rintro e w1 ⟨rfl, hb1⟩
      have HB1 := Lib.hid (HB.out.trans (hb1.mono HB.out.size))
      clear hb1
      go_wp2
      go_roundw
      case rel => exact ⟨j + 1, by go_num, hlt, HB1.out⟩
      case measure => rw [hw]; simp [intOf]; omega
    · obtain rfl : j = xs.length := by omega
      go_wp2
      go_ret
      exact ⟨rfl, HB.out⟩

set_option maxHeartbeats 1000000 in
theorem few_no (xs : List V) (ao : Option Addr) (cap : Nat) (w : World) (h : Sl w ao xs) (hn : ¬ (xs.length ≤ 30 ∧ ∀ x ∈ xs, x.s.length ≤ 2000)) :
    Calls Tryz.prog 46 #[.slice ao xs.length cap] w fun e w' => e = .returned (.int .i64 0) ∧ Below w.heap.size w w' := by
  by_cases hl : xs.length ≤ 30
  · have l1 : decide ((30 : Int) < (xs.length : Int)) = false := by rw [decide_eq_false_iff_not]; omega
    have H := Lib.hid (And.intro h (And.intro hl hn))
    clear h hl hn
    go_enter Tryz.func46, Tryz.ntmps46
    go_wp2
    go_loopw [3] (fun i wr => ∃ j : Nat, i = .int .i64 j ∧ j ≤ xs.length ∧ Below w.heap.size w wr ∧ ∀ x ∈ xs.take j, x.s.length ≤ 2000) (fun i _ => xs.length - (intOf i).toNat)
    case atStart => exact ⟨0, rfl, Nat.zero_le _, Below.refl _ _, by simp⟩
    case round =>
      obtain ⟨j, rfl, hj, hb, ha⟩ := hrel
      have HB := Lib.hid (And.intro hb ha)
      clear hb ha
      by_cases hlt : j < xs.length
      · obtain ⟨a, rfl, h0, h1, h2, h3⟩ := H.out.1.below HB.out.1 j xs[j] (List.getElem?_eq_getElem hlt)
        have hw : wrap64 ((j : Int) + 1) = (j : Int) + 1 := by have := H.out.2.1; exact wrap_in _ (by omega) (by omega)
        by_cases hs : xs[j].s.length ≤ 2000
        · have HB2 := Lib.hid (show ∀ x ∈ xs.take (j + 1), x.s.length ≤ 2000 from by
            rw [List.take_succ_eq_append_getElem hlt]
            intro x hx
            rcases List.mem_append.1 hx with g | g
            · exact HB.out.2 x g
            · obtain rfl := List.mem_singleton.1 g; exact hs)
          have HS := Lib.hid hs
          clear hs
          go_wp2_with fail
          refine (few_1 _ _ _ _ _ HS.out).mono ?_
          rintro e w1 ⟨rfl, hb1⟩
          have HB1 := Lib.hid (HB.out.1.trans (hb1.mono HB.out.1.size))
          clear hb1
          go_wp2
          go_roundw
          case rel => exact ⟨j + 1, by go_num, hlt, HB1.out, HB2.out⟩
          case measure => rw [hw]; simp [intOf]; omega
        · have HS := Lib.hid hs
          clear hs
          go_wp2_with fail
          refine (few_0 _ _ _ _ _ (Nat.lt_of_not_le HS.out)).mono ?_
          rintro e w1 ⟨rfl, hb1⟩
          have HB1 := Lib.hid (HB.out.1.trans (hb1.mono HB.out.1.size))
          clear hb1
          go_wp2
          go_ret
          exact ⟨rfl, HB1.out⟩
      · exfalso
        refine H.out.2.2 ⟨H.out.2.1, ?_⟩
        have := HB.out.2
        rwa [List.take_of_length_le (by omega)] at this
  · have l1 : (30 : Int) < (xs.length : Int) := by omega
    clear h hn hl
    go_enter Tryz.func46, Tryz.ntmps46
    go_wp2
    go_ret
    exact ⟨rfl, Below.refl _ _⟩

end Go.Proofs.YtmgdciihpjifgaaGreatDoor

namespace Go.Proofs.YtmgdciihpjifgaaGreatDoor
open Go.RowKit

theorem wrap_u64 (n : Int) (h0 : 0 ≤ n) (h : n < 18446744073709551616) : IntKind.u64.wrap n = n := by
  simp [IntKind.wrap, IntKind.bits, IntKind.signed]; omega

theorem pow56 (k : Nat) (h : k ≤ 7) : 256 ^ k ≤ 72057594037927936 := by
  have : 256 ^ k ≤ 256 ^ 7 := Nat.pow_le_pow_right (by decide) h
  have e : (256 : Nat) ^ 7 = 72057594037927936 := by decide
  omega

/-- A byte laid behind a number. -/
theorem or8 (X d : Nat) (hX : X < 72057594037927936) (hd : d < 256) : bits .or .u64 (IntKind.u64.wrap ((X : Int) * 256)) (IntKind.u64.wrap (d : Int)) = ((X * 256 + d : Nat) : Int) := by
  have e : ((X : Int) * 256) = ((X * 256 : Nat) : Int) := by simp
  rw [e, wrap_u64 _ (by omega) (by omega), wrap_u64 _ (by omega) (by omega), u64_or_nat (X * 256) d (by omega) (by omega)]
  congr 1
  exact nat_join 8 (X * 256) d (Nat.mul_mod_left _ _) hd

theorem nm_next (l : List UInt8) (j : Nat) (h : j < l.length) : Kc.nm (l.take (j + 1)) = Kc.nm (l.take j) * 256 + l[j].toNat := by
  rw [List.take_succ_eq_append_getElem h, Kc.nm_snoc]
theorem nm_small (l : List UInt8) (j : Nat) (h : j ≤ 7) : Kc.nm (l.take j) < 72057594037927936 := by
  have h1 := Kc.nm_lt (l.take j)
  have h2 : 256 ^ (l.take j).length ≤ 256 ^ j := Nat.pow_le_pow_right (by decide) (by rw [List.length_take]; omega)
  have h3 := pow56 j h
  omega

set_option maxHeartbeats 400000 in
theorem number_is (l : List UInt8) (w : World) (hl : 8 ≤ l.length) :
    Calls Tryz.prog 116 #[.string ⟨l.toArray⟩] w fun e w' => e = .returned (.int .u64 (Kc.nm (l.take 8))) ∧ w = w' := by
  have H := Lib.hid hl
  clear hl
  go_enter Tryz.func116, Tryz.ntmps116
  go_wp2
  go_loop [3, 4] (fun n i => ∃ (j X : Nat), i = .int .i64 j ∧ n = .int .u64 X ∧ j ≤ 8 ∧ X = Kc.nm (l.take j)) (fun _ i => 8 - (intOf i).toNat)
  case atStart => exact ⟨0, 0, rfl, rfl, by decide, rfl⟩
  case round =>
    obtain ⟨j, X, rfl, rfl, hj, hX⟩ := hrel
    have J := Lib.hid hX
    clear hX
    by_cases hlt : j < 8
    · have hs : j < l.length := by have := H.out; omega
      have hsz : j < (ByteArray.mk l.toArray).size := hs
      have hba : (ByteArray.mk l.toArray)[j] = l[j] := byte_at l j hs
      have hx : (ByteArray.mk l.toArray)[j].toNat < 256 := (ByteArray.mk l.toArray)[j].toNat_lt
      have HO := Lib.hid (or8 X l[j].toNat (by rw [J.out]; exact nm_small l j (by omega)) l[j].toNat_lt)
      go_wp2
      go_round
      case rel => exact ⟨j + 1, X * 256 + l[j].toNat, by go_num, by rw [HO.out], hlt, by rw [nm_next l j hs, J.out]⟩
      case measure => simp [intOf]; omega
    · obtain rfl : j = 8 := by omega
      go_wp2
      go_ret
      exact ⟨ret_int (by rw [J.out]), rfl⟩

theorem ret_u3 {a b : Int} {s t : List UInt8} {c d : Int} (h : a = b) (g : s = t) (i : c = d) : Ending.returned (.tuple #[.int .u64 a, .string ⟨s.toArray⟩, .int .i64 c]) = .returned (.tuple #[.int .u64 b, .string ⟨t.toArray⟩, .int .i64 d]) := by rw [h, g, i]

set_option maxHeartbeats 400000 in
theorem readNumber_short (l : List UInt8) (k : Nat) (y : Int) (w : World) (hy : y = k) (hl : l.length < k) :
    Calls Tryz.prog 139 #[.string ⟨l.toArray⟩, .int .i64 y] w fun e w' => e = .returned (.tuple #[.int .u64 0, .string ⟨([] : List UInt8).toArray⟩, .int .i64 3]) ∧ w = w' := by
  have h1 : (l.length : Int) < y := by omega
  clear hl hy
  go_enter Tryz.func139, Tryz.ntmps139
  go_wp2
  go_ret3
  exact ⟨rfl, rfl⟩

set_option maxHeartbeats 1000000 in
theorem readNumber_is (l : List UInt8) (k : Nat) (y : Int) (w : World) (hy : y = k) (hk : k ≤ 8) (hl : k ≤ l.length) :
    Calls Tryz.prog 139 #[.string ⟨l.toArray⟩, .int .i64 y] w fun e w' => e = .returned (.tuple #[.int .u64 (Kc.nm (l.take k)), .string ⟨(l.drop k).toArray⟩, .int .i64 0]) ∧ Below w.heap.size w w' := by
  subst hy
  have H := Lib.hid (And.intro hl hk)
  have h1 : decide ((l.length : Int) < (k : Int)) = false := by rw [decide_eq_false_iff_not]; omega
  have h2 : (k : Int) ≤ (l.length : Int) := by omega
  have hm : Tryz.prog.follows .mixedOrders = true := by kernel_rfl
  have ct := cut_from l k
  clear hl hk
  go_enter Tryz.func139, Tryz.ntmps139
  go_wp2
  go_loop [7, 14] (fun n i => ∃ (j X : Nat), i = .int .i64 j ∧ n = .int .u64 X ∧ j ≤ k ∧ X = Kc.nm (l.take j)) (fun _ i => k - (intOf i).toNat)
  case atStart => exact ⟨0, 0, rfl, rfl, Nat.zero_le _, rfl⟩
  case round =>
    obtain ⟨j, X, rfl, rfl, hj, hX⟩ := hrel
    have J := Lib.hid hX
    clear hX
    by_cases hlt : j < k
    · have hs : j < l.length := by have := H.out; omega
      have hsz : j < (ByteArray.mk l.toArray).size := hs
      have hba : (ByteArray.mk l.toArray)[j] = l[j] := byte_at l j hs
      have hx : (ByteArray.mk l.toArray)[j].toNat < 256 := (ByteArray.mk l.toArray)[j].toNat_lt
      have hw : wrap64 ((j : Int) + 1) = (j : Int) + 1 := by have := H.out; exact wrap_in _ (by omega) (by omega)
      have HO := Lib.hid (or8 X l[j].toNat (by rw [J.out]; exact nm_small l j (by have := H.out; omega)) l[j].toNat_lt)
      go_wp2
      go_round
      case rel => exact ⟨j + 1, X * 256 + l[j].toNat, by go_num, by rw [HO.out], hlt, by rw [nm_next l j hs, J.out]⟩
      case measure => rw [hw]; simp [intOf]; omega
    · obtain rfl : j = k := by omega
      go_wp2
      go_quiet (fail)
      go_wp2
      go_ret3
      exact ⟨ret_u3 (by rw [J.out]) rfl rfl, below_drewV _ (Below.refl _ _)⟩

end Go.Proofs.YtmgdciihpjifgaaGreatDoor
