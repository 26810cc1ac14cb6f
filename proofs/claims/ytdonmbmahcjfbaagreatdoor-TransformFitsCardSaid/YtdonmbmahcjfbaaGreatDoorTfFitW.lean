/-
  Law TransformFits, walked. Conditions: the arguments in memory; the listed variables as they are laid.
-/
import Derived.Test.YtdonmbmahcjfbaaGreatDoorTfTgt
import Derived.Test.YtdonmbmahcjfbaaGreatDoorTfAwake
import Derived.Test.YtdonmbmahcjfbaaGreatDoorScKey
namespace Go.Proofs.YtdonmbmahcjfbaaGreatDoor
open Go.RowKit
set_option linter.unusedVariables false
set_option linter.unusedSimpArgs false

theorem wl_load_g {P : Program} {ops : Array Oper} {rest : List Oper} {op : Oper} {a : Act} {w : World} {Q : Exit → Act → World → Prop} (hw : Region.wanted op (yielded ops a.tmps) = true) (ty : TypeId) (x : Operand) (ho : op.op = .load ty x)
    (b o : Nat) (hx : a.eval x = .pointer (some ⟨b, o, none⟩)) (cs : List Value) (d : TypeDesc) (hc : w.rangeAt b o cs)
    (hu : P.underlying ty = some d) (hd : d.isRow = true) (hi : (P.info? ty).map (·.size) = some cs.length)
    (h : wpList P ops Q rest (a.put op.dst (.agg cs.toArray)) w) : wpList P ops Q (op :: rest) a w :=
  wpList_step fun K hK => by rw [if_pos hw]; exact wp_load_mid ty x ho b o hx cs d hc hu hd hi (hK _ _ h)

set_option maxHeartbeats 1000000 in
theorem ftab_yes (l : List TV) (lo : Option Addr) (lc : Nat) (w : World) (hl : SlV w lo l) (hi : Fit w l) (hm : (l.length ≤ 20 ∧ ∀ x ∈ l, Tb x.t)) :
    Calls Tryz.prog 17 #[.slice lo l.length lc] w fun e w' => e = .returned (.int .i64 1) ∧ Below w.heap.size w w' := by
  have l1 : decide ((20 : Int) < (l.length : Int)) = false := by have := hm.1; rw [decide_eq_false_iff_not]; omega
  have H := Lib.hid (And.intro hl (And.intro hi hm))
  clear hl hi hm
  go_enter Tryz.func17, Tryz.ntmps17
  go_wp2
  go_loopw [3] (fun i wr => ∃ j : Nat, i = .int .i64 j ∧ j ≤ l.length ∧ Below w.heap.size w wr) (fun i _ => l.length - (intOf i).toNat)
  case atStart => exact ⟨0, rfl, Nat.zero_le _, Below.refl _ _⟩
  case round =>
    obtain ⟨j, rfl, hj, hb⟩ := hrel
    have J := Lib.hid hb
    clear hb
    by_cases hlt : j < l.length
    · obtain ⟨a, rfl, a0, a1, a2⟩ := H.out.1.below J.out j l[j] (List.getElem?_eq_getElem hlt)
      have hw : wrap64 ((j : Int) + 1) = (j : Int) + 1 := by have := H.out.2.2.1; exact wrap_in _ (by omega) (by omega)
      have hmem := List.getElem_mem hlt
      obtain ⟨y, hy⟩ : ∃ y, l[j] = y := ⟨_, rfl⟩
      rw [hy] at a0 a1 a2 hmem
      have Y := Lib.hid (And.intro hmem hy)
      clear hmem hy
      go_wp2_with fail
      refine (few_t y.t y.ao y.cap _ ((H.out.2.1 y Y.out.1).1.below J.out) (H.out.2.2.2 y Y.out.1)).mono ?_
      rintro e w1 ⟨rfl, hb⟩
      have Z := Lib.hid (step0 J.out hb)
      clear hb
      go_wp2
      go_roundw
      case rel => exact ⟨j + 1, by go_num, hlt, Z.out⟩
      case measure => rw [hw]; simp [intOf]; omega
    · obtain rfl : j = l.length := by omega
      go_wp2
      go_ret
      exact ⟨rfl, J.out⟩
set_option maxHeartbeats 1000000 in
theorem ftab_in (l : List TV) (lo : Option Addr) (lc : Nat) (w : World) (hl : SlV w lo l) (hi : Fit w l) (hm : l.length ≤ 20) (hf : ¬ ∀ x ∈ l, Tb x.t) :
    Calls Tryz.prog 17 #[.slice lo l.length lc] w fun e w' => e = .returned (.int .i64 0) ∧ Below w.heap.size w w' := by
  have l1 : decide ((20 : Int) < (l.length : Int)) = false := by rw [decide_eq_false_iff_not]; omega
  have H := Lib.hid (And.intro hl (And.intro hi (And.intro hm hf)))
  clear hl hi hm hf
  go_enter Tryz.func17, Tryz.ntmps17
  go_wp2
  go_loopw [3] (fun i wr => ∃ j : Nat, i = .int .i64 j ∧ j ≤ l.length ∧ Below w.heap.size w wr ∧ ∀ (k : Nat) (y : TV), k < j → l[k]? = some y → Tb y.t) (fun i _ => l.length - (intOf i).toNat)
  case atStart => exact ⟨0, rfl, Nat.zero_le _, Below.refl _ _, fun k y hk => by omega⟩
  case round =>
    obtain ⟨j, rfl, hj, hb, hd⟩ := hrel
    have J := Lib.hid (And.intro hb hd)
    clear hb hd
    by_cases hlt : j < l.length
    · obtain ⟨a, rfl, a0, a1, a2⟩ := H.out.1.below J.out.1 j l[j] (List.getElem?_eq_getElem hlt)
      have hw : wrap64 ((j : Int) + 1) = (j : Int) + 1 := by have := H.out.2.2.1; exact wrap_in _ (by omega) (by omega)
      have hmem := List.getElem_mem hlt
      obtain ⟨y, hy⟩ : ∃ y, l[j] = y := ⟨_, rfl⟩
      rw [hy] at a0 a1 a2 hmem
      have Y := Lib.hid (And.intro hmem hy)
      clear hmem hy
      by_cases hv : Tb y.t
      · have V := Lib.hid hv
        clear hv
        go_wp2_with fail
        refine (few_t y.t y.ao y.cap _ ((H.out.2.1 y Y.out.1).1.below J.out.1) V.out).mono ?_
        rintro e w1 ⟨rfl, hb⟩
        have Z := Lib.hid (step0 J.out.1 hb)
        clear hb
        go_wp2
        go_roundw
        case rel =>
          refine ⟨j + 1, by go_num, hlt, Z.out, fun k u hk hu => ?_⟩
          by_cases e : k = j
          · subst e
            rw [List.getElem?_eq_getElem hlt, Y.out.2] at hu
            obtain rfl := Option.some.inj hu
            exact V.out
          · exact J.out.2 k u (by omega) hu
        case measure => rw [hw]; simp [intOf]; omega
      · have V := Lib.hid hv
        clear hv
        go_wp2_with fail
        refine (few_n y.t y.ao y.cap _ ((H.out.2.1 y Y.out.1).1.below J.out.1) V.out).mono ?_
        rintro e w1 ⟨rfl, hb⟩
        have Z := Lib.hid (step0 J.out.1 hb)
        clear hb
        go_wp2
        go_ret
        exact ⟨rfl, Z.out⟩
    · obtain rfl : j = l.length := by omega
      exfalso
      refine H.out.2.2.2 fun x hx => ?_
      obtain ⟨k, hk, rfl⟩ := List.getElem_of_mem hx
      exact J.out.2 k _ hk (List.getElem?_eq_getElem hk)
theorem ftab_no (l : List TV) (lo : Option Addr) (lc : Nat) (w : World) (hl : SlV w lo l) (hi : Fit w l) (hm : ¬ (l.length ≤ 20 ∧ ∀ x ∈ l, Tb x.t)) :
    Calls Tryz.prog 17 #[.slice lo l.length lc] w fun e w' => e = .returned (.int .i64 0) ∧ Below w.heap.size w w' := by
  by_cases h1 : l.length ≤ 20
  · exact ftab_in l lo lc w hl hi h1 (fun h => hm ⟨h1, h⟩)
  · have l1 : decide ((20 : Int) < (l.length : Int)) = true := by rw [decide_eq_true_eq]; omega
    clear hl hi hm h1
    go_enter Tryz.func17, Tryz.ntmps17
    go_wp2
    go_ret
    exact ⟨rfl, Below.refl _ _⟩

set_option maxHeartbeats 8000000 in
set_option maxRecDepth 100000 in
theorem fit_a (l : List TV) (c : Ch) (xs : List V) (ao no dO bo : Option Addr) (cap nc dc bc : Nat) (w : World) (hl : SlV w ao l) (hf : Fit w l) (hns : SlS w no c.names) (hdf : At3 w c.df dO dc) (hcol : c.col.d.ok) (hx : Sl w bo xs) (ho : ∀ x ∈ xs, x.ok) (hcb : xs.length ≤ bc) (hg : Env w) (hG : Km.Env w) (h1 : ¬ (l.length ≤ 20 ∧ ∀ x ∈ l, Tb x.t)) :
    Calls Tryz.prog 5 #[.slice ao l.length cap, .agg #[.int .i64 c.kind, .string ⟨c.table.toArray⟩, .string ⟨c.other.toArray⟩, .string ⟨c.to.toArray⟩, .string ⟨c.also.toArray⟩, .string ⟨c.name.toArray⟩, .int .i64 c.type, .slice no c.names.length nc, .string ⟨c.col.name.toArray⟩, .int .i64 c.col.kind, .bool c.col.null, .int .i64 c.col.d.k, .int .i64 c.col.d.n, .int .u64 c.col.d.b, .string ⟨c.col.d.s.toArray⟩, .string ⟨c.df.name.toArray⟩, .int .i64 c.df.keys, .slice dO c.df.cs.length dc], .slice bo xs.length bc] w fun e w' => e = .returned (.bool true) ∧ Below w.heap.size w w' := by
  have H := Lib.hid (And.intro hl (And.intro hf (And.intro hns (And.intro hdf (And.intro hcol (And.intro hx (And.intro ho (And.intro hcb (And.intro hg (And.intro hG h1))))))))))
  have hmx : Tryz.prog.follows .mixedOrders = true := by kernel_rfl
  obtain ⟨W2, hW2⟩ : ∃ W2, w.alloc (.cells #[.int .i64 c.kind, .string ⟨c.table.toArray⟩, .string ⟨c.other.toArray⟩, .string ⟨c.to.toArray⟩, .string ⟨c.also.toArray⟩, .string ⟨c.name.toArray⟩, .int .i64 c.type, .slice no c.names.length nc, .string ⟨c.col.name.toArray⟩, .int .i64 c.col.kind, .bool c.col.null, .int .i64 c.col.d.k, .int .i64 c.col.d.n, .int .u64 c.col.d.b, .string ⟨c.col.d.s.toArray⟩, .string ⟨c.df.name.toArray⟩, .int .i64 c.df.keys, .slice dO c.df.cs.length dc] 32) = W2 := ⟨_, rfl⟩
  have q1 : Blk W2 w.heap.size #[.int .i64 c.kind, .string ⟨c.table.toArray⟩, .string ⟨c.other.toArray⟩, .string ⟨c.to.toArray⟩, .string ⟨c.also.toArray⟩, .string ⟨c.name.toArray⟩, .int .i64 c.type, .slice no c.names.length nc, .string ⟨c.col.name.toArray⟩, .int .i64 c.col.kind, .bool c.col.null, .int .i64 c.col.d.k, .int .i64 c.col.d.n, .int .u64 c.col.d.b, .string ⟨c.col.d.s.toArray⟩, .string ⟨c.df.name.toArray⟩, .int .i64 c.df.keys, .slice dO c.df.cs.length dc] 32 := hW2 ▸ Blk.new w _ _
  have K := Lib.hid (And.intro (show Below w.heap.size w W2 from hW2 ▸ below1 w _) q1)
  clear q1 hl hf hns hdf hcol hx ho hcb hg hG h1
  go_enter Tryz.func5, Tryz.ntmps5
  go_wp2_with fail
  refine (ftab_no l ao cap _ (H.out.1.below K.out.1) (H.out.2.1.below K.out.1) H.out.2.2.2.2.2.2.2.2.2.2).mono ?_
  rintro e w1 ⟨rfl, hb⟩
  have K1 := Lib.hid (And.intro (step0 K.out.1 hb) (K.out.2.below hb))
  clear hb
  go_wp2_with fail
  refine (awake_any _ (H.out.2.2.2.2.2.2.2.2.1.keep K1.out.1) (H.out.2.2.2.2.2.2.2.2.2.1.below K1.out.1)).mono ?_
  rintro e w9 ⟨rfl, hb⟩
  have KZ := Lib.hid (step0 K1.out.1 hb)
  clear hb
  go_wp2
  go_ret
  exact ⟨rfl, KZ.out⟩

set_option maxHeartbeats 8000000 in
set_option maxRecDepth 100000 in
theorem fit_b (l : List TV) (c : Ch) (xs : List V) (ao no dO bo : Option Addr) (cap nc dc bc : Nat) (w : World) (hl : SlV w ao l) (hf : Fit w l) (hns : SlS w no c.names) (hdf : At3 w c.df dO dc) (hcol : c.col.d.ok) (hx : Sl w bo xs) (ho : ∀ x ∈ xs, x.ok) (hcb : xs.length ≤ bc) (hg : Env w) (hG : Km.Env w) (h1 : (l.length ≤ 20 ∧ ∀ x ∈ l, Tb x.t)) (h2 : ¬ c.few) :
    Calls Tryz.prog 5 #[.slice ao l.length cap, .agg #[.int .i64 c.kind, .string ⟨c.table.toArray⟩, .string ⟨c.other.toArray⟩, .string ⟨c.to.toArray⟩, .string ⟨c.also.toArray⟩, .string ⟨c.name.toArray⟩, .int .i64 c.type, .slice no c.names.length nc, .string ⟨c.col.name.toArray⟩, .int .i64 c.col.kind, .bool c.col.null, .int .i64 c.col.d.k, .int .i64 c.col.d.n, .int .u64 c.col.d.b, .string ⟨c.col.d.s.toArray⟩, .string ⟨c.df.name.toArray⟩, .int .i64 c.df.keys, .slice dO c.df.cs.length dc], .slice bo xs.length bc] w fun e w' => e = .returned (.bool true) ∧ Below w.heap.size w w' := by
  have H := Lib.hid (And.intro hl (And.intro hf (And.intro hns (And.intro hdf (And.intro hcol (And.intro hx (And.intro ho (And.intro hcb (And.intro hg (And.intro hG (And.intro h1 h2)))))))))))
  have hmx : Tryz.prog.follows .mixedOrders = true := by kernel_rfl
  obtain ⟨W2, hW2⟩ : ∃ W2, w.alloc (.cells #[.int .i64 c.kind, .string ⟨c.table.toArray⟩, .string ⟨c.other.toArray⟩, .string ⟨c.to.toArray⟩, .string ⟨c.also.toArray⟩, .string ⟨c.name.toArray⟩, .int .i64 c.type, .slice no c.names.length nc, .string ⟨c.col.name.toArray⟩, .int .i64 c.col.kind, .bool c.col.null, .int .i64 c.col.d.k, .int .i64 c.col.d.n, .int .u64 c.col.d.b, .string ⟨c.col.d.s.toArray⟩, .string ⟨c.df.name.toArray⟩, .int .i64 c.df.keys, .slice dO c.df.cs.length dc] 32) = W2 := ⟨_, rfl⟩
  have q1 : Blk W2 w.heap.size #[.int .i64 c.kind, .string ⟨c.table.toArray⟩, .string ⟨c.other.toArray⟩, .string ⟨c.to.toArray⟩, .string ⟨c.also.toArray⟩, .string ⟨c.name.toArray⟩, .int .i64 c.type, .slice no c.names.length nc, .string ⟨c.col.name.toArray⟩, .int .i64 c.col.kind, .bool c.col.null, .int .i64 c.col.d.k, .int .i64 c.col.d.n, .int .u64 c.col.d.b, .string ⟨c.col.d.s.toArray⟩, .string ⟨c.df.name.toArray⟩, .int .i64 c.df.keys, .slice dO c.df.cs.length dc] 32 := hW2 ▸ Blk.new w _ _
  have K := Lib.hid (And.intro (show Below w.heap.size w W2 from hW2 ▸ below1 w _) q1)
  clear q1 hl hf hns hdf hcol hx ho hcb hg hG h1 h2
  go_enter Tryz.func5, Tryz.ntmps5
  go_wp2_with fail
  refine (ftab_yes l ao cap _ (H.out.1.below K.out.1) (H.out.2.1.below K.out.1) H.out.2.2.2.2.2.2.2.2.2.2.1).mono ?_
  rintro e w1 ⟨rfl, hb⟩
  have K1 := Lib.hid (And.intro (step0 K.out.1 hb) (K.out.2.below hb))
  clear hb
  go_wp2_with ((refine (?_ : wpList _ _ _ (Oper.mk _ (Op.load 32 _) _ _ _ _ :: _) _ _)); refine wl_load_g (by rfl) 32 _ rfl w.heap.size 0 rfl [.int .i64 c.kind, .string ⟨c.table.toArray⟩, .string ⟨c.other.toArray⟩, .string ⟨c.to.toArray⟩, .string ⟨c.also.toArray⟩, .string ⟨c.name.toArray⟩, .int .i64 c.type, .slice no c.names.length nc, .string ⟨c.col.name.toArray⟩, .int .i64 c.col.kind, .bool c.col.null, .int .i64 c.col.d.k, .int .i64 c.col.d.n, .int .u64 c.col.d.b, .string ⟨c.col.d.s.toArray⟩, .string ⟨c.df.name.toArray⟩, .int .i64 c.df.keys, .slice dO c.df.cs.length dc] _ (rng K1.out.2) Tryz.underlying32 rfl infoCh ?_; go_frame)
  refine (cfew_no c no nc dO dc _ (H.out.2.2.1.below K1.out.1) (H.out.2.2.2.1.1.below K1.out.1) H.out.2.2.2.2.2.2.2.2.2.2.2).mono ?_
  rintro e w2 ⟨rfl, hb⟩
  have K2 := Lib.hid (And.intro (step0 K1.out.1 hb) (K1.out.2.below hb))
  clear hb
  go_wp2_with fail
  refine (awake_any _ (H.out.2.2.2.2.2.2.2.2.1.keep K2.out.1) (H.out.2.2.2.2.2.2.2.2.2.1.below K2.out.1)).mono ?_
  rintro e w9 ⟨rfl, hb⟩
  have KZ := Lib.hid (step0 K2.out.1 hb)
  clear hb
  go_wp2
  go_ret
  exact ⟨rfl, KZ.out⟩

set_option maxHeartbeats 8000000 in
set_option maxRecDepth 100000 in
theorem fit_c (l : List TV) (c : Ch) (xs : List V) (ao no dO bo : Option Addr) (cap nc dc bc : Nat) (w : World) (hl : SlV w ao l) (hf : Fit w l) (hns : SlS w no c.names) (hdf : At3 w c.df dO dc) (hcol : c.col.d.ok) (hx : Sl w bo xs) (ho : ∀ x ∈ xs, x.ok) (hcb : xs.length ≤ bc) (hg : Env w) (hG : Km.Env w) (h1 : (l.length ≤ 20 ∧ ∀ x ∈ l, Tb x.t)) (h2 : c.few) (h3 : ¬ (xs.length ≤ 30 ∧ ∀ x ∈ xs, x.s.length ≤ 2000)) :
    Calls Tryz.prog 5 #[.slice ao l.length cap, .agg #[.int .i64 c.kind, .string ⟨c.table.toArray⟩, .string ⟨c.other.toArray⟩, .string ⟨c.to.toArray⟩, .string ⟨c.also.toArray⟩, .string ⟨c.name.toArray⟩, .int .i64 c.type, .slice no c.names.length nc, .string ⟨c.col.name.toArray⟩, .int .i64 c.col.kind, .bool c.col.null, .int .i64 c.col.d.k, .int .i64 c.col.d.n, .int .u64 c.col.d.b, .string ⟨c.col.d.s.toArray⟩, .string ⟨c.df.name.toArray⟩, .int .i64 c.df.keys, .slice dO c.df.cs.length dc], .slice bo xs.length bc] w fun e w' => e = .returned (.bool true) ∧ Below w.heap.size w w' := by
  have H := Lib.hid (And.intro hl (And.intro hf (And.intro hns (And.intro hdf (And.intro hcol (And.intro hx (And.intro ho (And.intro hcb (And.intro hg (And.intro hG (And.intro h1 (And.intro h2 h3))))))))))))
  have hmx : Tryz.prog.follows .mixedOrders = true := by kernel_rfl
  obtain ⟨W2, hW2⟩ : ∃ W2, w.alloc (.cells #[.int .i64 c.kind, .string ⟨c.table.toArray⟩, .string ⟨c.other.toArray⟩, .string ⟨c.to.toArray⟩, .string ⟨c.also.toArray⟩, .string ⟨c.name.toArray⟩, .int .i64 c.type, .slice no c.names.length nc, .string ⟨c.col.name.toArray⟩, .int .i64 c.col.kind, .bool c.col.null, .int .i64 c.col.d.k, .int .i64 c.col.d.n, .int .u64 c.col.d.b, .string ⟨c.col.d.s.toArray⟩, .string ⟨c.df.name.toArray⟩, .int .i64 c.df.keys, .slice dO c.df.cs.length dc] 32) = W2 := ⟨_, rfl⟩
  have q1 : Blk W2 w.heap.size #[.int .i64 c.kind, .string ⟨c.table.toArray⟩, .string ⟨c.other.toArray⟩, .string ⟨c.to.toArray⟩, .string ⟨c.also.toArray⟩, .string ⟨c.name.toArray⟩, .int .i64 c.type, .slice no c.names.length nc, .string ⟨c.col.name.toArray⟩, .int .i64 c.col.kind, .bool c.col.null, .int .i64 c.col.d.k, .int .i64 c.col.d.n, .int .u64 c.col.d.b, .string ⟨c.col.d.s.toArray⟩, .string ⟨c.df.name.toArray⟩, .int .i64 c.df.keys, .slice dO c.df.cs.length dc] 32 := hW2 ▸ Blk.new w _ _
  have K := Lib.hid (And.intro (show Below w.heap.size w W2 from hW2 ▸ below1 w _) q1)
  clear q1 hl hf hns hdf hcol hx ho hcb hg hG h1 h2 h3
  go_enter Tryz.func5, Tryz.ntmps5
  go_wp2_with fail
  refine (ftab_yes l ao cap _ (H.out.1.below K.out.1) (H.out.2.1.below K.out.1) H.out.2.2.2.2.2.2.2.2.2.2.1).mono ?_
  rintro e w1 ⟨rfl, hb⟩
  have K1 := Lib.hid (And.intro (step0 K.out.1 hb) (K.out.2.below hb))
  clear hb
  go_wp2_with ((refine (?_ : wpList _ _ _ (Oper.mk _ (Op.load 32 _) _ _ _ _ :: _) _ _)); refine wl_load_g (by rfl) 32 _ rfl w.heap.size 0 rfl [.int .i64 c.kind, .string ⟨c.table.toArray⟩, .string ⟨c.other.toArray⟩, .string ⟨c.to.toArray⟩, .string ⟨c.also.toArray⟩, .string ⟨c.name.toArray⟩, .int .i64 c.type, .slice no c.names.length nc, .string ⟨c.col.name.toArray⟩, .int .i64 c.col.kind, .bool c.col.null, .int .i64 c.col.d.k, .int .i64 c.col.d.n, .int .u64 c.col.d.b, .string ⟨c.col.d.s.toArray⟩, .string ⟨c.df.name.toArray⟩, .int .i64 c.df.keys, .slice dO c.df.cs.length dc] _ (rng K1.out.2) Tryz.underlying32 rfl infoCh ?_; go_frame)
  refine (cfew_yes c no nc dO dc _ (H.out.2.2.1.below K1.out.1) (H.out.2.2.2.1.1.below K1.out.1) H.out.2.2.2.2.2.2.2.2.2.2.2.1.1 H.out.2.2.2.2.2.2.2.2.2.2.2.1.2.1 H.out.2.2.2.2.2.2.2.2.2.2.2.1.2.2.1 H.out.2.2.2.2.2.2.2.2.2.2.2.1.2.2.2).mono ?_
  rintro e w2 ⟨rfl, hb⟩
  have K2 := Lib.hid (And.intro (step0 K1.out.1 hb) (K1.out.2.below hb))
  clear hb
  go_wp2_with fail
  refine (few_no xs bo bc _ (H.out.2.2.2.2.2.1.below K2.out.1) H.out.2.2.2.2.2.2.2.2.2.2.2.2).mono ?_
  rintro e w3 ⟨rfl, hb⟩
  have K3 := Lib.hid (And.intro (step0 K2.out.1 hb) (K2.out.2.below hb))
  clear hb
  go_wp2_with fail
  refine (awake_any _ (H.out.2.2.2.2.2.2.2.2.1.keep K3.out.1) (H.out.2.2.2.2.2.2.2.2.2.1.below K3.out.1)).mono ?_
  rintro e w9 ⟨rfl, hb⟩
  have KZ := Lib.hid (step0 K3.out.1 hb)
  clear hb
  go_wp2
  go_ret
  exact ⟨rfl, KZ.out⟩

set_option maxHeartbeats 8000000 in
set_option maxRecDepth 100000 in
theorem fit_d (l : List TV) (c : Ch) (xs : List V) (ao no dO bo : Option Addr) (cap nc dc bc : Nat) (w : World) (hl : SlV w ao l) (hf : Fit w l) (hns : SlS w no c.names) (hdf : At3 w c.df dO dc) (hcol : c.col.d.ok) (hx : Sl w bo xs) (ho : ∀ x ∈ xs, x.ok) (hcb : xs.length ≤ bc) (hg : Env w) (hG : Km.Env w) (h1 : (l.length ≤ 20 ∧ ∀ x ∈ l, Tb x.t)) (h2 : c.few) (h3 : (xs.length ≤ 30 ∧ ∀ x ∈ xs, x.s.length ≤ 2000)) (ts : List T) (E : Int) (hR : c.tgt (((tat (tvs l) c.table).col c.name).d.to c.type) (tvs l) = (ts, E)) (hE : ¬ E = 0) :
    Calls Tryz.prog 5 #[.slice ao l.length cap, .agg #[.int .i64 c.kind, .string ⟨c.table.toArray⟩, .string ⟨c.other.toArray⟩, .string ⟨c.to.toArray⟩, .string ⟨c.also.toArray⟩, .string ⟨c.name.toArray⟩, .int .i64 c.type, .slice no c.names.length nc, .string ⟨c.col.name.toArray⟩, .int .i64 c.col.kind, .bool c.col.null, .int .i64 c.col.d.k, .int .i64 c.col.d.n, .int .u64 c.col.d.b, .string ⟨c.col.d.s.toArray⟩, .string ⟨c.df.name.toArray⟩, .int .i64 c.df.keys, .slice dO c.df.cs.length dc], .slice bo xs.length bc] w fun e w' => e = .returned (.bool true) ∧ Below w.heap.size w w' := by
  have H := Lib.hid (And.intro hl (And.intro hf (And.intro hns (And.intro hdf (And.intro hcol (And.intro hx (And.intro ho (And.intro hcb (And.intro hg (And.intro hG (And.intro h1 (And.intro h2 (And.intro h3 (And.intro hR hE))))))))))))))
  have hmx : Tryz.prog.follows .mixedOrders = true := by kernel_rfl
  obtain ⟨W2, hW2⟩ : ∃ W2, w.alloc (.cells #[.int .i64 c.kind, .string ⟨c.table.toArray⟩, .string ⟨c.other.toArray⟩, .string ⟨c.to.toArray⟩, .string ⟨c.also.toArray⟩, .string ⟨c.name.toArray⟩, .int .i64 c.type, .slice no c.names.length nc, .string ⟨c.col.name.toArray⟩, .int .i64 c.col.kind, .bool c.col.null, .int .i64 c.col.d.k, .int .i64 c.col.d.n, .int .u64 c.col.d.b, .string ⟨c.col.d.s.toArray⟩, .string ⟨c.df.name.toArray⟩, .int .i64 c.df.keys, .slice dO c.df.cs.length dc] 32) = W2 := ⟨_, rfl⟩
  have q1 : Blk W2 w.heap.size #[.int .i64 c.kind, .string ⟨c.table.toArray⟩, .string ⟨c.other.toArray⟩, .string ⟨c.to.toArray⟩, .string ⟨c.also.toArray⟩, .string ⟨c.name.toArray⟩, .int .i64 c.type, .slice no c.names.length nc, .string ⟨c.col.name.toArray⟩, .int .i64 c.col.kind, .bool c.col.null, .int .i64 c.col.d.k, .int .i64 c.col.d.n, .int .u64 c.col.d.b, .string ⟨c.col.d.s.toArray⟩, .string ⟨c.df.name.toArray⟩, .int .i64 c.df.keys, .slice dO c.df.cs.length dc] 32 := hW2 ▸ Blk.new w _ _
  have K := Lib.hid (And.intro (show Below w.heap.size w W2 from hW2 ▸ below1 w _) q1)
  clear q1 hl hf hns hdf hcol hx ho hcb hg hG h1 h2 h3 hR hE
  go_enter Tryz.func5, Tryz.ntmps5
  go_wp2_with fail
  refine (ftab_yes l ao cap _ (H.out.1.below K.out.1) (H.out.2.1.below K.out.1) H.out.2.2.2.2.2.2.2.2.2.2.1).mono ?_
  rintro e w1 ⟨rfl, hb⟩
  have K1 := Lib.hid (And.intro (step0 K.out.1 hb) (K.out.2.below hb))
  clear hb
  go_wp2_with ((refine (?_ : wpList _ _ _ (Oper.mk _ (Op.load 32 _) _ _ _ _ :: _) _ _)); refine wl_load_g (by rfl) 32 _ rfl w.heap.size 0 rfl [.int .i64 c.kind, .string ⟨c.table.toArray⟩, .string ⟨c.other.toArray⟩, .string ⟨c.to.toArray⟩, .string ⟨c.also.toArray⟩, .string ⟨c.name.toArray⟩, .int .i64 c.type, .slice no c.names.length nc, .string ⟨c.col.name.toArray⟩, .int .i64 c.col.kind, .bool c.col.null, .int .i64 c.col.d.k, .int .i64 c.col.d.n, .int .u64 c.col.d.b, .string ⟨c.col.d.s.toArray⟩, .string ⟨c.df.name.toArray⟩, .int .i64 c.df.keys, .slice dO c.df.cs.length dc] _ (rng K1.out.2) Tryz.underlying32 rfl infoCh ?_; go_frame)
  refine (cfew_yes c no nc dO dc _ (H.out.2.2.1.below K1.out.1) (H.out.2.2.2.1.1.below K1.out.1) H.out.2.2.2.2.2.2.2.2.2.2.2.1.1 H.out.2.2.2.2.2.2.2.2.2.2.2.1.2.1 H.out.2.2.2.2.2.2.2.2.2.2.2.1.2.2.1 H.out.2.2.2.2.2.2.2.2.2.2.2.1.2.2.2).mono ?_
  rintro e w2 ⟨rfl, hb⟩
  have K2 := Lib.hid (And.intro (step0 K1.out.1 hb) (K1.out.2.below hb))
  clear hb
  go_wp2_with fail
  refine (few_yes xs bo bc _ (H.out.2.2.2.2.2.1.below K2.out.1) H.out.2.2.2.2.2.2.2.2.2.2.2.2.1.1 H.out.2.2.2.2.2.2.2.2.2.2.2.2.1.2).mono ?_
  rintro e w3 ⟨rfl, hb⟩
  have K3 := Lib.hid (And.intro (step0 K2.out.1 hb) (K2.out.2.below hb))
  clear hb
  go_wp2_with ((refine (?_ : wpList _ _ _ (Oper.mk _ (Op.load 32 _) _ _ _ _ :: _) _ _)); refine wl_load_g (by rfl) 32 _ rfl w.heap.size 0 rfl [.int .i64 c.kind, .string ⟨c.table.toArray⟩, .string ⟨c.other.toArray⟩, .string ⟨c.to.toArray⟩, .string ⟨c.also.toArray⟩, .string ⟨c.name.toArray⟩, .int .i64 c.type, .slice no c.names.length nc, .string ⟨c.col.name.toArray⟩, .int .i64 c.col.kind, .bool c.col.null, .int .i64 c.col.d.k, .int .i64 c.col.d.n, .int .u64 c.col.d.b, .string ⟨c.col.d.s.toArray⟩, .string ⟨c.df.name.toArray⟩, .int .i64 c.df.keys, .slice dO c.df.cs.length dc] _ (rng K3.out.2) Tryz.underlying32 rfl infoCh ?_; go_frame)
  refine (targets_all c no nc dO dc l ao cap _ (H.out.2.2.2.2.2.2.2.2.1.keep K3.out.1) (H.out.2.2.2.2.2.2.2.2.2.1.below K3.out.1) (H.out.1.below K3.out.1) (H.out.2.1.below K3.out.1) (by have := H.out.2.2.2.2.2.2.2.2.2.2.1.1; omega) (H.out.2.2.2.1.keep K3.out.1) H.out.2.2.2.2.1 (H.out.2.2.1.below K3.out.1) (by have := H.out.2.2.2.2.2.2.2.2.2.2.2.1.1.1; omega) (ts, E) H.out.2.2.2.2.2.2.2.2.2.2.2.2.2.1).mono ?_
  rintro e w4 ⟨htr, hb⟩
  have K4 := Lib.hid (And.intro (step0 K3.out.1 hb) (K3.out.2.below hb))
  have B4 := Lib.hid hb
  clear hb
  rcases htr with ⟨hE, rfl⟩ | ⟨hE, _⟩
  case inr => exact absurd hE H.out.2.2.2.2.2.2.2.2.2.2.2.2.2.2
  simp only at hE
  have e0 := bne_t hE
  clear hE
  simp only
  go_wp2_with fail
  refine (awake_any _ (H.out.2.2.2.2.2.2.2.2.1.keep K4.out.1) (H.out.2.2.2.2.2.2.2.2.2.1.below K4.out.1)).mono ?_
  rintro e w9 ⟨rfl, hb⟩
  have KZ := Lib.hid (step0 K4.out.1 hb)
  clear hb
  go_wp2
  go_ret
  exact ⟨rfl, KZ.out⟩

set_option maxHeartbeats 8000000 in
set_option maxRecDepth 100000 in
theorem fit_e (l : List TV) (c : Ch) (xs : List V) (ao no dO bo : Option Addr) (cap nc dc bc : Nat) (w : World) (hl : SlV w ao l) (hf : Fit w l) (hns : SlS w no c.names) (hdf : At3 w c.df dO dc) (hcol : c.col.d.ok) (hx : Sl w bo xs) (ho : ∀ x ∈ xs, x.ok) (hcb : xs.length ≤ bc) (hg : Env w) (hG : Km.Env w) (h1 : (l.length ≤ 20 ∧ ∀ x ∈ l, Tb x.t)) (h2 : c.few) (h3 : (xs.length ≤ 30 ∧ ∀ x ∈ xs, x.s.length ≤ 2000)) (ts : List T) (hR : c.tgt (((tat (tvs l) c.table).col c.name).d.to c.type) (tvs l) = (ts, 0)) (h4 : c.kind = 1) :
    Calls Tryz.prog 5 #[.slice ao l.length cap, .agg #[.int .i64 c.kind, .string ⟨c.table.toArray⟩, .string ⟨c.other.toArray⟩, .string ⟨c.to.toArray⟩, .string ⟨c.also.toArray⟩, .string ⟨c.name.toArray⟩, .int .i64 c.type, .slice no c.names.length nc, .string ⟨c.col.name.toArray⟩, .int .i64 c.col.kind, .bool c.col.null, .int .i64 c.col.d.k, .int .i64 c.col.d.n, .int .u64 c.col.d.b, .string ⟨c.col.d.s.toArray⟩, .string ⟨c.df.name.toArray⟩, .int .i64 c.df.keys, .slice dO c.df.cs.length dc], .slice bo xs.length bc] w fun e w' => e = .returned (.bool true) ∧ Below w.heap.size w w' := by
  have H := Lib.hid (And.intro hl (And.intro hf (And.intro hns (And.intro hdf (And.intro hcol (And.intro hx (And.intro ho (And.intro hcb (And.intro hg (And.intro hG (And.intro h1 (And.intro h2 (And.intro h3 (And.intro hR h4))))))))))))))
  have hmx : Tryz.prog.follows .mixedOrders = true := by kernel_rfl
  obtain ⟨W2, hW2⟩ : ∃ W2, w.alloc (.cells #[.int .i64 c.kind, .string ⟨c.table.toArray⟩, .string ⟨c.other.toArray⟩, .string ⟨c.to.toArray⟩, .string ⟨c.also.toArray⟩, .string ⟨c.name.toArray⟩, .int .i64 c.type, .slice no c.names.length nc, .string ⟨c.col.name.toArray⟩, .int .i64 c.col.kind, .bool c.col.null, .int .i64 c.col.d.k, .int .i64 c.col.d.n, .int .u64 c.col.d.b, .string ⟨c.col.d.s.toArray⟩, .string ⟨c.df.name.toArray⟩, .int .i64 c.df.keys, .slice dO c.df.cs.length dc] 32) = W2 := ⟨_, rfl⟩
  have q1 : Blk W2 w.heap.size #[.int .i64 c.kind, .string ⟨c.table.toArray⟩, .string ⟨c.other.toArray⟩, .string ⟨c.to.toArray⟩, .string ⟨c.also.toArray⟩, .string ⟨c.name.toArray⟩, .int .i64 c.type, .slice no c.names.length nc, .string ⟨c.col.name.toArray⟩, .int .i64 c.col.kind, .bool c.col.null, .int .i64 c.col.d.k, .int .i64 c.col.d.n, .int .u64 c.col.d.b, .string ⟨c.col.d.s.toArray⟩, .string ⟨c.df.name.toArray⟩, .int .i64 c.df.keys, .slice dO c.df.cs.length dc] 32 := hW2 ▸ Blk.new w _ _
  have K := Lib.hid (And.intro (show Below w.heap.size w W2 from hW2 ▸ below1 w _) q1)
  clear q1 hl hf hns hdf hcol hx ho hcb hg hG h1 h2 h3 hR h4
  go_enter Tryz.func5, Tryz.ntmps5
  go_wp2_with fail
  refine (ftab_yes l ao cap _ (H.out.1.below K.out.1) (H.out.2.1.below K.out.1) H.out.2.2.2.2.2.2.2.2.2.2.1).mono ?_
  rintro e w1 ⟨rfl, hb⟩
  have K1 := Lib.hid (And.intro (step0 K.out.1 hb) (K.out.2.below hb))
  clear hb
  go_wp2_with ((refine (?_ : wpList _ _ _ (Oper.mk _ (Op.load 32 _) _ _ _ _ :: _) _ _)); refine wl_load_g (by rfl) 32 _ rfl w.heap.size 0 rfl [.int .i64 c.kind, .string ⟨c.table.toArray⟩, .string ⟨c.other.toArray⟩, .string ⟨c.to.toArray⟩, .string ⟨c.also.toArray⟩, .string ⟨c.name.toArray⟩, .int .i64 c.type, .slice no c.names.length nc, .string ⟨c.col.name.toArray⟩, .int .i64 c.col.kind, .bool c.col.null, .int .i64 c.col.d.k, .int .i64 c.col.d.n, .int .u64 c.col.d.b, .string ⟨c.col.d.s.toArray⟩, .string ⟨c.df.name.toArray⟩, .int .i64 c.df.keys, .slice dO c.df.cs.length dc] _ (rng K1.out.2) Tryz.underlying32 rfl infoCh ?_; go_frame)
  refine (cfew_yes c no nc dO dc _ (H.out.2.2.1.below K1.out.1) (H.out.2.2.2.1.1.below K1.out.1) H.out.2.2.2.2.2.2.2.2.2.2.2.1.1 H.out.2.2.2.2.2.2.2.2.2.2.2.1.2.1 H.out.2.2.2.2.2.2.2.2.2.2.2.1.2.2.1 H.out.2.2.2.2.2.2.2.2.2.2.2.1.2.2.2).mono ?_
  rintro e w2 ⟨rfl, hb⟩
  have K2 := Lib.hid (And.intro (step0 K1.out.1 hb) (K1.out.2.below hb))
  clear hb
  go_wp2_with fail
  refine (few_yes xs bo bc _ (H.out.2.2.2.2.2.1.below K2.out.1) H.out.2.2.2.2.2.2.2.2.2.2.2.2.1.1 H.out.2.2.2.2.2.2.2.2.2.2.2.2.1.2).mono ?_
  rintro e w3 ⟨rfl, hb⟩
  have K3 := Lib.hid (And.intro (step0 K2.out.1 hb) (K2.out.2.below hb))
  clear hb
  go_wp2_with ((refine (?_ : wpList _ _ _ (Oper.mk _ (Op.load 32 _) _ _ _ _ :: _) _ _)); refine wl_load_g (by rfl) 32 _ rfl w.heap.size 0 rfl [.int .i64 c.kind, .string ⟨c.table.toArray⟩, .string ⟨c.other.toArray⟩, .string ⟨c.to.toArray⟩, .string ⟨c.also.toArray⟩, .string ⟨c.name.toArray⟩, .int .i64 c.type, .slice no c.names.length nc, .string ⟨c.col.name.toArray⟩, .int .i64 c.col.kind, .bool c.col.null, .int .i64 c.col.d.k, .int .i64 c.col.d.n, .int .u64 c.col.d.b, .string ⟨c.col.d.s.toArray⟩, .string ⟨c.df.name.toArray⟩, .int .i64 c.df.keys, .slice dO c.df.cs.length dc] _ (rng K3.out.2) Tryz.underlying32 rfl infoCh ?_; go_frame)
  refine (targets_all c no nc dO dc l ao cap _ (H.out.2.2.2.2.2.2.2.2.1.keep K3.out.1) (H.out.2.2.2.2.2.2.2.2.2.1.below K3.out.1) (H.out.1.below K3.out.1) (H.out.2.1.below K3.out.1) (by have := H.out.2.2.2.2.2.2.2.2.2.2.1.1; omega) (H.out.2.2.2.1.keep K3.out.1) H.out.2.2.2.2.1 (H.out.2.2.1.below K3.out.1) (by have := H.out.2.2.2.2.2.2.2.2.2.2.2.1.1.1; omega) (ts, 0) H.out.2.2.2.2.2.2.2.2.2.2.2.2.2.1).mono ?_
  rintro e w4 ⟨htr, hb⟩
  have K4 := Lib.hid (And.intro (step0 K3.out.1 hb) (K3.out.2.below hb))
  have B4 := Lib.hid hb
  clear hb
  rcases htr with ⟨hE, _⟩ | ⟨_, v, ys, rfl, hO, hts, hfo⟩
  case inl => exact absurd rfl hE
  obtain ⟨o7, c7, rfl, _, hs7⟩ := hO.sl
  have T7 := Lib.hid (And.intro hs7 (And.intro hfo.fit hts))
  clear hO hs7 hts hfo
  have x0 := K4.out.2.cell 0
  have x1 := K4.out.2.cell 1
  simp at x0 x1
  have k1 : (c.kind == 1) = true := by rw [H.out.2.2.2.2.2.2.2.2.2.2.2.2.2.2]; rfl
  go_wp2_with fail
  refine (awake_any _ (H.out.2.2.2.2.2.2.2.2.1.keep K4.out.1) (H.out.2.2.2.2.2.2.2.2.2.1.below K4.out.1)).mono ?_
  rintro e w9 ⟨rfl, hb⟩
  have KZ := Lib.hid (step0 K4.out.1 hb)
  clear hb
  go_wp2
  go_ret
  exact ⟨rfl, KZ.out⟩

set_option maxHeartbeats 8000000 in
set_option maxRecDepth 100000 in
theorem fit_f (l : List TV) (c : Ch) (xs : List V) (ao no dO bo : Option Addr) (cap nc dc bc : Nat) (w : World) (hl : SlV w ao l) (hf : Fit w l) (hns : SlS w no c.names) (hdf : At3 w c.df dO dc) (hcol : c.col.d.ok) (hx : Sl w bo xs) (ho : ∀ x ∈ xs, x.ok) (hcb : xs.length ≤ bc) (hg : Env w) (hG : Km.Env w) (h1 : (l.length ≤ 20 ∧ ∀ x ∈ l, Tb x.t)) (h2 : c.few) (h3 : (xs.length ≤ 30 ∧ ∀ x ∈ xs, x.s.length ≤ 2000)) (ts : List T) (hR : c.tgt (((tat (tvs l) c.table).col c.name).d.to c.type) (tvs l) = (ts, 0)) (h4 : ¬ c.kind = 1) (I : Nat) (x : TV) (hI : Nm.fi (nms (tvs l)) c.table = (I : Int)) (hIx : l[I]? = some x) (E : Int) (hE : x.t.fit xs = E) (hE0 : ¬ E = 0) :
    Calls Tryz.prog 5 #[.slice ao l.length cap, .agg #[.int .i64 c.kind, .string ⟨c.table.toArray⟩, .string ⟨c.other.toArray⟩, .string ⟨c.to.toArray⟩, .string ⟨c.also.toArray⟩, .string ⟨c.name.toArray⟩, .int .i64 c.type, .slice no c.names.length nc, .string ⟨c.col.name.toArray⟩, .int .i64 c.col.kind, .bool c.col.null, .int .i64 c.col.d.k, .int .i64 c.col.d.n, .int .u64 c.col.d.b, .string ⟨c.col.d.s.toArray⟩, .string ⟨c.df.name.toArray⟩, .int .i64 c.df.keys, .slice dO c.df.cs.length dc], .slice bo xs.length bc] w fun e w' => e = .returned (.bool true) ∧ Below w.heap.size w w' := by
  have H := Lib.hid (And.intro hl (And.intro hf (And.intro hns (And.intro hdf (And.intro hcol (And.intro hx (And.intro ho (And.intro hcb (And.intro hg (And.intro hG (And.intro h1 (And.intro h2 (And.intro h3 (And.intro hR (And.intro h4 (And.intro hI (And.intro hIx (And.intro hE hE0))))))))))))))))))
  have hmx : Tryz.prog.follows .mixedOrders = true := by kernel_rfl
  obtain ⟨W2, hW2⟩ : ∃ W2, w.alloc (.cells #[.int .i64 c.kind, .string ⟨c.table.toArray⟩, .string ⟨c.other.toArray⟩, .string ⟨c.to.toArray⟩, .string ⟨c.also.toArray⟩, .string ⟨c.name.toArray⟩, .int .i64 c.type, .slice no c.names.length nc, .string ⟨c.col.name.toArray⟩, .int .i64 c.col.kind, .bool c.col.null, .int .i64 c.col.d.k, .int .i64 c.col.d.n, .int .u64 c.col.d.b, .string ⟨c.col.d.s.toArray⟩, .string ⟨c.df.name.toArray⟩, .int .i64 c.df.keys, .slice dO c.df.cs.length dc] 32) = W2 := ⟨_, rfl⟩
  have q1 : Blk W2 w.heap.size #[.int .i64 c.kind, .string ⟨c.table.toArray⟩, .string ⟨c.other.toArray⟩, .string ⟨c.to.toArray⟩, .string ⟨c.also.toArray⟩, .string ⟨c.name.toArray⟩, .int .i64 c.type, .slice no c.names.length nc, .string ⟨c.col.name.toArray⟩, .int .i64 c.col.kind, .bool c.col.null, .int .i64 c.col.d.k, .int .i64 c.col.d.n, .int .u64 c.col.d.b, .string ⟨c.col.d.s.toArray⟩, .string ⟨c.df.name.toArray⟩, .int .i64 c.df.keys, .slice dO c.df.cs.length dc] 32 := hW2 ▸ Blk.new w _ _
  have K := Lib.hid (And.intro (show Below w.heap.size w W2 from hW2 ▸ below1 w _) q1)
  clear q1 hl hf hns hdf hcol hx ho hcb hg hG h1 h2 h3 hR h4 hI hIx hE hE0
  go_enter Tryz.func5, Tryz.ntmps5
  go_wp2_with fail
  refine (ftab_yes l ao cap _ (H.out.1.below K.out.1) (H.out.2.1.below K.out.1) H.out.2.2.2.2.2.2.2.2.2.2.1).mono ?_
  rintro e w1 ⟨rfl, hb⟩
  have K1 := Lib.hid (And.intro (step0 K.out.1 hb) (K.out.2.below hb))
  clear hb
  go_wp2_with ((refine (?_ : wpList _ _ _ (Oper.mk _ (Op.load 32 _) _ _ _ _ :: _) _ _)); refine wl_load_g (by rfl) 32 _ rfl w.heap.size 0 rfl [.int .i64 c.kind, .string ⟨c.table.toArray⟩, .string ⟨c.other.toArray⟩, .string ⟨c.to.toArray⟩, .string ⟨c.also.toArray⟩, .string ⟨c.name.toArray⟩, .int .i64 c.type, .slice no c.names.length nc, .string ⟨c.col.name.toArray⟩, .int .i64 c.col.kind, .bool c.col.null, .int .i64 c.col.d.k, .int .i64 c.col.d.n, .int .u64 c.col.d.b, .string ⟨c.col.d.s.toArray⟩, .string ⟨c.df.name.toArray⟩, .int .i64 c.df.keys, .slice dO c.df.cs.length dc] _ (rng K1.out.2) Tryz.underlying32 rfl infoCh ?_; go_frame)
  refine (cfew_yes c no nc dO dc _ (H.out.2.2.1.below K1.out.1) (H.out.2.2.2.1.1.below K1.out.1) H.out.2.2.2.2.2.2.2.2.2.2.2.1.1 H.out.2.2.2.2.2.2.2.2.2.2.2.1.2.1 H.out.2.2.2.2.2.2.2.2.2.2.2.1.2.2.1 H.out.2.2.2.2.2.2.2.2.2.2.2.1.2.2.2).mono ?_
  rintro e w2 ⟨rfl, hb⟩
  have K2 := Lib.hid (And.intro (step0 K1.out.1 hb) (K1.out.2.below hb))
  clear hb
  go_wp2_with fail
  refine (few_yes xs bo bc _ (H.out.2.2.2.2.2.1.below K2.out.1) H.out.2.2.2.2.2.2.2.2.2.2.2.2.1.1 H.out.2.2.2.2.2.2.2.2.2.2.2.2.1.2).mono ?_
  rintro e w3 ⟨rfl, hb⟩
  have K3 := Lib.hid (And.intro (step0 K2.out.1 hb) (K2.out.2.below hb))
  clear hb
  go_wp2_with ((refine (?_ : wpList _ _ _ (Oper.mk _ (Op.load 32 _) _ _ _ _ :: _) _ _)); refine wl_load_g (by rfl) 32 _ rfl w.heap.size 0 rfl [.int .i64 c.kind, .string ⟨c.table.toArray⟩, .string ⟨c.other.toArray⟩, .string ⟨c.to.toArray⟩, .string ⟨c.also.toArray⟩, .string ⟨c.name.toArray⟩, .int .i64 c.type, .slice no c.names.length nc, .string ⟨c.col.name.toArray⟩, .int .i64 c.col.kind, .bool c.col.null, .int .i64 c.col.d.k, .int .i64 c.col.d.n, .int .u64 c.col.d.b, .string ⟨c.col.d.s.toArray⟩, .string ⟨c.df.name.toArray⟩, .int .i64 c.df.keys, .slice dO c.df.cs.length dc] _ (rng K3.out.2) Tryz.underlying32 rfl infoCh ?_; go_frame)
  refine (targets_all c no nc dO dc l ao cap _ (H.out.2.2.2.2.2.2.2.2.1.keep K3.out.1) (H.out.2.2.2.2.2.2.2.2.2.1.below K3.out.1) (H.out.1.below K3.out.1) (H.out.2.1.below K3.out.1) (by have := H.out.2.2.2.2.2.2.2.2.2.2.1.1; omega) (H.out.2.2.2.1.keep K3.out.1) H.out.2.2.2.2.1 (H.out.2.2.1.below K3.out.1) (by have := H.out.2.2.2.2.2.2.2.2.2.2.2.1.1.1; omega) (ts, 0) H.out.2.2.2.2.2.2.2.2.2.2.2.2.2.1).mono ?_
  rintro e w4 ⟨htr, hb⟩
  have K4 := Lib.hid (And.intro (step0 K3.out.1 hb) (K3.out.2.below hb))
  have B4 := Lib.hid hb
  clear hb
  rcases htr with ⟨hE, _⟩ | ⟨_, v, ys, rfl, hO, hts, hfo⟩
  case inl => exact absurd rfl hE
  obtain ⟨o7, c7, rfl, _, hs7⟩ := hO.sl
  have T7 := Lib.hid (And.intro hs7 (And.intro hfo.fit hts))
  clear hO hs7 hts hfo
  have x0 := K4.out.2.cell 0
  have x1 := K4.out.2.cell 1
  simp at x0 x1
  have k1 : (c.kind == 1) = false := beq_f H.out.2.2.2.2.2.2.2.2.2.2.2.2.2.2.1
  go_wp2_with fail
  refine (cfind_is l c.table ao cap _ (I : Int) (H.out.1.below K4.out.1) (by have := H.out.2.2.2.2.2.2.2.2.2.2.1.1; omega) H.out.2.2.2.2.2.2.2.2.2.2.2.2.2.2.2.1).mono ?_
  rintro e w5 ⟨rfl, hb⟩
  have K5 := Lib.hid (And.intro (step0 K4.out.1 hb) (K4.out.2.below hb))
  have T5 := Lib.hid (And.intro (T7.out.1.below hb) (And.intro (T7.out.2.1.below hb) T7.out.2.2))
  clear hb x0 x1 k1 T7
  obtain ⟨a, rfl, y0, y1, y2⟩ := (H.out.1.below K5.out.1) I x H.out.2.2.2.2.2.2.2.2.2.2.2.2.2.2.2.2.1
  have i0 : ¬ ((I : Int) < 0) := by omega
  have i1 : (0 : Int) ≤ (I : Int) := by omega
  have i2 : (I : Int) < (l.length : Int) := by have := (List.getElem?_eq_some_iff.1 H.out.2.2.2.2.2.2.2.2.2.2.2.2.2.2.2.2.1).1; omega
  go_wp2_with fail
  refine (fits_t x.t xs x.ao bo x.cap bc _ ((H.out.2.1 x (List.mem_of_getElem? H.out.2.2.2.2.2.2.2.2.2.2.2.2.2.2.2.2.1)).keep K5.out.1) (H.out.2.2.2.2.2.1.below K5.out.1) H.out.2.2.2.2.2.2.2.2.2.2.2.2.1.1 H.out.2.2.2.2.2.2.1 (H.out.2.2.2.2.2.2.2.2.1.keep K5.out.1) E H.out.2.2.2.2.2.2.2.2.2.2.2.2.2.2.2.2.2.1).mono ?_
  rintro e w6 ⟨rfl, hb⟩
  have K6 := Lib.hid (And.intro (step0 K5.out.1 hb) (K5.out.2.below hb))
  have T6 := Lib.hid (And.intro (T5.out.1.below hb) (And.intro (T5.out.2.1.below hb) T5.out.2.2))
  clear hb y0 y1 y2 T5
  have e0 := bne_t H.out.2.2.2.2.2.2.2.2.2.2.2.2.2.2.2.2.2.2
  go_wp2_with fail
  refine (awake_any _ (H.out.2.2.2.2.2.2.2.2.1.keep K6.out.1) (H.out.2.2.2.2.2.2.2.2.2.1.below K6.out.1)).mono ?_
  rintro e w9 ⟨rfl, hb⟩
  have KZ := Lib.hid (step0 K6.out.1 hb)
  clear hb
  go_wp2
  go_ret
  exact ⟨rfl, KZ.out⟩

set_option maxHeartbeats 8000000 in
set_option maxRecDepth 100000 in
theorem fit_g (l : List TV) (c : Ch) (xs : List V) (ao no dO bo : Option Addr) (cap nc dc bc : Nat) (w : World) (hl : SlV w ao l) (hf : Fit w l) (hns : SlS w no c.names) (hdf : At3 w c.df dO dc) (hcol : c.col.d.ok) (hx : Sl w bo xs) (ho : ∀ x ∈ xs, x.ok) (hcb : xs.length ≤ bc) (hg : Env w) (hG : Km.Env w) (h1 : (l.length ≤ 20 ∧ ∀ x ∈ l, Tb x.t)) (h2 : c.few) (h3 : (xs.length ≤ 30 ∧ ∀ x ∈ xs, x.s.length ≤ 2000)) (ts : List T) (hR : c.tgt (((tat (tvs l) c.table).col c.name).d.to c.type) (tvs l) = (ts, 0)) (h4 : ¬ c.kind = 1) (I : Nat) (x : TV) (hI : Nm.fi (nms (tvs l)) c.table = (I : Int)) (hIx : l[I]? = some x) (hfit : x.t.fit xs = 0) (rs : List (List V)) (F : Int) (hrow : c.row x.t xs = (rs, F)) (hF : ¬ F = 0) (hk : c.kind = 4) :
    Calls Tryz.prog 5 #[.slice ao l.length cap, .agg #[.int .i64 c.kind, .string ⟨c.table.toArray⟩, .string ⟨c.other.toArray⟩, .string ⟨c.to.toArray⟩, .string ⟨c.also.toArray⟩, .string ⟨c.name.toArray⟩, .int .i64 c.type, .slice no c.names.length nc, .string ⟨c.col.name.toArray⟩, .int .i64 c.col.kind, .bool c.col.null, .int .i64 c.col.d.k, .int .i64 c.col.d.n, .int .u64 c.col.d.b, .string ⟨c.col.d.s.toArray⟩, .string ⟨c.df.name.toArray⟩, .int .i64 c.df.keys, .slice dO c.df.cs.length dc], .slice bo xs.length bc] w fun e w' => e = .returned (.bool true) ∧ Below w.heap.size w w' := by
  have H := Lib.hid (And.intro hl (And.intro hf (And.intro hns (And.intro hdf (And.intro hcol (And.intro hx (And.intro ho (And.intro hcb (And.intro hg (And.intro hG (And.intro h1 (And.intro h2 (And.intro h3 (And.intro hR (And.intro h4 (And.intro hI (And.intro hIx (And.intro hfit (And.intro hrow (And.intro hF hk))))))))))))))))))))
  have hmx : Tryz.prog.follows .mixedOrders = true := by kernel_rfl
  obtain ⟨W2, hW2⟩ : ∃ W2, w.alloc (.cells #[.int .i64 c.kind, .string ⟨c.table.toArray⟩, .string ⟨c.other.toArray⟩, .string ⟨c.to.toArray⟩, .string ⟨c.also.toArray⟩, .string ⟨c.name.toArray⟩, .int .i64 c.type, .slice no c.names.length nc, .string ⟨c.col.name.toArray⟩, .int .i64 c.col.kind, .bool c.col.null, .int .i64 c.col.d.k, .int .i64 c.col.d.n, .int .u64 c.col.d.b, .string ⟨c.col.d.s.toArray⟩, .string ⟨c.df.name.toArray⟩, .int .i64 c.df.keys, .slice dO c.df.cs.length dc] 32) = W2 := ⟨_, rfl⟩
  have q1 : Blk W2 w.heap.size #[.int .i64 c.kind, .string ⟨c.table.toArray⟩, .string ⟨c.other.toArray⟩, .string ⟨c.to.toArray⟩, .string ⟨c.also.toArray⟩, .string ⟨c.name.toArray⟩, .int .i64 c.type, .slice no c.names.length nc, .string ⟨c.col.name.toArray⟩, .int .i64 c.col.kind, .bool c.col.null, .int .i64 c.col.d.k, .int .i64 c.col.d.n, .int .u64 c.col.d.b, .string ⟨c.col.d.s.toArray⟩, .string ⟨c.df.name.toArray⟩, .int .i64 c.df.keys, .slice dO c.df.cs.length dc] 32 := hW2 ▸ Blk.new w _ _
  have K := Lib.hid (And.intro (show Below w.heap.size w W2 from hW2 ▸ below1 w _) q1)
  clear q1 hl hf hns hdf hcol hx ho hcb hg hG h1 h2 h3 hR h4 hI hIx hfit hrow hF hk
  go_enter Tryz.func5, Tryz.ntmps5
  go_wp2_with fail
  refine (ftab_yes l ao cap _ (H.out.1.below K.out.1) (H.out.2.1.below K.out.1) H.out.2.2.2.2.2.2.2.2.2.2.1).mono ?_
  rintro e w1 ⟨rfl, hb⟩
  have K1 := Lib.hid (And.intro (step0 K.out.1 hb) (K.out.2.below hb))
  clear hb
  go_wp2_with ((refine (?_ : wpList _ _ _ (Oper.mk _ (Op.load 32 _) _ _ _ _ :: _) _ _)); refine wl_load_g (by rfl) 32 _ rfl w.heap.size 0 rfl [.int .i64 c.kind, .string ⟨c.table.toArray⟩, .string ⟨c.other.toArray⟩, .string ⟨c.to.toArray⟩, .string ⟨c.also.toArray⟩, .string ⟨c.name.toArray⟩, .int .i64 c.type, .slice no c.names.length nc, .string ⟨c.col.name.toArray⟩, .int .i64 c.col.kind, .bool c.col.null, .int .i64 c.col.d.k, .int .i64 c.col.d.n, .int .u64 c.col.d.b, .string ⟨c.col.d.s.toArray⟩, .string ⟨c.df.name.toArray⟩, .int .i64 c.df.keys, .slice dO c.df.cs.length dc] _ (rng K1.out.2) Tryz.underlying32 rfl infoCh ?_; go_frame)
  refine (cfew_yes c no nc dO dc _ (H.out.2.2.1.below K1.out.1) (H.out.2.2.2.1.1.below K1.out.1) H.out.2.2.2.2.2.2.2.2.2.2.2.1.1 H.out.2.2.2.2.2.2.2.2.2.2.2.1.2.1 H.out.2.2.2.2.2.2.2.2.2.2.2.1.2.2.1 H.out.2.2.2.2.2.2.2.2.2.2.2.1.2.2.2).mono ?_
  rintro e w2 ⟨rfl, hb⟩
  have K2 := Lib.hid (And.intro (step0 K1.out.1 hb) (K1.out.2.below hb))
  clear hb
  go_wp2_with fail
  refine (few_yes xs bo bc _ (H.out.2.2.2.2.2.1.below K2.out.1) H.out.2.2.2.2.2.2.2.2.2.2.2.2.1.1 H.out.2.2.2.2.2.2.2.2.2.2.2.2.1.2).mono ?_
  rintro e w3 ⟨rfl, hb⟩
  have K3 := Lib.hid (And.intro (step0 K2.out.1 hb) (K2.out.2.below hb))
  clear hb
  go_wp2_with ((refine (?_ : wpList _ _ _ (Oper.mk _ (Op.load 32 _) _ _ _ _ :: _) _ _)); refine wl_load_g (by rfl) 32 _ rfl w.heap.size 0 rfl [.int .i64 c.kind, .string ⟨c.table.toArray⟩, .string ⟨c.other.toArray⟩, .string ⟨c.to.toArray⟩, .string ⟨c.also.toArray⟩, .string ⟨c.name.toArray⟩, .int .i64 c.type, .slice no c.names.length nc, .string ⟨c.col.name.toArray⟩, .int .i64 c.col.kind, .bool c.col.null, .int .i64 c.col.d.k, .int .i64 c.col.d.n, .int .u64 c.col.d.b, .string ⟨c.col.d.s.toArray⟩, .string ⟨c.df.name.toArray⟩, .int .i64 c.df.keys, .slice dO c.df.cs.length dc] _ (rng K3.out.2) Tryz.underlying32 rfl infoCh ?_; go_frame)
  refine (targets_all c no nc dO dc l ao cap _ (H.out.2.2.2.2.2.2.2.2.1.keep K3.out.1) (H.out.2.2.2.2.2.2.2.2.2.1.below K3.out.1) (H.out.1.below K3.out.1) (H.out.2.1.below K3.out.1) (by have := H.out.2.2.2.2.2.2.2.2.2.2.1.1; omega) (H.out.2.2.2.1.keep K3.out.1) H.out.2.2.2.2.1 (H.out.2.2.1.below K3.out.1) (by have := H.out.2.2.2.2.2.2.2.2.2.2.2.1.1.1; omega) (ts, 0) H.out.2.2.2.2.2.2.2.2.2.2.2.2.2.1).mono ?_
  rintro e w4 ⟨htr, hb⟩
  have K4 := Lib.hid (And.intro (step0 K3.out.1 hb) (K3.out.2.below hb))
  have B4 := Lib.hid hb
  clear hb
  rcases htr with ⟨hE, _⟩ | ⟨_, v, ys, rfl, hO, hts, hfo⟩
  case inl => exact absurd rfl hE
  obtain ⟨o7, c7, rfl, _, hs7⟩ := hO.sl
  have T7 := Lib.hid (And.intro hs7 (And.intro hfo.fit hts))
  clear hO hs7 hts hfo
  have x0 := K4.out.2.cell 0
  have x1 := K4.out.2.cell 1
  simp at x0 x1
  have k1 : (c.kind == 1) = false := beq_f H.out.2.2.2.2.2.2.2.2.2.2.2.2.2.2.1
  go_wp2_with fail
  refine (cfind_is l c.table ao cap _ (I : Int) (H.out.1.below K4.out.1) (by have := H.out.2.2.2.2.2.2.2.2.2.2.1.1; omega) H.out.2.2.2.2.2.2.2.2.2.2.2.2.2.2.2.1).mono ?_
  rintro e w5 ⟨rfl, hb⟩
  have K5 := Lib.hid (And.intro (step0 K4.out.1 hb) (K4.out.2.below hb))
  have T5 := Lib.hid (And.intro (T7.out.1.below hb) (And.intro (T7.out.2.1.below hb) T7.out.2.2))
  clear hb x0 x1 k1 T7
  obtain ⟨a, rfl, y0, y1, y2⟩ := (H.out.1.below K5.out.1) I x H.out.2.2.2.2.2.2.2.2.2.2.2.2.2.2.2.2.1
  have i0 : ¬ ((I : Int) < 0) := by omega
  have i1 : (0 : Int) ≤ (I : Int) := by omega
  have i2 : (I : Int) < (l.length : Int) := by have := (List.getElem?_eq_some_iff.1 H.out.2.2.2.2.2.2.2.2.2.2.2.2.2.2.2.2.1).1; omega
  go_wp2_with fail
  refine (fits_t x.t xs x.ao bo x.cap bc _ ((H.out.2.1 x (List.mem_of_getElem? H.out.2.2.2.2.2.2.2.2.2.2.2.2.2.2.2.2.1)).keep K5.out.1) (H.out.2.2.2.2.2.1.below K5.out.1) H.out.2.2.2.2.2.2.2.2.2.2.2.2.1.1 H.out.2.2.2.2.2.2.1 (H.out.2.2.2.2.2.2.2.2.1.keep K5.out.1) 0 H.out.2.2.2.2.2.2.2.2.2.2.2.2.2.2.2.2.2.1).mono ?_
  rintro e w6 ⟨rfl, hb⟩
  have K6 := Lib.hid (And.intro (step0 K5.out.1 hb) (K5.out.2.below hb))
  have T6 := Lib.hid (And.intro (T5.out.1.below hb) (And.intro (T5.out.2.1.below hb) T5.out.2.2))
  clear hb y0 y1 y2 T5
  obtain ⟨y0, y1, y2⟩ : AtT w6 (a.add (I * 3)) x := by
    obtain ⟨a', ha', h'⟩ := (H.out.1.below K6.out.1) I x H.out.2.2.2.2.2.2.2.2.2.2.2.2.2.2.2.2.1
    cases ha'
    exact h'
  go_wp2_with fail
  refine wp_region_held_drew (S := fun v => Below w6.heap.size w6 v) (by kernel_rfl) (below_drew1 (Below.refl _ _)) (fun hH0 => ?_)
  refine wpAnyH_take (i := 0) (oi := _) (v := .slice (some a) l.length cap) rfl (by kernel_rfl) (by kernel_rfl) (by kernel_rfl) (fun _ _ _ h => h) (Or.inl ⟨by rfl, by intro v hv; go_simp⟩) hH0 ?_
  try simp only [Act.put, List.getElem_toArray, List.getElem_cons_succ, List.getElem_cons_zero, List.setIfInBounds_toArray, List.set_cons_zero, List.set_cons_succ]
  refine wpAnyH_take (i := 1) (oi := _) (v := .int .i64 (I : Int)) rfl (by kernel_rfl) (by kernel_rfl) (by kernel_rfl) (fun _ _ _ h => h) (Or.inl ⟨by rfl, by intro v hv; go_simp⟩) hH0 ?_
  try simp only [Act.put, List.getElem_toArray, List.getElem_cons_succ, List.getElem_cons_zero, List.setIfInBounds_toArray, List.set_cons_zero, List.set_cons_succ]
  refine wpAnyH_take (i := 2) (oi := _) (v := .pointer (some (a.add (I * 3)))) rfl (by kernel_rfl) (by kernel_rfl) (by kernel_rfl) (fun _ _ _ h => h) (Or.inl ⟨by rfl, by intro v hv; go_simp⟩) hH0 ?_
  try simp only [Act.put, List.getElem_toArray, List.getElem_cons_succ, List.getElem_cons_zero, List.setIfInBounds_toArray, List.set_cons_zero, List.set_cons_succ]
  refine wpAnyH_take (i := 3) (oi := _) (v := .agg #[.string ⟨x.t.name.toArray⟩, .int .i64 x.t.keys, .slice x.ao x.t.cs.length x.cap]) rfl (by kernel_rfl) (by kernel_rfl) (by kernel_rfl) (fun _ _ _ h => h) (Or.inl ⟨by rfl, by intro v hv; have z0 := keep0 y0 hv; have z1 := keep0 y1 hv; have z2 := keep0 y2 hv; clear y0 y1 y2; go_simp⟩) hH0 ?_
  try simp only [Act.put, List.getElem_toArray, List.getElem_cons_succ, List.getElem_cons_zero, List.setIfInBounds_toArray, List.set_cons_zero, List.set_cons_succ]
  refine wpAnyH_take (i := 4) (oi := _) (v := .agg #[.int .i64 c.kind, .string ⟨c.table.toArray⟩, .string ⟨c.other.toArray⟩, .string ⟨c.to.toArray⟩, .string ⟨c.also.toArray⟩, .string ⟨c.name.toArray⟩, .int .i64 c.type, .slice no c.names.length nc, .string ⟨c.col.name.toArray⟩, .int .i64 c.col.kind, .bool c.col.null, .int .i64 c.col.d.k, .int .i64 c.col.d.n, .int .u64 c.col.d.b, .string ⟨c.col.d.s.toArray⟩, .string ⟨c.df.name.toArray⟩, .int .i64 c.df.keys, .slice dO c.df.cs.length dc]) rfl (by kernel_rfl) (by kernel_rfl) (by kernel_rfl) (fun _ _ _ h => h) (yieldsIf_load_mid (by rfl) _ _ rfl w.heap.size 0 rfl [.int .i64 c.kind, .string ⟨c.table.toArray⟩, .string ⟨c.other.toArray⟩, .string ⟨c.to.toArray⟩, .string ⟨c.also.toArray⟩, .string ⟨c.name.toArray⟩, .int .i64 c.type, .slice no c.names.length nc, .string ⟨c.col.name.toArray⟩, .int .i64 c.col.kind, .bool c.col.null, .int .i64 c.col.d.k, .int .i64 c.col.d.n, .int .u64 c.col.d.b, .string ⟨c.col.d.s.toArray⟩, .string ⟨c.df.name.toArray⟩, .int .i64 c.df.keys, .slice dO c.df.cs.length dc] _ (fun v hv => rng (K6.out.2.below hv)) Tryz.underlying32 rfl infoCh) hH0 ?_
  try simp only [Act.put, List.getElem_toArray, List.getElem_cons_succ, List.getElem_cons_zero, List.setIfInBounds_toArray, List.set_cons_zero, List.set_cons_succ]
  refine wpAnyH_take (i := 5) (oi := _) (v := .slice bo xs.length bc) rfl (by kernel_rfl) (by kernel_rfl) (by kernel_rfl) (fun _ _ _ h => h) (Or.inl ⟨by rfl, by intro v hv; go_simp⟩) hH0 ?_
  try simp only [Act.put, List.getElem_toArray, List.getElem_cons_succ, List.getElem_cons_zero, List.setIfInBounds_toArray, List.set_cons_zero, List.set_cons_succ]
  clear y0 y1 y2
  refine wpAnyH_ready (rs := [6]) (by kernel_rfl) (by simp) ?_
  refine AllReadyH.cons (o := _) rfl (fun K' hK => ?_) AllReadyH.nil
  go_simp
  refine (row_is c no nc dO dc x.t x.ao x.cap xs _ rfl bo bc _ (H.out.2.2.2.2.2.2.2.2.1.keep (step0 K6.out.1 hH0)) ((H.out.2.1 x (List.mem_of_getElem? H.out.2.2.2.2.2.2.2.2.2.2.2.2.2.2.2.2.1)).keep (step0 K6.out.1 hH0)) (H.out.2.2.2.2.2.1.below (step0 K6.out.1 hH0)) H.out.2.2.2.2.2.2.2.2.2.2.2.2.1.1 H.out.2.2.2.2.2.2.1 (H.out.2.2.2.2.2.2.2.2.2.1.below (step0 K6.out.1 hH0)) (H.out.2.2.1.below (step0 K6.out.1 hH0)) (by have := H.out.2.2.2.2.2.2.2.2.2.2.2.1.1.1; omega) H.out.2.2.2.2.2.2.2.1 (rs, F) H.out.2.2.2.2.2.2.2.2.2.2.2.2.2.2.2.2.2.2.1).mono ?_
  rintro e w7 ⟨⟨o8, c8, zs, rfl, hzx, hzs, hzf, _⟩, hb⟩
  simp only at hzx
  have bw : Below w6.heap.size w6 w7 := step0 hH0 hb
  go_wp2_with fail
  refine hK.out _ _ bw (fun _ => ?_)
  clear hK K'
  have K7 := Lib.hid (And.intro (step0 K6.out.1 bw) (K6.out.2.below bw))
  have T8 := Lib.hid (And.intro (T6.out.1.below bw) (And.intro (T6.out.2.1.below bw) T6.out.2.2))
  have Z8 := Lib.hid (And.intro hzs (And.intro hzf hzx))
  clear hb hzx hzs hzf hH0 T6
  try simp only [Act.put, List.getElem_toArray, List.getElem_cons_succ, List.getElem_cons_zero, List.setIfInBounds_toArray, List.set_cons_zero, List.set_cons_succ]
  refine wpAnyH_take (i := 7) (oi := _) (v := .tuple #[.slice o8 zs.length c8, .int .i64 F]) rfl (by kernel_rfl) (by kernel_rfl) (by kernel_rfl) (fun _ _ _ h => h) (Or.inl ⟨by rfl, by intro v hv; go_simp⟩) bw ?_
  try simp only [Act.put, List.getElem_toArray, List.getElem_cons_succ, List.getElem_cons_zero, List.setIfInBounds_toArray, List.set_cons_zero, List.set_cons_succ]
  refine wpAnyH_take (i := 8) (oi := _) (v := .slice o8 zs.length c8) rfl (by kernel_rfl) (by kernel_rfl) (by kernel_rfl) (fun _ _ _ h => h) (Or.inl ⟨by rfl, by intro v hv; go_simp⟩) bw ?_
  try simp only [Act.put, List.getElem_toArray, List.getElem_cons_succ, List.getElem_cons_zero, List.setIfInBounds_toArray, List.set_cons_zero, List.set_cons_succ]
  refine wpAnyH_take (i := 9) (oi := _) (v := .int .i64 F) rfl (by kernel_rfl) (by kernel_rfl) (by kernel_rfl) (fun _ _ _ h => h) (Or.inl ⟨by rfl, by intro v hv; go_simp⟩) bw ?_
  try simp only [Act.put, List.getElem_toArray, List.getElem_cons_succ, List.getElem_cons_zero, List.setIfInBounds_toArray, List.set_cons_zero, List.set_cons_succ]
  refine wpAnyH_take (i := 10) (oi := _) (v := .slice o8 zs.length c8) rfl (by kernel_rfl) (by kernel_rfl) (by kernel_rfl) (fun _ _ _ h => h) (Or.inl ⟨by rfl, by intro v hv; go_simp⟩) bw ?_
  try simp only [Act.put, List.getElem_toArray, List.getElem_cons_succ, List.getElem_cons_zero, List.setIfInBounds_toArray, List.set_cons_zero, List.set_cons_succ]
  refine wpAnyH_take (i := 11) (oi := _) (v := .int .i64 F) rfl (by kernel_rfl) (by kernel_rfl) (by kernel_rfl) (fun _ _ _ h => h) (Or.inl ⟨by rfl, by intro v hv; go_simp⟩) bw ?_
  try simp only [Act.put, List.getElem_toArray, List.getElem_cons_succ, List.getElem_cons_zero, List.setIfInBounds_toArray, List.set_cons_zero, List.set_cons_succ]
  refine wpAnyH_done (by kernel_rfl) ?_ _
  clear bw
  have e0 := bne_t H.out.2.2.2.2.2.2.2.2.2.2.2.2.2.2.2.2.2.2.2.1
  have x0 := K7.out.2.cell 0
  have k4 : (c.kind == 4) = true := by rw [H.out.2.2.2.2.2.2.2.2.2.2.2.2.2.2.2.2.2.2.2.2]; rfl
  simp at x0
  go_wp2_with fail
  refine (awake_any _ (H.out.2.2.2.2.2.2.2.2.1.keep K7.out.1) (H.out.2.2.2.2.2.2.2.2.2.1.below K7.out.1)).mono ?_
  rintro e w9 ⟨rfl, hb⟩
  have KZ := Lib.hid (step0 K7.out.1 hb)
  clear hb
  go_wp2
  go_ret
  exact ⟨rfl, KZ.out⟩

set_option maxHeartbeats 8000000 in
set_option maxRecDepth 100000 in
theorem fit_h (l : List TV) (c : Ch) (xs : List V) (ao no dO bo : Option Addr) (cap nc dc bc : Nat) (w : World) (hl : SlV w ao l) (hf : Fit w l) (hns : SlS w no c.names) (hdf : At3 w c.df dO dc) (hcol : c.col.d.ok) (hx : Sl w bo xs) (ho : ∀ x ∈ xs, x.ok) (hcb : xs.length ≤ bc) (hg : Env w) (hG : Km.Env w) (h1 : (l.length ≤ 20 ∧ ∀ x ∈ l, Tb x.t)) (h2 : c.few) (h3 : (xs.length ≤ 30 ∧ ∀ x ∈ xs, x.s.length ≤ 2000)) (ts : List T) (hR : c.tgt (((tat (tvs l) c.table).col c.name).d.to c.type) (tvs l) = (ts, 0)) (h4 : ¬ c.kind = 1) (I : Nat) (x : TV) (hI : Nm.fi (nms (tvs l)) c.table = (I : Int)) (hIx : l[I]? = some x) (hfit : x.t.fit xs = 0) (rs : List (List V)) (hrow : c.row x.t xs = (rs, 0)) (hfz : Fz x.t xs ts rs) (hts : ts.length ≤ 1000) :
    Calls Tryz.prog 5 #[.slice ao l.length cap, .agg #[.int .i64 c.kind, .string ⟨c.table.toArray⟩, .string ⟨c.other.toArray⟩, .string ⟨c.to.toArray⟩, .string ⟨c.also.toArray⟩, .string ⟨c.name.toArray⟩, .int .i64 c.type, .slice no c.names.length nc, .string ⟨c.col.name.toArray⟩, .int .i64 c.col.kind, .bool c.col.null, .int .i64 c.col.d.k, .int .i64 c.col.d.n, .int .u64 c.col.d.b, .string ⟨c.col.d.s.toArray⟩, .string ⟨c.df.name.toArray⟩, .int .i64 c.df.keys, .slice dO c.df.cs.length dc], .slice bo xs.length bc] w fun e w' => e = .returned (.bool true) ∧ Below w.heap.size w w' := by
  have H := Lib.hid (And.intro hl (And.intro hf (And.intro hns (And.intro hdf (And.intro hcol (And.intro hx (And.intro ho (And.intro hcb (And.intro hg (And.intro hG (And.intro h1 (And.intro h2 (And.intro h3 (And.intro hR (And.intro h4 (And.intro hI (And.intro hIx (And.intro hfit (And.intro hrow (And.intro hfz hts))))))))))))))))))))
  have hmx : Tryz.prog.follows .mixedOrders = true := by kernel_rfl
  obtain ⟨W2, hW2⟩ : ∃ W2, w.alloc (.cells #[.int .i64 c.kind, .string ⟨c.table.toArray⟩, .string ⟨c.other.toArray⟩, .string ⟨c.to.toArray⟩, .string ⟨c.also.toArray⟩, .string ⟨c.name.toArray⟩, .int .i64 c.type, .slice no c.names.length nc, .string ⟨c.col.name.toArray⟩, .int .i64 c.col.kind, .bool c.col.null, .int .i64 c.col.d.k, .int .i64 c.col.d.n, .int .u64 c.col.d.b, .string ⟨c.col.d.s.toArray⟩, .string ⟨c.df.name.toArray⟩, .int .i64 c.df.keys, .slice dO c.df.cs.length dc] 32) = W2 := ⟨_, rfl⟩
  have q1 : Blk W2 w.heap.size #[.int .i64 c.kind, .string ⟨c.table.toArray⟩, .string ⟨c.other.toArray⟩, .string ⟨c.to.toArray⟩, .string ⟨c.also.toArray⟩, .string ⟨c.name.toArray⟩, .int .i64 c.type, .slice no c.names.length nc, .string ⟨c.col.name.toArray⟩, .int .i64 c.col.kind, .bool c.col.null, .int .i64 c.col.d.k, .int .i64 c.col.d.n, .int .u64 c.col.d.b, .string ⟨c.col.d.s.toArray⟩, .string ⟨c.df.name.toArray⟩, .int .i64 c.df.keys, .slice dO c.df.cs.length dc] 32 := hW2 ▸ Blk.new w _ _
  have K := Lib.hid (And.intro (show Below w.heap.size w W2 from hW2 ▸ below1 w _) q1)
  clear q1 hl hf hns hdf hcol hx ho hcb hg hG h1 h2 h3 hR h4 hI hIx hfit hrow hfz hts
  go_enter Tryz.func5, Tryz.ntmps5
  go_wp2_with fail
  refine (ftab_yes l ao cap _ (H.out.1.below K.out.1) (H.out.2.1.below K.out.1) H.out.2.2.2.2.2.2.2.2.2.2.1).mono ?_
  rintro e w1 ⟨rfl, hb⟩
  have K1 := Lib.hid (And.intro (step0 K.out.1 hb) (K.out.2.below hb))
  clear hb
  go_wp2_with ((refine (?_ : wpList _ _ _ (Oper.mk _ (Op.load 32 _) _ _ _ _ :: _) _ _)); refine wl_load_g (by rfl) 32 _ rfl w.heap.size 0 rfl [.int .i64 c.kind, .string ⟨c.table.toArray⟩, .string ⟨c.other.toArray⟩, .string ⟨c.to.toArray⟩, .string ⟨c.also.toArray⟩, .string ⟨c.name.toArray⟩, .int .i64 c.type, .slice no c.names.length nc, .string ⟨c.col.name.toArray⟩, .int .i64 c.col.kind, .bool c.col.null, .int .i64 c.col.d.k, .int .i64 c.col.d.n, .int .u64 c.col.d.b, .string ⟨c.col.d.s.toArray⟩, .string ⟨c.df.name.toArray⟩, .int .i64 c.df.keys, .slice dO c.df.cs.length dc] _ (rng K1.out.2) Tryz.underlying32 rfl infoCh ?_; go_frame)
  refine (cfew_yes c no nc dO dc _ (H.out.2.2.1.below K1.out.1) (H.out.2.2.2.1.1.below K1.out.1) H.out.2.2.2.2.2.2.2.2.2.2.2.1.1 H.out.2.2.2.2.2.2.2.2.2.2.2.1.2.1 H.out.2.2.2.2.2.2.2.2.2.2.2.1.2.2.1 H.out.2.2.2.2.2.2.2.2.2.2.2.1.2.2.2).mono ?_
  rintro e w2 ⟨rfl, hb⟩
  have K2 := Lib.hid (And.intro (step0 K1.out.1 hb) (K1.out.2.below hb))
  clear hb
  go_wp2_with fail
  refine (few_yes xs bo bc _ (H.out.2.2.2.2.2.1.below K2.out.1) H.out.2.2.2.2.2.2.2.2.2.2.2.2.1.1 H.out.2.2.2.2.2.2.2.2.2.2.2.2.1.2).mono ?_
  rintro e w3 ⟨rfl, hb⟩
  have K3 := Lib.hid (And.intro (step0 K2.out.1 hb) (K2.out.2.below hb))
  clear hb
  go_wp2_with ((refine (?_ : wpList _ _ _ (Oper.mk _ (Op.load 32 _) _ _ _ _ :: _) _ _)); refine wl_load_g (by rfl) 32 _ rfl w.heap.size 0 rfl [.int .i64 c.kind, .string ⟨c.table.toArray⟩, .string ⟨c.other.toArray⟩, .string ⟨c.to.toArray⟩, .string ⟨c.also.toArray⟩, .string ⟨c.name.toArray⟩, .int .i64 c.type, .slice no c.names.length nc, .string ⟨c.col.name.toArray⟩, .int .i64 c.col.kind, .bool c.col.null, .int .i64 c.col.d.k, .int .i64 c.col.d.n, .int .u64 c.col.d.b, .string ⟨c.col.d.s.toArray⟩, .string ⟨c.df.name.toArray⟩, .int .i64 c.df.keys, .slice dO c.df.cs.length dc] _ (rng K3.out.2) Tryz.underlying32 rfl infoCh ?_; go_frame)
  refine (targets_all c no nc dO dc l ao cap _ (H.out.2.2.2.2.2.2.2.2.1.keep K3.out.1) (H.out.2.2.2.2.2.2.2.2.2.1.below K3.out.1) (H.out.1.below K3.out.1) (H.out.2.1.below K3.out.1) (by have := H.out.2.2.2.2.2.2.2.2.2.2.1.1; omega) (H.out.2.2.2.1.keep K3.out.1) H.out.2.2.2.2.1 (H.out.2.2.1.below K3.out.1) (by have := H.out.2.2.2.2.2.2.2.2.2.2.2.1.1.1; omega) (ts, 0) H.out.2.2.2.2.2.2.2.2.2.2.2.2.2.1).mono ?_
  rintro e w4 ⟨htr, hb⟩
  have K4 := Lib.hid (And.intro (step0 K3.out.1 hb) (K3.out.2.below hb))
  have B4 := Lib.hid hb
  clear hb
  rcases htr with ⟨hE, _⟩ | ⟨_, v, ys, rfl, hO, hts, hfo⟩
  case inl => exact absurd rfl hE
  obtain ⟨o7, c7, rfl, _, hs7⟩ := hO.sl
  have T7 := Lib.hid (And.intro hs7 (And.intro hfo.fit hts))
  clear hO hs7 hts hfo
  have x0 := K4.out.2.cell 0
  have x1 := K4.out.2.cell 1
  simp at x0 x1
  have k1 : (c.kind == 1) = false := beq_f H.out.2.2.2.2.2.2.2.2.2.2.2.2.2.2.1
  go_wp2_with fail
  refine (cfind_is l c.table ao cap _ (I : Int) (H.out.1.below K4.out.1) (by have := H.out.2.2.2.2.2.2.2.2.2.2.1.1; omega) H.out.2.2.2.2.2.2.2.2.2.2.2.2.2.2.2.1).mono ?_
  rintro e w5 ⟨rfl, hb⟩
  have K5 := Lib.hid (And.intro (step0 K4.out.1 hb) (K4.out.2.below hb))
  have T5 := Lib.hid (And.intro (T7.out.1.below hb) (And.intro (T7.out.2.1.below hb) T7.out.2.2))
  clear hb x0 x1 k1 T7
  obtain ⟨a, rfl, y0, y1, y2⟩ := (H.out.1.below K5.out.1) I x H.out.2.2.2.2.2.2.2.2.2.2.2.2.2.2.2.2.1
  have i0 : ¬ ((I : Int) < 0) := by omega
  have i1 : (0 : Int) ≤ (I : Int) := by omega
  have i2 : (I : Int) < (l.length : Int) := by have := (List.getElem?_eq_some_iff.1 H.out.2.2.2.2.2.2.2.2.2.2.2.2.2.2.2.2.1).1; omega
  go_wp2_with fail
  refine (fits_t x.t xs x.ao bo x.cap bc _ ((H.out.2.1 x (List.mem_of_getElem? H.out.2.2.2.2.2.2.2.2.2.2.2.2.2.2.2.2.1)).keep K5.out.1) (H.out.2.2.2.2.2.1.below K5.out.1) H.out.2.2.2.2.2.2.2.2.2.2.2.2.1.1 H.out.2.2.2.2.2.2.1 (H.out.2.2.2.2.2.2.2.2.1.keep K5.out.1) 0 H.out.2.2.2.2.2.2.2.2.2.2.2.2.2.2.2.2.2.1).mono ?_
  rintro e w6 ⟨rfl, hb⟩
  have K6 := Lib.hid (And.intro (step0 K5.out.1 hb) (K5.out.2.below hb))
  have T6 := Lib.hid (And.intro (T5.out.1.below hb) (And.intro (T5.out.2.1.below hb) T5.out.2.2))
  clear hb y0 y1 y2 T5
  obtain ⟨y0, y1, y2⟩ : AtT w6 (a.add (I * 3)) x := by
    obtain ⟨a', ha', h'⟩ := (H.out.1.below K6.out.1) I x H.out.2.2.2.2.2.2.2.2.2.2.2.2.2.2.2.2.1
    cases ha'
    exact h'
  go_wp2_with fail
  refine wp_region_held_drew (S := fun v => Below w6.heap.size w6 v) (by kernel_rfl) (below_drew1 (Below.refl _ _)) (fun hH0 => ?_)
  refine wpAnyH_take (i := 0) (oi := _) (v := .slice (some a) l.length cap) rfl (by kernel_rfl) (by kernel_rfl) (by kernel_rfl) (fun _ _ _ h => h) (Or.inl ⟨by rfl, by intro v hv; go_simp⟩) hH0 ?_
  try simp only [Act.put, List.getElem_toArray, List.getElem_cons_succ, List.getElem_cons_zero, List.setIfInBounds_toArray, List.set_cons_zero, List.set_cons_succ]
  refine wpAnyH_take (i := 1) (oi := _) (v := .int .i64 (I : Int)) rfl (by kernel_rfl) (by kernel_rfl) (by kernel_rfl) (fun _ _ _ h => h) (Or.inl ⟨by rfl, by intro v hv; go_simp⟩) hH0 ?_
  try simp only [Act.put, List.getElem_toArray, List.getElem_cons_succ, List.getElem_cons_zero, List.setIfInBounds_toArray, List.set_cons_zero, List.set_cons_succ]
  refine wpAnyH_take (i := 2) (oi := _) (v := .pointer (some (a.add (I * 3)))) rfl (by kernel_rfl) (by kernel_rfl) (by kernel_rfl) (fun _ _ _ h => h) (Or.inl ⟨by rfl, by intro v hv; go_simp⟩) hH0 ?_
  try simp only [Act.put, List.getElem_toArray, List.getElem_cons_succ, List.getElem_cons_zero, List.setIfInBounds_toArray, List.set_cons_zero, List.set_cons_succ]
  refine wpAnyH_take (i := 3) (oi := _) (v := .agg #[.string ⟨x.t.name.toArray⟩, .int .i64 x.t.keys, .slice x.ao x.t.cs.length x.cap]) rfl (by kernel_rfl) (by kernel_rfl) (by kernel_rfl) (fun _ _ _ h => h) (Or.inl ⟨by rfl, by intro v hv; have z0 := keep0 y0 hv; have z1 := keep0 y1 hv; have z2 := keep0 y2 hv; clear y0 y1 y2; go_simp⟩) hH0 ?_
  try simp only [Act.put, List.getElem_toArray, List.getElem_cons_succ, List.getElem_cons_zero, List.setIfInBounds_toArray, List.set_cons_zero, List.set_cons_succ]
  refine wpAnyH_take (i := 4) (oi := _) (v := .agg #[.int .i64 c.kind, .string ⟨c.table.toArray⟩, .string ⟨c.other.toArray⟩, .string ⟨c.to.toArray⟩, .string ⟨c.also.toArray⟩, .string ⟨c.name.toArray⟩, .int .i64 c.type, .slice no c.names.length nc, .string ⟨c.col.name.toArray⟩, .int .i64 c.col.kind, .bool c.col.null, .int .i64 c.col.d.k, .int .i64 c.col.d.n, .int .u64 c.col.d.b, .string ⟨c.col.d.s.toArray⟩, .string ⟨c.df.name.toArray⟩, .int .i64 c.df.keys, .slice dO c.df.cs.length dc]) rfl (by kernel_rfl) (by kernel_rfl) (by kernel_rfl) (fun _ _ _ h => h) (yieldsIf_load_mid (by rfl) _ _ rfl w.heap.size 0 rfl [.int .i64 c.kind, .string ⟨c.table.toArray⟩, .string ⟨c.other.toArray⟩, .string ⟨c.to.toArray⟩, .string ⟨c.also.toArray⟩, .string ⟨c.name.toArray⟩, .int .i64 c.type, .slice no c.names.length nc, .string ⟨c.col.name.toArray⟩, .int .i64 c.col.kind, .bool c.col.null, .int .i64 c.col.d.k, .int .i64 c.col.d.n, .int .u64 c.col.d.b, .string ⟨c.col.d.s.toArray⟩, .string ⟨c.df.name.toArray⟩, .int .i64 c.df.keys, .slice dO c.df.cs.length dc] _ (fun v hv => rng (K6.out.2.below hv)) Tryz.underlying32 rfl infoCh) hH0 ?_
  try simp only [Act.put, List.getElem_toArray, List.getElem_cons_succ, List.getElem_cons_zero, List.setIfInBounds_toArray, List.set_cons_zero, List.set_cons_succ]
  refine wpAnyH_take (i := 5) (oi := _) (v := .slice bo xs.length bc) rfl (by kernel_rfl) (by kernel_rfl) (by kernel_rfl) (fun _ _ _ h => h) (Or.inl ⟨by rfl, by intro v hv; go_simp⟩) hH0 ?_
  try simp only [Act.put, List.getElem_toArray, List.getElem_cons_succ, List.getElem_cons_zero, List.setIfInBounds_toArray, List.set_cons_zero, List.set_cons_succ]
  clear y0 y1 y2
  refine wpAnyH_ready (rs := [6]) (by kernel_rfl) (by simp) ?_
  refine AllReadyH.cons (o := _) rfl (fun K' hK => ?_) AllReadyH.nil
  go_simp
  refine (row_is c no nc dO dc x.t x.ao x.cap xs _ rfl bo bc _ (H.out.2.2.2.2.2.2.2.2.1.keep (step0 K6.out.1 hH0)) ((H.out.2.1 x (List.mem_of_getElem? H.out.2.2.2.2.2.2.2.2.2.2.2.2.2.2.2.2.1)).keep (step0 K6.out.1 hH0)) (H.out.2.2.2.2.2.1.below (step0 K6.out.1 hH0)) H.out.2.2.2.2.2.2.2.2.2.2.2.2.1.1 H.out.2.2.2.2.2.2.1 (H.out.2.2.2.2.2.2.2.2.2.1.below (step0 K6.out.1 hH0)) (H.out.2.2.1.below (step0 K6.out.1 hH0)) (by have := H.out.2.2.2.2.2.2.2.2.2.2.2.1.1.1; omega) H.out.2.2.2.2.2.2.2.1 (rs, 0) H.out.2.2.2.2.2.2.2.2.2.2.2.2.2.2.2.2.2.2.1).mono ?_
  rintro e w7 ⟨⟨o8, c8, zs, rfl, hzx, hzs, hzf, _⟩, hb⟩
  simp only at hzx
  have bw : Below w6.heap.size w6 w7 := step0 hH0 hb
  go_wp2_with fail
  refine hK.out _ _ bw (fun _ => ?_)
  clear hK K'
  have K7 := Lib.hid (And.intro (step0 K6.out.1 bw) (K6.out.2.below bw))
  have T8 := Lib.hid (And.intro (T6.out.1.below bw) (And.intro (T6.out.2.1.below bw) T6.out.2.2))
  have Z8 := Lib.hid (And.intro hzs (And.intro hzf hzx))
  clear hb hzx hzs hzf hH0 T6
  try simp only [Act.put, List.getElem_toArray, List.getElem_cons_succ, List.getElem_cons_zero, List.setIfInBounds_toArray, List.set_cons_zero, List.set_cons_succ]
  refine wpAnyH_take (i := 7) (oi := _) (v := .tuple #[.slice o8 zs.length c8, .int .i64 0]) rfl (by kernel_rfl) (by kernel_rfl) (by kernel_rfl) (fun _ _ _ h => h) (Or.inl ⟨by rfl, by intro v hv; go_simp⟩) bw ?_
  try simp only [Act.put, List.getElem_toArray, List.getElem_cons_succ, List.getElem_cons_zero, List.setIfInBounds_toArray, List.set_cons_zero, List.set_cons_succ]
  refine wpAnyH_take (i := 8) (oi := _) (v := .slice o8 zs.length c8) rfl (by kernel_rfl) (by kernel_rfl) (by kernel_rfl) (fun _ _ _ h => h) (Or.inl ⟨by rfl, by intro v hv; go_simp⟩) bw ?_
  try simp only [Act.put, List.getElem_toArray, List.getElem_cons_succ, List.getElem_cons_zero, List.setIfInBounds_toArray, List.set_cons_zero, List.set_cons_succ]
  refine wpAnyH_take (i := 9) (oi := _) (v := .int .i64 0) rfl (by kernel_rfl) (by kernel_rfl) (by kernel_rfl) (fun _ _ _ h => h) (Or.inl ⟨by rfl, by intro v hv; go_simp⟩) bw ?_
  try simp only [Act.put, List.getElem_toArray, List.getElem_cons_succ, List.getElem_cons_zero, List.setIfInBounds_toArray, List.set_cons_zero, List.set_cons_succ]
  refine wpAnyH_take (i := 10) (oi := _) (v := .slice o8 zs.length c8) rfl (by kernel_rfl) (by kernel_rfl) (by kernel_rfl) (fun _ _ _ h => h) (Or.inl ⟨by rfl, by intro v hv; go_simp⟩) bw ?_
  try simp only [Act.put, List.getElem_toArray, List.getElem_cons_succ, List.getElem_cons_zero, List.setIfInBounds_toArray, List.set_cons_zero, List.set_cons_succ]
  refine wpAnyH_take (i := 11) (oi := _) (v := .int .i64 0) rfl (by kernel_rfl) (by kernel_rfl) (by kernel_rfl) (fun _ _ _ h => h) (Or.inl ⟨by rfl, by intro v hv; go_simp⟩) bw ?_
  try simp only [Act.put, List.getElem_toArray, List.getElem_cons_succ, List.getElem_cons_zero, List.setIfInBounds_toArray, List.set_cons_zero, List.set_cons_succ]
  refine wpAnyH_done (by kernel_rfl) ?_ _
  clear bw
  have hlen : zs.length = ys.length := by
    have h1 := congrArg List.length Z8.out.2.2
    have h2 := congrArg List.length T8.out.2.2
    have h3 := H.out.2.2.2.2.2.2.2.2.2.2.2.2.2.2.2.2.2.2.2.1.1
    simp only [rxs, tvs, List.length_map] at h1 h2
    omega
  have HN := Lib.hid hlen
  rw [hlen]
  clear hlen
  obtain ⟨y0, y1, y2⟩ : AtT w7 (a.add (I * 3)) x := by
    obtain ⟨a', ha', h'⟩ := (H.out.1.below K7.out.1) I x H.out.2.2.2.2.2.2.2.2.2.2.2.2.2.2.2.2.1
    cases ha'
    exact h'
  obtain ⟨kk, hkk⟩ : ∃ k, x.t.key xs = k := ⟨_, rfl⟩
  go_wp2_with fail
  refine (key_t x.t xs x.ao bo x.cap bc _ ((H.out.2.1 x (List.mem_of_getElem? H.out.2.2.2.2.2.2.2.2.2.2.2.2.2.2.2.2.1)).keep K7.out.1) (H.out.2.2.2.2.2.1.below K7.out.1) H.out.2.2.2.2.2.2.2.2.2.2.2.2.1.1 H.out.2.2.2.2.2.2.1 (H.out.2.2.2.2.2.2.2.2.1.keep K7.out.1) H.out.2.2.2.2.2.2.2.1 0 H.out.2.2.2.2.2.2.2.2.2.2.2.2.2.2.2.2.2.1).mono ?_
  rintro e w8 ⟨rfl, hb⟩
  rw [hkk]
  have KK := Lib.hid hkk
  have K8 := Lib.hid (step0 K7.out.1 hb)
  have T9 := Lib.hid (And.intro (T8.out.1.below hb) (And.intro (T8.out.2.1.below hb) T8.out.2.2))
  have Z9 := Lib.hid (And.intro (Z8.out.1.below hb) (And.intro (Z8.out.2.1.keep hb) Z8.out.2.2))
  clear hb hkk y0 y1 y2 T8 Z8
  obtain ⟨n, hn⟩ : ∃ n, ys.length = n := ⟨_, rfl⟩
  rw [hn]
  have HN2 := Lib.hid hn
  have h64 := Lib.hid (show n ≤ 1000 by have := H.out.2.2.2.2.2.2.2.2.2.2.2.2.2.2.2.2.2.2.2.2; have h2 := congrArg List.length T9.out.2.2; simp only [tvs, List.length_map] at h2; omega)
  clear hn
  go_wp2
  go_loopw [14] (fun i wr => ∃ j : Nat, i = .int .i64 j ∧ j ≤ n ∧ Below w8.heap.size w8 wr) (fun i _ => n - (intOf i).toNat)
  case atStart => exact ⟨0, rfl, Nat.zero_le _, Below.refl _ _⟩
  case round =>
    obtain ⟨j, rfl, hj, hb⟩ := hrel
    have J := Lib.hid hb
    clear hb
    by_cases hlt : j < n
    · have hju : j < ys.length := by have := HN2.out; omega
      have hjz : j < zs.length := by have := HN.out; omega
      obtain ⟨u, hu⟩ : ∃ u, ys[j]? = some u := ⟨_, List.getElem?_eq_getElem hju⟩
      obtain ⟨z, hz⟩ : ∃ z, zs[j]? = some z := ⟨_, List.getElem?_eq_getElem hjz⟩
      obtain ⟨ga, rfl, g0, g1, g2⟩ := (T9.out.1.below J.out) j u hu
      obtain ⟨ra, rfl, r0⟩ := (Z9.out.1.below J.out) j z hz
      have i3 : (0 : Int) ≤ (j : Int) := by omega
      have i4 : (j : Int) < (n : Int) := by omega
      have hw : wrap64 ((j : Int) + 1) = (j : Int) + 1 := by have := h64.out; exact wrap_in _ (by omega) (by omega)
      have fz := H.out.2.2.2.2.2.2.2.2.2.2.2.2.2.2.2.2.2.2.2.1.2 j u.t z.xs (by rw [← T9.out.2.2]; simp [tvs, hu]) (by rw [← Z9.out.2.2]; simp [rxs, hz])
      have hzm := List.mem_of_getElem? hz
      have hum := List.mem_of_getElem? hu
      have uk : u.t.key z.xs = kk := by
        rw [← KK.out]
        unfold T.key
        rw [if_neg (by simpa using fz.1), if_neg (by simpa using H.out.2.2.2.2.2.2.2.2.2.2.2.2.2.2.2.2.2.1), fz.2.1, fz.2.2]
      have zc : z.xs.length ≤ z.cap := by
        obtain ⟨_, _, e, hc, _⟩ := (Z9.out.2.1 z hzm).sl
        injection e with _ _ e3
        omega
      have z30 : z.xs.length ≤ 30 := by
        obtain ⟨q0, q1, _⟩ := T.fit_ok fz.1
        have := (T.ck_ok q0).2.2.1
        omega
      have zok : ∀ x ∈ z.xs, x.ok := by
        have h1 := row_in (c := c) (t := x.t) (row := xs) H.out.2.2.2.2.2.2.1 H.out.2.2.2.2.1
        rw [H.out.2.2.2.2.2.2.2.2.2.2.2.2.2.2.2.2.2.2.1] at h1
        exact h1 z.xs (by rw [← Z9.out.2.2]; exact List.mem_map_of_mem hzm)
      have P := Lib.hid (And.intro fz.1 (And.intro uk (And.intro zc (And.intro z30 (And.intro zok (And.intro ((T9.out.2.1 u hum).keep J.out) ((Z9.out.2.1.in z hzm).below J.out)))))))
      have JL := Lib.hid hlt
      clear fz uk zc z30 zok hzm hum hu hz hju hjz hlt
      go_wp2_with fail
      refine wp_region_held_drew (S := fun v => Below wr.heap.size wr v) (by kernel_rfl) (below_drew1 (Below.refl _ _)) (fun hH0 => ?_)
      refine wpAnyH_take (i := 0) (oi := _) (v := .slice (some ga) n c7) rfl (by kernel_rfl) (by kernel_rfl) (by kernel_rfl) (fun _ _ _ h => h) (Or.inl ⟨by rfl, by intro v hv; go_simp⟩) hH0 ?_
      try simp only [Act.put, List.getElem_toArray, List.getElem_cons_succ, List.getElem_cons_zero, List.setIfInBounds_toArray, List.set_cons_zero, List.set_cons_succ]
      refine wpAnyH_take (i := 1) (oi := _) (v := .int .i64 (j : Int)) rfl (by kernel_rfl) (by kernel_rfl) (by kernel_rfl) (fun _ _ _ h => h) (Or.inl ⟨by rfl, by intro v hv; go_simp⟩) hH0 ?_
      try simp only [Act.put, List.getElem_toArray, List.getElem_cons_succ, List.getElem_cons_zero, List.setIfInBounds_toArray, List.set_cons_zero, List.set_cons_succ]
      refine wpAnyH_take (i := 2) (oi := _) (v := .pointer (some (ga.add (j * 3)))) rfl (by kernel_rfl) (by kernel_rfl) (by kernel_rfl) (fun _ _ _ h => h) (Or.inl ⟨by rfl, by intro v hv; go_simp⟩) hH0 ?_
      try simp only [Act.put, List.getElem_toArray, List.getElem_cons_succ, List.getElem_cons_zero, List.setIfInBounds_toArray, List.set_cons_zero, List.set_cons_succ]
      refine wpAnyH_take (i := 3) (oi := _) (v := .agg #[.string ⟨u.t.name.toArray⟩, .int .i64 u.t.keys, .slice u.ao u.t.cs.length u.cap]) rfl (by kernel_rfl) (by kernel_rfl) (by kernel_rfl) (fun _ _ _ h => h) (Or.inl ⟨by rfl, by intro v hv; have z0 := keep0 g0 hv; have z1 := keep0 g1 hv; have z2 := keep0 g2 hv; clear g0 g1 g2 r0; go_simp⟩) hH0 ?_
      try simp only [Act.put, List.getElem_toArray, List.getElem_cons_succ, List.getElem_cons_zero, List.setIfInBounds_toArray, List.set_cons_zero, List.set_cons_succ]
      refine wpAnyH_take (i := 4) (oi := _) (v := .slice (some ra) n c8) rfl (by kernel_rfl) (by kernel_rfl) (by kernel_rfl) (fun _ _ _ h => h) (Or.inl ⟨by rfl, by intro v hv; go_simp⟩) hH0 ?_
      try simp only [Act.put, List.getElem_toArray, List.getElem_cons_succ, List.getElem_cons_zero, List.setIfInBounds_toArray, List.set_cons_zero, List.set_cons_succ]
      refine wpAnyH_take (i := 5) (oi := _) (v := .int .i64 (j : Int)) rfl (by kernel_rfl) (by kernel_rfl) (by kernel_rfl) (fun _ _ _ h => h) (Or.inl ⟨by rfl, by intro v hv; go_simp⟩) hH0 ?_
      try simp only [Act.put, List.getElem_toArray, List.getElem_cons_succ, List.getElem_cons_zero, List.setIfInBounds_toArray, List.set_cons_zero, List.set_cons_succ]
      refine wpAnyH_take (i := 6) (oi := _) (v := .pointer (some (ra.add j))) rfl (by kernel_rfl) (by kernel_rfl) (by kernel_rfl) (fun _ _ _ h => h) (Or.inl ⟨by rfl, by intro v hv; go_simp⟩) hH0 ?_
      try simp only [Act.put, List.getElem_toArray, List.getElem_cons_succ, List.getElem_cons_zero, List.setIfInBounds_toArray, List.set_cons_zero, List.set_cons_succ]
      refine wpAnyH_take (i := 7) (oi := _) (v := .slice z.ao z.xs.length z.cap) rfl (by kernel_rfl) (by kernel_rfl) (by kernel_rfl) (fun _ _ _ h => h) (Or.inl ⟨by rfl, by intro v hv; have z0 := keep0 r0 hv; clear g0 g1 g2 r0; go_simp⟩) hH0 ?_
      try simp only [Act.put, List.getElem_toArray, List.getElem_cons_succ, List.getElem_cons_zero, List.setIfInBounds_toArray, List.set_cons_zero, List.set_cons_succ]
      clear g0 g1 g2 r0
      refine wpAnyH_ready (rs := [8]) (by kernel_rfl) (by simp) ?_
      refine AllReadyH.cons (o := _) rfl (fun K' hK => ?_) AllReadyH.nil
      go_simp
      refine (key_t u.t z.xs u.ao z.ao u.cap z.cap _ (P.out.2.2.2.2.2.1.keep hH0) (P.out.2.2.2.2.2.2.below hH0) P.out.2.2.2.1 P.out.2.2.2.2.1 (H.out.2.2.2.2.2.2.2.2.1.keep (step0 K8.out (step0 J.out hH0))) P.out.2.2.1 0 P.out.1).mono ?_
      rintro e w9 ⟨rfl, hb⟩
      rw [P.out.2.1]
      have bw : Below wr.heap.size wr w9 := step0 hH0 hb
      go_wp2_with fail
      refine hK.out _ _ bw (fun _ => ?_)
      clear hK K'
      have B9 := Lib.hid (step0 J.out bw)
      clear hb hH0
      try simp only [Act.put, List.getElem_toArray, List.getElem_cons_succ, List.getElem_cons_zero, List.setIfInBounds_toArray, List.set_cons_zero, List.set_cons_succ]
      refine wpAnyH_take (i := 9) (oi := _) (v := .tuple #[.string ⟨kk.toArray⟩, .int .i64 0]) rfl (by kernel_rfl) (by kernel_rfl) (by kernel_rfl) (fun _ _ _ h => h) (Or.inl ⟨by rfl, by intro v hv; go_simp⟩) bw ?_
      try simp only [Act.put, List.getElem_toArray, List.getElem_cons_succ, List.getElem_cons_zero, List.setIfInBounds_toArray, List.set_cons_zero, List.set_cons_succ]
      refine wpAnyH_take (i := 10) (oi := _) (v := .string ⟨kk.toArray⟩) rfl (by kernel_rfl) (by kernel_rfl) (by kernel_rfl) (fun _ _ _ h => h) (Or.inl ⟨by rfl, by intro v hv; go_simp⟩) bw ?_
      try simp only [Act.put, List.getElem_toArray, List.getElem_cons_succ, List.getElem_cons_zero, List.setIfInBounds_toArray, List.set_cons_zero, List.set_cons_succ]
      refine wpAnyH_take (i := 11) (oi := _) (v := .int .i64 0) rfl (by kernel_rfl) (by kernel_rfl) (by kernel_rfl) (fun _ _ _ h => h) (Or.inl ⟨by rfl, by intro v hv; go_simp⟩) bw ?_
      try simp only [Act.put, List.getElem_toArray, List.getElem_cons_succ, List.getElem_cons_zero, List.setIfInBounds_toArray, List.set_cons_zero, List.set_cons_succ]
      refine wpAnyH_take (i := 12) (oi := _) (v := .string ⟨kk.toArray⟩) rfl (by kernel_rfl) (by kernel_rfl) (by kernel_rfl) (fun _ _ _ h => h) (Or.inl ⟨by rfl, by intro v hv; go_simp⟩) bw ?_
      try simp only [Act.put, List.getElem_toArray, List.getElem_cons_succ, List.getElem_cons_zero, List.setIfInBounds_toArray, List.set_cons_zero, List.set_cons_succ]
      refine wpAnyH_take (i := 13) (oi := _) (v := .int .i64 0) rfl (by kernel_rfl) (by kernel_rfl) (by kernel_rfl) (fun _ _ _ h => h) (Or.inl ⟨by rfl, by intro v hv; go_simp⟩) bw ?_
      try simp only [Act.put, List.getElem_toArray, List.getElem_cons_succ, List.getElem_cons_zero, List.setIfInBounds_toArray, List.set_cons_zero, List.set_cons_succ]
      refine wpAnyH_done (by kernel_rfl) ?_ _
      clear bw
      go_wp2
      go_roundw
      case rel => exact ⟨j + 1, by go_num, JL.out, B9.out⟩
      case measure => rw [hw]; simp [intOf]; omega
    · obtain rfl : j = n := by omega
      go_wp2_with fail
      refine (awake_any _ (H.out.2.2.2.2.2.2.2.2.1.keep (step0 K8.out J.out)) (H.out.2.2.2.2.2.2.2.2.2.1.below (step0 K8.out J.out))).mono ?_
      rintro e w9 ⟨rfl, hb⟩
      have KZ := Lib.hid (step0 (step0 K8.out J.out) hb)
      clear hb
      go_wp2
      go_ret
      exact ⟨rfl, KZ.out⟩

theorem transformFits_walk (l : List TV) (c : Ch) (xs : List V) (ao no dO bo : Option Addr) (cap nc dc bc : Nat) (w : World) (hl : SlV w ao l) (hf : Fit w l) (hns : SlS w no c.names) (hdf : At3 w c.df dO dc) (hcol : c.col.d.ok) (hx : Sl w bo xs) (ho : ∀ x ∈ xs, x.ok) (hcb : xs.length ≤ bc) (hg : Env w) (hG : Km.Env w) :
    Calls Tryz.prog 5 #[.slice ao l.length cap, .agg #[.int .i64 c.kind, .string ⟨c.table.toArray⟩, .string ⟨c.other.toArray⟩, .string ⟨c.to.toArray⟩, .string ⟨c.also.toArray⟩, .string ⟨c.name.toArray⟩, .int .i64 c.type, .slice no c.names.length nc, .string ⟨c.col.name.toArray⟩, .int .i64 c.col.kind, .bool c.col.null, .int .i64 c.col.d.k, .int .i64 c.col.d.n, .int .u64 c.col.d.b, .string ⟨c.col.d.s.toArray⟩, .string ⟨c.df.name.toArray⟩, .int .i64 c.df.keys, .slice dO c.df.cs.length dc], .slice bo xs.length bc] w fun e w' => e = .returned (.bool true) ∧ Below w.heap.size w w' := by
  by_cases h1 : (l.length ≤ 20 ∧ ∀ x ∈ l, Tb x.t)
  case neg => exact fit_a l c xs ao no dO bo cap nc dc bc w hl hf hns hdf hcol hx ho hcb hg hG h1
  by_cases h2 : c.few
  case neg => exact fit_b l c xs ao no dO bo cap nc dc bc w hl hf hns hdf hcol hx ho hcb hg hG h1 h2
  by_cases h3 : (xs.length ≤ 30 ∧ ∀ x ∈ xs, x.s.length ≤ 2000)
  case neg => exact fit_c l c xs ao no dO bo cap nc dc bc w hl hf hns hdf hcol hx ho hcb hg hG h1 h2 h3
  obtain ⟨⟨ts, E⟩, hR⟩ : ∃ R, c.tgt (((tat (tvs l) c.table).col c.name).d.to c.type) (tvs l) = R := ⟨_, rfl⟩
  by_cases hE : E = 0
  case neg => exact fit_d l c xs ao no dO bo cap nc dc bc w hl hf hns hdf hcol hx ho hcb hg hG h1 h2 h3 ts E hR hE
  subst hE
  by_cases h4 : c.kind = 1
  · exact fit_e l c xs ao no dO bo cap nc dc bc w hl hf hns hdf hcol hx ho hcb hg hG h1 h2 h3 ts hR h4
  have hT : (c.tgt (((tat (tvs l) c.table).col c.name).d.to c.type) (tvs l)).2 = 0 := by rw [hR]
  have hm := (tgt_there hT h4).1
  have hI := fi_mem hm
  have hlt : (nms (tvs l)).idxOf c.table < l.length := by have := idx_lt hm; rwa [tvs_len] at this
  have hIx : l[(nms (tvs l)).idxOf c.table]? = some (tvat l c.table) := by unfold tvat; rw [List.getElem?_eq_getElem hlt]; rfl
  have hxt := tvat_t hm
  by_cases hfit : (tvat l c.table).t.fit xs = 0
  case neg => exact fit_f l c xs ao no dO bo cap nc dc bc w hl hf hns hdf hcol hx ho hcb hg hG h1 h2 h3 ts hR h4 _ _ hI hIx _ rfl hfit
  have hp := fits_plain hT h4 rfl hf.ok ho (hxt ▸ hfit)
  rw [← hxt] at hp
  obtain ⟨⟨rs, F⟩, hrow⟩ : ∃ R, c.row (tvat l c.table).t xs = R := ⟨_, rfl⟩
  rw [hrow] at hp
  by_cases hF : F = 0
  · subst hF
    have hfz := hp.2 rfl
    rw [hxt, hR, ← hxt] at hfz
    have hrl := row_len (c := c) (t := (tvat l c.table).t) (row := xs) (by rw [hrow])
    rw [hrow] at hrl
    have hk2 : kn c.kind ≤ 2 := by unfold kn; split <;> (try split) <;> omega
    exact fit_h l c xs ao no dO bo cap nc dc bc w hl hf hns hdf hcol hx ho hcb hg hG h1 h2 h3 ts hR h4 _ _ hI hIx hfit rs hrow hfz (by have h5 : rs.length = ts.length := hfz.1; have h6 : rs.length = kn c.kind := hrl; omega)
  · refine fit_g l c xs ao no dO bo cap nc dc bc w hl hf hns hdf hcol hx ho hcb hg hG h1 h2 h3 ts hR h4 _ _ hI hIx hfit rs F hrow hF ?_
    refine Classical.byContradiction fun g => hF (hp.1 g)

end Go.Proofs.YtdonmbmahcjfbaaGreatDoor
