/-
 Names and lists of names as plain mathematics: what a name is, where one stands in a list, whether all are unlike, those that are not in another list. No condition.
 Rows of texts in memory: what a slice of texts holds, one that a call owns, a text more, one that came in as an argument. Conditions: the bounds named in each theorem.
 What Find answers, the program's (by slices.Index) and the document's; what Few answers. Conditions: the bounds named in each theorem.
 What different, Unlike and Without answer, the program's (by a set of texts) and the document's; what the document's Texts answers of two slices that hold the same texts. Conditions: the bounds named in each theorem.
 What Check answers, the program's and the document's. No condition.
-/
import Derived.Test.YtmgdciihpjifgaaGreatDoorQrBase
import Derived.Test.YtmgdciihpjifgaaGreatDoorQrVlWorld
import Derived.LoopN
import Derived.Laws.OwnMore
import Derived.OwnWalk
import Derived.Deep.Slices
import Derived.Deep.Fields
import Derived.Carry
import Derived.ProofKit
import Derived.OpenShut
import Derived.ChangeOld
import Derived.Lib.SmallJoins
import Derived.Maps.OwnSet
import Derived.Maps.AppendAt
import Derived.BigQuiet
import Derived.Deep.QuietTactic
set_option maxHeartbeats 4000000
namespace Go.Proofs.YtmgdciihpjifgaaGreatDoor.Nm
abbrev S := List UInt8
def let' (b : UInt8) : Bool := decide (97 ≤ b.toNat) && decide (b.toNat ≤ 122)
def dig (b : UInt8) : Bool := decide (48 ≤ b.toNat) && decide (b.toNat ≤ 57)
def more (b : UInt8) : Bool := let' b || dig b || decide (b.toNat = 95)
def ck (s : S) : Int := if s = [] ∨ 16 < s.length ∨ let' (s.headD 0) = false ∨ (s.drop 1).all more = false then 8 else 0
def fi (l : List S) (s : S) : Int := if s ∈ l then (l.idxOf s : Int) else -1
def un (l : List S) : Bool := decide l.Nodup
theorem idx_at (l : List S) (s : S) (j : Nat) (hj : j < l.length) (he : l[j] = s) (hn : s ∉ l.take j) : l.idxOf s = j := by
 have hm : s ∈ l := he ▸ List.getElem_mem hj
 have h1 : l.idxOf s < l.length := List.idxOf_lt_length_iff.2 hm
 have h2 : l[l.idxOf s] = s := List.getElem_idxOf h1
 rcases Nat.lt_trichotomy (l.idxOf s) j with h | h | h
 ·exact absurd (by rw [← h2, ← List.getElem_take (j := j) (h := by simp; omega)]; exact List.getElem_mem _) hn
 ·exact h
 ·have e : l = l.take j ++ s :: l.drop (j + 1) := by
   rw [← he, List.getElem_cons_drop, List.take_append_drop]
  have : l.idxOf s = j := by
   conv => lhs; rw [e]
   rw [List.idxOf_append, if_neg hn, List.idxOf_cons_self]
   simp; omega
  omega
theorem fi_at (l : List S) (s : S) (j : Nat) (hj : j < l.length) (he : l[j] = s) (hn : s ∉ l.take j) : fi l s = j := by
 have hm : s ∈ l := he ▸ List.getElem_mem hj
 rw [fi, if_pos hm, idx_at l s j hj he hn]
theorem fi_none (l : List S) (s : S) (hn : s ∉ l) : fi l s = -1 := by rw [fi, if_neg hn]
theorem take_none {l : List S} {s : S} {j : Nat} (hj : j < l.length) (hn : s ∉ l.take j) (he : l[j] ≠ s) : s ∉ l.take (j + 1) := by
 rw [List.take_succ_eq_append_getElem hj]
 intro h
 rcases List.mem_append.1 h with g | g
 ·exact hn g
 ·exact he (List.mem_singleton.1 g).symm
theorem un_next {l : List S} {j : Nat} (hj : j < l.length) (h : (l.take j).Nodup) (he : fi l l[j] = j) : (l.take (j + 1)).Nodup := by
 rw [List.take_succ_eq_append_getElem hj, List.nodup_append]
 refine ⟨h, by simp, ?_⟩
 intro a ha b hb
 obtain rfl := List.mem_singleton.1 hb
 rintro rfl
 obtain ⟨i, hi, hx⟩ := List.getElem_of_mem ha
 simp at hi
 rw [List.getElem_take] at hx
 have hm : l[j] ∈ l := List.getElem_mem hj
 rw [fi, if_pos hm] at he
 have h2 : l.idxOf l[j] ≤ i := by
  have : ¬ i < l.idxOf l[j] := fun g => by
   have e := List.not_of_lt_findIdx (p := (· == l[j])) (xs := l) g
   simp [hx] at e
  omega
 omega
theorem un_stop {l : List S} {j : Nat} (hj : j < l.length) (he : fi l l[j] ≠ j) : un l = false := by
 unfold un
 rw [decide_eq_false_iff_not]
 intro hn
 refine he ?_
 refine fi_at l l[j] j hj rfl ?_
 intro hm
 obtain ⟨i, hi, hx⟩ := List.getElem_of_mem hm
 simp at hi
 rw [List.getElem_take] at hx
 have := (List.getElem_inj (h₀ := by omega) (h₁ := hj) hn).1 hx
 omega
end Go.Proofs.YtmgdciihpjifgaaGreatDoor.Nm
namespace Go.Proofs.YtmgdciihpjifgaaGreatDoor
open Go.RowKit Nm
theorem below_drewN {B : Nat} {a w : World} (n : Nat) (h : Below B a w) : Below B a (w.drewN n) := ⟨h.os, h.tape, h.output, h.size, h.block⟩
theorem add_none (g j : Nat) : (⟨g, 0, none⟩ : Addr).add j = ⟨g, j, none⟩ := by
 unfold Addr.add
 split
 ·rename_i h; rw [h]
 ·simp
def tv (s : S) : Value := .string ⟨s.toArray⟩
def SlS (W : World) (ao : Option Addr) (t : List S) : Prop := ∀ (i : Nat) (x : S), t[i]? = some x → ∃ a, ao = some a ∧ W.cell? (a.add i) = some (.string ⟨x.toArray⟩)
theorem SlS.below {W W' : World} {ao : Option Addr} {t : List S} (h : SlS W ao t) (hb : Below W.heap.size W W') : SlS W' ao t := by
 intro i x hi
 obtain ⟨a, ha, h0⟩ := h i x hi
 exact ⟨a, ha, keep0 h0 hb⟩
theorem SlS.nil (W : World) (ao : Option Addr) : SlS W ao [] := fun i x h => by simp at h
theorem Tryz.infoS : (Tryz.prog.info? 9).map (fun i => (i.zero, i.size, i.bytes)) = some (some (.string ⟨#[]⟩), 1, 16) := by kernel_rfl
def OwS (w : World) (base : Nat) (v : Value) (l : List S) : Prop := w.ownsRow base 9 1 v l.length (l.map tv)
theorem ows_nil (w : World) (base : Nat) : OwS w base (.slice none 0 0) [] := World.ownsRow_nil _ _ _ _
theorem OwS.keep {w w' : World} {b : Nat} {v : Value} {l : List S} (h : OwS w b v l) (hb : Below w.heap.size w w') : OwS w' b v l := by
 refine ⟨h.1, ?_⟩
 rcases h.2 with hn | ⟨g, cap, cur, hv, hbg, hg, rest⟩
 ·exact .inl hn
 ·exact .inr ⟨g, cap, cur, hv, hbg, (hb.block g (Array.getElem?_eq_some_iff.1 hg).1).trans hg, rest⟩
theorem OwS.base {w : World} {b b' : Nat} {v : Value} {l : List S} (h : OwS w b v l) (hb : b' ≤ b) : OwS w b' v l := by
 refine ⟨h.1, ?_⟩
 rcases h.2 with hn | ⟨g, cap, cur, hv, hbg, rest⟩
 ·exact .inl hn
 ·exact .inr ⟨g, cap, cur, hv, Nat.le_trans hb hbg, rest⟩
theorem OwS.sl {w : World} {b : Nat} {v : Value} {l : List S} (h : OwS w b v l) : ∃ ao cap, v = .slice ao l.length cap ∧ SlS w ao l := by
 have h' := h
 rcases h.2 with ⟨hv, hn⟩ | ⟨g, cap, cur, hv, _⟩
 ·have e := List.eq_nil_of_length_eq_zero hn
  subst e
  exact ⟨none, 0, hv, SlS.nil _ _⟩
 ·refine ⟨some ⟨g, 0, none⟩, cap, hv, fun i x hi => ⟨⟨g, 0, none⟩, rfl, ?_⟩⟩
  exact World.ownsRow.cells h' (g := g) (by rw [hv]; rfl) i _ (by rw [List.getElem?_map, hi]; rfl)
section
variable {ops : Array Oper} {rest : List Oper} {o : Oper} {a : Act} {Q : Exit → Act → World → Prop}
theorem appS (hgd : o.guard = none) (s x : Operand) (ho : o.op = .call { callee := .builtin .append, args := #[s, x], argTypes := #[22, 22] })
  (base : Nat) (v : Value) (l : List S) (b : S) (w0 : World) (hs : a.eval s = v) (hown : OwS w0 base v l)
  (G : Nat) (hG : w0.heap.size = G) (hx : a.eval x = .slice (some ⟨G, 0, none⟩) 1 1) (hlen : l.length ≤ 1000000000) (hb : base ≤ w0.heap.size)
  (h : ∀ v' w', OwS w' base v' (l ++ [b]) → Below base w0 w' → wpList Tryz.prog ops Q rest (a.put o.dst v') w') : wpList Tryz.prog ops Q (o :: rest) a (w0.alloc (.cells #[.string ⟨b.toArray⟩] 9)) := by
 subst hG
 obtain ⟨i0, hi, hz0, hz1, hz2⟩ := info_parts Tryz.infoS
 refine wpList_append_own _ hgd s x 22 ho base 9 i0 _ 1 16 Tryz.underlying22 hi hz0 hz1 hz2 rfl (by decide) v _ _ hs (World.ownsRow.alloc hown _) ⟨w0.heap.size, 0, none⟩ 1 1 [tv b] hx rfl ?_ ?_ (by unfold maxLen; omega) (by omega) (by simp; omega) ?_
 ·intro j u hj
  match j, hj with
  | 0, hj => simp [tv] at hj; subst hj; simp [Addr.add]
  | (j + 1), hj => simp at hj
 ·intro u hu; simp at hu; subst hu; rfl
 ·intro v' w' hown' hgrow _
  refine h v' w' ?_ (((Below.refl base w0).alloc hb _).grown hgrow (by simp; omega) (fun k hk => (World.ownsRow.lt hown k hk).1))
  unfold OwS
  rw [List.length_append, List.map_append]
  exact hown'
end
section
open Go.ChangeShapes Go.WideShapes Go.ChangeAt Go.Joins Go.Deep
variable {H : Type} {enc : TypeId × Value → H} {W : World}
end
end Go.Proofs.YtmgdciihpjifgaaGreatDoor
namespace Go.Proofs.YtmgdciihpjifgaaGreatDoor
open Go.RowKit Nm
theorem leq_f {s t : S} (h : s ≠ t) : (s == t) = false := by simp [h]
theorem leq_t {s t : S} (h : s = t) : (s == t) = true := by simp [h]
theorem rfind_any (l : List S) (s : S) (ao : Option Addr) (cap : Nat) (w : World) (h : SlS w ao l) (hl : l.length ≤ 1000000) :
  Calls Tryz.prog 113 #[.slice ao l.length cap, .string ⟨s.toArray⟩] w fun e w' => e = .returned (.int .i64 (fi l s)) ∧ w = w' := by
 have H := zh (za h hl)
 clear h hl
 go_enter Tryz.func113, Tryz.ntmps113
 go_wp2
 go_loop [5] (fun i => ∃ j : Nat, i = .int .i64 j ∧ j ≤ l.length ∧ s ∉ l.take j) (fun i => l.length - (intOf i).toNat)
 case atStart => exact ⟨0, rfl, Nat.zero_le _, by simp⟩
 case round =>
  obtain ⟨j, rfl, hj, hn⟩ := hrel
  have J := zh hn
  clear hn
  by_cases hlt : j < l.length
  ·obtain ⟨a, rfl, h0⟩ := H.out.1 j l[j] (List.getElem?_eq_getElem hlt)
   have hw : wrap64 ((j : Int) + 1) = (j : Int) + 1 := by have := H.out.2; exact wrap_in _ (by omega) (by omega)
   obtain ⟨x, hx⟩ : ∃ x, l[j] = x := ⟨_, rfl⟩
   rw [hx] at h0
   by_cases he : s = x
   ·have X := zh (fi_at l s j hlt (hx.trans he.symm) J.out)
    have e := leq_t he.symm
    clear hx he
    go_wp2
    go_ret
    exact ⟨ret_int X.out.symm, rfl⟩
   ·have X := zh (take_none hlt J.out (by rw [hx]; exact fun g => he g.symm))
    have e := leq_f (fun g => he g.symm)
    clear hx he
    go_wp2
    go_round
    case rel => exact ⟨j + 1, by go_num, hlt, X.out⟩
    case measure => rw [hw]; simp [intOf]; omega
  ·obtain rfl : j = l.length := by omega
   have X := zh (fi_none l s (by have := J.out; rwa [List.take_length] at this))
   go_wp2
   go_ret
   exact ⟨ret_int X.out.symm, rfl⟩
theorem rfind_is (l : List S) (s : S) (n : Nat) (F : Int) (ao : Option Addr) (cap : Nat) (w : World) (hn : l.length = n) (h : SlS w ao l) (hl : l.length ≤ 1000000) (hF : fi l s = F) :
  Calls Tryz.prog 113 #[.slice ao n cap, .string ⟨s.toArray⟩] w fun e w' => e = .returned (.int .i64 F) ∧ w = w' := by
 subst hn hF
 exact rfind_any l s ao cap w h hl
def Fw (l : List S) : Prop := l.length ≤ 60 ∧ ∀ s ∈ l, s.length ≤ 500
theorem nm_few_yes (l : List S) (ao : Option Addr) (cap : Nat) (w : World) (h : SlS w ao l) (hf : Fw l) :
  Calls Tryz.prog 25 #[.slice ao l.length cap] w fun e w' => e = .returned (.int .i64 1) ∧ w = w' := by
 have l1 : decide ((60 : Int) < (l.length : Int)) = false := by rw [decide_eq_false_iff_not]; have := hf.1; omega
 have H := zh (za h hf)
 clear h hf
 go_enter Tryz.func25, Tryz.ntmps25
 go_wp2
 go_loop [3] (fun i => ∃ j : Nat, i = .int .i64 j ∧ j ≤ l.length) (fun i => l.length - (intOf i).toNat)
 case atStart => exact ⟨0, rfl, Nat.zero_le _⟩
 case round =>
  obtain ⟨j, rfl, hj⟩ := hrel
  by_cases hlt : j < l.length
  ·obtain ⟨a, rfl, h0⟩ := H.out.1 j l[j] (List.getElem?_eq_getElem hlt)
   have hw : wrap64 ((j : Int) + 1) = (j : Int) + 1 := by have := H.out.2.1; exact wrap_in _ (by omega) (by omega)
   have hs := H.out.2.2 _ (List.getElem_mem hlt)
   obtain ⟨x, hx⟩ : ∃ x, l[j] = x := ⟨_, rfl⟩
   rw [hx] at h0 hs
   have l2 : decide ((500 : Int) < (x.length : Int)) = false := by rw [decide_eq_false_iff_not]; omega
   clear hx hs
   go_wp2
   go_round
   case rel => exact ⟨j + 1, by go_num, hlt⟩
   case measure => rw [hw]; simp [intOf]; omega
  ·obtain rfl : j = l.length := by omega
   go_wp2
   go_ret
   exact ⟨rfl, rfl⟩
end Go.Proofs.YtmgdciihpjifgaaGreatDoor
namespace Go.Proofs.YtmgdciihpjifgaaGreatDoor
open Go.RowKit Nm Go.Maps
def St (l : List S) : DataW Unit := setOf (.agg []) (l.map Lit.string)
theorem keys_s (l : List S) : ∀ x ∈ l.map Lit.string, WideAt.IsKeyLit x := by
 intro x hx
 obtain ⟨s, _, rfl⟩ := List.mem_map.1 hx
 trivial
theorem st_next {l : List S} {j : Nat} (hj : j < l.length) : St (l.take (j + 1)) = (St (l.take j)).put (.string l[j]) (.agg []) := by
 unfold St
 rw [List.take_succ_eq_append_getElem hj, List.map_append, List.map_singleton, setOf_snoc]
theorem fold_len : ∀ (xs L : List Lit), (∀ x ∈ xs, WideAt.IsKeyLit x) → L.Nodup → ((xs.foldl addKey L).length ≤ L.length + xs.length) ∧ ((xs.foldl addKey L).length = L.length + xs.length ↔ (L ++ xs).Nodup)
 | [], L, _, h => by simp [h]
 | x :: xs, L, hk, h => by
  rw [List.foldl_cons]
  have hx := hk x (by simp)
  have hk' : ∀ y ∈ xs, WideAt.IsKeyLit y := fun y hy => hk y (by simp [hy])
  have ha : L.any (fun y => y.sameKey x) = true ↔ x ∈ L := by
   rw [List.any_eq_true]
   constructor
   ·rintro ⟨y, hy, e⟩; rw [WideAt.sameKey_eq e] at hy; exact hy
   ·intro hm; exact ⟨x, hm, WideAt.sameKey_self hx⟩
  by_cases hm : x ∈ L
  ·have e : addKey L x = L := by unfold addKey; rw [if_pos (ha.2 hm)]
   rw [e]
   have ih := (fold_len xs L hk' h).1
   refine ⟨by simp; omega, ?_⟩
   constructor
   ·intro g; simp at g; omega
   ·intro g
    rw [List.nodup_append] at g
    exact absurd rfl (g.2.2 x hm x (by simp))
  ·have e : addKey L x = L ++ [x] := by unfold addKey; rw [if_neg (fun g => hm (ha.1 g))]
   rw [e]
   have hL : (L ++ [x]).Nodup := by
    rw [List.nodup_append]
    exact ⟨h, by simp, fun a ga b hb => by obtain rfl := List.mem_singleton.1 hb; rintro rfl; exact hm ga⟩
   have ih := fold_len xs (L ++ [x]) hk' hL
   rw [List.append_assoc, List.singleton_append] at ih
   simp at ih ⊢
   refine ⟨by omega, ?_⟩
   rw [← ih.2]
   omega
theorem nodup_s (l : List S) : (l.map Lit.string).Nodup ↔ l.Nodup := by
 unfold List.Nodup
 rw [List.pairwise_map]
 constructor
 ·intro h; exact h.imp (fun g e => g (by rw [e]))
 ·intro h; exact h.imp (fun g e => g (Lit.string.inj e))
theorem size_st (l : List S) : ((Maps.size (St l) : Int) == (l.length : Int)) = un l := by
 have e := (fold_len (l.map Lit.string) [] (keys_s l) (by simp)).2
 rw [List.nil_append, nodup_s, ← size_setOf (H := Unit) (.agg []) _ (keys_s l)] at e
 simp at e
 unfold un
 by_cases h : l.Nodup
 ·rw [decide_eq_true h]
  have := e.2 h
  unfold St
  simp [this]
 ·rw [decide_eq_false h]
  have : ¬ Maps.size (St l) = l.length := fun g => h (e.1 g)
  simp
  omega
theorem lawS : Keyed Tryz.prog 9 := string_keyed Tryz.underlying9
theorem makeS (n : Int) (w : World) : (Instr.makeMap 202 (some (.int .i64 n))).run Tryz.prog w = .ok (.map (some w.heap.size)) (w.alloc (.map #[] 0)) := by
 simp [Instr.makeMap, run_underlying Tryz.underlying202, asInt, go_sem]
theorem keyS (s : S) (h : s.length ≤ 1000000000) : keyOf Tryz.prog 9 (.string ⟨s.toArray⟩) = some (.string s) :=
 WideMaps.keyOf_string_mk Tryz.underlying9 (by show s.toArray.size ≤ maxLen; unfold maxLen; simp; omega)
def OwM (w : World) (g n : Nat) (l : List S) : Prop := w.ownsMap Tryz.prog 9 (unitElem (H := Unit)) g n (St l)
theorem different_is (l : List S) (ao : Option Addr) (cap : Nat) (w : World) (h : SlS w ao l) (hf : Fw l) :
  Calls Tryz.prog 147 #[.slice ao l.length cap] w fun e w' => e = .returned (.map (some w.heap.size)) ∧ OwM w' w.heap.size l.length l ∧ Below w.heap.size w w' := by
 have hmm := makeS
 have H := zh (za h hf)
 clear h hf
 go_enter Tryz.func147, Tryz.ntmps147
 go_wp2
 go_loopw [11] (fun i wr => ∃ j : Nat, i = .int .i64 j ∧ j ≤ l.length ∧ OwM wr w.heap.size j (l.take j) ∧ Below w.heap.size w wr) (fun i _ => l.length - (intOf i).toNat)
 case atStart => exact ⟨0, rfl, Nat.zero_le _, World.ownsMap_made _ _ _ _, below1 _ _⟩
 case round =>
  obtain ⟨j, rfl, hj, hO, hb⟩ := hrel
  have J := zh (za hO hb)
  clear hO hb
  by_cases hlt : j < l.length
  ·obtain ⟨a, rfl, h0⟩ := H.out.1.below J.out.2 j l[j] (List.getElem?_eq_getElem hlt)
   have hw : wrap64 ((j : Int) + 1) = (j : Int) + 1 := by have := H.out.2.1; exact wrap_in _ (by omega) (by omega)
   have hj60 := zh (show j < 60 by have := H.out.2.1; omega)
   obtain ⟨x, hx⟩ : ∃ x, l[j] = x := ⟨_, rfl⟩
   rw [hx] at h0
   have hk := zh (keyS x (by have := H.out.2.2 _ (List.getElem_mem hlt); rw [hx] at this; omega))
   have N := zh (st_next hlt)
   rw [hx] at N
   clear hx
   go_wp2_with (first
    | (at_mapUpdate; refine wpList_mapUpdate_own _ rfl _ _ _ 202 rfl 9 228 lawS Tryz.underlying202 (unitElem (H := Unit)) w.heap.size j _ rfl J.out.1 (by have := hj60.out; unfold maxLen; omega) _ _ _ rfl rfl hk.out _ [] unitElem_mk ?_; intro w1 hown1 hgrow1; have K := zh (za hown1 (J.out.2.grown hgrow1 J.out.2.size (fun k hk => by cases hk; exact Nat.le_refl _))); clear hown1 hgrow1)
    | go_in)
   go_roundw
   case rel => exact ⟨j + 1, by go_num, hlt, by have := K.out.1; rw [← N.out] at this; exact this, K.out.2⟩
   case measure => rw [hw]; simp [intOf]; omega
  ·obtain rfl : j = l.length := by omega
   have hO := J.out.1
   rw [List.take_length] at hO
   have O := zh hO
   clear hO
   go_wp2
   go_ret
   exact ⟨rfl, O.out, J.out.2⟩
theorem unlike_is (l : List S) (n : Nat) (B : Bool) (ao : Option Addr) (cap : Nat) (w : World) (hn : l.length = n) (h : SlS w ao l) (hf : Fw l) (hB : un l = B) :
  Calls Tryz.prog 128 #[.slice ao n cap] w fun e w' => e = .returned (.bool B) ∧ Below w.heap.size w w' := by
 subst hn hB
 have H := zh (za h hf)
 clear h hf
 have Z := zh (size_st l)
 go_enter Tryz.func128, Tryz.ntmps128
 go_wp2_with fail
 refine (different_is l ao cap _ H.out.1 H.out.2).mono ?_
 rintro e w1 ⟨rfl, hO, hb⟩
 have J := zh (za hO hb)
 clear hO hb
 go_wp2_with (first
  | (at_len; refine wpList_len_own _ rfl _ 202 rfl 9 228 Tryz.underlying202 (unitElem (H := Unit)) w.heap.size l.length _ rfl J.out.1 ?_)
  | go_in)
 go_ret
 exact ⟨ret_bool Z.out, J.out.2⟩
theorem runlike_is (l : List S) (n : Nat) (B : Bool) (ao : Option Addr) (cap : Nat) (w : World) (hn : l.length = n) (h : SlS w ao l) (hf : Fw l) (hB : un l = B) :
  Calls Tryz.prog 88 #[.slice ao n cap] w fun e w' => e = .returned (.bool B) ∧ w = w' := by
 subst hn hB
 have H := zh (za h hf)
 clear h hf
 go_enter Tryz.func88, Tryz.ntmps88
 go_wp2
 go_loop [3] (fun i => ∃ j : Nat, i = .int .i64 j ∧ j ≤ l.length ∧ (l.take j).Nodup) (fun i => l.length - (intOf i).toNat)
 case atStart => exact ⟨0, rfl, Nat.zero_le _, by simp⟩
 case round =>
  obtain ⟨j, rfl, hj, hn⟩ := hrel
  have J := zh hn
  clear hn
  by_cases hlt : j < l.length
  ·obtain ⟨a, rfl, h0⟩ := H.out.1 j l[j] (List.getElem?_eq_getElem hlt)
   have hw : wrap64 ((j : Int) + 1) = (j : Int) + 1 := by have := H.out.2.1; exact wrap_in _ (by omega) (by omega)
   obtain ⟨F, hF⟩ : ∃ F, fi l l[j] = F := ⟨_, rfl⟩
   obtain ⟨x, hx⟩ : ∃ x, l[j] = x := ⟨_, rfl⟩
   by_cases he : F = (j : Int)
   ·have N := zh (un_next hlt J.out (hF.trans he))
    have e1 : (F != (j : Int)) = false := by simp [he]
    have e2 := beq_t he
    rw [hx] at h0 hF
    have X := zh hF
    clear hF hx he
    go_wp2_with fail
    refine (rfind_is l x _ F _ cap _ rfl H.out.1 (by have := H.out.2.1; omega) X.out).mono ?_
    rintro e w' ⟨rfl, rfl⟩
    go_wp2
    go_round
    case rel => exact ⟨j + 1, by go_num, hlt, N.out⟩
    case measure => rw [hw]; simp [intOf]; omega
   ·have N := zh (un_stop hlt (by rw [hF]; exact he))
    have e1 := bne_t he
    have e2 := beq_f he
    rw [hx] at h0 hF
    have X := zh hF
    clear hF hx he
    go_wp2_with fail
    refine (rfind_is l x _ F _ cap _ rfl H.out.1 (by have := H.out.2.1; omega) X.out).mono ?_
    rintro e w' ⟨rfl, rfl⟩
    go_wp2
    go_ret
    exact ⟨ret_bool N.out.symm, rfl⟩
  ·obtain rfl : j = l.length := by omega
   have N := zh (show un l = true from by have := J.out; rw [List.take_length] at this; unfold un; exact decide_eq_true this)
   go_wp2
   go_ret
   exact ⟨ret_bool N.out.symm, rfl⟩
end Go.Proofs.YtmgdciihpjifgaaGreatDoor
namespace Go.Proofs.YtmgdciihpjifgaaGreatDoor
open Go.RowKit Nm
theorem dec_eq {p q : Prop} [Decidable p] [Decidable q] (h : p ↔ q) : decide p = decide q := by
 by_cases hp : p
 ·rw [decide_eq_true hp, decide_eq_true (h.1 hp)]
 ·rw [decide_eq_false hp, decide_eq_false (fun g => hp (h.2 g))]
def lz (n : Int) : Bool := decide (97 ≤ n) && decide (n ≤ 122)
def dz (n : Int) : Bool := decide (48 ≤ n) && decide (n ≤ 57)
theorem let_z (b : UInt8) : let' b = lz (b.toNat : Int) := by
 unfold let' lz
 rw [dec_eq (show (97 ≤ b.toNat) ↔ ((97 : Int) ≤ (b.toNat : Int)) by omega), dec_eq (show (b.toNat ≤ 122) ↔ ((b.toNat : Int) ≤ 122) by omega)]
theorem dig_z (b : UInt8) : dig b = dz (b.toNat : Int) := by
 unfold dig dz
 rw [dec_eq (show (48 ≤ b.toNat) ↔ ((48 : Int) ≤ (b.toNat : Int)) by omega), dec_eq (show (b.toNat ≤ 57) ↔ ((b.toNat : Int) ≤ 57) by omega)]
theorem letter_is (n : Int) (B : Bool) (w : World) (h : lz n = B) :
  Calls Tryz.prog 145 #[.int .u8 n] w fun e w' => e = .returned (.bool B) ∧ w = w' := by
 subst h
 unfold lz
 by_cases h1 : 97 ≤ n
 ·by_cases h2 : n ≤ 122
  ·have e1 : decide (97 ≤ n) = true := by rw [decide_eq_true_iff]; exact h1
   have e2 : decide (n ≤ 122) = true := by rw [decide_eq_true_iff]; exact h2
   rw [e1, e2]
   clear h1 h2
   go_enter Tryz.func145, Tryz.ntmps145
   go_wp2
   go_ret
   exact ⟨rfl, rfl⟩
  ·have e1 : decide (97 ≤ n) = true := by rw [decide_eq_true_iff]; exact h1
   have e2 : decide (n ≤ 122) = false := by rw [decide_eq_false_iff_not]; exact h2
   rw [e1, e2]
   clear h1 h2
   go_enter Tryz.func145, Tryz.ntmps145
   go_wp2
   go_ret
   exact ⟨rfl, rfl⟩
 ·have e1 : decide (97 ≤ n) = false := by rw [decide_eq_false_iff_not]; exact h1
  rw [e1, Bool.false_and]
  clear h1
  go_enter Tryz.func145, Tryz.ntmps145
  go_wp2
  go_ret
  exact ⟨rfl, rfl⟩
theorem digit_is (n : Int) (B : Bool) (w : World) (h : dz n = B) :
  Calls Tryz.prog 146 #[.int .u8 n] w fun e w' => e = .returned (.bool B) ∧ w = w' := by
 subst h
 unfold dz
 by_cases h1 : 48 ≤ n
 ·by_cases h2 : n ≤ 57
  ·have e1 : decide (48 ≤ n) = true := by rw [decide_eq_true_iff]; exact h1
   have e2 : decide (n ≤ 57) = true := by rw [decide_eq_true_iff]; exact h2
   rw [e1, e2]
   clear h1 h2
   go_enter Tryz.func146, Tryz.ntmps146
   go_wp2
   go_ret
   exact ⟨rfl, rfl⟩
  ·have e1 : decide (48 ≤ n) = true := by rw [decide_eq_true_iff]; exact h1
   have e2 : decide (n ≤ 57) = false := by rw [decide_eq_false_iff_not]; exact h2
   rw [e1, e2]
   clear h1 h2
   go_enter Tryz.func146, Tryz.ntmps146
   go_wp2
   go_ret
   exact ⟨rfl, rfl⟩
 ·have e1 : decide (48 ≤ n) = false := by rw [decide_eq_false_iff_not]; exact h1
  rw [e1, Bool.false_and]
  clear h1
  go_enter Tryz.func146, Tryz.ntmps146
  go_wp2
  go_ret
  exact ⟨rfl, rfl⟩
theorem rletter_is (n : Int) (B : Bool) (w : World) (h : lz n = B) :
  Calls Tryz.prog 112 #[.int .u8 n] w fun e w' => e = .returned (.bool B) ∧ w = w' := by
 subst h
 unfold lz
 by_cases h1 : 97 ≤ n
 ·by_cases h2 : n ≤ 122
  ·have e1 : decide (97 ≤ n) = true := by rw [decide_eq_true_iff]; exact h1
   have e2 : decide (n ≤ 122) = true := by rw [decide_eq_true_iff]; exact h2
   rw [e1, e2]
   clear h1 h2
   go_enter Tryz.func112, Tryz.ntmps112
   go_wp2
   go_ret
   exact ⟨rfl, rfl⟩
  ·have e1 : decide (97 ≤ n) = true := by rw [decide_eq_true_iff]; exact h1
   have e2 : decide (n ≤ 122) = false := by rw [decide_eq_false_iff_not]; exact h2
   rw [e1, e2]
   clear h1 h2
   go_enter Tryz.func112, Tryz.ntmps112
   go_wp2
   go_ret
   exact ⟨rfl, rfl⟩
 ·have e1 : decide (97 ≤ n) = false := by rw [decide_eq_false_iff_not]; exact h1
  rw [e1, Bool.false_and]
  clear h1
  go_enter Tryz.func112, Tryz.ntmps112
  go_wp2
  go_ret
  exact ⟨rfl, rfl⟩
theorem ck_nil : ck [] = 8 := by unfold ck; rw [if_pos (.inl rfl)]
theorem ck_long {s : S} (h : 16 < s.length) : ck s = 8 := by unfold ck; rw [if_pos (.inr (.inl h))]
theorem ck_head {x : UInt8} {t : S} (h : lz (x.toNat : Int) = false) : ck (x :: t) = 8 := by unfold ck; rw [if_pos (.inr (.inr (.inl (by rw [List.headD_cons, let_z]; exact h))))]
theorem ck_more {x : UInt8} {t : S} {j : Nat} (hj : j < t.length) (h : more t[j] = false) : ck (x :: t) = 8 := by
 have e : ((x :: t).drop 1).all more = false := by
  rw [List.drop_one, List.tail_cons, List.all_eq_false]
  exact ⟨_, List.getElem_mem hj, by rw [h]; simp⟩
 unfold ck
 rw [if_pos (.inr (.inr (.inr e)))]
theorem ck_ok {x : UInt8} {t : S} (h0 : t.length < 16) (h1 : lz (x.toNat : Int) = true) (h2 : t.all more = true) : ck (x :: t) = 0 := by
 unfold ck
 rw [if_neg]
 rintro (h | h | h | h)
 ·cases h
 ·simp at h; omega
 ·rw [List.headD_cons, let_z, h1] at h; cases h
 ·rw [List.drop_one, List.tail_cons, h2] at h; cases h
theorem more_l {b : UInt8} (h : lz (b.toNat : Int) = true) : more b = true := by unfold more; rw [let_z, h]; rfl
theorem more_d {b : UInt8} (h : dz (b.toNat : Int) = true) : more b = true := by unfold more; rw [dig_z, h]; simp
theorem more_u {b : UInt8} (h : b.toNat = 95) : more b = true := by unfold more; simp [h]
theorem more_n {b : UInt8} (h : lz (b.toNat : Int) = false) (h1 : dz (b.toNat : Int) = false) (h2 : b.toNat ≠ 95) : more b = false := by unfold more; rw [let_z, dig_z, h, h1]; simp [h2]
theorem all_step {t : S} {j : Nat} (hj : j < t.length) (h : (t.take j).all more = true) (h1 : more t[j] = true) : (t.take (j + 1)).all more = true := by
 rw [List.take_succ_eq_append_getElem hj, List.all_append, h]; simp [h1]
theorem check_nil (w : World) : Calls Tryz.prog 126 #[.string ⟨([] : S).toArray⟩] w fun e w' => e = .returned (.int .i64 8) ∧ w = w' := by
 go_enter Tryz.func126, Tryz.ntmps126
 go_wp2
 go_ret
 exact ⟨rfl, rfl⟩
theorem nm_check_long (s : S) (w : World) (h : 16 < s.length) : Calls Tryz.prog 126 #[.string ⟨s.toArray⟩] w fun e w' => e = .returned (.int .i64 8) ∧ w = w' := by
 have l0 : ((s.length : Int) == 0) = false := beq_f (by omega)
 have l1 : (16 : Int) < (s.length : Int) := by omega
 clear h
 go_enter Tryz.func126, Tryz.ntmps126
 go_wp2
 go_ret
 exact ⟨rfl, rfl⟩
theorem check_head (x : UInt8) (t : S) (w : World) (h : t.length < 16) (hx : lz (x.toNat : Int) = false) : Calls Tryz.prog 126 #[.string ⟨(x :: t).toArray⟩] w fun e w' => e = .returned (.int .i64 8) ∧ w = w' := by
 obtain ⟨s, hs⟩ : ∃ s, s = x :: t := ⟨_, rfl⟩
 have h0 : 0 < s.length := by rw [hs]; simp
 have hl : s.length ≤ 16 := by rw [hs]; simp; omega
 have X := zh (show s[0] = x from by subst hs; rfl)
 rw [← hs]
 have l0 : ((s.length : Int) == 0) = false := beq_f (by omega)
 have l1 : decide ((16 : Int) < (s.length : Int)) = false := by rw [decide_eq_false_iff_not]; omega
 clear hs h hl
 go_enter Tryz.func126, Tryz.ntmps126
 go_wp2_with fail
 refine (letter_is _ false _ (by show lz ((s[0]).toNat : Int) = false; rw [X.out]; exact hx)).mono ?_
 rintro e w' ⟨rfl, rfl⟩
 go_wp2
 go_ret
 exact ⟨rfl, rfl⟩
theorem check_rest (x : UInt8) (t : S) (w : World) (h : t.length < 16) (hx : lz (x.toNat : Int) = true) : Calls Tryz.prog 126 #[.string ⟨(x :: t).toArray⟩] w fun e w' => e = .returned (.int .i64 (ck (x :: t))) ∧ w = w' := by
 obtain ⟨s, hs⟩ : ∃ s, s = x :: t := ⟨_, rfl⟩
 have h0 : 0 < s.length := by rw [hs]; simp
 have hl : s.length ≤ 16 := by rw [hs]; simp; omega
 have X := zh (show s[0] = x from by subst hs; rfl)
 have T := zh (za hs (za h hx))
 rw [← hs]
 have l0 : ((s.length : Int) == 0) = false := beq_f (by omega)
 have l1 : decide ((16 : Int) < (s.length : Int)) = false := by rw [decide_eq_false_iff_not]; omega
 clear hs h hx
 go_enter Tryz.func126, Tryz.ntmps126
 go_wp2_with fail
 refine (letter_is _ true _ (by show lz ((s[0]).toNat : Int) = true; rw [X.out]; exact T.out.2.2)).mono ?_
 rintro e w' ⟨rfl, rfl⟩
 go_wp2
 go_loop [3] (fun i => ∃ j : Nat, i = .int .i64 j ∧ 1 ≤ j ∧ j ≤ s.length ∧ (t.take (j - 1)).all more = true) (fun i => s.length - (intOf i).toNat)
 case atStart => exact ⟨1, rfl, Nat.le_refl _, h0, rfl⟩
 case round =>
  obtain ⟨j, rfl, h1, hj, ha⟩ := hrel
  have J := zh (za ha h1)
  clear ha h1
  by_cases hlt : j < s.length
  ·have hw : wrap64 ((j : Int) + 1) = (j : Int) + 1 := wrap_in _ (by omega) (by omega)
   have hjt : j - 1 < t.length := by have := T.out.1; have := J.out.2; subst s; simp at hlt; omega
   obtain ⟨y, hy⟩ : ∃ y, s[j] = y := ⟨_, rfl⟩
   have Y := zh (show t[j - 1] = y from by
    have e := J.out.2
    obtain ⟨i, rfl⟩ : ∃ i, j = i + 1 := ⟨j - 1, by omega⟩
    rw [← hy]
    have := T.out.1
    subst this
    simp)
   have hb : ({ data := s.toArray } : ByteArray)[j]'(by simpa [ByteArray.size] using hlt) = y := hy
   have NX := zh (fun g : more y = true => (show (t.take (j + 1 - 1)).all more = true from by
    have e := J.out.2
    obtain ⟨i, rfl⟩ : ∃ i, j = i + 1 := ⟨j - 1, by omega⟩
    exact all_step hjt J.out.1 (by rw [← Y.out] at g; exact g)))
   clear hy
   by_cases c1 : lz (y.toNat : Int) = true
   ·have M := zh (NX.out (more_l c1))
    go_wp2_with fail
    refine (letter_is _ true _ c1).mono ?_
    rintro e w' ⟨rfl, rfl⟩
    go_wp2
    go_round
    case rel => exact ⟨j + 1, by go_num, by omega, hlt, M.out⟩
    case measure => simp [intOf]; omega
   ·have c1' : lz (y.toNat : Int) = false := by simpa using c1
    clear c1
    by_cases c2 : dz (y.toNat : Int) = true
    ·have M := zh (NX.out (more_d c2))
     go_wp2_with fail
     refine (letter_is _ false _ c1').mono ?_
     rintro e w' ⟨rfl, rfl⟩
     go_wp2_with fail
     refine (digit_is _ true _ c2).mono ?_
     rintro e w' ⟨rfl, rfl⟩
     go_wp2
     go_round
     case rel => exact ⟨j + 1, by go_num, by omega, hlt, M.out⟩
     case measure => simp [intOf]; omega
    ·have c2' : dz (y.toNat : Int) = false := by simpa using c2
     clear c2
     by_cases c3 : (y.toNat : Int) = 95
     ·have M := zh (NX.out (more_u (by omega)))
      have e3 := beq_t c3
      have e4 : ((y.toNat : Int) != 95) = false := by simp [c3]
      clear c3
      go_wp2_with fail
      refine (letter_is _ false _ c1').mono ?_
      rintro e w' ⟨rfl, rfl⟩
      go_wp2_with fail
      refine (digit_is _ false _ c2').mono ?_
      rintro e w' ⟨rfl, rfl⟩
      go_wp2
      go_round
      case rel => exact ⟨j + 1, by go_num, by omega, hlt, M.out⟩
      case measure => simp [intOf]; omega
     ·have R := zh (show ck s = 8 from by rw [T.out.1]; exact ck_more hjt (by rw [Y.out]; exact more_n c1' c2' (by omega)))
      have e3 := beq_f c3
      have e4 := bne_t c3
      clear c3
      go_wp2_with fail
      refine (letter_is _ false _ c1').mono ?_
      rintro e w' ⟨rfl, rfl⟩
      go_wp2_with fail
      refine (digit_is _ false _ c2').mono ?_
      rintro e w' ⟨rfl, rfl⟩
      go_wp2
      go_ret
      exact ⟨ret_int R.out.symm, rfl⟩
  ·obtain rfl : j = s.length := by omega
   have R := zh (show ck s = 0 from by
    have e := J.out.1
    rw [T.out.1] at e ⊢
    rw [List.take_of_length_le (by simp)] at e
    exact ck_ok T.out.2.1 T.out.2.2 e)
   go_wp2
   go_ret
   exact ⟨ret_int R.out.symm, rfl⟩
theorem nm_check_is (s : S) (E : Int) (w : World) (h : ck s = E) : Calls Tryz.prog 126 #[.string ⟨s.toArray⟩] w fun e w' => e = .returned (.int .i64 E) ∧ w = w' := by
 subst h
 cases s with
 | nil => rw [ck_nil]; exact check_nil w
 | cons x t =>
  by_cases hl : 16 < (x :: t).length
  ·rw [ck_long hl]; exact nm_check_long _ w hl
  ·have hl' : t.length < 16 := by simp at hl; omega
   cases hx : lz (x.toNat : Int) with
   | false => rw [ck_head hx]; exact check_head x t w hl' hx
   | true => exact check_rest x t w hl' hx
theorem rcheck_nil (w : World) : Calls Tryz.prog 86 #[.string ⟨([] : S).toArray⟩] w fun e w' => e = .returned (.int .i64 8) ∧ w = w' := by
 go_enter Tryz.func86, Tryz.ntmps86
 go_wp2
 go_ret
 exact ⟨rfl, rfl⟩
theorem rcheck_long (s : S) (w : World) (h : 16 < s.length) : Calls Tryz.prog 86 #[.string ⟨s.toArray⟩] w fun e w' => e = .returned (.int .i64 8) ∧ w = w' := by
 have l0 : decide ((s.length : Int) < 1) = false := by rw [decide_eq_false_iff_not]; omega
 have l1 : (16 : Int) < (s.length : Int) := by omega
 clear h
 go_enter Tryz.func86, Tryz.ntmps86
 go_wp2
 go_ret
 exact ⟨rfl, rfl⟩
theorem rcheck_head (x : UInt8) (t : S) (w : World) (h : t.length < 16) (hx : lz (x.toNat : Int) = false) : Calls Tryz.prog 86 #[.string ⟨(x :: t).toArray⟩] w fun e w' => e = .returned (.int .i64 8) ∧ w = w' := by
 obtain ⟨s, hs⟩ : ∃ s, s = x :: t := ⟨_, rfl⟩
 have h0 : 0 < s.length := by rw [hs]; simp
 have hl : s.length ≤ 16 := by rw [hs]; simp; omega
 have X := zh (show s[0] = x from by subst hs; rfl)
 rw [← hs]
 have l0 : decide ((s.length : Int) < 1) = false := by rw [decide_eq_false_iff_not]; omega
 have l1 : decide ((16 : Int) < (s.length : Int)) = false := by rw [decide_eq_false_iff_not]; omega
 clear hs h hl
 go_enter Tryz.func86, Tryz.ntmps86
 go_wp2_with fail
 refine (rletter_is _ false _ (by show lz ((s[0]).toNat : Int) = false; rw [X.out]; exact hx)).mono ?_
 rintro e w' ⟨rfl, rfl⟩
 go_wp2
 go_ret
 exact ⟨rfl, rfl⟩
theorem rcheck_rest (x : UInt8) (t : S) (w : World) (h : t.length < 16) (hx : lz (x.toNat : Int) = true) : Calls Tryz.prog 86 #[.string ⟨(x :: t).toArray⟩] w fun e w' => e = .returned (.int .i64 (ck (x :: t))) ∧ w = w' := by
 obtain ⟨s, hs⟩ : ∃ s, s = x :: t := ⟨_, rfl⟩
 have h0 : 0 < s.length := by rw [hs]; simp
 have hl : s.length ≤ 16 := by rw [hs]; simp; omega
 have X := zh (show s[0] = x from by subst hs; rfl)
 have T := zh (za hs (za h hx))
 rw [← hs]
 have l0 : decide ((s.length : Int) < 1) = false := by rw [decide_eq_false_iff_not]; omega
 have l1 : decide ((16 : Int) < (s.length : Int)) = false := by rw [decide_eq_false_iff_not]; omega
 clear hs h hx
 go_enter Tryz.func86, Tryz.ntmps86
 go_wp2_with fail
 refine (rletter_is _ true _ (by show lz ((s[0]).toNat : Int) = true; rw [X.out]; exact T.out.2.2)).mono ?_
 rintro e w' ⟨rfl, rfl⟩
 go_wp2
 go_loop [3] (fun i => ∃ j : Nat, i = .int .i64 j ∧ 1 ≤ j ∧ j ≤ s.length ∧ (t.take (j - 1)).all more = true) (fun i => s.length - (intOf i).toNat)
 case atStart => exact ⟨1, rfl, Nat.le_refl _, h0, rfl⟩
 case round =>
  obtain ⟨j, rfl, h1, hj, ha⟩ := hrel
  have J := zh (za ha h1)
  clear ha h1
  by_cases hlt : j < s.length
  ·have hw : wrap64 ((j : Int) + 1) = (j : Int) + 1 := wrap_in _ (by omega) (by omega)
   have hjt : j - 1 < t.length := by have := T.out.1; have := J.out.2; subst s; simp at hlt; omega
   obtain ⟨y, hy⟩ : ∃ y, s[j] = y := ⟨_, rfl⟩
   have Y := zh (show t[j - 1] = y from by
    have e := J.out.2
    obtain ⟨i, rfl⟩ : ∃ i, j = i + 1 := ⟨j - 1, by omega⟩
    rw [← hy]
    have := T.out.1
    subst this
    simp)
   have hb : ({ data := s.toArray } : ByteArray)[j]'(by simpa [ByteArray.size] using hlt) = y := hy
   have NX := zh (fun g : more y = true => (show (t.take (j + 1 - 1)).all more = true from by
    have e := J.out.2
    obtain ⟨i, rfl⟩ : ∃ i, j = i + 1 := ⟨j - 1, by omega⟩
    exact all_step hjt J.out.1 (by rw [← Y.out] at g; exact g)))
   clear hy
   by_cases c1 : lz (y.toNat : Int) = true
   ·have M := zh (NX.out (more_l c1))
    go_wp2_with fail
    refine (rletter_is _ true _ c1).mono ?_
    rintro e w' ⟨rfl, rfl⟩
    go_wp2
    go_round
    case rel => exact ⟨j + 1, by go_num, by omega, hlt, M.out⟩
    case measure => simp [intOf]; omega
   ·have c1' : lz (y.toNat : Int) = false := by simpa using c1
    clear c1
    by_cases c3 : (y.toNat : Int) = 95
    ·have M := zh (NX.out (more_u (by omega)))
     have e3 := beq_t c3
     have e4 : ((y.toNat : Int) != 95) = false := by simp [c3]
     clear c3
     go_wp2_with fail
     refine (rletter_is _ false _ c1').mono ?_
     rintro e w' ⟨rfl, rfl⟩
     go_wp2
     go_round
     case rel => exact ⟨j + 1, by go_num, by omega, hlt, M.out⟩
     case measure => simp [intOf]; omega
    ·have e3 := beq_f c3
     have e4 := bne_t c3
     have hy95 : y.toNat ≠ 95 := by omega
     clear c3
     by_cases c4 : (y.toNat : Int) < 48
     ·have R := zh (show ck s = 8 from by rw [T.out.1]; exact ck_more hjt (by rw [Y.out]; exact more_n c1' (by unfold dz; rw [decide_eq_false (by omega)]; rfl) hy95))
      have e5 : decide ((y.toNat : Int) < 48) = true := by rw [decide_eq_true_iff]; exact c4
      clear c4 hy95
      go_wp2_with fail
      refine (rletter_is _ false _ c1').mono ?_
      rintro e w' ⟨rfl, rfl⟩
      go_wp2
      go_ret
      exact ⟨ret_int R.out.symm, rfl⟩
     ·have e5 : decide ((y.toNat : Int) < 48) = false := by rw [decide_eq_false_iff_not]; exact c4
      by_cases c6 : 57 < (y.toNat : Int)
      ·have R := zh (show ck s = 8 from by rw [T.out.1]; exact ck_more hjt (by rw [Y.out]; exact more_n c1' (by unfold dz; rw [decide_eq_false (show ¬ (y.toNat : Int) ≤ 57 by omega)]; simp) hy95))
       have e6 : decide (57 < (y.toNat : Int)) = true := by rw [decide_eq_true_iff]; exact c6
       clear c4 c6 hy95
       go_wp2_with fail
       refine (rletter_is _ false _ c1').mono ?_
       rintro e w' ⟨rfl, rfl⟩
       go_wp2
       go_ret
       exact ⟨ret_int R.out.symm, rfl⟩
      ·have M := zh (NX.out (more_d (by unfold dz; rw [decide_eq_true (show 48 ≤ (y.toNat : Int) by omega), decide_eq_true (show (y.toNat : Int) ≤ 57 by omega)]; rfl)))
       have e6 : decide (57 < (y.toNat : Int)) = false := by rw [decide_eq_false_iff_not]; exact c6
       clear c4 c6 hy95
       go_wp2_with fail
       refine (rletter_is _ false _ c1').mono ?_
       rintro e w' ⟨rfl, rfl⟩
       go_wp2
       go_round
       case rel => exact ⟨j + 1, by go_num, by omega, hlt, M.out⟩
       case measure => simp [intOf]; omega
  ·obtain rfl : j = s.length := by omega
   have R := zh (show ck s = 0 from by
    have e := J.out.1
    rw [T.out.1] at e ⊢
    rw [List.take_of_length_le (by simp)] at e
    exact ck_ok T.out.2.1 T.out.2.2 e)
   go_wp2
   go_ret
   exact ⟨ret_int R.out.symm, rfl⟩
theorem nm_rcheck_is (s : S) (E : Int) (w : World) (h : ck s = E) : Calls Tryz.prog 86 #[.string ⟨s.toArray⟩] w fun e w' => e = .returned (.int .i64 E) ∧ w = w' := by
 subst h
 cases s with
 | nil => rw [ck_nil]; exact rcheck_nil w
 | cons x t =>
  by_cases hl : 16 < (x :: t).length
  ·rw [ck_long hl]; exact rcheck_long _ w hl
  ·have hl' : t.length < 16 := by simp at hl; omega
   cases hx : lz (x.toNat : Int) with
   | false => rw [ck_head hx]; exact rcheck_head x t w hl' hx
   | true => exact rcheck_rest x t w hl' hx
end Go.Proofs.YtmgdciihpjifgaaGreatDoor
