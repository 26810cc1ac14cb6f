/-
 What the document's escaped, Put and Row answer. Conditions: the bounds named in each theorem.
 What the document's Row answers. Conditions: the bounds named in each theorem.
 What the document's plain answers of any text. Condition: the bound named in the theorem.
-/
import Derived.Test.YtmgdciihpjifgaaGreatDoorQrKcRows
import Derived.Test.YtmgdciihpjifgaaGreatDoorQrVlRefCheck
import Derived.Test.YtmgdciihpjifgaaGreatDoorQrUtfCount
import Derived.WalkSpells
import Derived.WalkLawsBesides
set_option maxHeartbeats 2000000
namespace Go.Proofs.YtmgdciihpjifgaaGreatDoor
open Go.RowKit
section
variable {ops : Array Oper} {rest : List Oper} {o : Oper} {a : Act} {Q : Exit → Act → World → Prop}
theorem app00 (hgd : o.guard = none) (s x : Operand) (ho : o.op = .call { callee := .builtin .append, args := #[s, x], argTypes := #[102, 102] })
  (base : Nat) (v : Value) (l : List UInt8) (w0 : World) (hs : a.eval s = v) (hown : Ow w0 base v l)
  (hx : a.eval x = .slice (some ⟨w0.heap.size, 0, none⟩) 2 2) (hlen : l.length ≤ 1000000000) (hb : base ≤ w0.heap.size)
  (h : ∀ v' w', Ow w' base v' (l ++ [0, 0]) → Below base w0 w' → wpList Tryz.prog ops Q rest (a.put o.dst v') w') : wpList Tryz.prog ops Q (o :: rest) a (w0.alloc (.cells #[.int .u8 0, .int .u8 0] 5)) := by
 obtain ⟨i0, hi, hz0, hz1, hz2⟩ := info_parts Tryz.infoU8
 refine wpList_append_own _ hgd s x 102 ho base 5 i0 (.int .u8 0) 1 1 Tryz.underlying102 hi hz0 hz1 hz2 rfl (by decide) v _ _ hs (hown.alloc _) ⟨w0.heap.size, 0, none⟩ 2 2 [.int .u8 0, .int .u8 0] hx rfl ?_ ?_ (by unfold maxLen; omega) (by omega) (by simp; omega) ?_
 ·intro j u hj
  match j, hj with
  | 0, hj => simp at hj; subst hj; simp [Addr.add]
  | 1, hj => simp at hj; subst hj; simp [Addr.add]
  | (j + 2), hj => simp at hj
 ·intro u hu; simp at hu; subst hu; rfl
 ·intro v' w' hown' hgrow _
  refine h v' w' ?_ (((Below.refl base w0).alloc hb _).grown hgrow (by simp; omega) (fun k hk => (World.ownsRow.lt hown k hk).1))
  unfold Ow
  rw [List.length_append, List.map_append]; exact hown'
end
theorem bv_byte (x : UInt8) : Value.int .u8 (x.toNat : Int) = bv x := rfl
theorem rescaped_is (s : List UInt8) (w : World) (hs : s.length ≤ 64) :
  Calls Tryz.prog 92 #[.string ⟨s.toArray⟩] w fun e w' => e = .returned (.string ⟨(Kc.esc s).toArray⟩) ∧ Below w.heap.size w w' := by
 have HS := zh hs
 clear hs
 go_enter Tryz.func92, Tryz.ntmps92
 go_wp2
 go_loopw [3, 4] (fun o i wr => ∃ j : Nat, i = .int .i64 j ∧ j ≤ s.length ∧ Below w.heap.size w wr ∧ Ow wr w.heap.size o (Kc.es (s.take j))) (fun _ i _ => s.length - (intOf i).toNat)
 case atStart => exact ⟨0, rfl, Nat.zero_le _, Below.refl _ _, ow_nil _ _⟩
 case round =>
  obtain ⟨j, rfl, hj, hb, hO⟩ := hrel
  have J := zh (za hb hO)
  clear hb hO
  by_cases hlt : j < s.length
  ·have hsz : j < (ByteArray.mk s.toArray).size := hlt
   have hba : (ByteArray.mk s.toArray)[j] = s[j] := byte_at s j hlt
   have hw : wrap64 ((j : Int) + 1) = (j : Int) + 1 := by have := HS.out; exact wrap_in _ (by omega) (by omega)
   have hlen : zh (Kc.es_len (s.take j)) = zh (Kc.es_len (s.take j)) := rfl
   clear hlen
   have HL := zh (show (Kc.es (s.take j)).length ≤ 128 from by have h5 := Kc.es_len (s.take j); rw [List.length_take] at h5; have := HS.out; omega)
   have HE := zh (show Kc.es (s.take (j + 1)) = Kc.es (s.take j) ++ Kc.pc s[j] from by rw [List.take_succ_eq_append_getElem hlt, Kc.es_append]; simp [Kc.es])
   by_cases hz : s[j] = 0
   ·have hz1 : ((s[j].toNat : Int) == 0) = true := by rw [hz]; rfl
    have hz2 : (s[j].toNat : Int) = 0 := by rw [hz]; rfl
    have HZ := zh hz
    clear hz
    go_wp2_with (at_builtin; first
     | (refine app1 rfl _ _ rfl w.heap.size u3 (Kc.es (s.take j)) 0 _ wr rfl rfl J.out.2 rfl (by have := HL.out; omega) J.out.1.size ?_; intro v' w1 hown' hb'; have J1 := zh (za hown' (J.out.1.trans hb')); clear hown' hb'; go_frame)
     | (refine app1 rfl _ _ rfl w.heap.size v' (Kc.es (s.take j) ++ [0]) 255 _ w1 rfl rfl J1.out.1 rfl (by have := HL.out; simp; omega) J1.out.2.size ?_; intro v2 w2 hown' hb'; have J2 := zh (za hown' (J1.out.2.trans hb')); clear hown' hb'; go_frame))
    go_roundw
    case rel => exact ⟨j + 1, by go_num, hlt, J2.out.2, by rw [HE.out, HZ.out, Kc.pc_0]; simpa using J2.out.1⟩
    case measure => rw [hw]; simp [intOf]; omega
   ·have hz1 : ((s[j].toNat : Int) == 0) = false := beq_f (fun e => hz (UInt8.toNat_inj.1 (by show s[j].toNat = 0; omega)))
    have HZ := zh hz
    clear hz
    go_wp2_with (at_builtin; (refine app1 rfl _ _ rfl w.heap.size u3 (Kc.es (s.take j)) s[j] _ wr (bv_byte _) rfl J.out.2 rfl (by have := HL.out; omega) J.out.1.size ?_; intro v' w1 hown' hb'; have J1 := zh (za hown' (J.out.1.trans hb')); clear hown' hb'; go_frame))
    go_roundw
    case rel => exact ⟨j + 1, by go_num, hlt, J1.out.2, by rw [HE.out, Kc.pc_n HZ.out]; exact J1.out.1⟩
    case measure => rw [hw]; simp [intOf]; omega
  ·obtain rfl : j = s.length := by omega
   have hO := J.out.2
   rw [List.take_length] at hO
   have HL := zh (za hO (show (Kc.es s).length ≤ 128 from by have h5 := Kc.es_len s; have := HS.out; omega))
   clear hO
   go_wp2_with (at_builtin; refine app00 rfl _ _ rfl w.heap.size u3 (Kc.es s) wr rfl HL.out.1 rfl (by have := HL.out.2; omega) J.out.1.size ?_; intro v' w1 hown' hb'; have cv := conv_own _ hown'; have J1 := zh (J.out.1.trans hb'); clear hown' hb'; go_frame)
   go_ret
   exact ⟨rfl, J1.out⟩
theorem ow_new (W : World) (c : UInt8) : Ow (W.alloc (.cells #[bv c] 5)) 0 (.slice (some ⟨W.heap.size, 0, none⟩) 1 1) [c] :=
 ⟨rfl, .inr ⟨W.heap.size, 1, #[bv c], rfl, Nat.zero_le _, World.alloc_heap_new W _, Nat.le_refl _, by decide, rfl, rfl⟩⟩
theorem conv1 (W : World) (c : UInt8) (x : Int) (h : x = (c.toNat : Int)) : (convert 102 9 (.slice (some ⟨W.heap.size, 0, none⟩) 1 1)).run Tryz.prog (W.alloc (.cells #[.int .u8 x] 5)) = .ok (.string ⟨[c].toArray⟩) (W.alloc (.cells #[.int .u8 x] 5)) := by
 subst h; exact conv_own _ (ow_new W c)
theorem cat_list (a b : List UInt8) : ByteArray.mk a.toArray ++ ⟨b.toArray⟩ = ⟨(a ++ b).toArray⟩ := by
 apply ByteArray.ext; simp
theorem eight_x (x : Int) (N : Nat) (w : World) (h : x = N) :
  Calls Tryz.prog 90 #[.int .u64 x] w fun e w' => e = .returned (.string ⟨(Kc.bn 8 N).toArray⟩) ∧ Below w.heap.size w w' := by
 subst h; exact eight_is N w
theorem rput_0 (n b : Int) (s : List UInt8) (w : World) (hU : Rl.U b) (h : Vl.ck 0 n b s = 0) :
  Calls Tryz.prog 61 #[.agg #[.int .i64 0, .int .i64 n, .int .u64 b, .string ⟨s.toArray⟩]] w fun e w' => e = .returned (.tuple #[.string ⟨(pt 0 n b s).toArray⟩, .int .i64 0]) ∧ Below w.heap.size w w' := by
 have HC := zh h
 clear h
 go_enter Tryz.func61, Tryz.ntmps61
 go_wp2_with fail
 refine (rcheck_is 0 n b 0 s _ hU HC.out).mono ?_
 rintro e w1 ⟨rfl, hb⟩
 obtain ⟨_, c0, c1, c2, c3⟩ := boxes_1 hb
 have B1 := zh (old_1 hb)
 have d0 := keep0 c0 (below1 w1 (Obj.cells #[.int .u8 0] 5))
 have d1 := keep0 c1 (below1 w1 (Obj.cells #[.int .u8 0] 5))
 have d2 := keep0 c2 (below1 w1 (Obj.cells #[.int .u8 0] 5))
 have d3 := keep0 c3 (below1 w1 (Obj.cells #[.int .u8 0] 5))
 have cb := conv1 w1 (UInt8.ofNat (0 : Int).toNat) 0 rfl
 clear hb
 go_wp2
 go_ret2
 exact ⟨rfl, B1.out.alloc B1.out.size _⟩
theorem rput_1a (b : Int) (s : List UInt8) (w : World) (hU : Rl.U b) (h : Vl.ck 1 0 b s = 0) :
  Calls Tryz.prog 61 #[.agg #[.int .i64 1, .int .i64 0, .int .u64 b, .string ⟨s.toArray⟩]] w fun e w' => e = .returned (.tuple #[.string ⟨(pt 1 0 b s).toArray⟩, .int .i64 0]) ∧ Below w.heap.size w w' := by
 have HC := zh h
 clear h
 go_enter Tryz.func61, Tryz.ntmps61
 go_wp2_with fail
 refine (rcheck_is 1 0 b 0 s _ hU HC.out).mono ?_
 rintro e w1 ⟨rfl, hb⟩
 obtain ⟨_, c0, c1, c2, c3⟩ := boxes_1 hb
 have B1 := zh (old_1 hb)
 have d0 := keep0 c0 (below1 w1 (Obj.cells #[.int .u8 1] 5))
 have d1 := keep0 c1 (below1 w1 (Obj.cells #[.int .u8 1] 5))
 have d2 := keep0 c2 (below1 w1 (Obj.cells #[.int .u8 1] 5))
 have d3 := keep0 c3 (below1 w1 (Obj.cells #[.int .u8 1] 5))
 have cb := conv1 w1 (UInt8.ofNat (1 : Int).toNat) 1 rfl
 clear hb
 have cc := conv1 (w1.alloc (.cells #[.int .u8 1] 5)) (UInt8.ofNat (0 : Int).toNat) 0 rfl
 rw [World.size_alloc] at cc
 go_wp2
 go_ret2
 exact ⟨rfl, (B1.out.alloc B1.out.size _).alloc (B1.out.alloc B1.out.size _).size _⟩
theorem rput_1b (b : Int) (s : List UInt8) (w : World) (hU : Rl.U b) (h : Vl.ck 1 1 b s = 0) :
  Calls Tryz.prog 61 #[.agg #[.int .i64 1, .int .i64 1, .int .u64 b, .string ⟨s.toArray⟩]] w fun e w' => e = .returned (.tuple #[.string ⟨(pt 1 1 b s).toArray⟩, .int .i64 0]) ∧ Below w.heap.size w w' := by
 have HC := zh h
 clear h
 go_enter Tryz.func61, Tryz.ntmps61
 go_wp2_with fail
 refine (rcheck_is 1 1 b 0 s _ hU HC.out).mono ?_
 rintro e w1 ⟨rfl, hb⟩
 obtain ⟨_, c0, c1, c2, c3⟩ := boxes_1 hb
 have B1 := zh (old_1 hb)
 have d0 := keep0 c0 (below1 w1 (Obj.cells #[.int .u8 1] 5))
 have d1 := keep0 c1 (below1 w1 (Obj.cells #[.int .u8 1] 5))
 have d2 := keep0 c2 (below1 w1 (Obj.cells #[.int .u8 1] 5))
 have d3 := keep0 c3 (below1 w1 (Obj.cells #[.int .u8 1] 5))
 have cb := conv1 w1 (UInt8.ofNat (1 : Int).toNat) 1 rfl
 clear hb
 have cc := conv1 (w1.alloc (.cells #[.int .u8 1] 5)) (UInt8.ofNat (1 : Int).toNat) 1 rfl
 rw [World.size_alloc] at cc
 go_wp2
 go_ret2
 exact ⟨rfl, (B1.out.alloc B1.out.size _).alloc (B1.out.alloc B1.out.size _).size _⟩
theorem rput_2 (n b : Int) (s : List UInt8) (w : World) (hU : Rl.U b) (hn : -9223372036854775808 ≤ n ∧ n < 9223372036854775808) (h : Vl.ck 2 n b s = 0) :
  Calls Tryz.prog 61 #[.agg #[.int .i64 2, .int .i64 n, .int .u64 b, .string ⟨s.toArray⟩]] w fun e w' => e = .returned (.tuple #[.string ⟨(pt 2 n b s).toArray⟩, .int .i64 0]) ∧ Below w.heap.size w w' := by
 have HC := zh h
 clear h
 go_enter Tryz.func61, Tryz.ntmps61
 go_wp2_with fail
 refine (rcheck_is 2 n b 0 s _ hU HC.out).mono ?_
 rintro e w1 ⟨rfl, hb⟩
 obtain ⟨_, c0, c1, c2, c3⟩ := boxes_1 hb
 have B1 := zh (old_1 hb)
 have d0 := keep0 c0 (below1 w1 (Obj.cells #[.int .u8 2] 5))
 have d1 := keep0 c1 (below1 w1 (Obj.cells #[.int .u8 2] 5))
 have d2 := keep0 c2 (below1 w1 (Obj.cells #[.int .u8 2] 5))
 have d3 := keep0 c3 (below1 w1 (Obj.cells #[.int .u8 2] 5))
 have cb := conv1 w1 (UInt8.ofNat (2 : Int).toNat) 2 rfl
 clear hb
 have HN := zh hn
 clear hn
 go_wp2_with fail
 refine (eight_x _ (n + 9223372036854775808).toNat _ (xs_int n HN.out)).mono ?_
 rintro e w2 ⟨rfl, hb⟩
 have B9 := zh (step1 B1.out hb)
 clear hb
 have hR : (Kc.bn 8 (n + 9223372036854775808).toNat).length ≤ 200 := by rw [Kc.bn_len]; decide
 have cat := cat_list [UInt8.ofNat (2 : Int).toNat] (Kc.bn 8 (n + 9223372036854775808).toNat)
 obtain ⟨R, hRe⟩ : ∃ R, Kc.bn 8 (n + 9223372036854775808).toNat = R := ⟨_, rfl⟩
 rw [hRe] at hR cat ⊢
 have hd : (9223372036854775807 < 1 + R.length) = False := by rw [eq_iff_iff, iff_false]; omega
 have HR := zh hRe
 clear hR hRe
 go_wp2
 go_ret2
 exact ⟨by show Ending.returned (.tuple #[.string (ByteArray.mk [UInt8.ofNat (2 : Int).toNat].toArray ++ ⟨R.toArray⟩), .int .i64 0]) = _; rw [cat, ← HR.out]; rfl, B9.out⟩
theorem rput_3 (n b : Int) (s : List UInt8) (w : World) (hU : Rl.U b) (h : Vl.ck 3 n b s = 0) :
  Calls Tryz.prog 61 #[.agg #[.int .i64 3, .int .i64 n, .int .u64 b, .string ⟨s.toArray⟩]] w fun e w' => e = .returned (.tuple #[.string ⟨(pt 3 n b s).toArray⟩, .int .i64 0]) ∧ Below w.heap.size w w' := by
 have HC := zh h
 clear h
 go_enter Tryz.func61, Tryz.ntmps61
 go_wp2_with fail
 refine (rcheck_is 3 n b 0 s _ hU HC.out).mono ?_
 rintro e w1 ⟨rfl, hb⟩
 obtain ⟨_, c0, c1, c2, c3⟩ := boxes_1 hb
 have B1 := zh (old_1 hb)
 have d0 := keep0 c0 (below1 w1 (Obj.cells #[.int .u8 3] 5))
 have d1 := keep0 c1 (below1 w1 (Obj.cells #[.int .u8 3] 5))
 have d2 := keep0 c2 (below1 w1 (Obj.cells #[.int .u8 3] 5))
 have d3 := keep0 c3 (below1 w1 (Obj.cells #[.int .u8 3] 5))
 have cb := conv1 w1 (UInt8.ofNat (3 : Int).toNat) 3 rfl
 clear hb
 have hk0 := Rl.ky_U b hU
 have HK := zh (show Rl.ky b = ((Rl.ky b).toNat : Int) from by unfold Rl.U at hk0; omega)
 clear hk0
 go_wp2_with fail
 refine (refKey_any b _ hU).mono ?_
 rintro e w' ⟨rfl, rfl⟩
 go_wp2_with fail
 refine (eight_x _ (Rl.ky b).toNat _ HK.out).mono ?_
 rintro e w2 ⟨rfl, hb⟩
 have B9 := zh (step1 B1.out hb)
 clear hb
 have hR : (Kc.bn 8 (Rl.ky b).toNat).length ≤ 200 := by rw [Kc.bn_len]; decide
 have cat := cat_list [UInt8.ofNat (3 : Int).toNat] (Kc.bn 8 (Rl.ky b).toNat)
 obtain ⟨R, hRe⟩ : ∃ R, Kc.bn 8 (Rl.ky b).toNat = R := ⟨_, rfl⟩
 rw [hRe] at hR cat ⊢
 have hd : (9223372036854775807 < 1 + R.length) = False := by rw [eq_iff_iff, iff_false]; omega
 have HR := zh hRe
 clear hR hRe
 go_wp2
 go_ret2
 exact ⟨by show Ending.returned (.tuple #[.string (ByteArray.mk [UInt8.ofNat (3 : Int).toNat].toArray ++ ⟨R.toArray⟩), .int .i64 0]) = _; rw [cat, ← HR.out]; rfl, B9.out⟩
theorem rput_4 (n b : Int) (s : List UInt8) (w : World) (hU : Rl.U b) (hs : s.length ≤ 64) (h : Vl.ck 4 n b s = 0) :
  Calls Tryz.prog 61 #[.agg #[.int .i64 4, .int .i64 n, .int .u64 b, .string ⟨s.toArray⟩]] w fun e w' => e = .returned (.tuple #[.string ⟨(pt 4 n b s).toArray⟩, .int .i64 0]) ∧ Below w.heap.size w w' := by
 have HC := zh h
 clear h
 go_enter Tryz.func61, Tryz.ntmps61
 go_wp2_with fail
 refine (rcheck_is 4 n b 0 s _ hU HC.out).mono ?_
 rintro e w1 ⟨rfl, hb⟩
 obtain ⟨_, c0, c1, c2, c3⟩ := boxes_1 hb
 have B1 := zh (old_1 hb)
 have d0 := keep0 c0 (below1 w1 (Obj.cells #[.int .u8 4] 5))
 have d1 := keep0 c1 (below1 w1 (Obj.cells #[.int .u8 4] 5))
 have d2 := keep0 c2 (below1 w1 (Obj.cells #[.int .u8 4] 5))
 have d3 := keep0 c3 (below1 w1 (Obj.cells #[.int .u8 4] 5))
 have cb := conv1 w1 (UInt8.ofNat (4 : Int).toNat) 4 rfl
 clear hb
 have HS := zh hs
 clear hs
 go_wp2_with fail
 refine (rescaped_is s _ HS.out).mono ?_
 rintro e w2 ⟨rfl, hb⟩
 have B9 := zh (step1 B1.out hb)
 clear hb
 have hR : (Kc.esc s).length ≤ 200 := by unfold Kc.esc; have := Kc.es_len s; have := HS.out; rw [List.length_append]; simp only [List.length_cons, List.length_nil]; omega
 have cat := cat_list [UInt8.ofNat (4 : Int).toNat] (Kc.esc s)
 obtain ⟨R, hRe⟩ : ∃ R, Kc.esc s = R := ⟨_, rfl⟩
 rw [hRe] at hR cat ⊢
 have hd : (9223372036854775807 < 1 + R.length) = False := by rw [eq_iff_iff, iff_false]; omega
 have HR := zh hRe
 clear hR hRe
 go_wp2
 go_ret2
 exact ⟨by show Ending.returned (.tuple #[.string (ByteArray.mk [UInt8.ofNat (4 : Int).toNat].toArray ++ ⟨R.toArray⟩), .int .i64 0]) = _; rw [cat, ← HR.out]; rfl, B9.out⟩
theorem rput_5 (n b : Int) (s : List UInt8) (w : World) (hU : Rl.U b) (hs : s.length ≤ 64) (h : Vl.ck 5 n b s = 0) :
  Calls Tryz.prog 61 #[.agg #[.int .i64 5, .int .i64 n, .int .u64 b, .string ⟨s.toArray⟩]] w fun e w' => e = .returned (.tuple #[.string ⟨(pt 5 n b s).toArray⟩, .int .i64 0]) ∧ Below w.heap.size w w' := by
 have HC := zh h
 clear h
 go_enter Tryz.func61, Tryz.ntmps61
 go_wp2_with fail
 refine (rcheck_is 5 n b 0 s _ hU HC.out).mono ?_
 rintro e w1 ⟨rfl, hb⟩
 obtain ⟨_, c0, c1, c2, c3⟩ := boxes_1 hb
 have B1 := zh (old_1 hb)
 have d0 := keep0 c0 (below1 w1 (Obj.cells #[.int .u8 5] 5))
 have d1 := keep0 c1 (below1 w1 (Obj.cells #[.int .u8 5] 5))
 have d2 := keep0 c2 (below1 w1 (Obj.cells #[.int .u8 5] 5))
 have d3 := keep0 c3 (below1 w1 (Obj.cells #[.int .u8 5] 5))
 have cb := conv1 w1 (UInt8.ofNat (5 : Int).toNat) 5 rfl
 clear hb
 have HS := zh hs
 clear hs
 go_wp2_with fail
 refine (rescaped_is s _ HS.out).mono ?_
 rintro e w2 ⟨rfl, hb⟩
 have B9 := zh (step1 B1.out hb)
 clear hb
 have hR : (Kc.esc s).length ≤ 200 := by unfold Kc.esc; have := Kc.es_len s; have := HS.out; rw [List.length_append]; simp only [List.length_cons, List.length_nil]; omega
 have cat := cat_list [UInt8.ofNat (5 : Int).toNat] (Kc.esc s)
 obtain ⟨R, hRe⟩ : ∃ R, Kc.esc s = R := ⟨_, rfl⟩
 rw [hRe] at hR cat ⊢
 have hd : (9223372036854775807 < 1 + R.length) = False := by rw [eq_iff_iff, iff_false]; omega
 have HR := zh hRe
 clear hR hRe
 go_wp2
 go_ret2
 exact ⟨by show Ending.returned (.tuple #[.string (ByteArray.mk [UInt8.ofNat (5 : Int).toNat].toArray ++ ⟨R.toArray⟩), .int .i64 0]) = _; rw [cat, ← HR.out]; rfl, B9.out⟩
theorem rput_ok (k n b : Int) (s : List UInt8) (w : World) (hU : Rl.U b) (hn : -9223372036854775808 ≤ n ∧ n < 9223372036854775808) (h : Vl.ck k n b s = 0) :
  Calls Tryz.prog 61 #[.agg #[.int .i64 k, .int .i64 n, .int .u64 b, .string ⟨s.toArray⟩]] w fun e w' => e = .returned (.tuple #[.string ⟨(pt k n b s).toArray⟩, .int .i64 0]) ∧ Below w.heap.size w w' := by
 obtain ⟨k0, k5, hkn, hkb, hks, hk1, hcn, hsl⟩ := Vl.ck_ok h
 have c : k = 0 ∨ k = 1 ∨ k = 2 ∨ k = 3 ∨ k = 4 ∨ k = 5 := by omega
 rcases c with rfl | rfl | rfl | rfl | rfl | rfl
 ·exact rput_0 n b s w hU h
 ·rcases hk1 rfl with rfl | rfl
  ·exact rput_1a b s w hU h
  ·exact rput_1b b s w hU h
 ·exact rput_2 n b s w hU hn h
 ·exact rput_3 n b s w hU h
 ·exact rput_4 n b s w hU hsl h
 ·exact rput_5 n b s w hU hsl h
end Go.Proofs.YtmgdciihpjifgaaGreatDoor
namespace Go.Proofs.YtmgdciihpjifgaaGreatDoor
open Go.RowKit
end Go.Proofs.YtmgdciihpjifgaaGreatDoor
namespace Go.Proofs.YtmgdciihpjifgaaGreatDoor
open Go.RowKit
theorem ret_ssi {a b s t : List UInt8} {c d : Int} (h : a = b) (g : s = t) (i : c = d) : Ending.returned (.tuple #[.string ⟨a.toArray⟩, .string ⟨s.toArray⟩, .int .i64 c]) = .returned (.tuple #[.string ⟨b.toArray⟩, .string ⟨t.toArray⟩, .int .i64 d]) := by rw [h, g, i]
theorem zf {x : UInt8} (n : UInt8) (h : x ≠ n) : ((x.toNat : Int) == (n.toNat : Int)) = false := beq_f (fun e => h (UInt8.toNat_inj.1 (by omega)))
theorem zt {x n : UInt8} (h : x = n) : ((x.toNat : Int) == (n.toNat : Int)) = true := by rw [h]; simp
theorem rplain_is (s : List UInt8) (w : World) (hs : s.length ≤ 1000000) :
  Calls Tryz.prog 118 #[.string ⟨s.toArray⟩] w fun e w' => e = .returned (.tuple #[.string ⟨(Kc.un s).1.toArray⟩, .string ⟨(Kc.un s).2.1.toArray⟩, .int .i64 (Kc.un s).2.2]) ∧ Below w.heap.size w w' := by
 have HS := zh hs
 have hmx : Tryz.prog.follows .mixedOrders = true := by kernel_rfl
 clear hs
 go_enter Tryz.func118, Tryz.ntmps118
 go_wp2
 go_loopw [5, 6] (fun o i wr => ∃ (j : Nat) (done : List UInt8), i = .int .i64 j ∧ j ≤ s.length ∧ Below w.heap.size w wr ∧ Ow wr w.heap.size o done ∧ Kc.un s = Kc.pre done (Kc.un (s.drop j)) ∧ done.length ≤ j) (fun _ i _ => s.length - (intOf i).toNat)
 case atStart => exact ⟨0, [], rfl, Nat.zero_le _, Below.refl _ _, ow_nil _ _, (Kc.pre_nil s).symm, Nat.le_refl _⟩
 case round =>
  obtain ⟨j, done, rfl, hj, hb, hO, hu, hd⟩ := hrel
  have J := zh (za hb (za hO (za hu hd)))
  clear hb hO hu hd
  by_cases hlt : j < s.length
  ·have hsz : j < (ByteArray.mk s.toArray).size := hlt
   have hba : (ByteArray.mk s.toArray)[j] = s[j] := byte_at s j hlt
   have hw : wrap64 ((j : Int) + 1) = (j : Int) + 1 := by have := HS.out; exact wrap_in _ (by omega) (by omega)
   have HD := zh (List.drop_eq_getElem_cons hlt)
   by_cases hz : s[j] = 0
   ·have hz1 : ((s[j].toNat : Int) == 0) = true := zt (n := 0) hz
    have hz2 : (s[j].toNat : Int) = 0 := by rw [hz]; rfl
    have HZ := zh hz
    clear hz
    by_cases hl : j + 1 < s.length
    ·have hsz2 : j + 1 < (ByteArray.mk s.toArray).size := hl
     have hba2 : (ByteArray.mk s.toArray)[j + 1] = s[j + 1] := byte_at s (j + 1) hl
     have hl1 : ((j : Int) + 1 == (s.length : Int)) = false := beq_f (by omega)
     have hl2 : (j : Int) + 1 < (s.length : Int) := by omega
     have ht : ((j : Int) + 1).toNat = j + 1 := by omega
     have HD2 := zh (show s.drop j = 0 :: s[j + 1] :: s.drop (j + 2) from by rw [HD.out, HZ.out, List.drop_eq_getElem_cons hl])
     by_cases h0 : s[j + 1] = 0
     ·have h1 : ((s[j + 1].toNat : Int) == 0) = true := zt (n := 0) h0
      have h2 : (s[j + 1].toNat : Int) = 0 := by rw [h0]; rfl
      have H0 := zh h0
      have hw2 : wrap64 ((j : Int) + 2) = (j : Int) + 2 := by have := HS.out; exact wrap_in _ (by omega) (by omega)
      have ht2 : ((j : Int) + 2).toNat = j + 2 := by omega
      have hl3 : (j : Int) + 2 ≤ (s.length : Int) := by omega
      have ct := cut_from s (j + 2)
      have cv := conv_own _ (J.out.2.1.keep (below_drew1 (Below.refl _ _)))
      clear h0
      go_wp2
      go_region
      go_wp2
      go_ret3
      have K : Kc.un s = (done, s.drop (j + 2), 0) := by rw [J.out.2.2.1, HD2.out, H0.out, Kc.un_00]; simp [Kc.pre]
      exact ⟨ret_ssi (by rw [K]) (by rw [K]) (by rw [K]), below_drew1 J.out.1⟩
     ·by_cases hf : s[j + 1] = 255
      ·have h1 : ((s[j + 1].toNat : Int) == 0) = false := zf 0 h0
       have h2 : ¬ (s[j + 1].toNat : Int) = 0 := by rw [hf]; decide
       have h3 : ((s[j + 1].toNat : Int) == 255) = true := zt (n := 255) hf
       have h4 : (s[j + 1].toNat : Int) = 255 := by rw [hf]; rfl
       have HF := zh hf
       have hw2 : wrap64 ((j : Int) + 1 + 1) = (j : Int) + 2 := by have := HS.out; rw [show (j : Int) + 1 + 1 = (j : Int) + 2 from by omega]; exact wrap_in _ (by omega) (by omega)
       clear h0 hf
       go_wp2_with (at_builtin; (refine app1 rfl _ _ rfl w.heap.size u5 done 0 _ wr rfl rfl J.out.2.1 rfl (by have := J.out.2.2.2; have := HS.out; omega) J.out.1.size ?_; intro v' w1 hown' hb'; have J1 := zh (za hown' (J.out.1.trans hb')); clear hown' hb'; go_frame))
       go_roundw
       case rel => exact ⟨j + 2, done ++ [0], by go_num, hl, J1.out.2, J1.out.1, by rw [J.out.2.2.1, HD2.out, HF.out, Kc.un_0f, Kc.pre_cons], by have := J.out.2.2.2; simp; omega⟩
       case measure => simp only [hw2]; simp [intOf]; omega
      ·have h1 : ((s[j + 1].toNat : Int) == 0) = false := zf 0 h0
       have h2 : ¬ (s[j + 1].toNat : Int) = 0 := fun e => h0 (UInt8.toNat_inj.1 (by show s[j + 1].toNat = 0; omega))
       have h3 : ((s[j + 1].toNat : Int) == 255) = false := zf 255 hf
       have h4 : ¬ (s[j + 1].toNat : Int) = 255 := fun e => hf (UInt8.toNat_inj.1 (by show s[j + 1].toNat = 255; omega))
       have K := zh (show Kc.un s = ([], [], 4) from by rw [J.out.2.2.1, HD2.out, Kc.un_0x _ h0 hf]; rfl)
       clear h0 hf
       go_wp2
       go_ret3
       exact ⟨ret_ssi (a := []) (s := []) (by rw [K.out]) (by rw [K.out]) (by rw [K.out]), J.out.1⟩
    ·have hl1 : ((j : Int) + 1 == (s.length : Int)) = true := beq_t (by omega)
     have K := zh (show Kc.un s = ([], [], 3) from by rw [J.out.2.2.1, HD.out, List.drop_of_length_le (by omega)]; rfl)
     go_wp2
     go_ret3
     exact ⟨ret_ssi (a := []) (s := []) (by rw [K.out]) (by rw [K.out]) (by rw [K.out]), J.out.1⟩
   ·have hz1 : ((s[j].toNat : Int) == 0) = false := zf 0 hz
    have hz2 : ¬ (s[j].toNat : Int) = 0 := fun e => hz (UInt8.toNat_inj.1 (by show s[j].toNat = 0; omega))
    have HZ := zh hz
    clear hz
    go_wp2_with (at_builtin; (refine app1 rfl _ _ rfl w.heap.size u5 done s[j] _ wr (bv_byte _) rfl J.out.2.1 rfl (by have := J.out.2.2.2; have := HS.out; omega) J.out.1.size ?_; intro v' w1 hown' hb'; have J1 := zh (za hown' (J.out.1.trans hb')); clear hown' hb'; go_frame))
    go_roundw
    case rel => exact ⟨j + 1, done ++ [s[j]], by go_num, hlt, J1.out.2, J1.out.1, by rw [J.out.2.2.1, HD.out, Kc.un_n _ HZ.out, Kc.pre_cons], by have := J.out.2.2.2; simp; omega⟩
    case measure => rw [hw]; simp [intOf]; omega
  ·obtain rfl : j = s.length := by omega
   have K := zh (show Kc.un s = ([], [], 3) from by rw [J.out.2.2.1, List.drop_length]; rfl)
   go_wp2
   go_ret3
   exact ⟨ret_ssi (a := []) (s := []) (by rw [K.out]) (by rw [K.out]) (by rw [K.out]), J.out.1⟩
end Go.Proofs.YtmgdciihpjifgaaGreatDoor
