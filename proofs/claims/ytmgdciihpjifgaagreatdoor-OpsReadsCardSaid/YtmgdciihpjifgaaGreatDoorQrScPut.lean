/-
 A table's bytes: putFlag, putCol, Put. Conditions: a table in memory whose columns' Defaults keep a value's bounds.
-/
import Derived.Test.YtmgdciihpjifgaaGreatDoorQrScCheck
import Derived.Test.YtmgdciihpjifgaaGreatDoorQrKcPutNum
import Derived.Test.YtmgdciihpjifgaaGreatDoorQrPackInts
import Derived.Deep.RegionHeld3
import Derived.Deep.DrawnRows
set_option maxHeartbeats 8000000
namespace Go.Proofs.YtmgdciihpjifgaaGreatDoor
open Go.RowKit
theorem putFlag_is (b : Bool) (l : List UInt8) (w : World) (h : flag b = l) :
  Calls Tryz.prog 111 #[.bool b] w fun e w' => e = .returned (.string ⟨l.toArray⟩) ∧ Below w.heap.size w w' := by
 subst h
 cases b with
 | true =>
  go_enter Tryz.func111, Tryz.ntmps111
  go_wp2
  go_ret
  exact ⟨rfl, Below.refl _ _⟩
 | false =>
  go_enter Tryz.func111, Tryz.ntmps111
  go_wp2
  go_ret
  exact ⟨rfl, Below.refl _ _⟩
theorem seven {w v : World} {B : Nat} {c : C} (h : Blk w B #[.string ⟨c.name.toArray⟩, .int .i64 c.kind, .bool c.null, .int .i64 c.d.k, .int .i64 c.d.n, .int .u64 c.d.b, .string ⟨c.d.s.toArray⟩] 27) (hb : Below w.heap.size w v) :
  Below w.heap.size w v ∧ v.cell? ⟨B, 0, none⟩ = some (.string ⟨c.name.toArray⟩) ∧ v.cell? ⟨B, 1, none⟩ = some (.int .i64 c.kind) ∧ v.cell? ⟨B, 2, none⟩ = some (.bool c.null) :=
 ⟨hb, (h.below hb).cell 0, (h.below hb).cell 1, (h.below hb).cell 2⟩
theorem putCol_is (c : C) (w : World) (hc : c.ck = 0) (ho : c.d.ok) :
  Calls Tryz.prog 84 #[.agg #[.string ⟨c.name.toArray⟩, .int .i64 c.kind, .bool c.null, .int .i64 c.d.k, .int .i64 c.d.n, .int .u64 c.d.b, .string ⟨c.d.s.toArray⟩]] w fun e w' => e = .returned (.string ⟨c.pt.toArray⟩) ∧ Below w.heap.size w w' := by
 obtain ⟨h0, h1, h2, h3, _⟩ := C.ck_ok hc
 have l0 := nm_ck_len h0
 obtain ⟨A, hA⟩ : ∃ A, Pk.tx c.name = A := ⟨_, rfl⟩
 obtain ⟨B, hB⟩ : ∃ B, Pk.un c.kind.toNat = B := ⟨_, rfl⟩
 obtain ⟨F, hF⟩ : ∃ F, flag c.null = F := ⟨_, rfl⟩
 obtain ⟨D, hD⟩ : ∃ D, c.d.pt = D := ⟨_, rfl⟩
 have a1 : A.length ≤ 60 := by have := Pk.ub_len 9 c.name.length; rw [← hA]; unfold Pk.tx Pk.un; simp only [List.length_append]; omega
 have a2 : B.length ≤ 20 := by have := Pk.ub_len 9 c.kind.toNat; rw [← hB]; unfold Pk.un; omega
 have a3 : F.length ≤ 1 := by rw [← hF, flag_len]; omega
 have a4 : D.length ≤ 131 := by rw [← hD]; exact vpt_len h3
 have e1 : (9223372036854775807 < A.length + B.length) = False := by rw [eq_iff_iff, iff_false]; omega
 have e2 : (9223372036854775807 < A.length + B.length + F.length) = False := by rw [eq_iff_iff, iff_false]; omega
 have e3 : (9223372036854775807 < A.length + B.length + F.length + D.length) = False := by rw [eq_iff_iff, iff_false]; omega
 have hw : IntKind.u64.wrap c.kind = c.kind := pk_wrap_u64 _ (by omega) (by omega)
 have cat : c.pt = A ++ B ++ F ++ D := by unfold C.pt; rw [hA, hB, hF, hD]
 rw [cat]
 have H := zh (za hA (za hB (za hF (za h3 (za ho (za l0 (za h1 (za h2 hD))))))))
 clear hc h0 h1 h2 h3 l0 hA hB hF a1 a2 a3 a4 ho cat hD
 have hmx : Tryz.prog.follows .mixedOrders = true := by kernel_rfl
 go_enter Tryz.func84, Tryz.ntmps84
 go_wp2_with fail
 refine (kput_ok c.d.k c.d.n c.d.b c.d.s _ H.out.2.2.2.2.1.1 H.out.2.2.2.2.1.2 H.out.2.2.2.1).mono ?_
 rintro e w1 ⟨rfl, hb⟩
 have b1 := (Blk.new w #[.string ⟨c.name.toArray⟩, .int .i64 c.kind, .bool c.null, .int .i64 c.d.k, .int .i64 c.d.n, .int .u64 c.d.b, .string ⟨c.d.s.toArray⟩] 27).below hb
 have B1 := zh (za (step1 (Below.refl _ w) hb) b1)
 clear hb b1
 rw [show pt c.d.k c.d.n c.d.b c.d.s = D from H.out.2.2.2.2.2.2.2.2]
 go_wp2
 go_region_held3 (fun v => Below w1.heap.size w1 v ∧ v.cell? ⟨w.heap.size, 0, none⟩ = some (.string ⟨c.name.toArray⟩) ∧ v.cell? ⟨w.heap.size, 1, none⟩ = some (.int .i64 c.kind) ∧ v.cell? ⟨w.heap.size, 2, none⟩ = some (.bool c.null))
  (first | exact seven B1.out.2 (Below.refl _ _).drew | exact seven B1.out.2 (step0 ‹Below _ _ _ ∧ _›.1 hb))
  (first
   | (go_at_call 32; refine (text_is c.name A _ (by have := H.out.2.2.2.2.2.1; omega) H.out.1).mono ?_; rintro e w2 ⟨rfl, hb⟩)
   | (go_at_call 30; refine (uint_is c.kind B _ (by have := H.out.2.2.2.2.2.2.1; omega) (by have := H.out.2.2.2.2.2.2.2.1; omega) H.out.2.1).mono ?_; rintro e w3 ⟨rfl, hb⟩)
   | (go_at_call 111; refine (putFlag_is c.null F _ H.out.2.2.1).mono ?_; rintro e w4 ⟨rfl, hb⟩))
 have Z := zh (step0 B1.out.1 (show Below w1.heap.size w1 w4 from ‹Below w1.heap.size w1 w4 ∧ _›.1))
 go_wp2
 go_ret
 refine ⟨?_, Z.out⟩
 show Ending.returned (.string (ByteArray.mk A.toArray ++ ⟨B.toArray⟩ ++ ⟨F.toArray⟩ ++ ⟨D.toArray⟩)) = _
 rw [cat_list, cat_list, cat_list]
theorem put_ok (nm : List UInt8) (K : Nat) (cs : List C) (ao : Option Addr) (cap : Nat) (w : World) (hg : Env w) (h : At3 w ⟨nm, (K : Int), cs⟩ ao cap) (hc : T.ck ⟨nm, (K : Int), cs⟩ = 0) :
  Calls Tryz.prog 57 #[.agg #[.string ⟨nm.toArray⟩, .int .i64 (K : Int), .slice ao cs.length cap]] w fun e w' => e = .returned (.tuple #[.string ⟨(T.by ⟨nm, (K : Int), cs⟩).toArray⟩, .int .i64 0]) ∧ Below w.heap.size w w' := by
 obtain ⟨h0, h1, h2, h3, h4, h5, h6⟩ := T.ck_ok hc
 have l0 : nm.length ≤ 16 := nm_ck_len h0
 simp only at h1 h2 h3 h4 h5 h6
 obtain ⟨A, hA⟩ : ∃ A, Pk.tx nm = A := ⟨_, rfl⟩
 obtain ⟨B, hB⟩ : ∃ B, Pk.un K = B := ⟨_, rfl⟩
 obtain ⟨N, hN⟩ : ∃ N, Pk.un cs.length = N := ⟨_, rfl⟩
 have a1 : A.length ≤ 60 := by have := Pk.ub_len 9 nm.length; rw [← hA]; unfold Pk.tx Pk.un; simp only [List.length_append]; omega
 have a2 : B.length ≤ 20 := by have := Pk.ub_len 9 K; rw [← hB]; unfold Pk.un; omega
 have a3 : N.length ≤ 20 := by have := Pk.ub_len 9 cs.length; rw [← hN]; unfold Pk.un; omega
 have w1 : IntKind.u64.wrap (K : Int) = (K : Int) := pk_wrap_u64 _ (by omega) (by omega)
 have w2 : IntKind.u64.wrap (cs.length : Int) = (cs.length : Int) := pk_wrap_u64 _ (by omega) (by omega)
 have cat : T.by ⟨nm, (K : Int), cs⟩ = A ++ B ++ N ++ cb cs := by unfold T.by T.hd; simp only [Int.toNat_natCast]; rw [hA, hB, hN]
 have hcb := cb_len h6
 rw [cat]
 have H := zh (za hg (za h (za hc (za hA (za hB (za hN (za h6 (za (za a1 (za a2 a3)) (za l0 (za h1 (za h2 (za h3 h4))))))))))))
 have hcl : ∀ j, (cb (cs.take j)).length ≤ 1600 := fun j => by
  have := cb_len (cs := cs.take j) (fun c hx => h6 c (List.mem_of_mem_take hx))
  have : (cs.take j).length ≤ cs.length := by rw [List.length_take]; exact Nat.min_le_right _ _
  omega
 have HL := zh hcl
 clear hg h hc h0 h1 h2 h3 h4 h5 h6 l0 hA hB hN a1 a2 a3 cat hcb hcl
 go_enter Tryz.func57, Tryz.ntmps57
 go_wp2_with fail
 refine (check_t ⟨nm, (K : Int), cs⟩ ao cap 0 _ (H.out.1.keep (below1 _ _)) (H.out.2.1.keep (below1 _ _)) H.out.2.2.1).mono ?_
 rintro e v1 ⟨rfl, hb⟩
 have b1 := (Blk.new w #[.string ⟨nm.toArray⟩, .int .i64 (K : Int), .slice ao cs.length cap] 30).below hb
 have hlt : w.heap.size < v1.heap.size := b1.lt
 obtain ⟨t0, t1, t2⟩ := (b1.alloc (.cells #[.pointer none, .slice none 0 0] 132)).t3
 have B1 := zh (za (step1 (Below.refl _ w) hb) (za b1 hlt))
 clear hb b1 hlt
 go_wp2_with fail
 refine (text_is nm A _ (by have := H.out.2.2.2.2.2.2.2.2.1; omega) H.out.2.2.2.1).mono ?_
 rintro e v2 ⟨rfl, hb⟩
 have B2 := zh (za ((Bu.new v1).keep hb) (step1 (Below.refl _ v1) hb))
 clear hb t0 t1 t2
 go_wp2_with fail
 refine (bu_write v1.heap.size v1.heap.size [] A _ B2.out.1 (by decide) (by have := H.out.2.2.2.2.2.2.2.1; omega) B2.out.2.size).mono ?_
 rintro e v3 ⟨rfl, hbu, hb⟩
 have b3 := B2.out.2.trans hb
 obtain ⟨t0, t1, t2⟩ := (B1.out.2.1.below b3).t3
 have B3 := zh (za hbu b3)
 clear hb b3 hbu
 go_wp2_with fail
 refine (uint_is (K : Int) B _ (by omega) (by have := H.out.2.2.2.2.2.2.2.2.2.2.2.2; omega) (by rw [Int.toNat_natCast]; exact H.out.2.2.2.2.1)).mono ?_
 rintro e v4 ⟨rfl, hb⟩
 have B4 := zh (za (B3.out.1.keep hb) (step0 B3.out.2 hb))
 clear hb t0 t1 t2
 go_wp2_with fail
 refine (bu_write v1.heap.size v1.heap.size ([] ++ A) B _ B4.out.1 (by have := H.out.2.2.2.2.2.2.2.1; simp; omega) (by have := H.out.2.2.2.2.2.2.2.1; omega) B4.out.2.size).mono ?_
 rintro e v5 ⟨rfl, hbu, hb⟩
 have b5 := B4.out.2.trans hb
 obtain ⟨t0, t1, t2⟩ := (B1.out.2.1.below b5).t3
 have B5 := zh (za hbu b5)
 clear hb b5 hbu
 go_wp2_with fail
 refine (uint_is (cs.length : Int) N _ (by omega) (by have := H.out.2.2.2.2.2.2.2.2.2.2.1; omega) (by rw [Int.toNat_natCast]; exact H.out.2.2.2.2.2.1)).mono ?_
 rintro e v6 ⟨rfl, hb⟩
 have B6 := zh (za (B5.out.1.keep hb) (step0 B5.out.2 hb))
 clear hb t0 t1 t2
 go_wp2_with fail
 refine (bu_write v1.heap.size v1.heap.size ([] ++ A ++ B) N _ B6.out.1 (by have := H.out.2.2.2.2.2.2.2.1; simp; omega) (by have := H.out.2.2.2.2.2.2.2.1; omega) B6.out.2.size).mono ?_
 rintro e v7 ⟨rfl, hbu, hb⟩
 have b7 := B6.out.2.trans hb
 obtain ⟨t0, t1, t2⟩ := (B1.out.2.1.below b7).t3
 have B7 := zh (za hbu b7)
 clear hb b7 hbu
 go_wp2
 go_loopw [31] (fun i wr => ∃ j : Nat, i = .int .i64 j ∧ j ≤ cs.length ∧ Bu v1.heap.size v1.heap.size ([] ++ A ++ B ++ N ++ cb (cs.take j)) wr ∧ Below v1.heap.size v1 wr) (fun i _ => cs.length - (intOf i).toNat)
 case atStart => exact ⟨0, rfl, Nat.zero_le _, by simpa [cb] using B7.out.1, B7.out.2⟩
 case round =>
  obtain ⟨j, rfl, hj, hbu, hbel⟩ := hrel
  have J := zh (za hbu hbel)
  clear hbu hbel
  by_cases hlt : j < cs.length
  ·obtain ⟨a, rfl, h0, h1, h2, h3, h4, h5, h6⟩ := H.out.2.1.1.below (step0 B1.out.1 J.out.2) j cs[j] (List.getElem?_eq_getElem hlt)
   have hw : wrap64 ((j : Int) + 1) = (j : Int) + 1 := by have := H.out.2.2.2.2.2.2.2.2.2.2.1; exact wrap_in _ (by omega) (by omega)
   go_wp2_with fail
   refine (putCol_is cs[j] _ (H.out.2.2.2.2.2.2.1 _ (List.getElem_mem hlt)) (H.out.2.1.2.2 _ (List.getElem_mem hlt))).mono ?_
   rintro e u1 ⟨rfl, hb⟩
   have K1 := zh (za ((J.out.1.keep (below1 wr _)).keep hb) (step1 J.out.2 hb))
   clear hb
   go_wp2_with fail
   refine (bu_write v1.heap.size v1.heap.size ([] ++ A ++ B ++ N ++ cb (cs.take j)) cs[j].pt _ K1.out.1 (by have := H.out.2.2.2.2.2.2.2.1; have := HL.out j; simp only [List.length_append, List.length_nil]; omega) (by have := C.pt_len (H.out.2.2.2.2.2.2.1 _ (List.getElem_mem hlt)); omega) K1.out.2.size).mono ?_
   rintro e u2 ⟨rfl, hbu, hb⟩
   have K2 := zh (za hbu (K1.out.2.trans hb))
   clear hbu hb
   go_wp2
   go_roundw
   case rel => exact ⟨j + 1, by go_num, hlt, by rw [cb_next hlt, ← List.append_assoc]; exact K2.out.1, K2.out.2⟩
   case measure => rw [hw]; simp [intOf]; omega
  ·obtain rfl : j = cs.length := by omega
   have hO := J.out.1
   rw [List.take_length, List.nil_append] at hO
   have ST := zh hO
   clear hO
   go_wp2_with fail
   refine (bu_string v1.heap.size v1.heap.size (A ++ B ++ N ++ cb cs) _ ST.out J.out.2.size).mono ?_
   rintro e u1 ⟨rfl, hb⟩
   have K1 := zh (step0 B1.out.1 (J.out.2.trans hb))
   clear hb
   go_wp2
   go_ret2
   exact ⟨by simp only [List.append_assoc]; rfl, K1.out⟩
theorem put_bad (t : T) (ao : Option Addr) (cap : Nat) (E : Int) (w : World) (hg : Env w) (h : At3 w t ao cap) (hc : t.ck = E) (hE : ¬ E = 0) :
  Calls Tryz.prog 57 #[.agg #[.string ⟨t.name.toArray⟩, .int .i64 t.keys, .slice ao t.cs.length cap]] w fun e w' => e = .returned (.tuple #[.string ⟨([] : List UInt8).toArray⟩, .int .i64 E]) ∧ Below w.heap.size w w' := by
 have H := zh (za hg (za h hc))
 clear hg h hc
 go_enter Tryz.func57, Tryz.ntmps57
 go_wp2_with fail
 refine (check_t t ao cap E _ (H.out.1.keep (below1 _ _)) (H.out.2.1.keep (below1 _ _)) H.out.2.2).mono ?_
 rintro e v1 ⟨rfl, hb⟩
 have B1 := zh (step1 (Below.refl _ w) hb)
 clear hb
 go_wp2
 go_ret2
 exact ⟨rfl, B1.out⟩
theorem put_t (t : T) (ao : Option Addr) (cap : Nat) (E : Int) (w : World) (hg : Env w) (h : At3 w t ao cap) (hc : t.ck = E) :
  Calls Tryz.prog 57 #[.agg #[.string ⟨t.name.toArray⟩, .int .i64 t.keys, .slice ao t.cs.length cap]] w fun e w' => e = .returned (.tuple #[.string ⟨t.pt.toArray⟩, .int .i64 E]) ∧ Below w.heap.size w w' := by
 by_cases hE : E = 0
 ·subst hE
  have ep : t.pt = t.by := by unfold T.pt; rw [if_neg (by simpa using hc)]
  rw [ep]
  obtain ⟨nm, ks, cs⟩ := t
  obtain ⟨_, _, _, k1, _, _, _⟩ := T.ck_ok hc
  obtain ⟨K, rfl⟩ : ∃ K : Nat, ks = (K : Int) := ⟨ks.toNat, by simp only at k1; omega⟩
  exact put_ok nm K cs ao cap w hg h hc
 ·have ep : t.pt = [] := by unfold T.pt; rw [if_pos (by omega)]
  rw [ep]
  exact put_bad t ao cap E w hg h hc hE
end Go.Proofs.YtmgdciihpjifgaaGreatDoor
