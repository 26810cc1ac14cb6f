/-
 The document's bytes of a table: Put. Conditions: a table in memory whose columns' Defaults keep a value's bounds.
-/
import Derived.Test.YtmgdciihpjifgaaGreatDoorQrScSame
import Derived.Test.YtmgdciihpjifgaaGreatDoorQrScCheck
import Derived.Test.YtmgdciihpjifgaaGreatDoorQrPackRefInts
import Derived.Test.YtmgdciihpjifgaaGreatDoorQrKcRefPut
import Derived.Deep.RegionHeldLaw
set_option maxHeartbeats 16000000
namespace Go.Proofs.YtmgdciihpjifgaaGreatDoor
open Go.RowKit
theorem three {W v : World} {B : Nat} {u0 u1 u2 : Value} (h : Blk W B #[u0, u1, u2] 30) (hb : Below W.heap.size W v) :
  Below W.heap.size W v ∧ v.cell? ⟨B, 0, none⟩ = some u0 ∧ v.cell? ⟨B, 1, none⟩ = some u1 ∧ v.cell? ⟨B, 2, none⟩ = some u2 := ⟨hb, (h.below hb).cell 0, (h.below hb).cell 1, (h.below hb).cell 2⟩
theorem conv_b {W : World} {g : Nat} {x : Int} {F : List UInt8} (hx : Value.int .u8 x = bv (F.headD 0)) (hF : F.length = 1) (h : Blk W g #[.int .u8 x] 5) :
  (convert 102 9 (.slice (some ⟨g, 0, none⟩) 1 1)).run Tryz.prog W = .ok (.string ⟨F.toArray⟩) W := by
 match F, hF with
 | [c], _ =>
  have hx' : Value.int .u8 x = bv c := hx
  rw [hx'] at h
  exact conv_own (base := g) [c] ⟨rfl, .inr ⟨g, 1, #[bv c], rfl, Nat.le_refl _, h, Nat.le_refl _, by unfold maxLen; decide, rfl, rfl⟩⟩
theorem blk_new2 (X : World) (o : Array Value) (t : TypeId) : Blk (World.drew (X.alloc (.cells o t))) X.heap.size o t := Blk.new X o t
theorem blk_after {X v : World} {o : Array Value} {t : TypeId} (h : Below (X.alloc (.cells o t)).heap.size (X.alloc (.cells o t)) v) : Blk v X.heap.size o t := (Blk.new X o t).below h
theorem blk_afterD {X v : World} {o : Array Value} {t : TypeId} (h : Below (World.drew (X.alloc (.cells o t))).heap.size (World.drew (X.alloc (.cells o t))) v) : Blk v X.heap.size o t := Blk.below (blk_new2 X o t) h
theorem two7n {w v : World} {B : Nat} {nm : List UInt8} {kd : Int} {u2 u3 u4 u5 u6 : Value} (h : Blk w B #[.string ⟨nm.toArray⟩, .int .i64 kd, u2, u3, u4, u5, u6] 27) (hb : Below w.heap.size w v) :
  Below w.heap.size w v ∧ v.cell? ⟨B, 0, none⟩ = some (.string ⟨nm.toArray⟩) ∧ v.cell? ⟨B, 1, none⟩ = some (.int .i64 kd) := ⟨hb, (h.below hb).cell 0, (h.below hb).cell 1⟩
theorem rput_good (nm : List UInt8) (K : Nat) (cs : List C) (ao : Option Addr) (cap : Nat) (w : World) (h : At3 w ⟨nm, (K : Int), cs⟩ ao cap) (hc : T.ck ⟨nm, (K : Int), cs⟩ = 0) :
  Calls Tryz.prog 35 #[.agg #[.string ⟨nm.toArray⟩, .int .i64 (K : Int), .slice ao cs.length cap]] w fun e w' => e = .returned (.tuple #[.string ⟨(T.by ⟨nm, (K : Int), cs⟩).toArray⟩, .int .i64 0]) ∧ Below w.heap.size w w' := by
 have hmx : Tryz.prog.follows .mixedOrders = true := by kernel_rfl
 obtain ⟨h0, h1, h2, h3, h4, h5, h6⟩ := T.ck_ok hc
 have l0 : nm.length ≤ 16 := nm_ck_len h0
 simp only at h1 h2 h3 h4 h5 h6
 obtain ⟨A, hA⟩ : ∃ A, Pk.tx nm = A := ⟨_, rfl⟩
 obtain ⟨B, hB⟩ : ∃ B, Pk.un K = B := ⟨_, rfl⟩
 obtain ⟨N, hN⟩ : ∃ N, Pk.un cs.length = N := ⟨_, rfl⟩
 have a1 : A.length ≤ 60 := by have := Pk.ub_len 9 nm.length; rw [← hA]; unfold Pk.tx Pk.un; simp only [List.length_append]; omega
 have a2 : B.length ≤ 20 := by have := Pk.ub_len 9 K; rw [← hB]; unfold Pk.un; omega
 have a3 : N.length ≤ 20 := by have := Pk.ub_len 9 cs.length; rw [← hN]; unfold Pk.un; omega
 have w1 : IntKind.u64.wrap (K : Int) = (K : Int) := pk_wrap_u64 _ (by omega) (by omega)
 have w2 : IntKind.u64.wrap (cs.length : Int) = (cs.length : Int) := pk_wrap_u64 _ (by omega) (by omega)
 have e1 : (9223372036854775807 < A.length + B.length) = False := by rw [eq_iff_iff, iff_false]; omega
 have e2 : (9223372036854775807 < A.length + B.length + N.length) = False := by rw [eq_iff_iff, iff_false]; omega
 have cat : T.by ⟨nm, (K : Int), cs⟩ = A ++ B ++ N ++ cb cs := by unfold T.by T.hd; simp only [Int.toNat_natCast]; rw [hA, hB, hN]
 rw [cat]
 have H := zh (za h (za hc (za hA (za hB (za hN (za h6 (za (za a1 (za a2 a3)) (za l0 (za h1 (za h2 (za h3 h4)))))))))))
 have hcl : ∀ j, (cb (cs.take j)).length ≤ 1600 := fun j => by
  have := cb_len (cs := cs.take j) (fun c hx => h6 c (List.mem_of_mem_take hx))
  have : (cs.take j).length ≤ cs.length := by rw [List.length_take]; exact Nat.min_le_right _ _
  omega
 have HL := zh hcl
 clear h hc h0 h1 h2 h3 h4 h5 h6 l0 hA hB hN a1 a2 a3 cat hcl
 go_enter Tryz.func35, Tryz.ntmps35
 go_wp2_with fail
 refine (rcheck_t ⟨nm, (K : Int), cs⟩ ao cap 0 _ (H.out.1.keep (below1 _ _)) H.out.2.1).mono ?_
 rintro e v1 ⟨rfl, hb⟩
 have b1 := (Blk.new w #[.string ⟨nm.toArray⟩, .int .i64 (K : Int), .slice ao cs.length cap] 30).below hb
 have B1 := zh (za (step1 (Below.refl _ w) hb) b1)
 clear hb b1
 go_wp2
 go_region_held3 (fun v => Below v1.heap.size v1 v ∧ v.cell? ⟨w.heap.size, 0, none⟩ = some (.string ⟨nm.toArray⟩) ∧ v.cell? ⟨w.heap.size, 1, none⟩ = some (.int .i64 (K : Int)) ∧ v.cell? ⟨w.heap.size, 2, none⟩ = some (.slice ao cs.length cap))
  (first | exact three B1.out.2 (Below.refl _ _).drew | exact three B1.out.2 (step0 ‹Below v1.heap.size v1 _ ∧ _›.1 hb))
  (first
   | (go_at_call 37; refine (rtext_is nm A _ (by have := H.out.2.2.2.2.2.2.2.1; omega) H.out.2.2.1).mono ?_; rintro e v2 ⟨rfl, hb⟩)
   | (go_at_call 36; refine (ruint_any _ _ (by have := H.out.2.2.2.2.2.2.2.2.2.1; have := H.out.2.2.2.2.2.2.2.2.2.2.2; omega)).mono ?_; rintro e v3 ⟨rfl, hb⟩; first | rw [H.out.2.2.2.1] | rw [H.out.2.2.2.2.1]))
 have B4 := zh (show Below v1.heap.size v1 v3 from ‹Below v1.heap.size v1 v3 ∧ _›.1)
 clear e1 e2
 rw [cat_list, cat_list]
 obtain ⟨P, hP⟩ : ∃ P, A ++ B ++ N = P := ⟨_, rfl⟩
 have HP := zh hP
 rw [hP]
 clear hP
 go_wp2
 go_loopw [5, 6] (fun q i wr => ∃ j : Nat, q = .string ⟨(P ++ cb (cs.take j)).toArray⟩ ∧ i = .int .i64 j ∧ j ≤ cs.length ∧ Below w.heap.size w wr ∧ Blk wr w.heap.size #[.string ⟨nm.toArray⟩, .int .i64 (K : Int), .slice ao cs.length cap] 30) (fun _ i _ => cs.length - (intOf i).toNat)
 case atStart => exact ⟨0, by simp [cb], rfl, Nat.zero_le _, step0 B1.out.1 B4.out, B1.out.2.below B4.out⟩
 case round =>
  obtain ⟨j, rfl, rfl, hj, hbel, hbl⟩ := hrel
  obtain ⟨t0, t1, t2⟩ := hbl.t3
  have J := zh (za hbel hbl)
  clear hbel hbl
  obtain ⟨M, hM⟩ : ∃ M, P ++ cb (cs.take j) = M := ⟨_, rfl⟩
  have hPl : P.length = A.length + B.length + N.length := by rw [← HP.out]; simp only [List.length_append]
  have m0 : M.length ≤ 1800 := by have := H.out.2.2.2.2.2.2.1; have := HL.out j; rw [← hM]; simp only [List.length_append]; omega
  clear hPl
  have HM := zh hM
  rw [hM]
  clear hM
  by_cases hlt : j < cs.length
  ·obtain ⟨a, rfl, c0, c1, c2, c3, c4, c5, c6⟩ := H.out.1.1.below J.out.1 j cs[j] (List.getElem?_eq_getElem hlt)
   have hw : wrap64 ((j : Int) + 1) = (j : Int) + 1 := by have := H.out.2.2.2.2.2.2.2.2.2.1; exact wrap_in _ (by omega) (by omega)
   obtain ⟨g0, g1, g2, g3, _⟩ := C.ck_ok (H.out.2.2.2.2.2.1 _ (List.getElem_mem hlt))
   have l0 := nm_ck_len g0
   obtain ⟨X, hX⟩ : ∃ X, Pk.tx cs[j].name = X := ⟨_, rfl⟩
   obtain ⟨Y, hY⟩ : ∃ Y, Pk.un cs[j].kind.toNat = Y := ⟨_, rfl⟩
   obtain ⟨F, hF⟩ : ∃ F, flag cs[j].null = F := ⟨_, rfl⟩
   obtain ⟨D, hD⟩ : ∃ D, cs[j].d.pt = D := ⟨_, rfl⟩
   have a1 : X.length ≤ 60 := by have := Pk.ub_len 9 cs[j].name.length; rw [← hX]; unfold Pk.tx Pk.un; simp only [List.length_append]; omega
   have a2 : Y.length ≤ 20 := by have := Pk.ub_len 9 cs[j].kind.toNat; rw [← hY]; unfold Pk.un; omega
   have a3 : F.length = 1 := by rw [← hF, flag_len]
   have a4 : D.length ≤ 131 := by rw [← hD]; exact vpt_len g3
   have z1 : (9223372036854775807 < M.length + X.length) = False := by rw [eq_iff_iff, iff_false]; omega
   have z2 : (9223372036854775807 < M.length + X.length + Y.length) = False := by rw [eq_iff_iff, iff_false]; omega
   have z3 : (9223372036854775807 < M.length + X.length + Y.length + F.length) = False := by rw [eq_iff_iff, iff_false]; omega
   have z4 : (9223372036854775807 < M.length + X.length + Y.length + F.length + D.length) = False := by rw [eq_iff_iff, iff_false]; omega
   have kw : IntKind.u64.wrap cs[j].kind = cs[j].kind := pk_wrap_u64 _ (by omega) (by omega)
   have cat : P ++ cb (cs.take (j + 1)) = M ++ X ++ Y ++ F ++ D := by
    rw [cb_next hlt, ← List.append_assoc, HM.out]; unfold C.pt; rw [hX, hY, hF, hD]; simp only [List.append_assoc]
   have Q := zh (za hX (za hY (za hF (za hD (za l0 (za g1 (za g2 (za g3 (za a3 cat)))))))))
   clear hX hY hF hD l0 g0 g1 g2 g3 a1 a2 a3 a4 m0 cat
   cases hnu : cs[j].null with
   | false =>
    rw [hnu] at c2
    have hxb : Value.int .u8 0 = bv (F.headD 0) := by have := Q.out.2.2.1; rw [hnu] at this; rw [← this]; rfl
    have F1 := Q.out.2.2.2.2.2.2.2.2.1
    have cv0 : ∀ X : World, (convert 102 9 (.slice (some ⟨X.heap.size, 0, none⟩) 1 1)).run Tryz.prog (X.alloc (.cells #[.int .u8 0] 5)) = .ok (.string ⟨F.toArray⟩) (X.alloc (.cells #[.int .u8 0] 5)) := fun X => conv_b hxb F1 (Blk.new X _ _)
    have cv1 : ∀ X : World, (convert 102 9 (.slice (some ⟨X.heap.size, 0, none⟩) 1 1)).run Tryz.prog (World.drew (X.alloc (.cells #[.int .u8 0] 5))) = .ok (.string ⟨F.toArray⟩) (World.drew (X.alloc (.cells #[.int .u8 0] 5))) := fun X => conv_b hxb F1 (blk_new2 X _ _)
    have HX := zh (za hxb (za F1 hnu))
    clear hxb F1 hnu
    go_wp2_with fail
    refine (rput_ok cs[j].d.k cs[j].d.n cs[j].d.b cs[j].d.s _ (H.out.1.2.2 _ (List.getElem_mem hlt)).1 (H.out.1.2.2 _ (List.getElem_mem hlt)).2 Q.out.2.2.2.2.2.2.2.1).mono ?_
    rintro e u1 ⟨rfl, hb⟩
    have k1 := (Blk.new wr #[.string ⟨cs[j].name.toArray⟩, .int .i64 cs[j].kind, .bool false, .int .i64 cs[j].d.k, .int .i64 cs[j].d.n, .int .u64 cs[j].d.b, .string ⟨cs[j].d.s.toArray⟩] 27).below hb
    have K1 := zh (za (step1 J.out.1 hb) (za k1 ((J.out.2.alloc (.cells #[.string ⟨cs[j].name.toArray⟩, .int .i64 cs[j].kind, .bool false, .int .i64 cs[j].d.k, .int .i64 cs[j].d.n, .int .u64 cs[j].d.b, .string ⟨cs[j].d.s.toArray⟩] 27)).below hb)))
    clear hb k1
    rw [show pt cs[j].d.k cs[j].d.n cs[j].d.b cs[j].d.s = D from Q.out.2.2.2.1]
    go_wp2
    go_region_held_law (fun v => Below u1.heap.size u1 v ∧ v.cell? ⟨wr.heap.size, 0, none⟩ = some (.string ⟨cs[j].name.toArray⟩) ∧ v.cell? ⟨wr.heap.size, 1, none⟩ = some (.int .i64 cs[j].kind))
     (first | assumption | exact two7n K1.out.2.1 (Below.refl _ _).drew | exact two7n K1.out.2.1 (below_drew1 (below1 u1 _)) | exact two7n K1.out.2.1 (below_drew1 (‹Below u1.heap.size u1 _ ∧ _›.1.alloc ‹Below u1.heap.size u1 _ ∧ _›.1.size _)) | exact two7n K1.out.2.1 (step0 ‹Below u1.heap.size u1 _ ∧ _›.1 hb) | exact two7n K1.out.2.1 (‹Below u1.heap.size u1 _ ∧ _›.1.alloc ‹Below u1.heap.size u1 _ ∧ _›.1.size _))
     (first
      | (go_at_call 37; refine (rtext_is cs[j].name X _ (by have := Q.out.2.2.2.2.1; omega) Q.out.1).mono ?_; rintro e u2 ⟨rfl, hb⟩; first | (have bx := blk_after hb; have cx := conv_b HX.out.1 HX.out.2.1 bx) | (have bx := blk_afterD hb; have cx := conv_b HX.out.1 HX.out.2.1 bx) | skip)
      | (go_at_call 36; refine (ruint_is cs[j].kind Y _ (by have := Q.out.2.2.2.2.2.1; omega) (by have := Q.out.2.2.2.2.2.2.1; omega) Q.out.2.1).mono ?_; rintro e u3 ⟨rfl, hb⟩; first | (have by3 := blk_after hb; have cy := conv_b HX.out.1 HX.out.2.1 by3) | (have by3 := blk_afterD hb; have cy := conv_b HX.out.1 HX.out.2.1 by3) | (have by3 := Blk.below bx hb; have cy := conv_b HX.out.1 HX.out.2.1 by3) | skip))
    all_goals go_wp2
    all_goals refine za ?_ ?_
    all_goals first
     | exact ⟨j + 1, by rw [Q.out.2.2.2.2.2.2.2.2.2]; rw [cat_list, cat_list, cat_list, cat_list], by go_num, hlt, step0 K1.out.1 ‹Below u1.heap.size u1 _ ∧ _›.1, K1.out.2.2.below ‹Below u1.heap.size u1 _ ∧ _›.1⟩
     | ((repeat apply Exists.intro); refine ⟨?_, rfl⟩; exact ⟨j + 1, by rw [Q.out.2.2.2.2.2.2.2.2.2]; rw [cat_list, cat_list, cat_list, cat_list], by go_num, hlt, step0 K1.out.1 ‹Below u1.heap.size u1 _ ∧ _›.1, K1.out.2.2.below ‹Below u1.heap.size u1 _ ∧ _›.1⟩)
     | (rw [hw]; simp [intOf]; omega)
   | true =>
    rw [hnu] at c2
    have hxb : Value.int .u8 1 = bv (F.headD 0) := by have := Q.out.2.2.1; rw [hnu] at this; rw [← this]; rfl
    have F1 := Q.out.2.2.2.2.2.2.2.2.1
    have cv0 : ∀ X : World, (convert 102 9 (.slice (some ⟨X.heap.size, 0, none⟩) 1 1)).run Tryz.prog (X.alloc (.cells #[.int .u8 1] 5)) = .ok (.string ⟨F.toArray⟩) (X.alloc (.cells #[.int .u8 1] 5)) := fun X => conv_b hxb F1 (Blk.new X _ _)
    have cv1 : ∀ X : World, (convert 102 9 (.slice (some ⟨X.heap.size, 0, none⟩) 1 1)).run Tryz.prog (World.drew (X.alloc (.cells #[.int .u8 1] 5))) = .ok (.string ⟨F.toArray⟩) (World.drew (X.alloc (.cells #[.int .u8 1] 5))) := fun X => conv_b hxb F1 (blk_new2 X _ _)
    have HX := zh (za hxb (za F1 hnu))
    clear hxb F1 hnu
    go_wp2_with fail
    refine (rput_ok cs[j].d.k cs[j].d.n cs[j].d.b cs[j].d.s _ (H.out.1.2.2 _ (List.getElem_mem hlt)).1 (H.out.1.2.2 _ (List.getElem_mem hlt)).2 Q.out.2.2.2.2.2.2.2.1).mono ?_
    rintro e u1 ⟨rfl, hb⟩
    have k1 := (Blk.new wr #[.string ⟨cs[j].name.toArray⟩, .int .i64 cs[j].kind, .bool true, .int .i64 cs[j].d.k, .int .i64 cs[j].d.n, .int .u64 cs[j].d.b, .string ⟨cs[j].d.s.toArray⟩] 27).below hb
    have K1 := zh (za (step1 J.out.1 hb) (za k1 ((J.out.2.alloc (.cells #[.string ⟨cs[j].name.toArray⟩, .int .i64 cs[j].kind, .bool true, .int .i64 cs[j].d.k, .int .i64 cs[j].d.n, .int .u64 cs[j].d.b, .string ⟨cs[j].d.s.toArray⟩] 27)).below hb)))
    clear hb k1
    rw [show pt cs[j].d.k cs[j].d.n cs[j].d.b cs[j].d.s = D from Q.out.2.2.2.1]
    go_wp2
    go_region_held_law (fun v => Below u1.heap.size u1 v ∧ v.cell? ⟨wr.heap.size, 0, none⟩ = some (.string ⟨cs[j].name.toArray⟩) ∧ v.cell? ⟨wr.heap.size, 1, none⟩ = some (.int .i64 cs[j].kind))
     (first | assumption | exact two7n K1.out.2.1 (Below.refl _ _).drew | exact two7n K1.out.2.1 (below_drew1 (below1 u1 _)) | exact two7n K1.out.2.1 (below_drew1 (‹Below u1.heap.size u1 _ ∧ _›.1.alloc ‹Below u1.heap.size u1 _ ∧ _›.1.size _)) | exact two7n K1.out.2.1 (step0 ‹Below u1.heap.size u1 _ ∧ _›.1 hb) | exact two7n K1.out.2.1 (‹Below u1.heap.size u1 _ ∧ _›.1.alloc ‹Below u1.heap.size u1 _ ∧ _›.1.size _))
     (first
      | (go_at_call 37; refine (rtext_is cs[j].name X _ (by have := Q.out.2.2.2.2.1; omega) Q.out.1).mono ?_; rintro e u2 ⟨rfl, hb⟩; first | (have bx := blk_after hb; have cx := conv_b HX.out.1 HX.out.2.1 bx) | (have bx := blk_afterD hb; have cx := conv_b HX.out.1 HX.out.2.1 bx) | skip)
      | (go_at_call 36; refine (ruint_is cs[j].kind Y _ (by have := Q.out.2.2.2.2.2.1; omega) (by have := Q.out.2.2.2.2.2.2.1; omega) Q.out.2.1).mono ?_; rintro e u3 ⟨rfl, hb⟩; first | (have by3 := blk_after hb; have cy := conv_b HX.out.1 HX.out.2.1 by3) | (have by3 := blk_afterD hb; have cy := conv_b HX.out.1 HX.out.2.1 by3) | (have by3 := Blk.below bx hb; have cy := conv_b HX.out.1 HX.out.2.1 by3) | skip))
    all_goals go_wp2
    all_goals refine za ?_ ?_
    all_goals first
     | exact ⟨j + 1, by rw [Q.out.2.2.2.2.2.2.2.2.2]; rw [cat_list, cat_list, cat_list, cat_list], by go_num, hlt, step0 K1.out.1 ‹Below u1.heap.size u1 _ ∧ _›.1, K1.out.2.2.below ‹Below u1.heap.size u1 _ ∧ _›.1⟩
     | ((repeat apply Exists.intro); refine ⟨?_, rfl⟩; exact ⟨j + 1, by rw [Q.out.2.2.2.2.2.2.2.2.2]; rw [cat_list, cat_list, cat_list, cat_list], by go_num, hlt, step0 K1.out.1 ‹Below u1.heap.size u1 _ ∧ _›.1, K1.out.2.2.below ‹Below u1.heap.size u1 _ ∧ _›.1⟩)
     | (rw [hw]; simp [intOf]; omega)
  ·obtain rfl : j = cs.length := by omega
   have eM' : P ++ cb cs = M := by rw [← HM.out, List.take_length]
   have eM : A ++ B ++ N ++ cb cs = M := by rw [HP.out, eM']
   go_wp2
   go_ret2
   exact ⟨by first | (rw [eM]; rfl) | (rw [eM']; rfl), J.out.1⟩
theorem rput_nope (t : T) (ao : Option Addr) (cap : Nat) (E : Int) (w : World) (h : At3 w t ao cap) (hc : t.ck = E) (hE : ¬ E = 0) :
  Calls Tryz.prog 35 #[.agg #[.string ⟨t.name.toArray⟩, .int .i64 t.keys, .slice ao t.cs.length cap]] w fun e w' => e = .returned (.tuple #[.string ⟨([] : List UInt8).toArray⟩, .int .i64 E]) ∧ Below w.heap.size w w' := by
 have H := zh (za h hc)
 have e1 := bne_t hE
 clear h hc
 go_enter Tryz.func35, Tryz.ntmps35
 go_wp2_with fail
 refine (rcheck_t t ao cap E _ (H.out.1.keep (below1 _ _)) H.out.2).mono ?_
 rintro e v1 ⟨rfl, hb⟩
 have B1 := zh (step1 (Below.refl _ w) hb)
 clear hb
 go_wp2
 go_ret2
 exact ⟨rfl, B1.out⟩
theorem rput_t (t : T) (ao : Option Addr) (cap : Nat) (E : Int) (w : World) (h : At3 w t ao cap) (hc : t.ck = E) :
  Calls Tryz.prog 35 #[.agg #[.string ⟨t.name.toArray⟩, .int .i64 t.keys, .slice ao t.cs.length cap]] w fun e w' => e = .returned (.tuple #[.string ⟨t.pt.toArray⟩, .int .i64 E]) ∧ Below w.heap.size w w' := by
 by_cases hE : E = 0
 ·subst hE
  have ep : t.pt = t.by := by unfold T.pt; rw [if_neg (by simpa using hc)]
  rw [ep]
  obtain ⟨nm, ks, cs⟩ := t
  obtain ⟨_, _, _, k1, _, _, _⟩ := T.ck_ok hc
  obtain ⟨K, rfl⟩ : ∃ K : Nat, ks = (K : Int) := ⟨ks.toNat, by simp only at k1; omega⟩
  exact rput_good nm K cs ao cap w h hc
 ·have ep : t.pt = [] := by unfold T.pt; rw [if_pos (by omega)]
  rw [ep]
  exact rput_nope t ao cap E w h hc hE
end Go.Proofs.YtmgdciihpjifgaaGreatDoor
