/-
  Rows of a sheet from a key on, ahead of another, so many at most: Range. Conditions: a sheet in memory, of at most 100 lines by rising keys of at most 30 values.
-/
import Derived.Test.YtfgakoldedpfoaaDoorShPut
namespace Go.Proofs.YtfgakoldedpfoaaDoor
open Go.RowKit
set_option linter.unusedVariables false
set_option linter.unusedSimpArgs false

def rv (z : LV) : RV := ⟨z.xs, z.ao, z.cap⟩
def rvs (zs : List LV) : List RV := zs.map rv
theorem rvs_rxs (zs : List LV) : rxs (rvs zs) = (lls zs).map L.r := by simp [rxs, rvs, lls, rv, LV.l]
theorem rvs_len (zs : List LV) : (rvs zs).length = zs.length := by simp [rvs]
theorem InL.rows {W : World} {zs : List LV} (h : InL W zs) : InR W (rvs zs) := by
  intro y hy
  obtain ⟨z, hz, rfl⟩ := List.mem_map.1 hy
  exact (h z hz).1
section
variable {ops : Array Oper} {rest : List Oper} {o : Oper} {a : Act} {Q : Exit → Act → World → Prop}
theorem makeRs (w : World) (hgd : o.guard = none) (l c : Operand) (ho : o.op = Op.makeSlice 33 l c) (kl kc : IntKind) (L C : Int) (n : Nat) (hl : a.eval l = .int kl L) (hc : a.eval c = .int kc C) (hL : L = (n : Int)) (hC : C = (n : Int)) (hn : n ≤ 1000)
    (h : ∀ g w', w.heap.size = g → OwR w' w.heap.size (.slice (some ⟨g, 0, none⟩) n n) (List.replicate n RV0) → Below w.heap.size w w' → wpList Tryd.prog ops Q rest (a.put o.dst (.slice (some ⟨g, 0, none⟩) n n)) w') : wpList Tryd.prog ops Q (o :: rest) a w := by
  obtain ⟨i0, hi, hz0, hz1, hz2⟩ := info_parts Tryd.infoR
  refine wpList_make_full w hgd l c 33 ho w.heap.size 43 i0 _ 1 Tryd.underlying33 hi hz0 hz1 kl kc L C n hl hc hL hC (by rw [hz2]; omega) (by unfold maxLen; omega) (Nat.le_refl _) ?_
  intro w' hown hgr
  refine h _ w' rfl ?_ ((Below.refl _ w).grown hgr (Nat.le_refl _) (fun k hk => by cases hk))
  unfold OwR
  rw [List.length_replicate, ← rcs_made]
  exact hown
end
theorem OwR.at1 {w : World} {b g n cap : Nat} {ys : List RV} (h : OwR w b (.slice (some ⟨g, 0, none⟩) n cap) ys) (hn : n = ys.length) (j : Nat) (z : RV) (hj : ys[j]? = some z) : w.cell? ⟨g, j, none⟩ = some (.slice z.ao z.xs.length z.cap) ∧ ∀ i, w.frozen? ⟨g, i, none⟩ = false := by
  subst hn
  refine ⟨?_, fun i => World.ownsRow.frozenAt h i⟩
  have := World.ownsRow.cells h (g := g) rfl j (.slice z.ao z.xs.length z.cap) (by rw [List.getElem?_map, hj]; rfl)
  rwa [add_none] at this
theorem rvs_append (a b : List LV) : rvs (a ++ b) = rvs a ++ rvs b := by simp [rvs]
theorem rset_next {zs : List LV} {N j : Nat} (h : zs.length = N) (hj : j < zs.length) : (rvs (zs.take j) ++ List.replicate (N - j) RV0).set j (rv zs[j]) = rvs (zs.take (j + 1)) ++ List.replicate (N - (j + 1)) RV0 := by
  have hl : (rvs (zs.take j)).length = j := by rw [rvs_len, List.length_take]; omega
  rw [List.set_append_right _ _ (by omega), hl, Nat.sub_self, show N - j = (N - (j + 1)) + 1 by omega, List.replicate_succ, List.set_cons_zero, List.take_succ_eq_append_getElem hj, rvs_append, List.append_assoc]
  rfl
theorem rat_next {zs : List LV} {N j : Nat} (h : zs.length = N) (hj : j < zs.length) : (rvs (zs.take j) ++ List.replicate (N - j) RV0)[j]? = some RV0 := by
  have hl : (rvs (zs.take j)).length = j := by rw [rvs_len, List.length_take]; omega
  rw [List.getElem?_append_right (by omega), hl, Nat.sub_self, show N - j = (N - (j + 1)) + 1 by omega, List.replicate_succ]
  rfl
/-- What Range tells. -/
def RQ (w' : World) (e : Ending) (r : List (List V)) : Prop := ∃ ao c ys, e = .returned (.slice ao ys.length c) ∧ SlR w' ao ys ∧ InR w' ys ∧ rxs ys = r

set_option maxRecDepth 1000000 in
set_option maxHeartbeats 2000000 in
theorem range_e (nm : Nm.S) (ks : Int) (cs : List C) (zs : List LV) (ao lo : Option Addr) (cap lc : Nat) (kl : Nm.S) (most : Int) (w : World) (hL : LS w zs lo lc) (hl : zs.length ≤ 100) (h30 : ∀ z ∈ zs, z.xs.length ≤ 30) (hr : Ris (lls zs)) :
    Calls Tryd.prog 10 #[.agg #[.string ⟨nm.toArray⟩, .int .i64 ks, .slice ao cs.length cap, .slice lo zs.length lc], .string ⟨kl.toArray⟩, .string ⟨#[]⟩, .int .i64 most] w fun e w' => RQ w' e (rgl (lls zs) kl [] most) ∧ Below w.heap.size w w' := by
  obtain ⟨F, hF⟩ : ∃ F, fnd (lls zs) kl = F := ⟨_, rfl⟩
  obtain ⟨B, hB⟩ : ∃ B, isk (lls zs) kl = B := ⟨_, rfl⟩
  obtain ⟨U, hU⟩ : ∃ U, upto (lls zs) [] = U := ⟨_, rfl⟩
  obtain rfl : U = zs.length := by rw [← hU]; unfold upto; rw [if_pos rfl, lls_len]
  have hFle : F ≤ zs.length := by rw [← hF, ← lls_len]; exact fnd_le _ _
  have hUle : zs.length ≤ zs.length := Nat.le_refl _
  have hrg := rgl_is hr kl [] most
  rw [hF, hU] at hrg
  obtain ⟨N, hC⟩ : ∃ N : Nat, max 0 (min ((zs.length : Int) - (F : Int)) most) = (N : Int) := ⟨(max 0 (min ((zs.length : Int) - (F : Int)) most)).toNat, by omega⟩
  have hFN : F + N ≤ zs.length := by omega
  have hN : (min ((zs.length : Int) - (F : Int)) most).toNat = N := by omega
  rw [hN] at hrg
  have f0 : (0 : Int) ≤ (F : Int) := by omega
  have f1 : (F : Int) ≤ (F : Int) + (N : Int) := by omega
  have f2 : (F : Int) + (N : Int) ≤ (lc : Int) := by have := hL.2.2.1; omega
  clear hN
  have hsz : zs.length < 4611686018427387904 := by omega
  have H := Lib.hid (And.intro hL (And.intro hl (And.intro h30 (And.intro hr (And.intro hF (And.intro hB hrg))))))
  clear hU
  clear hL hl h30 hr hF hB hrg
  go_enter Tryd.func10, Tryd.ntmps10
  go_wp2_with fail
  refine (find_s nm ks cs zs kl ao lo cap _ lc _ rfl (H.out.1.1.below (below1 _ _)) (by have := H.out.2.1; omega) H.out.2.2.2.1 F B H.out.2.2.2.2.1 H.out.2.2.2.2.2.1).mono ?_
  rintro e w1 ⟨rfl, hb⟩
  have K1 := Lib.hid (And.intro (step1 (Below.refl _ w) hb) ((Blk.new w #[.string ⟨nm.toArray⟩, .int .i64 ks, .slice ao cs.length cap, .slice lo zs.length lc] 27).below hb))
  clear hb
  obtain ⟨⟨c0, c1, c2, c3⟩, _⟩ := K1.out.2.s4
  have K2 := K1
  go_wp2_with (refine makeRs _ rfl _ _ rfl _ _ _ _ N rfl rfl rfl rfl (by have := H.out.2.1; omega) ?_)
  intro g w3 hg hO hb
  have K3 := Lib.hid (And.intro (step0 K2.out.1 hb) (And.intro (K2.out.2.below hb) (And.intro hO (hg ▸ K2.out.1.size))))
  have hg3 : g < w3.heap.size := (World.ownsRow.lt hO g rfl).2
  have LN := Lib.hid (show ((zs.drop F).take N).length = N by rw [List.length_take, List.length_drop]; omega)
  obtain ⟨A, hA⟩ : ∃ A, (if lc = F then lo else Option.map (fun x => x.add (F * 2)) lo) = A := ⟨_, rfl⟩
  have LL := Lib.hid (And.intro (show LS w3 ((zs.drop F).take N) A (lc - F) from hA ▸ ((H.out.1.below K3.out.1).drop F hFle |>.take N)) hg3)
  clear hb hO hg hg3 c0 c1 c2 c3
  obtain ⟨⟨c0, c1, c2, c3⟩, _⟩ := K3.out.2.1.s4
  go_wp2_with fail
  refine (lcopied_is ((zs.drop F).take N) _ _ _ _ LN.out LL.out.1 (by rw [LN.out]; have := H.out.2.1; omega) (smal_cat (by rw [LN.out]; have := H.out.2.1; omega) (fun z hz => H.out.2.2.1 z (List.mem_of_mem_drop (List.mem_of_mem_take hz))))).mono ?_
  rintro e w4 ⟨ao', cap', zs', rfl, hLS, hLB, hls, hb⟩
  have hzn : zs'.length = N := (lls_length hls).trans LN.out
  have B4 := Lib.hid (And.intro hLS (And.intro hLB (And.intro hls (And.intro (step0 K3.out.1 hb) (And.intro (K3.out.2.2.1.keep hb) hzn)))))
  clear hLS hLB hls hb hzn c0 c1 c2 c3 hC f0 f1 f2
  go_wp2
  go_loopw [50] (fun i wr => ∃ j : Nat, i = .int .i64 j ∧ j ≤ N ∧ Below w.heap.size w wr ∧ OwR wr w.heap.size (.slice (some ⟨g, 0, none⟩) N N) (rvs (zs'.take j) ++ List.replicate (N - j) RV0) ∧ LS wr zs' ao' cap') (fun i _ => N - (intOf i).toNat)
  case atStart => exact ⟨0, rfl, Nat.zero_le _, B4.out.2.2.2.1, by simpa [rvs] using B4.out.2.2.2.2.1.base K2.out.1.size, B4.out.1⟩
  case round =>
    obtain ⟨j, rfl, hj, hb, hO, hLS⟩ := hrel
    have J := Lib.hid (And.intro hb (And.intro hO hLS))
    clear hb hO hLS
    by_cases hlt : j < N
    · have hjz : j < zs'.length := by have := B4.out.2.2.2.2.2; omega
      obtain ⟨a, ha, y0, y1⟩ := J.out.2.2.1 j zs'[j] (List.getElem?_eq_getElem hjz)
      subst ha
      have hset := rset_next B4.out.2.2.2.2.2 hjz
      have hat := rat_next B4.out.2.2.2.2.2 hjz
      have hfit := J.out.2.2.2.1.at hjz
      obtain ⟨z, hz⟩ : ∃ z, zs'[j] = z := ⟨_, rfl⟩
      rw [hz] at y0 y1 hset
      have hj0 : (0 : Int) ≤ (j : Int) := by omega
      have hj1 : (j : Int) < (N : Int) := by omega
      have hO1 := J.out.2.1.keep (below1 wr (.cells #[.string ⟨z.k.toArray⟩, .slice z.ao z.xs.length z.cap] 54))
      have hn1 : N = (rvs (zs'.take j) ++ List.replicate (N - j) RV0).length := by rw [List.length_append, rvs_len, List.length_take, List.length_replicate]; omega
      have d1 := (hO1.at1 hn1 j RV0 hat).1
      have d2 := (hO1.at1 hn1 j RV0 hat).2 j
      have Z := Lib.hid (And.intro hset (And.intro hO1 hn1))
      clear hset hat hz hfit hO1 hn1 hjz
      go_wp2
      go_roundw
      case rel =>
        have hst := Z.out.2.1.store Z.out.2.2 j (rv z)
        refine ⟨j + 1, rfl, hlt, below_set (J.out.1.alloc J.out.1.size _) hst.2.1 _ _, ?_, ?_⟩
        · rw [← Z.out.1]; exact hst.1
        · exact (J.out.2.2.below (below1 _ _)).off B4.out.2.1 LL.out.2 _ _
      case measure => simp [intOf]; omega
    · obtain rfl : j = N := by omega
      have q := J.out.2.1
      rw [Nat.sub_self, List.replicate_zero, List.append_nil, List.take_of_length_le (by have := B4.out.2.2.2.2.2; omega)] at q
      obtain ⟨ro, rc, hv, _, hS⟩ := q.sl
      have e1 : (rvs zs').length = j := by rw [rvs_len]; exact B4.out.2.2.2.2.2
      rw [e1] at hv
      have Q := Lib.hid (And.intro hv (And.intro hS e1))
      clear q hv hS e1
      go_wp2
      go_ret
      refine ⟨⟨ro, rc, rvs zs', ?_, Q.out.2.1, J.out.2.2.2.1.rows, ?_⟩, J.out.1⟩
      · rw [Q.out.2.2, ← Q.out.1]; rfl
      · rw [rvs_rxs, B4.out.2.2.1, llk_take, llk_drop, H.out.2.2.2.2.2.2]

set_option maxRecDepth 1000000 in
set_option maxHeartbeats 2000000 in
theorem range_h (nm : Nm.S) (ks : Int) (cs : List C) (zs : List LV) (ao lo : Option Addr) (cap lc : Nat) (kl kh : Nm.S) (most : Int) (w : World) (hL : LS w zs lo lc) (hl : zs.length ≤ 100) (h30 : ∀ z ∈ zs, z.xs.length ≤ 30) (hr : Ris (lls zs)) (hk : kh ≠ []) :
    Calls Tryd.prog 10 #[.agg #[.string ⟨nm.toArray⟩, .int .i64 ks, .slice ao cs.length cap, .slice lo zs.length lc], .string ⟨kl.toArray⟩, .string ⟨kh.toArray⟩, .int .i64 most] w fun e w' => RQ w' e (rgl (lls zs) kl kh most) ∧ Below w.heap.size w w' := by
  obtain ⟨F, hF⟩ : ∃ F, fnd (lls zs) kl = F := ⟨_, rfl⟩
  obtain ⟨B, hB⟩ : ∃ B, isk (lls zs) kl = B := ⟨_, rfl⟩
  obtain ⟨U, hU⟩ : ∃ U, upto (lls zs) kh = U := ⟨_, rfl⟩
  obtain ⟨B2, hB2⟩ : ∃ B2, isk (lls zs) kh = B2 := ⟨_, rfl⟩
  have hU2 : fnd (lls zs) kh = U := by rw [← hU]; unfold upto; rw [if_neg hk]
  have s1 : (kh == []) = false := by rw [beq_eq_false_iff_ne]; exact hk
  have s2 : (kh != []) = true := by simpa using hk
  have s3 : ¬ kh = [] := hk
  have hFle : F ≤ zs.length := by rw [← hF, ← lls_len]; exact fnd_le _ _
  have hUle : U ≤ zs.length := by rw [← hU, ← lls_len]; exact upto_le _ _
  have hrg := rgl_is hr kl kh most
  rw [hF, hU] at hrg
  obtain ⟨N, hC⟩ : ∃ N : Nat, max 0 (min ((U : Int) - (F : Int)) most) = (N : Int) := ⟨(max 0 (min ((U : Int) - (F : Int)) most)).toNat, by omega⟩
  have hFN : F + N ≤ zs.length := by omega
  have hN : (min ((U : Int) - (F : Int)) most).toNat = N := by omega
  rw [hN] at hrg
  have f0 : (0 : Int) ≤ (F : Int) := by omega
  have f1 : (F : Int) ≤ (F : Int) + (N : Int) := by omega
  have f2 : (F : Int) + (N : Int) ≤ (lc : Int) := by have := hL.2.2.1; omega
  clear hN
  have hsz : zs.length < 4611686018427387904 := by omega
  have H := Lib.hid (And.intro hL (And.intro hl (And.intro h30 (And.intro hr (And.intro hF (And.intro hB hrg))))))
  have H2 := Lib.hid (And.intro hU2 hB2)
  clear hU hU2 hB2 hk
  clear hL hl h30 hr hF hB hrg
  go_enter Tryd.func10, Tryd.ntmps10
  go_wp2_with fail
  refine (find_s nm ks cs zs kl ao lo cap _ lc _ rfl (H.out.1.1.below (below1 _ _)) (by have := H.out.2.1; omega) H.out.2.2.2.1 F B H.out.2.2.2.2.1 H.out.2.2.2.2.2.1).mono ?_
  rintro e w1 ⟨rfl, hb⟩
  have K1 := Lib.hid (And.intro (step1 (Below.refl _ w) hb) ((Blk.new w #[.string ⟨nm.toArray⟩, .int .i64 ks, .slice ao cs.length cap, .slice lo zs.length lc] 27).below hb))
  clear hb
  obtain ⟨⟨c0, c1, c2, c3⟩, _⟩ := K1.out.2.s4
  go_wp2_with fail
  refine (find_s nm ks cs zs kh ao lo cap _ lc _ rfl (H.out.1.1.below K1.out.1) (by have := H.out.2.1; omega) H.out.2.2.2.1 U B2 H2.out.1 H2.out.2).mono ?_
  rintro e w2 ⟨rfl, hb⟩
  have K2 := Lib.hid (And.intro (step0 K1.out.1 hb) (K1.out.2.below hb))
  clear hb c0 c1 c2 c3
  obtain ⟨⟨c0, c1, c2, c3⟩, _⟩ := K2.out.2.s4
  go_wp2_with (refine makeRs _ rfl _ _ rfl _ _ _ _ N rfl rfl rfl rfl (by have := H.out.2.1; omega) ?_)
  intro g w3 hg hO hb
  have K3 := Lib.hid (And.intro (step0 K2.out.1 hb) (And.intro (K2.out.2.below hb) (And.intro hO (hg ▸ K2.out.1.size))))
  have hg3 : g < w3.heap.size := (World.ownsRow.lt hO g rfl).2
  have LN := Lib.hid (show ((zs.drop F).take N).length = N by rw [List.length_take, List.length_drop]; omega)
  obtain ⟨A, hA⟩ : ∃ A, (if lc = F then lo else Option.map (fun x => x.add (F * 2)) lo) = A := ⟨_, rfl⟩
  have LL := Lib.hid (And.intro (show LS w3 ((zs.drop F).take N) A (lc - F) from hA ▸ ((H.out.1.below K3.out.1).drop F hFle |>.take N)) hg3)
  clear hb hO hg hg3 c0 c1 c2 c3
  obtain ⟨⟨c0, c1, c2, c3⟩, _⟩ := K3.out.2.1.s4
  go_wp2_with fail
  refine (lcopied_is ((zs.drop F).take N) _ _ _ _ LN.out LL.out.1 (by rw [LN.out]; have := H.out.2.1; omega) (smal_cat (by rw [LN.out]; have := H.out.2.1; omega) (fun z hz => H.out.2.2.1 z (List.mem_of_mem_drop (List.mem_of_mem_take hz))))).mono ?_
  rintro e w4 ⟨ao', cap', zs', rfl, hLS, hLB, hls, hb⟩
  have hzn : zs'.length = N := (lls_length hls).trans LN.out
  have B4 := Lib.hid (And.intro hLS (And.intro hLB (And.intro hls (And.intro (step0 K3.out.1 hb) (And.intro (K3.out.2.2.1.keep hb) hzn)))))
  clear hLS hLB hls hb hzn c0 c1 c2 c3 hC f0 f1 f2
  go_wp2
  go_loopw [50] (fun i wr => ∃ j : Nat, i = .int .i64 j ∧ j ≤ N ∧ Below w.heap.size w wr ∧ OwR wr w.heap.size (.slice (some ⟨g, 0, none⟩) N N) (rvs (zs'.take j) ++ List.replicate (N - j) RV0) ∧ LS wr zs' ao' cap') (fun i _ => N - (intOf i).toNat)
  case atStart => exact ⟨0, rfl, Nat.zero_le _, B4.out.2.2.2.1, by simpa [rvs] using B4.out.2.2.2.2.1.base K2.out.1.size, B4.out.1⟩
  case round =>
    obtain ⟨j, rfl, hj, hb, hO, hLS⟩ := hrel
    have J := Lib.hid (And.intro hb (And.intro hO hLS))
    clear hb hO hLS
    by_cases hlt : j < N
    · have hjz : j < zs'.length := by have := B4.out.2.2.2.2.2; omega
      obtain ⟨a, ha, y0, y1⟩ := J.out.2.2.1 j zs'[j] (List.getElem?_eq_getElem hjz)
      subst ha
      have hset := rset_next B4.out.2.2.2.2.2 hjz
      have hat := rat_next B4.out.2.2.2.2.2 hjz
      have hfit := J.out.2.2.2.1.at hjz
      obtain ⟨z, hz⟩ : ∃ z, zs'[j] = z := ⟨_, rfl⟩
      rw [hz] at y0 y1 hset
      have hj0 : (0 : Int) ≤ (j : Int) := by omega
      have hj1 : (j : Int) < (N : Int) := by omega
      have hO1 := J.out.2.1.keep (below1 wr (.cells #[.string ⟨z.k.toArray⟩, .slice z.ao z.xs.length z.cap] 54))
      have hn1 : N = (rvs (zs'.take j) ++ List.replicate (N - j) RV0).length := by rw [List.length_append, rvs_len, List.length_take, List.length_replicate]; omega
      have d1 := (hO1.at1 hn1 j RV0 hat).1
      have d2 := (hO1.at1 hn1 j RV0 hat).2 j
      have Z := Lib.hid (And.intro hset (And.intro hO1 hn1))
      clear hset hat hz hfit hO1 hn1 hjz
      go_wp2
      go_roundw
      case rel =>
        have hst := Z.out.2.1.store Z.out.2.2 j (rv z)
        refine ⟨j + 1, rfl, hlt, below_set (J.out.1.alloc J.out.1.size _) hst.2.1 _ _, ?_, ?_⟩
        · rw [← Z.out.1]; exact hst.1
        · exact (J.out.2.2.below (below1 _ _)).off B4.out.2.1 LL.out.2 _ _
      case measure => simp [intOf]; omega
    · obtain rfl : j = N := by omega
      have q := J.out.2.1
      rw [Nat.sub_self, List.replicate_zero, List.append_nil, List.take_of_length_le (by have := B4.out.2.2.2.2.2; omega)] at q
      obtain ⟨ro, rc, hv, _, hS⟩ := q.sl
      have e1 : (rvs zs').length = j := by rw [rvs_len]; exact B4.out.2.2.2.2.2
      rw [e1] at hv
      have Q := Lib.hid (And.intro hv (And.intro hS e1))
      clear q hv hS e1
      go_wp2
      go_ret
      refine ⟨⟨ro, rc, rvs zs', ?_, Q.out.2.1, J.out.2.2.2.1.rows, ?_⟩, J.out.1⟩
      · rw [Q.out.2.2, ← Q.out.1]; rfl
      · rw [rvs_rxs, B4.out.2.2.1, llk_take, llk_drop, H.out.2.2.2.2.2.2]

end Go.Proofs.YtfgakoldedpfoaaDoor
