/-
  The document's Check of a sheet. Conditions: a sheet in memory, of at most 100 lines of at most 30 values.
-/
import Derived.Test.YtfgakoldedpfoaaGreatDoorShCheck
namespace Go.Proofs.YtfgakoldedpfoaaGreatDoor
open Go.RowKit
set_option linter.unusedVariables false
set_option linter.unusedSimpArgs false

theorem rkey_k (nm : Nm.S) (ks : Int) (cs : List C) (xs : List V) (key : Nm.S) (ao bo : Option Addr) (cap cb : Nat) (w : World) (h : At3 w ⟨nm, ks, cs⟩ ao cap) (hx : Sl w bo xs) (hm : xs.length ≤ 30) (ho : ∀ x ∈ xs, x.ok) (hcb : xs.length ≤ cb) (E : Int) (hE : T.fit ⟨nm, ks, cs⟩ xs = E) (hk : T.key ⟨nm, ks, cs⟩ xs = key) :
    Calls Tryz.prog 22 #[.agg #[.string ⟨nm.toArray⟩, .int .i64 ks, .slice ao cs.length cap], .slice bo xs.length cb] w fun e w' => e = .returned (.tuple #[.string ⟨key.toArray⟩, .int .i64 E]) ∧ Below w.heap.size w w' := by
  subst hk
  exact rkey_t ⟨nm, ks, cs⟩ xs ao bo cap cb w h hx hm ho hcb E hE

set_option maxRecDepth 1000000 in
set_option maxHeartbeats 2000000 in
theorem rcheck_s (nm : Nm.S) (ks : Int) (cs : List C) (zs : List LV) (ao lo : Option Addr) (cap lc : Nat) (w : World) (hT : At3 w ⟨nm, ks, cs⟩ ao cap) (hL : LS w zs lo lc) (hl : zs.length ≤ 100) (h30 : ∀ z ∈ zs, z.xs.length ≤ 30) (E : Int) (hE : sck ⟨nm, ks, cs⟩ (lls zs) = E) :
    Calls Tryz.prog 7 #[.agg #[.string ⟨nm.toArray⟩, .int .i64 ks, .slice ao cs.length cap, .slice lo zs.length lc]] w fun e w' => e = .returned (.int .i64 E) ∧ Below w.heap.size w w' := by
  obtain ⟨F, hF⟩ : ∃ F, T.ck ⟨nm, ks, cs⟩ = F := ⟨_, rfl⟩
  have hsz : zs.length < 4611686018427387904 := by omega
  by_cases h0 : F = 0
  · have hE2 : ckl ⟨nm, ks, cs⟩ (prv zs 0) ((lls zs).drop 0) = E := by
      rw [← hE]
      unfold sck
      rw [hF, if_neg (fun g => g h0)]
      rfl
    subst h0
    have H := Lib.hid (And.intro hT (And.intro hL (And.intro hl (And.intro h30 (And.intro hE2 hF)))))
    clear hT hL hl h30 hE2 hF hE
    go_enter Tryz.func7, Tryz.ntmps7
    go_wp2_with fail
    refine (rcheck_t ⟨nm, ks, cs⟩ ao cap 0 _ (H.out.1.keep (below1 _ _)) H.out.2.2.2.2.2).mono ?_
    rintro e w1 ⟨rfl, hb⟩
    have K1 := Lib.hid (Blk.sh hb)
    clear hb
    obtain ⟨⟨c0, c1, c2, c3⟩, _⟩ := K1.out.2.s4
    go_wp2
    clear c0 c1 c2 c3
    go_loopw [4] (fun i wr => ∃ j : Nat, i = .int .i64 j ∧ j ≤ zs.length ∧ Below w.heap.size w wr ∧ Blk wr w.heap.size #[.string ⟨nm.toArray⟩, .int .i64 ks, .slice ao cs.length cap, .slice lo zs.length lc] 27 ∧ ckl ⟨nm, ks, cs⟩ (prv zs j) ((lls zs).drop j) = E) (fun i _ => zs.length - (intOf i).toNat)
    case atStart => exact ⟨0, rfl, Nat.zero_le _, K1.out.1, K1.out.2, H.out.2.2.2.2.1⟩
    case round =>
      obtain ⟨j, rfl, hj, hb, hB, hC⟩ := hrel
      have J := Lib.hid (And.intro hb (And.intro hB hC))
      clear hb hB hC
      obtain ⟨⟨c0, c1, c2, c3⟩, _⟩ := J.out.2.1.s4
      by_cases hlt : j < zs.length
      · obtain ⟨a, ha, y0, y1⟩ := (H.out.2.1.1.below J.out.1) j zs[j] (List.getElem?_eq_getElem hlt)
        subst ha
        have hst := (ckl_lv ⟨nm, ks, cs⟩ hlt).symm.trans J.out.2.2
        have hrow := H.out.2.1.2.1.at hlt
        have h30 := H.out.2.2.2.1 _ (List.getElem_mem hlt)
        have hpr : 0 < j → prv zs j = some zs[j - 1].k := fun h => prv_at h hlt
        obtain ⟨x, hx⟩ : ∃ x, zs[j] = x := ⟨_, rfl⟩
        rw [hx] at y0 y1 hst hrow h30
        obtain ⟨G, hG⟩ : ∃ G, T.fit ⟨nm, ks, cs⟩ x.xs = G := ⟨_, rfl⟩
        obtain ⟨key, hk⟩ : ∃ key, T.key ⟨nm, ks, cs⟩ x.xs = key := ⟨_, rfl⟩
        rw [hG, hk] at hst
        have j0 : (0 : Int) ≤ (j : Int) := by omega
        have j1 : (j : Int) < (zs.length : Int) := by omega
        have X := Lib.hid (And.intro hrow (And.intro h30 (And.intro hG hk)))
        clear hrow h30 hG hk hx
        by_cases h1 : G = 0
        · subst h1
          rw [if_neg (fun g => g rfl)] at hst
          by_cases h2 : key = x.k
          · rw [if_neg (fun g => g h2)] at hst
            subst h2
            by_cases h3 : 0 < j
            · rw [hpr h3] at hst
              have hj1 : j - 1 < zs.length := by omega
              obtain ⟨a', ha', u0, u1⟩ := (H.out.2.1.1.below J.out.1) (j - 1) zs[j - 1] (List.getElem?_eq_getElem hj1)
              cases ha'
              obtain ⟨y, hy⟩ : ∃ y, zs[j - 1] = y := ⟨_, rfl⟩
              rw [hy] at hst u0 u1
              clear hy hpr
              have j2 : (0 : Int) < (j : Int) := by omega
              have j3 : (0 : Int) ≤ (j : Int) - 1 := by omega
              have j4 : (j : Int) - 1 < (zs.length : Int) := by omega
              have j5 : ((j : Int) - 1).toNat = j - 1 := by omega
              by_cases h4 : y.k < x.k
              · have hD : dwn (some y.k) x.k = false := by simp [dwn, h4]
                rw [hD, if_neg (by simp)] at hst
                have Y := Lib.hid hst
                have z9 : Op.bytesLess x.k y.k = false := by rw [Vl.less_eq]; simpa using List.le_of_lt h4
                have z8 : (x.k == y.k) = false := by rw [beq_eq_false_iff_ne]; exact fun e => key_irr y.k (by rw [e] at h4; exact h4)
                clear hst hD
                go_wp2_with fail
                clear c0 c1 c2 c3
                refine wp_region_held_drew (S := fun v => (v.cell? ⟨w.heap.size, 0, none⟩ = some (.string ⟨nm.toArray⟩) ∧ v.cell? ⟨w.heap.size, 1, none⟩ = some (.int .i64 ks) ∧ v.cell? ⟨w.heap.size, 2, none⟩ = some (.slice ao cs.length cap) ∧ v.cell? ⟨w.heap.size, 3, none⟩ = some (.slice (some a) zs.length lc)) ∧ v.cell? ⟨(a.add (j * 2)).block, (a.add (j * 2)).off + 1, none⟩ = some (.slice x.ao x.xs.length x.cap)) (by kernel_rfl) ⟨J.out.2.1.s4.1, y1⟩ (fun hH0 => ?_)
                refine wpAnyH_take (i := 0) (oi := _) (v := .pointer (some ⟨w.heap.size, 0, none⟩)) rfl (by kernel_rfl) (by kernel_rfl) (by kernel_rfl) (fun _ _ _ h => h) (Or.inl ⟨by rfl, by intro v hv; go_simp⟩) hH0 ?_
                try simp only [Act.put, List.getElem_toArray, List.getElem_cons_succ, List.getElem_cons_zero, List.setIfInBounds_toArray, List.set_cons_zero, List.set_cons_succ]
                refine wpAnyH_take (i := 1) (oi := _) (v := .agg #[.string ⟨nm.toArray⟩, .int .i64 ks, .slice ao cs.length cap]) rfl (by kernel_rfl) (by kernel_rfl) (by kernel_rfl) (fun _ _ _ h => h) (Or.inl ⟨by rfl, by intro v hv; obtain ⟨⟨c0, c1, c2, c3⟩, c4⟩ := hv; go_simp⟩) hH0 ?_
                try simp only [Act.put, List.getElem_toArray, List.getElem_cons_succ, List.getElem_cons_zero, List.setIfInBounds_toArray, List.set_cons_zero, List.set_cons_succ]
                refine wpAnyH_take (i := 2) (oi := _) (v := .pointer (some ⟨w.heap.size, 3, none⟩)) rfl (by kernel_rfl) (by kernel_rfl) (by kernel_rfl) (fun _ _ _ h => h) (Or.inl ⟨by rfl, by intro v hv; go_simp⟩) hH0 ?_
                try simp only [Act.put, List.getElem_toArray, List.getElem_cons_succ, List.getElem_cons_zero, List.setIfInBounds_toArray, List.set_cons_zero, List.set_cons_succ]
                refine wpAnyH_take (i := 3) (oi := _) (v := .slice (some a) zs.length lc) rfl (by kernel_rfl) (by kernel_rfl) (by kernel_rfl) (fun _ _ _ h => h) (Or.inl ⟨by rfl, by intro v hv; obtain ⟨⟨c0, c1, c2, c3⟩, c4⟩ := hv; go_simp⟩) hH0 ?_
                try simp only [Act.put, List.getElem_toArray, List.getElem_cons_succ, List.getElem_cons_zero, List.setIfInBounds_toArray, List.set_cons_zero, List.set_cons_succ]
                refine wpAnyH_take (i := 4) (oi := _) (v := .int .i64 (j : Int)) rfl (by kernel_rfl) (by kernel_rfl) (by kernel_rfl) (fun _ _ _ h => h) (Or.inl ⟨by rfl, by intro v hv; go_simp⟩) hH0 ?_
                try simp only [Act.put, List.getElem_toArray, List.getElem_cons_succ, List.getElem_cons_zero, List.setIfInBounds_toArray, List.set_cons_zero, List.set_cons_succ]
                refine wpAnyH_take (i := 5) (oi := _) (v := .pointer (some (a.add (j * 2)))) rfl (by kernel_rfl) (by kernel_rfl) (by kernel_rfl) (fun _ _ _ h => h) (Or.inl ⟨by rfl, by intro v hv; go_simp⟩) hH0 ?_
                try simp only [Act.put, List.getElem_toArray, List.getElem_cons_succ, List.getElem_cons_zero, List.setIfInBounds_toArray, List.set_cons_zero, List.set_cons_succ]
                refine wpAnyH_take (i := 6) (oi := _) (v := .pointer (some ⟨(a.add (j * 2)).block, (a.add (j * 2)).off + 1, none⟩)) rfl (by kernel_rfl) (by kernel_rfl) (by kernel_rfl) (fun _ _ _ h => h) (Or.inl ⟨by rfl, by intro v hv; go_simp⟩) hH0 ?_
                try simp only [Act.put, List.getElem_toArray, List.getElem_cons_succ, List.getElem_cons_zero, List.setIfInBounds_toArray, List.set_cons_zero, List.set_cons_succ]
                refine wpAnyH_take (i := 7) (oi := _) (v := .slice x.ao x.xs.length x.cap) rfl (by kernel_rfl) (by kernel_rfl) (by kernel_rfl) (fun _ _ _ h => h) (Or.inl ⟨by rfl, by intro v hv; obtain ⟨⟨c0, c1, c2, c3⟩, c4⟩ := hv; go_simp⟩) hH0 ?_
                try simp only [Act.put, List.getElem_toArray, List.getElem_cons_succ, List.getElem_cons_zero, List.setIfInBounds_toArray, List.set_cons_zero, List.set_cons_succ]
                refine wpAnyH_ready (rs := [8]) (by kernel_rfl) (by simp) ?_
                refine AllReadyH.cons (o := _) rfl (fun K' hK => ?_) AllReadyH.nil
                go_simp
                refine (rkey_k nm ks cs x.xs x.k ao x.ao cap x.cap _ (H.out.1.keep (below_drew1 J.out.1)) (X.out.1.1.below (below_drew1 J.out.1)) X.out.2.1 X.out.1.2.2.2 X.out.1.2.1 0 X.out.2.2.1 X.out.2.2.2).mono ?_
                rintro e w2 ⟨rfl, hb⟩
                have K := Lib.hid (And.intro (step0 (below_drew1 J.out.1) hb) (J.out.2.1.drw.below hb))
                have l0 : w2.cell? (a.add (j * 2)) = some (.string ⟨x.k.toArray⟩) := keep0 (show wr.drew.cell? (a.add (j * 2)) = _ from y0) hb
                have l1 : w2.cell? ⟨(a.add (j * 2)).block, (a.add (j * 2)).off + 1, none⟩ = some (.slice x.ao x.xs.length x.cap) := keep0 (show wr.drew.cell? ⟨(a.add (j * 2)).block, (a.add (j * 2)).off + 1, none⟩ = _ from y1) hb
                have v0 : w2.cell? (a.add ((j - 1) * 2)) = some (.string ⟨y.k.toArray⟩) := keep0 (show wr.drew.cell? (a.add ((j - 1) * 2)) = _ from u0) hb
                clear u0 u1
                clear hb y0 y1
                go_wp2_with fail
                refine hK.out _ _ ⟨K.out.2.s4.1, l1⟩ (fun hH1 => ?_)
                clear hK K' hH0
                try simp only [Act.put, List.getElem_toArray, List.getElem_cons_succ, List.getElem_cons_zero, List.setIfInBounds_toArray, List.set_cons_zero, List.set_cons_succ]
                refine wpAnyH_take (i := 9) (oi := _) (v := .tuple #[.string ⟨x.k.toArray⟩, .int .i64 0]) rfl (by kernel_rfl) (by kernel_rfl) (by kernel_rfl) (fun _ _ _ h => h) (Or.inl ⟨by rfl, by intro v hv; go_simp⟩) hH1 ?_
                try simp only [Act.put, List.getElem_toArray, List.getElem_cons_succ, List.getElem_cons_zero, List.setIfInBounds_toArray, List.set_cons_zero, List.set_cons_succ]
                refine wpAnyH_take (i := 10) (oi := _) (v := .string ⟨x.k.toArray⟩) rfl (by kernel_rfl) (by kernel_rfl) (by kernel_rfl) (fun _ _ _ h => h) (Or.inl ⟨by rfl, by intro v hv; go_simp⟩) hH1 ?_
                try simp only [Act.put, List.getElem_toArray, List.getElem_cons_succ, List.getElem_cons_zero, List.setIfInBounds_toArray, List.set_cons_zero, List.set_cons_succ]
                refine wpAnyH_take (i := 11) (oi := _) (v := .int .i64 0) rfl (by kernel_rfl) (by kernel_rfl) (by kernel_rfl) (fun _ _ _ h => h) (Or.inl ⟨by rfl, by intro v hv; go_simp⟩) hH1 ?_
                try simp only [Act.put, List.getElem_toArray, List.getElem_cons_succ, List.getElem_cons_zero, List.setIfInBounds_toArray, List.set_cons_zero, List.set_cons_succ]
                refine wpAnyH_take (i := 12) (oi := _) (v := .string ⟨x.k.toArray⟩) rfl (by kernel_rfl) (by kernel_rfl) (by kernel_rfl) (fun _ _ _ h => h) (Or.inl ⟨by rfl, by intro v hv; go_simp⟩) hH1 ?_
                try simp only [Act.put, List.getElem_toArray, List.getElem_cons_succ, List.getElem_cons_zero, List.setIfInBounds_toArray, List.set_cons_zero, List.set_cons_succ]
                refine wpAnyH_take (i := 13) (oi := _) (v := .int .i64 0) rfl (by kernel_rfl) (by kernel_rfl) (by kernel_rfl) (fun _ _ _ h => h) (Or.inl ⟨by rfl, by intro v hv; go_simp⟩) hH1 ?_
                try simp only [Act.put, List.getElem_toArray, List.getElem_cons_succ, List.getElem_cons_zero, List.setIfInBounds_toArray, List.set_cons_zero, List.set_cons_succ]
                refine wpAnyH_done (by kernel_rfl) ?_ _
                clear hH1
                obtain ⟨⟨c0, c1, c2, c3⟩, _⟩ := K.out.2.s4
                go_wp2
                go_roundw
                case rel => exact ⟨j + 1, rfl, hlt, K.out.1, K.out.2, Y.out⟩
                case measure => simp [intOf]; omega
              · have hD : dwn (some y.k) x.k = true := by simp [dwn, h4]
                rw [hD, if_pos rfl] at hst
                have Y := Lib.hid hst
                by_cases h5 : x.k = y.k
                · have z9 : Op.bytesLess x.k y.k = false := by rw [Vl.less_eq, h5]; simp
                  have z8 : (x.k == y.k) = true := by simp [h5]
                  clear hst hD
                  go_wp2_with fail
                  clear c0 c1 c2 c3
                  refine wp_region_held_drew (S := fun v => (v.cell? ⟨w.heap.size, 0, none⟩ = some (.string ⟨nm.toArray⟩) ∧ v.cell? ⟨w.heap.size, 1, none⟩ = some (.int .i64 ks) ∧ v.cell? ⟨w.heap.size, 2, none⟩ = some (.slice ao cs.length cap) ∧ v.cell? ⟨w.heap.size, 3, none⟩ = some (.slice (some a) zs.length lc)) ∧ v.cell? ⟨(a.add (j * 2)).block, (a.add (j * 2)).off + 1, none⟩ = some (.slice x.ao x.xs.length x.cap)) (by kernel_rfl) ⟨J.out.2.1.s4.1, y1⟩ (fun hH0 => ?_)
                  refine wpAnyH_take (i := 0) (oi := _) (v := .pointer (some ⟨w.heap.size, 0, none⟩)) rfl (by kernel_rfl) (by kernel_rfl) (by kernel_rfl) (fun _ _ _ h => h) (Or.inl ⟨by rfl, by intro v hv; go_simp⟩) hH0 ?_
                  try simp only [Act.put, List.getElem_toArray, List.getElem_cons_succ, List.getElem_cons_zero, List.setIfInBounds_toArray, List.set_cons_zero, List.set_cons_succ]
                  refine wpAnyH_take (i := 1) (oi := _) (v := .agg #[.string ⟨nm.toArray⟩, .int .i64 ks, .slice ao cs.length cap]) rfl (by kernel_rfl) (by kernel_rfl) (by kernel_rfl) (fun _ _ _ h => h) (Or.inl ⟨by rfl, by intro v hv; obtain ⟨⟨c0, c1, c2, c3⟩, c4⟩ := hv; go_simp⟩) hH0 ?_
                  try simp only [Act.put, List.getElem_toArray, List.getElem_cons_succ, List.getElem_cons_zero, List.setIfInBounds_toArray, List.set_cons_zero, List.set_cons_succ]
                  refine wpAnyH_take (i := 2) (oi := _) (v := .pointer (some ⟨w.heap.size, 3, none⟩)) rfl (by kernel_rfl) (by kernel_rfl) (by kernel_rfl) (fun _ _ _ h => h) (Or.inl ⟨by rfl, by intro v hv; go_simp⟩) hH0 ?_
                  try simp only [Act.put, List.getElem_toArray, List.getElem_cons_succ, List.getElem_cons_zero, List.setIfInBounds_toArray, List.set_cons_zero, List.set_cons_succ]
                  refine wpAnyH_take (i := 3) (oi := _) (v := .slice (some a) zs.length lc) rfl (by kernel_rfl) (by kernel_rfl) (by kernel_rfl) (fun _ _ _ h => h) (Or.inl ⟨by rfl, by intro v hv; obtain ⟨⟨c0, c1, c2, c3⟩, c4⟩ := hv; go_simp⟩) hH0 ?_
                  try simp only [Act.put, List.getElem_toArray, List.getElem_cons_succ, List.getElem_cons_zero, List.setIfInBounds_toArray, List.set_cons_zero, List.set_cons_succ]
                  refine wpAnyH_take (i := 4) (oi := _) (v := .int .i64 (j : Int)) rfl (by kernel_rfl) (by kernel_rfl) (by kernel_rfl) (fun _ _ _ h => h) (Or.inl ⟨by rfl, by intro v hv; go_simp⟩) hH0 ?_
                  try simp only [Act.put, List.getElem_toArray, List.getElem_cons_succ, List.getElem_cons_zero, List.setIfInBounds_toArray, List.set_cons_zero, List.set_cons_succ]
                  refine wpAnyH_take (i := 5) (oi := _) (v := .pointer (some (a.add (j * 2)))) rfl (by kernel_rfl) (by kernel_rfl) (by kernel_rfl) (fun _ _ _ h => h) (Or.inl ⟨by rfl, by intro v hv; go_simp⟩) hH0 ?_
                  try simp only [Act.put, List.getElem_toArray, List.getElem_cons_succ, List.getElem_cons_zero, List.setIfInBounds_toArray, List.set_cons_zero, List.set_cons_succ]
                  refine wpAnyH_take (i := 6) (oi := _) (v := .pointer (some ⟨(a.add (j * 2)).block, (a.add (j * 2)).off + 1, none⟩)) rfl (by kernel_rfl) (by kernel_rfl) (by kernel_rfl) (fun _ _ _ h => h) (Or.inl ⟨by rfl, by intro v hv; go_simp⟩) hH0 ?_
                  try simp only [Act.put, List.getElem_toArray, List.getElem_cons_succ, List.getElem_cons_zero, List.setIfInBounds_toArray, List.set_cons_zero, List.set_cons_succ]
                  refine wpAnyH_take (i := 7) (oi := _) (v := .slice x.ao x.xs.length x.cap) rfl (by kernel_rfl) (by kernel_rfl) (by kernel_rfl) (fun _ _ _ h => h) (Or.inl ⟨by rfl, by intro v hv; obtain ⟨⟨c0, c1, c2, c3⟩, c4⟩ := hv; go_simp⟩) hH0 ?_
                  try simp only [Act.put, List.getElem_toArray, List.getElem_cons_succ, List.getElem_cons_zero, List.setIfInBounds_toArray, List.set_cons_zero, List.set_cons_succ]
                  refine wpAnyH_ready (rs := [8]) (by kernel_rfl) (by simp) ?_
                  refine AllReadyH.cons (o := _) rfl (fun K' hK => ?_) AllReadyH.nil
                  go_simp
                  refine (rkey_k nm ks cs x.xs x.k ao x.ao cap x.cap _ (H.out.1.keep (below_drew1 J.out.1)) (X.out.1.1.below (below_drew1 J.out.1)) X.out.2.1 X.out.1.2.2.2 X.out.1.2.1 0 X.out.2.2.1 X.out.2.2.2).mono ?_
                  rintro e w2 ⟨rfl, hb⟩
                  have K := Lib.hid (And.intro (step0 (below_drew1 J.out.1) hb) (J.out.2.1.drw.below hb))
                  have l0 : w2.cell? (a.add (j * 2)) = some (.string ⟨x.k.toArray⟩) := keep0 (show wr.drew.cell? (a.add (j * 2)) = _ from y0) hb
                  have l1 : w2.cell? ⟨(a.add (j * 2)).block, (a.add (j * 2)).off + 1, none⟩ = some (.slice x.ao x.xs.length x.cap) := keep0 (show wr.drew.cell? ⟨(a.add (j * 2)).block, (a.add (j * 2)).off + 1, none⟩ = _ from y1) hb
                  have v0 : w2.cell? (a.add ((j - 1) * 2)) = some (.string ⟨y.k.toArray⟩) := keep0 (show wr.drew.cell? (a.add ((j - 1) * 2)) = _ from u0) hb
                  clear u0 u1
                  clear hb y0 y1
                  go_wp2_with fail
                  refine hK.out _ _ ⟨K.out.2.s4.1, l1⟩ (fun hH1 => ?_)
                  clear hK K' hH0
                  try simp only [Act.put, List.getElem_toArray, List.getElem_cons_succ, List.getElem_cons_zero, List.setIfInBounds_toArray, List.set_cons_zero, List.set_cons_succ]
                  refine wpAnyH_take (i := 9) (oi := _) (v := .tuple #[.string ⟨x.k.toArray⟩, .int .i64 0]) rfl (by kernel_rfl) (by kernel_rfl) (by kernel_rfl) (fun _ _ _ h => h) (Or.inl ⟨by rfl, by intro v hv; go_simp⟩) hH1 ?_
                  try simp only [Act.put, List.getElem_toArray, List.getElem_cons_succ, List.getElem_cons_zero, List.setIfInBounds_toArray, List.set_cons_zero, List.set_cons_succ]
                  refine wpAnyH_take (i := 10) (oi := _) (v := .string ⟨x.k.toArray⟩) rfl (by kernel_rfl) (by kernel_rfl) (by kernel_rfl) (fun _ _ _ h => h) (Or.inl ⟨by rfl, by intro v hv; go_simp⟩) hH1 ?_
                  try simp only [Act.put, List.getElem_toArray, List.getElem_cons_succ, List.getElem_cons_zero, List.setIfInBounds_toArray, List.set_cons_zero, List.set_cons_succ]
                  refine wpAnyH_take (i := 11) (oi := _) (v := .int .i64 0) rfl (by kernel_rfl) (by kernel_rfl) (by kernel_rfl) (fun _ _ _ h => h) (Or.inl ⟨by rfl, by intro v hv; go_simp⟩) hH1 ?_
                  try simp only [Act.put, List.getElem_toArray, List.getElem_cons_succ, List.getElem_cons_zero, List.setIfInBounds_toArray, List.set_cons_zero, List.set_cons_succ]
                  refine wpAnyH_take (i := 12) (oi := _) (v := .string ⟨x.k.toArray⟩) rfl (by kernel_rfl) (by kernel_rfl) (by kernel_rfl) (fun _ _ _ h => h) (Or.inl ⟨by rfl, by intro v hv; go_simp⟩) hH1 ?_
                  try simp only [Act.put, List.getElem_toArray, List.getElem_cons_succ, List.getElem_cons_zero, List.setIfInBounds_toArray, List.set_cons_zero, List.set_cons_succ]
                  refine wpAnyH_take (i := 13) (oi := _) (v := .int .i64 0) rfl (by kernel_rfl) (by kernel_rfl) (by kernel_rfl) (fun _ _ _ h => h) (Or.inl ⟨by rfl, by intro v hv; go_simp⟩) hH1 ?_
                  try simp only [Act.put, List.getElem_toArray, List.getElem_cons_succ, List.getElem_cons_zero, List.setIfInBounds_toArray, List.set_cons_zero, List.set_cons_succ]
                  refine wpAnyH_done (by kernel_rfl) ?_ _
                  clear hH1
                  obtain ⟨⟨c0, c1, c2, c3⟩, _⟩ := K.out.2.s4
                  go_wp2
                  go_ret
                  exact ⟨ret_int Y.out, K.out.1⟩
                · have z9 : Op.bytesLess x.k y.k = true := by rw [Vl.less_eq]; simpa using key_or h4 (fun e => h5 e.symm)
                  clear hst hD
                  go_wp2_with fail
                  clear c0 c1 c2 c3
                  refine wp_region_held_drew (S := fun v => (v.cell? ⟨w.heap.size, 0, none⟩ = some (.string ⟨nm.toArray⟩) ∧ v.cell? ⟨w.heap.size, 1, none⟩ = some (.int .i64 ks) ∧ v.cell? ⟨w.heap.size, 2, none⟩ = some (.slice ao cs.length cap) ∧ v.cell? ⟨w.heap.size, 3, none⟩ = some (.slice (some a) zs.length lc)) ∧ v.cell? ⟨(a.add (j * 2)).block, (a.add (j * 2)).off + 1, none⟩ = some (.slice x.ao x.xs.length x.cap)) (by kernel_rfl) ⟨J.out.2.1.s4.1, y1⟩ (fun hH0 => ?_)
                  refine wpAnyH_take (i := 0) (oi := _) (v := .pointer (some ⟨w.heap.size, 0, none⟩)) rfl (by kernel_rfl) (by kernel_rfl) (by kernel_rfl) (fun _ _ _ h => h) (Or.inl ⟨by rfl, by intro v hv; go_simp⟩) hH0 ?_
                  try simp only [Act.put, List.getElem_toArray, List.getElem_cons_succ, List.getElem_cons_zero, List.setIfInBounds_toArray, List.set_cons_zero, List.set_cons_succ]
                  refine wpAnyH_take (i := 1) (oi := _) (v := .agg #[.string ⟨nm.toArray⟩, .int .i64 ks, .slice ao cs.length cap]) rfl (by kernel_rfl) (by kernel_rfl) (by kernel_rfl) (fun _ _ _ h => h) (Or.inl ⟨by rfl, by intro v hv; obtain ⟨⟨c0, c1, c2, c3⟩, c4⟩ := hv; go_simp⟩) hH0 ?_
                  try simp only [Act.put, List.getElem_toArray, List.getElem_cons_succ, List.getElem_cons_zero, List.setIfInBounds_toArray, List.set_cons_zero, List.set_cons_succ]
                  refine wpAnyH_take (i := 2) (oi := _) (v := .pointer (some ⟨w.heap.size, 3, none⟩)) rfl (by kernel_rfl) (by kernel_rfl) (by kernel_rfl) (fun _ _ _ h => h) (Or.inl ⟨by rfl, by intro v hv; go_simp⟩) hH0 ?_
                  try simp only [Act.put, List.getElem_toArray, List.getElem_cons_succ, List.getElem_cons_zero, List.setIfInBounds_toArray, List.set_cons_zero, List.set_cons_succ]
                  refine wpAnyH_take (i := 3) (oi := _) (v := .slice (some a) zs.length lc) rfl (by kernel_rfl) (by kernel_rfl) (by kernel_rfl) (fun _ _ _ h => h) (Or.inl ⟨by rfl, by intro v hv; obtain ⟨⟨c0, c1, c2, c3⟩, c4⟩ := hv; go_simp⟩) hH0 ?_
                  try simp only [Act.put, List.getElem_toArray, List.getElem_cons_succ, List.getElem_cons_zero, List.setIfInBounds_toArray, List.set_cons_zero, List.set_cons_succ]
                  refine wpAnyH_take (i := 4) (oi := _) (v := .int .i64 (j : Int)) rfl (by kernel_rfl) (by kernel_rfl) (by kernel_rfl) (fun _ _ _ h => h) (Or.inl ⟨by rfl, by intro v hv; go_simp⟩) hH0 ?_
                  try simp only [Act.put, List.getElem_toArray, List.getElem_cons_succ, List.getElem_cons_zero, List.setIfInBounds_toArray, List.set_cons_zero, List.set_cons_succ]
                  refine wpAnyH_take (i := 5) (oi := _) (v := .pointer (some (a.add (j * 2)))) rfl (by kernel_rfl) (by kernel_rfl) (by kernel_rfl) (fun _ _ _ h => h) (Or.inl ⟨by rfl, by intro v hv; go_simp⟩) hH0 ?_
                  try simp only [Act.put, List.getElem_toArray, List.getElem_cons_succ, List.getElem_cons_zero, List.setIfInBounds_toArray, List.set_cons_zero, List.set_cons_succ]
                  refine wpAnyH_take (i := 6) (oi := _) (v := .pointer (some ⟨(a.add (j * 2)).block, (a.add (j * 2)).off + 1, none⟩)) rfl (by kernel_rfl) (by kernel_rfl) (by kernel_rfl) (fun _ _ _ h => h) (Or.inl ⟨by rfl, by intro v hv; go_simp⟩) hH0 ?_
                  try simp only [Act.put, List.getElem_toArray, List.getElem_cons_succ, List.getElem_cons_zero, List.setIfInBounds_toArray, List.set_cons_zero, List.set_cons_succ]
                  refine wpAnyH_take (i := 7) (oi := _) (v := .slice x.ao x.xs.length x.cap) rfl (by kernel_rfl) (by kernel_rfl) (by kernel_rfl) (fun _ _ _ h => h) (Or.inl ⟨by rfl, by intro v hv; obtain ⟨⟨c0, c1, c2, c3⟩, c4⟩ := hv; go_simp⟩) hH0 ?_
                  try simp only [Act.put, List.getElem_toArray, List.getElem_cons_succ, List.getElem_cons_zero, List.setIfInBounds_toArray, List.set_cons_zero, List.set_cons_succ]
                  refine wpAnyH_ready (rs := [8]) (by kernel_rfl) (by simp) ?_
                  refine AllReadyH.cons (o := _) rfl (fun K' hK => ?_) AllReadyH.nil
                  go_simp
                  refine (rkey_k nm ks cs x.xs x.k ao x.ao cap x.cap _ (H.out.1.keep (below_drew1 J.out.1)) (X.out.1.1.below (below_drew1 J.out.1)) X.out.2.1 X.out.1.2.2.2 X.out.1.2.1 0 X.out.2.2.1 X.out.2.2.2).mono ?_
                  rintro e w2 ⟨rfl, hb⟩
                  have K := Lib.hid (And.intro (step0 (below_drew1 J.out.1) hb) (J.out.2.1.drw.below hb))
                  have l0 : w2.cell? (a.add (j * 2)) = some (.string ⟨x.k.toArray⟩) := keep0 (show wr.drew.cell? (a.add (j * 2)) = _ from y0) hb
                  have l1 : w2.cell? ⟨(a.add (j * 2)).block, (a.add (j * 2)).off + 1, none⟩ = some (.slice x.ao x.xs.length x.cap) := keep0 (show wr.drew.cell? ⟨(a.add (j * 2)).block, (a.add (j * 2)).off + 1, none⟩ = _ from y1) hb
                  have v0 : w2.cell? (a.add ((j - 1) * 2)) = some (.string ⟨y.k.toArray⟩) := keep0 (show wr.drew.cell? (a.add ((j - 1) * 2)) = _ from u0) hb
                  clear u0 u1
                  clear hb y0 y1
                  go_wp2_with fail
                  refine hK.out _ _ ⟨K.out.2.s4.1, l1⟩ (fun hH1 => ?_)
                  clear hK K' hH0
                  try simp only [Act.put, List.getElem_toArray, List.getElem_cons_succ, List.getElem_cons_zero, List.setIfInBounds_toArray, List.set_cons_zero, List.set_cons_succ]
                  refine wpAnyH_take (i := 9) (oi := _) (v := .tuple #[.string ⟨x.k.toArray⟩, .int .i64 0]) rfl (by kernel_rfl) (by kernel_rfl) (by kernel_rfl) (fun _ _ _ h => h) (Or.inl ⟨by rfl, by intro v hv; go_simp⟩) hH1 ?_
                  try simp only [Act.put, List.getElem_toArray, List.getElem_cons_succ, List.getElem_cons_zero, List.setIfInBounds_toArray, List.set_cons_zero, List.set_cons_succ]
                  refine wpAnyH_take (i := 10) (oi := _) (v := .string ⟨x.k.toArray⟩) rfl (by kernel_rfl) (by kernel_rfl) (by kernel_rfl) (fun _ _ _ h => h) (Or.inl ⟨by rfl, by intro v hv; go_simp⟩) hH1 ?_
                  try simp only [Act.put, List.getElem_toArray, List.getElem_cons_succ, List.getElem_cons_zero, List.setIfInBounds_toArray, List.set_cons_zero, List.set_cons_succ]
                  refine wpAnyH_take (i := 11) (oi := _) (v := .int .i64 0) rfl (by kernel_rfl) (by kernel_rfl) (by kernel_rfl) (fun _ _ _ h => h) (Or.inl ⟨by rfl, by intro v hv; go_simp⟩) hH1 ?_
                  try simp only [Act.put, List.getElem_toArray, List.getElem_cons_succ, List.getElem_cons_zero, List.setIfInBounds_toArray, List.set_cons_zero, List.set_cons_succ]
                  refine wpAnyH_take (i := 12) (oi := _) (v := .string ⟨x.k.toArray⟩) rfl (by kernel_rfl) (by kernel_rfl) (by kernel_rfl) (fun _ _ _ h => h) (Or.inl ⟨by rfl, by intro v hv; go_simp⟩) hH1 ?_
                  try simp only [Act.put, List.getElem_toArray, List.getElem_cons_succ, List.getElem_cons_zero, List.setIfInBounds_toArray, List.set_cons_zero, List.set_cons_succ]
                  refine wpAnyH_take (i := 13) (oi := _) (v := .int .i64 0) rfl (by kernel_rfl) (by kernel_rfl) (by kernel_rfl) (fun _ _ _ h => h) (Or.inl ⟨by rfl, by intro v hv; go_simp⟩) hH1 ?_
                  try simp only [Act.put, List.getElem_toArray, List.getElem_cons_succ, List.getElem_cons_zero, List.setIfInBounds_toArray, List.set_cons_zero, List.set_cons_succ]
                  refine wpAnyH_done (by kernel_rfl) ?_ _
                  clear hH1
                  obtain ⟨⟨c0, c1, c2, c3⟩, _⟩ := K.out.2.s4
                  go_wp2
                  go_ret
                  exact ⟨ret_int Y.out, K.out.1⟩
            · obtain rfl : j = 0 := by omega
              have hD : dwn (prv zs 0) x.k = false := rfl
              rw [hD, if_neg (by simp)] at hst
              have Y := Lib.hid hst
              clear hst hD h3 hpr
              have e0 : ∀ p : Addr, p.add (0 * 2) = p := fun p => by simp [Addr.add]
              rw [e0] at y0 y1
              clear e0
              go_wp2_with fail
              clear c0 c1 c2 c3
              refine wp_region_held_drew (S := fun v => (v.cell? ⟨w.heap.size, 0, none⟩ = some (.string ⟨nm.toArray⟩) ∧ v.cell? ⟨w.heap.size, 1, none⟩ = some (.int .i64 ks) ∧ v.cell? ⟨w.heap.size, 2, none⟩ = some (.slice ao cs.length cap) ∧ v.cell? ⟨w.heap.size, 3, none⟩ = some (.slice (some a) zs.length lc)) ∧ v.cell? ⟨a.block, a.off + 1, none⟩ = some (.slice x.ao x.xs.length x.cap)) (by kernel_rfl) ⟨J.out.2.1.s4.1, y1⟩ (fun hH0 => ?_)
              refine wpAnyH_take (i := 0) (oi := _) (v := .pointer (some ⟨w.heap.size, 0, none⟩)) rfl (by kernel_rfl) (by kernel_rfl) (by kernel_rfl) (fun _ _ _ h => h) (Or.inl ⟨by rfl, by intro v hv; go_simp⟩) hH0 ?_
              try simp only [Act.put, List.getElem_toArray, List.getElem_cons_succ, List.getElem_cons_zero, List.setIfInBounds_toArray, List.set_cons_zero, List.set_cons_succ]
              refine wpAnyH_take (i := 1) (oi := _) (v := .agg #[.string ⟨nm.toArray⟩, .int .i64 ks, .slice ao cs.length cap]) rfl (by kernel_rfl) (by kernel_rfl) (by kernel_rfl) (fun _ _ _ h => h) (Or.inl ⟨by rfl, by intro v hv; obtain ⟨⟨c0, c1, c2, c3⟩, c4⟩ := hv; go_simp⟩) hH0 ?_
              try simp only [Act.put, List.getElem_toArray, List.getElem_cons_succ, List.getElem_cons_zero, List.setIfInBounds_toArray, List.set_cons_zero, List.set_cons_succ]
              refine wpAnyH_take (i := 2) (oi := _) (v := .pointer (some ⟨w.heap.size, 3, none⟩)) rfl (by kernel_rfl) (by kernel_rfl) (by kernel_rfl) (fun _ _ _ h => h) (Or.inl ⟨by rfl, by intro v hv; go_simp⟩) hH0 ?_
              try simp only [Act.put, List.getElem_toArray, List.getElem_cons_succ, List.getElem_cons_zero, List.setIfInBounds_toArray, List.set_cons_zero, List.set_cons_succ]
              refine wpAnyH_take (i := 3) (oi := _) (v := .slice (some a) zs.length lc) rfl (by kernel_rfl) (by kernel_rfl) (by kernel_rfl) (fun _ _ _ h => h) (Or.inl ⟨by rfl, by intro v hv; obtain ⟨⟨c0, c1, c2, c3⟩, c4⟩ := hv; go_simp⟩) hH0 ?_
              try simp only [Act.put, List.getElem_toArray, List.getElem_cons_succ, List.getElem_cons_zero, List.setIfInBounds_toArray, List.set_cons_zero, List.set_cons_succ]
              refine wpAnyH_take (i := 4) (oi := _) (v := .int .i64 0) rfl (by kernel_rfl) (by kernel_rfl) (by kernel_rfl) (fun _ _ _ h => h) (Or.inl ⟨by rfl, by intro v hv; go_simp⟩) hH0 ?_
              try simp only [Act.put, List.getElem_toArray, List.getElem_cons_succ, List.getElem_cons_zero, List.setIfInBounds_toArray, List.set_cons_zero, List.set_cons_succ]
              refine wpAnyH_take (i := 5) (oi := _) (v := .pointer (some a)) rfl (by kernel_rfl) (by kernel_rfl) (by kernel_rfl) (fun _ _ _ h => h) (Or.inl ⟨by rfl, by intro v hv; go_simp⟩) hH0 ?_
              try simp only [Act.put, List.getElem_toArray, List.getElem_cons_succ, List.getElem_cons_zero, List.setIfInBounds_toArray, List.set_cons_zero, List.set_cons_succ]
              refine wpAnyH_take (i := 6) (oi := _) (v := .pointer (some ⟨a.block, a.off + 1, none⟩)) rfl (by kernel_rfl) (by kernel_rfl) (by kernel_rfl) (fun _ _ _ h => h) (Or.inl ⟨by rfl, by intro v hv; go_simp⟩) hH0 ?_
              try simp only [Act.put, List.getElem_toArray, List.getElem_cons_succ, List.getElem_cons_zero, List.setIfInBounds_toArray, List.set_cons_zero, List.set_cons_succ]
              refine wpAnyH_take (i := 7) (oi := _) (v := .slice x.ao x.xs.length x.cap) rfl (by kernel_rfl) (by kernel_rfl) (by kernel_rfl) (fun _ _ _ h => h) (Or.inl ⟨by rfl, by intro v hv; obtain ⟨⟨c0, c1, c2, c3⟩, c4⟩ := hv; go_simp⟩) hH0 ?_
              try simp only [Act.put, List.getElem_toArray, List.getElem_cons_succ, List.getElem_cons_zero, List.setIfInBounds_toArray, List.set_cons_zero, List.set_cons_succ]
              refine wpAnyH_ready (rs := [8]) (by kernel_rfl) (by simp) ?_
              refine AllReadyH.cons (o := _) rfl (fun K' hK => ?_) AllReadyH.nil
              go_simp
              refine (rkey_k nm ks cs x.xs x.k ao x.ao cap x.cap _ (H.out.1.keep (below_drew1 J.out.1)) (X.out.1.1.below (below_drew1 J.out.1)) X.out.2.1 X.out.1.2.2.2 X.out.1.2.1 0 X.out.2.2.1 X.out.2.2.2).mono ?_
              rintro e w2 ⟨rfl, hb⟩
              have K := Lib.hid (And.intro (step0 (below_drew1 J.out.1) hb) (J.out.2.1.drw.below hb))
              have l0 : w2.cell? a = some (.string ⟨x.k.toArray⟩) := keep0 (show wr.drew.cell? a = _ from y0) hb
              have l1 : w2.cell? ⟨a.block, a.off + 1, none⟩ = some (.slice x.ao x.xs.length x.cap) := keep0 (show wr.drew.cell? ⟨a.block, a.off + 1, none⟩ = _ from y1) hb
              clear hb y0 y1
              go_wp2_with fail
              refine hK.out _ _ ⟨K.out.2.s4.1, l1⟩ (fun hH1 => ?_)
              clear hK K' hH0
              try simp only [Act.put, List.getElem_toArray, List.getElem_cons_succ, List.getElem_cons_zero, List.setIfInBounds_toArray, List.set_cons_zero, List.set_cons_succ]
              refine wpAnyH_take (i := 9) (oi := _) (v := .tuple #[.string ⟨x.k.toArray⟩, .int .i64 0]) rfl (by kernel_rfl) (by kernel_rfl) (by kernel_rfl) (fun _ _ _ h => h) (Or.inl ⟨by rfl, by intro v hv; go_simp⟩) hH1 ?_
              try simp only [Act.put, List.getElem_toArray, List.getElem_cons_succ, List.getElem_cons_zero, List.setIfInBounds_toArray, List.set_cons_zero, List.set_cons_succ]
              refine wpAnyH_take (i := 10) (oi := _) (v := .string ⟨x.k.toArray⟩) rfl (by kernel_rfl) (by kernel_rfl) (by kernel_rfl) (fun _ _ _ h => h) (Or.inl ⟨by rfl, by intro v hv; go_simp⟩) hH1 ?_
              try simp only [Act.put, List.getElem_toArray, List.getElem_cons_succ, List.getElem_cons_zero, List.setIfInBounds_toArray, List.set_cons_zero, List.set_cons_succ]
              refine wpAnyH_take (i := 11) (oi := _) (v := .int .i64 0) rfl (by kernel_rfl) (by kernel_rfl) (by kernel_rfl) (fun _ _ _ h => h) (Or.inl ⟨by rfl, by intro v hv; go_simp⟩) hH1 ?_
              try simp only [Act.put, List.getElem_toArray, List.getElem_cons_succ, List.getElem_cons_zero, List.setIfInBounds_toArray, List.set_cons_zero, List.set_cons_succ]
              refine wpAnyH_take (i := 12) (oi := _) (v := .string ⟨x.k.toArray⟩) rfl (by kernel_rfl) (by kernel_rfl) (by kernel_rfl) (fun _ _ _ h => h) (Or.inl ⟨by rfl, by intro v hv; go_simp⟩) hH1 ?_
              try simp only [Act.put, List.getElem_toArray, List.getElem_cons_succ, List.getElem_cons_zero, List.setIfInBounds_toArray, List.set_cons_zero, List.set_cons_succ]
              refine wpAnyH_take (i := 13) (oi := _) (v := .int .i64 0) rfl (by kernel_rfl) (by kernel_rfl) (by kernel_rfl) (fun _ _ _ h => h) (Or.inl ⟨by rfl, by intro v hv; go_simp⟩) hH1 ?_
              try simp only [Act.put, List.getElem_toArray, List.getElem_cons_succ, List.getElem_cons_zero, List.setIfInBounds_toArray, List.set_cons_zero, List.set_cons_succ]
              refine wpAnyH_done (by kernel_rfl) ?_ _
              clear hH1
              obtain ⟨⟨c0, c1, c2, c3⟩, _⟩ := K.out.2.s4
              go_wp2
              go_roundw
              case rel => exact ⟨0 + 1, by first | rfl | simp, hlt, K.out.1, K.out.2, Y.out⟩
              case measure => simp [intOf]; omega
          · rw [if_pos h2] at hst
            have k1 : (x.k == key) = false := by rw [beq_eq_false_iff_ne]; exact fun e => h2 e.symm
            have k2 : ¬ x.k = key := fun e => h2 e.symm
            have k3 : (key == x.k) = false := by rw [beq_eq_false_iff_ne]; exact h2
            have Y := Lib.hid hst
            clear hst hpr
            go_wp2_with fail
            clear c0 c1 c2 c3
            refine wp_region_held_drew (S := fun v => (v.cell? ⟨w.heap.size, 0, none⟩ = some (.string ⟨nm.toArray⟩) ∧ v.cell? ⟨w.heap.size, 1, none⟩ = some (.int .i64 ks) ∧ v.cell? ⟨w.heap.size, 2, none⟩ = some (.slice ao cs.length cap) ∧ v.cell? ⟨w.heap.size, 3, none⟩ = some (.slice (some a) zs.length lc)) ∧ v.cell? ⟨(a.add (j * 2)).block, (a.add (j * 2)).off + 1, none⟩ = some (.slice x.ao x.xs.length x.cap)) (by kernel_rfl) ⟨J.out.2.1.s4.1, y1⟩ (fun hH0 => ?_)
            refine wpAnyH_take (i := 0) (oi := _) (v := .pointer (some ⟨w.heap.size, 0, none⟩)) rfl (by kernel_rfl) (by kernel_rfl) (by kernel_rfl) (fun _ _ _ h => h) (Or.inl ⟨by rfl, by intro v hv; go_simp⟩) hH0 ?_
            try simp only [Act.put, List.getElem_toArray, List.getElem_cons_succ, List.getElem_cons_zero, List.setIfInBounds_toArray, List.set_cons_zero, List.set_cons_succ]
            refine wpAnyH_take (i := 1) (oi := _) (v := .agg #[.string ⟨nm.toArray⟩, .int .i64 ks, .slice ao cs.length cap]) rfl (by kernel_rfl) (by kernel_rfl) (by kernel_rfl) (fun _ _ _ h => h) (Or.inl ⟨by rfl, by intro v hv; obtain ⟨⟨c0, c1, c2, c3⟩, c4⟩ := hv; go_simp⟩) hH0 ?_
            try simp only [Act.put, List.getElem_toArray, List.getElem_cons_succ, List.getElem_cons_zero, List.setIfInBounds_toArray, List.set_cons_zero, List.set_cons_succ]
            refine wpAnyH_take (i := 2) (oi := _) (v := .pointer (some ⟨w.heap.size, 3, none⟩)) rfl (by kernel_rfl) (by kernel_rfl) (by kernel_rfl) (fun _ _ _ h => h) (Or.inl ⟨by rfl, by intro v hv; go_simp⟩) hH0 ?_
            try simp only [Act.put, List.getElem_toArray, List.getElem_cons_succ, List.getElem_cons_zero, List.setIfInBounds_toArray, List.set_cons_zero, List.set_cons_succ]
            refine wpAnyH_take (i := 3) (oi := _) (v := .slice (some a) zs.length lc) rfl (by kernel_rfl) (by kernel_rfl) (by kernel_rfl) (fun _ _ _ h => h) (Or.inl ⟨by rfl, by intro v hv; obtain ⟨⟨c0, c1, c2, c3⟩, c4⟩ := hv; go_simp⟩) hH0 ?_
            try simp only [Act.put, List.getElem_toArray, List.getElem_cons_succ, List.getElem_cons_zero, List.setIfInBounds_toArray, List.set_cons_zero, List.set_cons_succ]
            refine wpAnyH_take (i := 4) (oi := _) (v := .int .i64 (j : Int)) rfl (by kernel_rfl) (by kernel_rfl) (by kernel_rfl) (fun _ _ _ h => h) (Or.inl ⟨by rfl, by intro v hv; go_simp⟩) hH0 ?_
            try simp only [Act.put, List.getElem_toArray, List.getElem_cons_succ, List.getElem_cons_zero, List.setIfInBounds_toArray, List.set_cons_zero, List.set_cons_succ]
            refine wpAnyH_take (i := 5) (oi := _) (v := .pointer (some (a.add (j * 2)))) rfl (by kernel_rfl) (by kernel_rfl) (by kernel_rfl) (fun _ _ _ h => h) (Or.inl ⟨by rfl, by intro v hv; go_simp⟩) hH0 ?_
            try simp only [Act.put, List.getElem_toArray, List.getElem_cons_succ, List.getElem_cons_zero, List.setIfInBounds_toArray, List.set_cons_zero, List.set_cons_succ]
            refine wpAnyH_take (i := 6) (oi := _) (v := .pointer (some ⟨(a.add (j * 2)).block, (a.add (j * 2)).off + 1, none⟩)) rfl (by kernel_rfl) (by kernel_rfl) (by kernel_rfl) (fun _ _ _ h => h) (Or.inl ⟨by rfl, by intro v hv; go_simp⟩) hH0 ?_
            try simp only [Act.put, List.getElem_toArray, List.getElem_cons_succ, List.getElem_cons_zero, List.setIfInBounds_toArray, List.set_cons_zero, List.set_cons_succ]
            refine wpAnyH_take (i := 7) (oi := _) (v := .slice x.ao x.xs.length x.cap) rfl (by kernel_rfl) (by kernel_rfl) (by kernel_rfl) (fun _ _ _ h => h) (Or.inl ⟨by rfl, by intro v hv; obtain ⟨⟨c0, c1, c2, c3⟩, c4⟩ := hv; go_simp⟩) hH0 ?_
            try simp only [Act.put, List.getElem_toArray, List.getElem_cons_succ, List.getElem_cons_zero, List.setIfInBounds_toArray, List.set_cons_zero, List.set_cons_succ]
            refine wpAnyH_ready (rs := [8]) (by kernel_rfl) (by simp) ?_
            refine AllReadyH.cons (o := _) rfl (fun K' hK => ?_) AllReadyH.nil
            go_simp
            refine (rkey_k nm ks cs x.xs key ao x.ao cap x.cap _ (H.out.1.keep (below_drew1 J.out.1)) (X.out.1.1.below (below_drew1 J.out.1)) X.out.2.1 X.out.1.2.2.2 X.out.1.2.1 0 X.out.2.2.1 X.out.2.2.2).mono ?_
            rintro e w2 ⟨rfl, hb⟩
            have K := Lib.hid (And.intro (step0 (below_drew1 J.out.1) hb) (J.out.2.1.drw.below hb))
            have l0 : w2.cell? (a.add (j * 2)) = some (.string ⟨x.k.toArray⟩) := keep0 (show wr.drew.cell? (a.add (j * 2)) = _ from y0) hb
            have l1 : w2.cell? ⟨(a.add (j * 2)).block, (a.add (j * 2)).off + 1, none⟩ = some (.slice x.ao x.xs.length x.cap) := keep0 (show wr.drew.cell? ⟨(a.add (j * 2)).block, (a.add (j * 2)).off + 1, none⟩ = _ from y1) hb
            clear hb y0 y1
            go_wp2_with fail
            refine hK.out _ _ ⟨K.out.2.s4.1, l1⟩ (fun hH1 => ?_)
            clear hK K' hH0
            try simp only [Act.put, List.getElem_toArray, List.getElem_cons_succ, List.getElem_cons_zero, List.setIfInBounds_toArray, List.set_cons_zero, List.set_cons_succ]
            refine wpAnyH_take (i := 9) (oi := _) (v := .tuple #[.string ⟨key.toArray⟩, .int .i64 0]) rfl (by kernel_rfl) (by kernel_rfl) (by kernel_rfl) (fun _ _ _ h => h) (Or.inl ⟨by rfl, by intro v hv; go_simp⟩) hH1 ?_
            try simp only [Act.put, List.getElem_toArray, List.getElem_cons_succ, List.getElem_cons_zero, List.setIfInBounds_toArray, List.set_cons_zero, List.set_cons_succ]
            refine wpAnyH_take (i := 10) (oi := _) (v := .string ⟨key.toArray⟩) rfl (by kernel_rfl) (by kernel_rfl) (by kernel_rfl) (fun _ _ _ h => h) (Or.inl ⟨by rfl, by intro v hv; go_simp⟩) hH1 ?_
            try simp only [Act.put, List.getElem_toArray, List.getElem_cons_succ, List.getElem_cons_zero, List.setIfInBounds_toArray, List.set_cons_zero, List.set_cons_succ]
            refine wpAnyH_take (i := 11) (oi := _) (v := .int .i64 0) rfl (by kernel_rfl) (by kernel_rfl) (by kernel_rfl) (fun _ _ _ h => h) (Or.inl ⟨by rfl, by intro v hv; go_simp⟩) hH1 ?_
            try simp only [Act.put, List.getElem_toArray, List.getElem_cons_succ, List.getElem_cons_zero, List.setIfInBounds_toArray, List.set_cons_zero, List.set_cons_succ]
            refine wpAnyH_take (i := 12) (oi := _) (v := .string ⟨key.toArray⟩) rfl (by kernel_rfl) (by kernel_rfl) (by kernel_rfl) (fun _ _ _ h => h) (Or.inl ⟨by rfl, by intro v hv; go_simp⟩) hH1 ?_
            try simp only [Act.put, List.getElem_toArray, List.getElem_cons_succ, List.getElem_cons_zero, List.setIfInBounds_toArray, List.set_cons_zero, List.set_cons_succ]
            refine wpAnyH_take (i := 13) (oi := _) (v := .int .i64 0) rfl (by kernel_rfl) (by kernel_rfl) (by kernel_rfl) (fun _ _ _ h => h) (Or.inl ⟨by rfl, by intro v hv; go_simp⟩) hH1 ?_
            try simp only [Act.put, List.getElem_toArray, List.getElem_cons_succ, List.getElem_cons_zero, List.setIfInBounds_toArray, List.set_cons_zero, List.set_cons_succ]
            refine wpAnyH_done (by kernel_rfl) ?_ _
            clear hH1
            obtain ⟨⟨c0, c1, c2, c3⟩, _⟩ := K.out.2.s4
            go_wp2
            go_ret
            exact ⟨ret_int Y.out, K.out.1⟩
        · rw [if_pos h1] at hst
          have g1 : (G == 0) = false := by simpa using h1
          have g2 : (G != 0) = true := by simpa using h1
          have Y := Lib.hid hst
          clear hst hpr
          go_wp2_with fail
          clear c0 c1 c2 c3
          refine wp_region_held_drew (S := fun v => (v.cell? ⟨w.heap.size, 0, none⟩ = some (.string ⟨nm.toArray⟩) ∧ v.cell? ⟨w.heap.size, 1, none⟩ = some (.int .i64 ks) ∧ v.cell? ⟨w.heap.size, 2, none⟩ = some (.slice ao cs.length cap) ∧ v.cell? ⟨w.heap.size, 3, none⟩ = some (.slice (some a) zs.length lc)) ∧ v.cell? ⟨(a.add (j * 2)).block, (a.add (j * 2)).off + 1, none⟩ = some (.slice x.ao x.xs.length x.cap)) (by kernel_rfl) ⟨J.out.2.1.s4.1, y1⟩ (fun hH0 => ?_)
          refine wpAnyH_take (i := 0) (oi := _) (v := .pointer (some ⟨w.heap.size, 0, none⟩)) rfl (by kernel_rfl) (by kernel_rfl) (by kernel_rfl) (fun _ _ _ h => h) (Or.inl ⟨by rfl, by intro v hv; go_simp⟩) hH0 ?_
          try simp only [Act.put, List.getElem_toArray, List.getElem_cons_succ, List.getElem_cons_zero, List.setIfInBounds_toArray, List.set_cons_zero, List.set_cons_succ]
          refine wpAnyH_take (i := 1) (oi := _) (v := .agg #[.string ⟨nm.toArray⟩, .int .i64 ks, .slice ao cs.length cap]) rfl (by kernel_rfl) (by kernel_rfl) (by kernel_rfl) (fun _ _ _ h => h) (Or.inl ⟨by rfl, by intro v hv; obtain ⟨⟨c0, c1, c2, c3⟩, c4⟩ := hv; go_simp⟩) hH0 ?_
          try simp only [Act.put, List.getElem_toArray, List.getElem_cons_succ, List.getElem_cons_zero, List.setIfInBounds_toArray, List.set_cons_zero, List.set_cons_succ]
          refine wpAnyH_take (i := 2) (oi := _) (v := .pointer (some ⟨w.heap.size, 3, none⟩)) rfl (by kernel_rfl) (by kernel_rfl) (by kernel_rfl) (fun _ _ _ h => h) (Or.inl ⟨by rfl, by intro v hv; go_simp⟩) hH0 ?_
          try simp only [Act.put, List.getElem_toArray, List.getElem_cons_succ, List.getElem_cons_zero, List.setIfInBounds_toArray, List.set_cons_zero, List.set_cons_succ]
          refine wpAnyH_take (i := 3) (oi := _) (v := .slice (some a) zs.length lc) rfl (by kernel_rfl) (by kernel_rfl) (by kernel_rfl) (fun _ _ _ h => h) (Or.inl ⟨by rfl, by intro v hv; obtain ⟨⟨c0, c1, c2, c3⟩, c4⟩ := hv; go_simp⟩) hH0 ?_
          try simp only [Act.put, List.getElem_toArray, List.getElem_cons_succ, List.getElem_cons_zero, List.setIfInBounds_toArray, List.set_cons_zero, List.set_cons_succ]
          refine wpAnyH_take (i := 4) (oi := _) (v := .int .i64 (j : Int)) rfl (by kernel_rfl) (by kernel_rfl) (by kernel_rfl) (fun _ _ _ h => h) (Or.inl ⟨by rfl, by intro v hv; go_simp⟩) hH0 ?_
          try simp only [Act.put, List.getElem_toArray, List.getElem_cons_succ, List.getElem_cons_zero, List.setIfInBounds_toArray, List.set_cons_zero, List.set_cons_succ]
          refine wpAnyH_take (i := 5) (oi := _) (v := .pointer (some (a.add (j * 2)))) rfl (by kernel_rfl) (by kernel_rfl) (by kernel_rfl) (fun _ _ _ h => h) (Or.inl ⟨by rfl, by intro v hv; go_simp⟩) hH0 ?_
          try simp only [Act.put, List.getElem_toArray, List.getElem_cons_succ, List.getElem_cons_zero, List.setIfInBounds_toArray, List.set_cons_zero, List.set_cons_succ]
          refine wpAnyH_take (i := 6) (oi := _) (v := .pointer (some ⟨(a.add (j * 2)).block, (a.add (j * 2)).off + 1, none⟩)) rfl (by kernel_rfl) (by kernel_rfl) (by kernel_rfl) (fun _ _ _ h => h) (Or.inl ⟨by rfl, by intro v hv; go_simp⟩) hH0 ?_
          try simp only [Act.put, List.getElem_toArray, List.getElem_cons_succ, List.getElem_cons_zero, List.setIfInBounds_toArray, List.set_cons_zero, List.set_cons_succ]
          refine wpAnyH_take (i := 7) (oi := _) (v := .slice x.ao x.xs.length x.cap) rfl (by kernel_rfl) (by kernel_rfl) (by kernel_rfl) (fun _ _ _ h => h) (Or.inl ⟨by rfl, by intro v hv; obtain ⟨⟨c0, c1, c2, c3⟩, c4⟩ := hv; go_simp⟩) hH0 ?_
          try simp only [Act.put, List.getElem_toArray, List.getElem_cons_succ, List.getElem_cons_zero, List.setIfInBounds_toArray, List.set_cons_zero, List.set_cons_succ]
          refine wpAnyH_ready (rs := [8]) (by kernel_rfl) (by simp) ?_
          refine AllReadyH.cons (o := _) rfl (fun K' hK => ?_) AllReadyH.nil
          go_simp
          refine (rkey_k nm ks cs x.xs key ao x.ao cap x.cap _ (H.out.1.keep (below_drew1 J.out.1)) (X.out.1.1.below (below_drew1 J.out.1)) X.out.2.1 X.out.1.2.2.2 X.out.1.2.1 G X.out.2.2.1 X.out.2.2.2).mono ?_
          rintro e w2 ⟨rfl, hb⟩
          have K := Lib.hid (And.intro (step0 (below_drew1 J.out.1) hb) (J.out.2.1.drw.below hb))
          have l0 : w2.cell? (a.add (j * 2)) = some (.string ⟨x.k.toArray⟩) := keep0 (show wr.drew.cell? (a.add (j * 2)) = _ from y0) hb
          have l1 : w2.cell? ⟨(a.add (j * 2)).block, (a.add (j * 2)).off + 1, none⟩ = some (.slice x.ao x.xs.length x.cap) := keep0 (show wr.drew.cell? ⟨(a.add (j * 2)).block, (a.add (j * 2)).off + 1, none⟩ = _ from y1) hb
          clear hb y0 y1
          go_wp2_with fail
          refine hK.out _ _ ⟨K.out.2.s4.1, l1⟩ (fun hH1 => ?_)
          clear hK K' hH0
          try simp only [Act.put, List.getElem_toArray, List.getElem_cons_succ, List.getElem_cons_zero, List.setIfInBounds_toArray, List.set_cons_zero, List.set_cons_succ]
          refine wpAnyH_take (i := 9) (oi := _) (v := .tuple #[.string ⟨key.toArray⟩, .int .i64 G]) rfl (by kernel_rfl) (by kernel_rfl) (by kernel_rfl) (fun _ _ _ h => h) (Or.inl ⟨by rfl, by intro v hv; go_simp⟩) hH1 ?_
          try simp only [Act.put, List.getElem_toArray, List.getElem_cons_succ, List.getElem_cons_zero, List.setIfInBounds_toArray, List.set_cons_zero, List.set_cons_succ]
          refine wpAnyH_take (i := 10) (oi := _) (v := .string ⟨key.toArray⟩) rfl (by kernel_rfl) (by kernel_rfl) (by kernel_rfl) (fun _ _ _ h => h) (Or.inl ⟨by rfl, by intro v hv; go_simp⟩) hH1 ?_
          try simp only [Act.put, List.getElem_toArray, List.getElem_cons_succ, List.getElem_cons_zero, List.setIfInBounds_toArray, List.set_cons_zero, List.set_cons_succ]
          refine wpAnyH_take (i := 11) (oi := _) (v := .int .i64 G) rfl (by kernel_rfl) (by kernel_rfl) (by kernel_rfl) (fun _ _ _ h => h) (Or.inl ⟨by rfl, by intro v hv; go_simp⟩) hH1 ?_
          try simp only [Act.put, List.getElem_toArray, List.getElem_cons_succ, List.getElem_cons_zero, List.setIfInBounds_toArray, List.set_cons_zero, List.set_cons_succ]
          refine wpAnyH_take (i := 12) (oi := _) (v := .string ⟨key.toArray⟩) rfl (by kernel_rfl) (by kernel_rfl) (by kernel_rfl) (fun _ _ _ h => h) (Or.inl ⟨by rfl, by intro v hv; go_simp⟩) hH1 ?_
          try simp only [Act.put, List.getElem_toArray, List.getElem_cons_succ, List.getElem_cons_zero, List.setIfInBounds_toArray, List.set_cons_zero, List.set_cons_succ]
          refine wpAnyH_take (i := 13) (oi := _) (v := .int .i64 G) rfl (by kernel_rfl) (by kernel_rfl) (by kernel_rfl) (fun _ _ _ h => h) (Or.inl ⟨by rfl, by intro v hv; go_simp⟩) hH1 ?_
          try simp only [Act.put, List.getElem_toArray, List.getElem_cons_succ, List.getElem_cons_zero, List.setIfInBounds_toArray, List.set_cons_zero, List.set_cons_succ]
          refine wpAnyH_done (by kernel_rfl) ?_ _
          clear hH1
          obtain ⟨⟨c0, c1, c2, c3⟩, _⟩ := K.out.2.s4
          go_wp2
          go_ret
          exact ⟨ret_int Y.out, K.out.1⟩
      · obtain rfl : j = zs.length := by omega
        have hC := J.out.2.2
        rw [List.drop_of_length_le (by rw [lls_len]; exact Nat.le_refl _), ckl] at hC
        have Y := Lib.hid hC
        clear hC
        go_wp2
        go_ret
        exact ⟨ret_int Y.out, J.out.1⟩
  · have hE2 : F = E := by
      rw [← hE]
      unfold sck
      rw [hF, if_pos h0]
    have n1 : (F == 0) = false := by simpa using h0
    have n2 : (F != 0) = true := by simpa using h0
    subst hE2
    have H := Lib.hid (And.intro hT hF)
    clear hT hL hl h30 hF hE h0
    go_enter Tryz.func7, Tryz.ntmps7
    go_wp2_with fail
    refine (rcheck_t ⟨nm, ks, cs⟩ ao cap F _ (H.out.1.keep (below1 _ _)) H.out.2).mono ?_
    rintro e w1 ⟨rfl, hb⟩
    have K := Lib.hid (step1 (Below.refl _ w) hb)
    clear hb
    go_wp2
    go_ret
    exact ⟨rfl, K.out⟩

end Go.Proofs.YtfgakoldedpfoaaGreatDoor
