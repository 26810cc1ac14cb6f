/-
  May a sheet be, or why not: Check. Conditions: a sheet in memory, of at most 100 lines of at most 30 values; the library's variable errors.errorType holds the handle of the type error.
-/
import Derived.Test.YtfgakoldedpfoaaDoorShPut
namespace Go.Proofs.YtfgakoldedpfoaaDoor
open Go.RowKit
set_option linter.unusedVariables false
set_option linter.unusedSimpArgs false

/-- The key of the line before. -/
def prv (zs : List LV) (j : Nat) : Option Nm.S := if j = 0 then none else (zs[j - 1]?).map LV.k
theorem prv_next {zs : List LV} {j : Nat} (hj : j < zs.length) : prv zs (j + 1) = some zs[j].k := by
  unfold prv
  rw [if_neg (by omega), Nat.add_sub_cancel, List.getElem?_eq_getElem hj]
  rfl
theorem prv_at {zs : List LV} {j : Nat} (h0 : 0 < j) (hj : j < zs.length) : prv zs j = some zs[j - 1].k := by
  unfold prv
  rw [if_neg (by omega), List.getElem?_eq_getElem (by omega)]
  rfl
theorem ckl_lv (t : T) {zs : List LV} {j : Nat} (hj : j < zs.length) : ckl t (prv zs j) ((lls zs).drop j) = (if t.fit zs[j].xs ≠ 0 then t.fit zs[j].xs else if t.key zs[j].xs ≠ zs[j].k then 4 else if dwn (prv zs j) zs[j].k = true then 13 else ckl t (prv zs (j + 1)) ((lls zs).drop (j + 1))) := by
  have h : j < (lls zs).length := by rw [lls_len]; exact hj
  rw [ckl_step h, lls_at hj, prv_next hj]
  rfl
theorem Blk.sh {w w1 : World} {S : Array Value} (hb : Below (w.alloc (.cells S 27)).heap.size (w.alloc (.cells S 27)) w1) : Below w.heap.size w w1 ∧ Blk w1 w.heap.size S 27 := ⟨step1 (Below.refl _ w) hb, (Blk.new w S _).below hb⟩

set_option maxRecDepth 1000000 in
set_option maxHeartbeats 2000000 in
theorem scheck_is (nm : Nm.S) (ks : Int) (cs : List C) (zs : List LV) (ao lo : Option Addr) (cap lc : Nat) (w : World) (hg : Env w) (hT : At3 w ⟨nm, ks, cs⟩ ao cap) (hL : LS w zs lo lc) (hl : zs.length ≤ 100) (h30 : ∀ z ∈ zs, z.xs.length ≤ 30) (E : Int) (hE : sck ⟨nm, ks, cs⟩ (lls zs) = E) :
    Calls Tryd.prog 15 #[.agg #[.string ⟨nm.toArray⟩, .int .i64 ks, .slice ao cs.length cap, .slice lo zs.length lc]] w fun e w' => e = .returned (.int .i64 E) ∧ Below w.heap.size w w' := by
  obtain ⟨F, hF⟩ : ∃ F, T.ck ⟨nm, ks, cs⟩ = F := ⟨_, rfl⟩
  have hsz : zs.length < 4611686018427387904 := by omega
  have HG := Lib.hid hg
  clear hg
  by_cases h0 : F = 0
  · have hE2 : ckl ⟨nm, ks, cs⟩ (prv zs 0) ((lls zs).drop 0) = E := by
      rw [← hE]
      unfold sck
      rw [hF, if_neg (fun g => g h0)]
      rfl
    subst h0
    have H := Lib.hid (And.intro hT (And.intro hL (And.intro hl (And.intro h30 (And.intro hE2 hF)))))
    clear hT hL hl h30 hE2 hF hE
    go_enter Tryd.func15, Tryd.ntmps15
    go_wp2_with fail
    refine (check_t ⟨nm, ks, cs⟩ ao cap 0 _ (HG.out.keep (below1 _ _)) (H.out.1.keep (below1 _ _)) H.out.2.2.2.2.2).mono ?_
    rintro e w1 ⟨rfl, hb⟩
    have K1 := Lib.hid (Blk.sh hb)
    clear hb
    obtain ⟨⟨c0, c1, c2, c3⟩, _⟩ := K1.out.2.s4
    go_wp2
    clear c0 c1 c2 c3
    go_loopw [17] (fun i wr => ∃ j : Nat, i = .int .i64 j ∧ j ≤ zs.length ∧ Below w.heap.size w wr ∧ Blk wr w.heap.size #[.string ⟨nm.toArray⟩, .int .i64 ks, .slice ao cs.length cap, .slice lo zs.length lc] 27 ∧ ckl ⟨nm, ks, cs⟩ (prv zs j) ((lls zs).drop j) = E) (fun i _ => zs.length - (intOf i).toNat)
    case atStart => exact ⟨0, rfl, Nat.zero_le _, K1.out.1, K1.out.2, H.out.2.2.2.2.1⟩
    case round =>
      obtain ⟨j, rfl, hj, hb, hB, hC⟩ := hrel
      have J := Lib.hid (And.intro hb (And.intro hB hC))
      clear hb hB hC
      obtain ⟨⟨c0, c1, c2, c3⟩, _⟩ := J.out.2.1.s4
      by_cases hlt : j < zs.length
      · obtain ⟨a, ha, y0, y1⟩ := (H.out.2.1.1.below J.out.1) j zs[j] (List.getElem?_eq_getElem hlt)
        subst ha
        have hst := (ckl_lv ⟨nm, ks, cs⟩ hlt).symm.trans J.out.2.2
        have hrow := H.out.2.1.2.1.at hlt
        have h30 := H.out.2.2.2.1 _ (List.getElem_mem hlt)
        have hpr : 0 < j → prv zs j = some zs[j - 1].k := fun h => prv_at h hlt
        obtain ⟨x, hx⟩ : ∃ x, zs[j] = x := ⟨_, rfl⟩
        rw [hx] at y0 y1 hst hrow h30
        obtain ⟨G, hG⟩ : ∃ G, T.fit ⟨nm, ks, cs⟩ x.xs = G := ⟨_, rfl⟩
        obtain ⟨key, hk⟩ : ∃ key, T.key ⟨nm, ks, cs⟩ x.xs = key := ⟨_, rfl⟩
        rw [hG, hk] at hst
        have j0 : (0 : Int) ≤ (j : Int) := by omega
        have j1 : (j : Int) < (zs.length : Int) := by omega
        have X := Lib.hid (And.intro hrow (And.intro h30 (And.intro hG hk)))
        clear hrow h30 hG hk hx
        by_cases h1 : G = 0
        · subst h1
          rw [if_neg (fun g => g rfl)] at hst
          by_cases h2 : key = x.k
          · rw [if_neg (fun g => g h2)] at hst
            subst h2
            by_cases h3 : 0 < j
            · rw [hpr h3] at hst
              have hj1 : j - 1 < zs.length := by omega
              obtain ⟨a', ha', u0, u1⟩ := (H.out.2.1.1.below J.out.1) (j - 1) zs[j - 1] (List.getElem?_eq_getElem hj1)
              cases ha'
              obtain ⟨y, hy⟩ : ∃ y, zs[j - 1] = y := ⟨_, rfl⟩
              rw [hy] at hst u0 u1
              clear hy hpr
              have j2 : (0 : Int) < (j : Int) := by omega
              have j3 : (0 : Int) ≤ (j : Int) - 1 := by omega
              have j4 : (j : Int) - 1 < (zs.length : Int) := by omega
              have j5 : ((j : Int) - 1).toNat = j - 1 := by omega
              by_cases h4 : y.k < x.k
              · have hD : dwn (some y.k) x.k = false := by simp [dwn, h4]
                rw [hD, if_neg (by simp)] at hst
                have Y := Lib.hid hst
                have z9 : Op.bytesLess y.k x.k = true := by rw [Vl.less_eq]; simp [h4]
                clear hst hD
                have z0 := fun o => (J.out.2.1.alloc o).s4.1.1
                have z1 := fun o => (J.out.2.1.alloc o).s4.1.2.1
                have z2 := fun o => (J.out.2.1.alloc o).s4.1.2.2.1
                have z3 := fun o => (J.out.2.1.alloc o).s4.1.2.2.2
                go_wp2_with fail
                refine (key_k nm ks cs x.xs x.k ao x.ao cap x.cap _ (H.out.1.keep (J.out.1.alloc J.out.1.size _)) (X.out.1.1.below (J.out.1.alloc J.out.1.size _)) X.out.2.1 X.out.1.2.2.2 (HG.out.keep (J.out.1.alloc J.out.1.size _)) X.out.1.2.1 0 X.out.2.2.1 X.out.2.2.2).mono ?_
                rintro e w2 ⟨rfl, hb⟩
                have K := Lib.hid (And.intro (step1 J.out.1 hb) ((J.out.2.1.alloc _).below hb))
                have L := Lib.hid ((Blk.new wr #[.string ⟨x.k.toArray⟩, .slice x.ao x.xs.length x.cap] 54).below hb)
                clear c0 c1 c2 c3 z0 z1 z2 z3
                obtain ⟨⟨c0, c1, c2, c3⟩, _⟩ := K.out.2.s4
                have l0 := L.out.cell 0
                have l1 := L.out.cell 1
                simp at l0 l1
                have v0 := keep0 u0 (step1 (Below.refl _ wr) hb)
                have v1 := keep0 u1 (step1 (Below.refl _ wr) hb)
                clear u0 u1
                clear hb
                go_wp2
                go_roundw
                case rel => exact ⟨j + 1, rfl, hlt, K.out.1, K.out.2, Y.out⟩
                case measure => simp [intOf]; omega
              · have hD : dwn (some y.k) x.k = true := by simp [dwn, h4]
                rw [hD, if_pos rfl] at hst
                have Y := Lib.hid hst
                have z9 : Op.bytesLess y.k x.k = false := by rw [Vl.less_eq]; simp [h4]
                clear hst hD
                have z0 := fun o => (J.out.2.1.alloc o).s4.1.1
                have z1 := fun o => (J.out.2.1.alloc o).s4.1.2.1
                have z2 := fun o => (J.out.2.1.alloc o).s4.1.2.2.1
                have z3 := fun o => (J.out.2.1.alloc o).s4.1.2.2.2
                go_wp2_with fail
                refine (key_k nm ks cs x.xs x.k ao x.ao cap x.cap _ (H.out.1.keep (J.out.1.alloc J.out.1.size _)) (X.out.1.1.below (J.out.1.alloc J.out.1.size _)) X.out.2.1 X.out.1.2.2.2 (HG.out.keep (J.out.1.alloc J.out.1.size _)) X.out.1.2.1 0 X.out.2.2.1 X.out.2.2.2).mono ?_
                rintro e w2 ⟨rfl, hb⟩
                have K := Lib.hid (And.intro (step1 J.out.1 hb) ((J.out.2.1.alloc _).below hb))
                have L := Lib.hid ((Blk.new wr #[.string ⟨x.k.toArray⟩, .slice x.ao x.xs.length x.cap] 54).below hb)
                clear c0 c1 c2 c3 z0 z1 z2 z3
                obtain ⟨⟨c0, c1, c2, c3⟩, _⟩ := K.out.2.s4
                have l0 := L.out.cell 0
                have l1 := L.out.cell 1
                simp at l0 l1
                have v0 := keep0 u0 (step1 (Below.refl _ wr) hb)
                have v1 := keep0 u1 (step1 (Below.refl _ wr) hb)
                clear u0 u1
                clear hb
                go_wp2
                go_ret
                exact ⟨ret_int Y.out, K.out.1⟩
            · obtain rfl : j = 0 := by omega
              have hD : dwn (prv zs 0) x.k = false := rfl
              rw [hD, if_neg (by simp)] at hst
              have Y := Lib.hid hst
              clear hst hD h3 hpr
              have e0 : ∀ p : Addr, p.add (0 * 2) = p := fun p => by simp [Addr.add]
              rw [e0] at y0 y1
              clear e0
              have z0 := fun o => (J.out.2.1.alloc o).s4.1.1
              have z1 := fun o => (J.out.2.1.alloc o).s4.1.2.1
              have z2 := fun o => (J.out.2.1.alloc o).s4.1.2.2.1
              have z3 := fun o => (J.out.2.1.alloc o).s4.1.2.2.2
              go_wp2_with fail
              refine (key_k nm ks cs x.xs x.k ao x.ao cap x.cap _ (H.out.1.keep (J.out.1.alloc J.out.1.size _)) (X.out.1.1.below (J.out.1.alloc J.out.1.size _)) X.out.2.1 X.out.1.2.2.2 (HG.out.keep (J.out.1.alloc J.out.1.size _)) X.out.1.2.1 0 X.out.2.2.1 X.out.2.2.2).mono ?_
              rintro e w2 ⟨rfl, hb⟩
              have K := Lib.hid (And.intro (step1 J.out.1 hb) ((J.out.2.1.alloc _).below hb))
              have L := Lib.hid ((Blk.new wr #[.string ⟨x.k.toArray⟩, .slice x.ao x.xs.length x.cap] 54).below hb)
              clear c0 c1 c2 c3 z0 z1 z2 z3
              obtain ⟨⟨c0, c1, c2, c3⟩, _⟩ := K.out.2.s4
              have l0 := L.out.cell 0
              have l1 := L.out.cell 1
              simp at l0 l1
              clear hb
              go_wp2
              go_roundw
              case rel => exact ⟨0 + 1, by first | rfl | simp, hlt, K.out.1, K.out.2, Y.out⟩
              case measure => simp [intOf]; omega
          · rw [if_pos h2] at hst
            have k1 : (x.k == key) = false := by rw [beq_eq_false_iff_ne]; exact fun e => h2 e.symm
            have k2 : ¬ x.k = key := fun e => h2 e.symm
            have k3 : (key == x.k) = false := by rw [beq_eq_false_iff_ne]; exact h2
            have Y := Lib.hid hst
            clear hst hpr
            have z0 := fun o => (J.out.2.1.alloc o).s4.1.1
            have z1 := fun o => (J.out.2.1.alloc o).s4.1.2.1
            have z2 := fun o => (J.out.2.1.alloc o).s4.1.2.2.1
            have z3 := fun o => (J.out.2.1.alloc o).s4.1.2.2.2
            go_wp2_with fail
            refine (key_k nm ks cs x.xs key ao x.ao cap x.cap _ (H.out.1.keep (J.out.1.alloc J.out.1.size _)) (X.out.1.1.below (J.out.1.alloc J.out.1.size _)) X.out.2.1 X.out.1.2.2.2 (HG.out.keep (J.out.1.alloc J.out.1.size _)) X.out.1.2.1 0 X.out.2.2.1 X.out.2.2.2).mono ?_
            rintro e w2 ⟨rfl, hb⟩
            have K := Lib.hid (And.intro (step1 J.out.1 hb) ((J.out.2.1.alloc _).below hb))
            have L := Lib.hid ((Blk.new wr #[.string ⟨x.k.toArray⟩, .slice x.ao x.xs.length x.cap] 54).below hb)
            clear c0 c1 c2 c3 z0 z1 z2 z3
            obtain ⟨⟨c0, c1, c2, c3⟩, _⟩ := K.out.2.s4
            have l0 := L.out.cell 0
            have l1 := L.out.cell 1
            simp at l0 l1
            clear hb
            go_wp2
            go_ret
            exact ⟨ret_int Y.out, K.out.1⟩
        · rw [if_pos h1] at hst
          have g1 : (G == 0) = false := by simpa using h1
          have g2 : (G != 0) = true := by simpa using h1
          have Y := Lib.hid hst
          clear hst hpr
          have z0 := fun o => (J.out.2.1.alloc o).s4.1.1
          have z1 := fun o => (J.out.2.1.alloc o).s4.1.2.1
          have z2 := fun o => (J.out.2.1.alloc o).s4.1.2.2.1
          have z3 := fun o => (J.out.2.1.alloc o).s4.1.2.2.2
          go_wp2_with fail
          refine (key_k nm ks cs x.xs key ao x.ao cap x.cap _ (H.out.1.keep (J.out.1.alloc J.out.1.size _)) (X.out.1.1.below (J.out.1.alloc J.out.1.size _)) X.out.2.1 X.out.1.2.2.2 (HG.out.keep (J.out.1.alloc J.out.1.size _)) X.out.1.2.1 G X.out.2.2.1 X.out.2.2.2).mono ?_
          rintro e w2 ⟨rfl, hb⟩
          have K := Lib.hid (And.intro (step1 J.out.1 hb) ((J.out.2.1.alloc _).below hb))
          have L := Lib.hid ((Blk.new wr #[.string ⟨x.k.toArray⟩, .slice x.ao x.xs.length x.cap] 54).below hb)
          clear c0 c1 c2 c3 z0 z1 z2 z3
          obtain ⟨⟨c0, c1, c2, c3⟩, _⟩ := K.out.2.s4
          have l0 := L.out.cell 0
          have l1 := L.out.cell 1
          simp at l0 l1
          clear hb
          go_wp2
          go_ret
          exact ⟨ret_int Y.out, K.out.1⟩
      · obtain rfl : j = zs.length := by omega
        have hC := J.out.2.2
        rw [List.drop_of_length_le (by rw [lls_len]; exact Nat.le_refl _), ckl] at hC
        have Y := Lib.hid hC
        clear hC
        go_wp2
        go_ret
        exact ⟨ret_int Y.out, J.out.1⟩
  · have hE2 : F = E := by
      rw [← hE]
      unfold sck
      rw [hF, if_pos h0]
    have n1 : (F == 0) = false := by simpa using h0
    have n2 : (F != 0) = true := by simpa using h0
    subst hE2
    have H := Lib.hid (And.intro hT hF)
    clear hT hL hl h30 hF hE h0
    go_enter Tryd.func15, Tryd.ntmps15
    go_wp2_with fail
    refine (check_t ⟨nm, ks, cs⟩ ao cap F _ (HG.out.keep (below1 _ _)) (H.out.1.keep (below1 _ _)) H.out.2).mono ?_
    rintro e w1 ⟨rfl, hb⟩
    have K := Lib.hid (step1 (Below.refl _ w) hb)
    clear hb
    go_wp2
    go_ret
    exact ⟨rfl, K.out⟩

end Go.Proofs.YtfgakoldedpfoaaDoor
