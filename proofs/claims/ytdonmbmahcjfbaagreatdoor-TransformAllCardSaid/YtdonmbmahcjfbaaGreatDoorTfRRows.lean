/-
  What the document's Rows tells. Conditions: a table and at most 30 rows of at most 30 values in memory that keep a value's bounds.
-/
import Derived.Test.YtdonmbmahcjfbaaGreatDoorTfAwake
import Derived.Test.YtdonmbmahcjfbaaGreatDoorTfOne
namespace Go.Proofs.YtdonmbmahcjfbaaGreatDoor
open Go.RowKit
set_option linter.unusedVariables false
set_option linter.unusedSimpArgs false

set_option maxHeartbeats 8000000 in
set_option maxRecDepth 100000 in
theorem rrows_1 (c : Ch) (no : Option Addr) (nc : Nat) (dO : Option Addr) (dc : Nat) (t : T) (ao : Option Addr) (cap : Nat) (l : List RV) (lo : Option Addr) (lc : Nat) (w : World) (hT : At3 w t ao cap) (hl : SlR w lo l) (hIn : ∀ y ∈ l, Sl w y.ao y.xs ∧ y.xs.length ≤ 30 ∧ ∀ x ∈ y.xs, x.ok) (hm : l.length ≤ 30) (hns : SlS w no c.names) (hnl : c.names.length ≤ 1000) (h0 : l.length ≠ 0) (hk : (c.kind == 2) = true ∨ ((c.kind == 2) = false ∧ (c.kind == 3) = true) ∨ ((c.kind == 2) = false ∧ (c.kind == 3) = false ∧ (c.kind == 4) = true) ∨ ((c.kind == 2) = false ∧ (c.kind == 3) = false ∧ (c.kind == 4) = false ∧ (c.kind == 6) = true)) (hkn : kn c.kind = 1) :
    Calls Tryz.prog 15 #[.agg #[.string ⟨t.name.toArray⟩, .int .i64 t.keys, .slice ao t.cs.length cap], .agg #[.int .i64 c.kind, .string ⟨c.table.toArray⟩, .string ⟨c.other.toArray⟩, .string ⟨c.to.toArray⟩, .string ⟨c.also.toArray⟩, .string ⟨c.name.toArray⟩, .int .i64 c.type, .slice no c.names.length nc, .string ⟨c.col.name.toArray⟩, .int .i64 c.col.kind, .bool c.col.null, .int .i64 c.col.d.k, .int .i64 c.col.d.n, .int .u64 c.col.d.b, .string ⟨c.col.d.s.toArray⟩, .string ⟨c.df.name.toArray⟩, .int .i64 c.df.keys, .slice dO c.df.cs.length dc], .slice lo l.length lc] w fun e w' => QQ w' e (rws c t (rxs l) 0 (List.replicate 1 [])) ∧ Below w.heap.size w w' := by
  have hmx : Tryz.prog.follows .mixedOrders = true := by kernel_rfl
  have z1 : ((l.length : Int) == 0) = false := beq_f (by omega)
  have z2 : (l.length == 0) = false := by simp [h0]
  obtain ⟨R, hR⟩ : ∃ R, rws c t (rxs l) 0 (List.replicate 1 []) = R := ⟨_, rfl⟩
  rw [hR]
  have HRw := Lib.hid hR
  clear hR
  have H := Lib.hid (And.intro hT (And.intro hl (And.intro hIn (And.intro hm (And.intro hns (And.intro hnl (And.intro trivial (And.intro trivial (And.intro trivial (And.intro (show 1 ≤ 2 by decide) hkn))))))))))
  clear hT hl hIn hm hns hnl h0 hkn
  obtain ⟨Wb, hWb⟩ : ∃ Wb, (w.alloc (.cells #[.string ⟨t.name.toArray⟩, .int .i64 t.keys, .slice ao t.cs.length cap] 24)).alloc (.cells #[.int .i64 c.kind, .string ⟨c.table.toArray⟩, .string ⟨c.other.toArray⟩, .string ⟨c.to.toArray⟩, .string ⟨c.also.toArray⟩, .string ⟨c.name.toArray⟩, .int .i64 c.type, .slice no c.names.length nc, .string ⟨c.col.name.toArray⟩, .int .i64 c.col.kind, .bool c.col.null, .int .i64 c.col.d.k, .int .i64 c.col.d.n, .int .u64 c.col.d.b, .string ⟨c.col.d.s.toArray⟩, .string ⟨c.df.name.toArray⟩, .int .i64 c.df.keys, .slice dO c.df.cs.length dc] 32) = Wb := ⟨_, rfl⟩
  have q0 : Blk Wb w.heap.size #[.string ⟨t.name.toArray⟩, .int .i64 t.keys, .slice ao t.cs.length cap] 24 := hWb ▸ (Blk.new w _ _).alloc _
  have q1 : Blk Wb (w.heap.size + 1) #[.int .i64 c.kind, .string ⟨c.table.toArray⟩, .string ⟨c.other.toArray⟩, .string ⟨c.to.toArray⟩, .string ⟨c.also.toArray⟩, .string ⟨c.name.toArray⟩, .int .i64 c.type, .slice no c.names.length nc, .string ⟨c.col.name.toArray⟩, .int .i64 c.col.kind, .bool c.col.null, .int .i64 c.col.d.k, .int .i64 c.col.d.n, .int .u64 c.col.d.b, .string ⟨c.col.d.s.toArray⟩, .string ⟨c.df.name.toArray⟩, .int .i64 c.df.keys, .slice dO c.df.cs.length dc] 32 := hWb ▸ Blk.newB (w.alloc (.cells #[.string ⟨t.name.toArray⟩, .int .i64 t.keys, .slice ao t.cs.length cap] 24)) (w.heap.size + 1) _ _ (by simp)
  have K1 := Lib.hid (And.intro (show Below w.heap.size w Wb from hWb ▸ below2s w _ _) (And.intro q0 q1))
  have x0 := q1.cell 0
  simp at x0
  clear q0 q1
  go_enter Tryz.func15, Tryz.ntmps15
  rcases hk with h2 | ⟨h2, h3⟩ | ⟨h2, h3, h4⟩ | ⟨h2, h3, h4, h6⟩ <;> (
  go_wp2_with (refine makeQ _ rfl _ _ rfl _ _ _ _ 1 rfl rfl rfl rfl (by decide) ?_; intro g w2 hg hO hb; have M := Lib.hid (And.intro hO (And.intro hb hg)); clear hO hb hg x0; (try clear h2); (try clear h3); (try clear h4); (try clear h6); go_frame)
  go_loopw [11] (fun i wr => ∃ (j : Nat) (zs : List QV), i = .int .i64 j ∧ j ≤ l.length ∧ Below Wb.heap.size Wb wr ∧ OwQ wr Wb.heap.size (.slice (some ⟨g, 0, none⟩) 1 1) zs ∧ FitQ wr Wb.heap.size zs ∧ zs.length = 1 ∧ rws c t (rxs l) 0 (List.replicate 1 []) = rws c t ((rxs l).drop j) j (zs.map QV.ls) ∧ ∀ z ∈ zs, z.ys.length ≤ j) (fun i _ => l.length - (intOf i).toNat)
  case atStart =>
    refine ⟨0, List.replicate 1 QV0, rfl, Nat.zero_le _, M.out.2.1, M.out.1, FitQ.made _ _ _, by simp, ?_, ?_⟩
    · rw [List.drop_zero, List.map_replicate]; rfl
    · intro z hz
      obtain rfl := (List.mem_replicate.1 hz).2
      exact Nat.le_refl _
  case round =>
    obtain ⟨j, zs, rfl, hj, hb, hO, hF, hzn, hrw, hzl⟩ := hrel
    have J := Lib.hid (And.intro hj (And.intro hb (And.intro hO (And.intro hF (And.intro hzn (And.intro hrw hzl))))))
    clear hj hb hO hF hzn hrw hzl
    by_cases hlt : j < l.length
    · have hw : wrap64 ((j : Int) + 1) = (j : Int) + 1 := by have := H.out.2.2.2.1; exact wrap_in _ (by omega) (by omega)
      have g0 : (0 : Int) ≤ (j : Int) := by omega
      have g1 : (j : Int) < (l.length : Int) := by omega
      obtain ⟨a, rfl, a0⟩ := (H.out.2.1.below (step0 K1.out.1 J.out.2.1)) j l[j] (List.getElem?_eq_getElem hlt)
      obtain ⟨y, hy⟩ : ∃ y, l[j] = y := ⟨_, rfl⟩
      rw [hy] at a0
      have hyl : (rxs l)[j]? = some y.xs := by simp [rxs, List.getElem?_eq_getElem hlt, hy]
      have Y := Lib.hid (And.intro (H.out.2.2.1 y (hy ▸ List.getElem_mem hlt)) hyl)
      obtain ⟨t0, t1, t2⟩ := (K1.out.2.1.below J.out.2.1).t3
      clear hy hyl
      obtain ⟨⟨r1, E⟩, hr⟩ : ∃ r, c.row t y.xs = r := ⟨_, rfl⟩
      have HR := Lib.hid hr
      clear hr
      go_wp2_with fail
      refine wp_region_held_drew (S := fun v => Below wr.heap.size wr v) (by kernel_rfl) (Below.refl _ _).drew (fun hH0 => ?_)
      refine wpAnyH_take (i := 0) (oi := _) (v := .agg #[.string ⟨t.name.toArray⟩, .int .i64 t.keys, .slice ao t.cs.length cap]) rfl (by kernel_rfl) (by kernel_rfl) (by kernel_rfl) (fun _ _ _ h => h) (Or.inl ⟨by rfl, by intro v hv; have y0 := keep0 t0 hv; have y1 := keep0 t1 hv; have y2 := keep0 t2 hv; clear t0 t1 t2; go_simp⟩) hH0 ?_
      try simp only [Act.put, List.getElem_toArray, List.getElem_cons_succ, List.getElem_cons_zero, List.setIfInBounds_toArray, List.set_cons_zero, List.set_cons_succ]
      refine wpAnyH_take (i := 1) (oi := _) (v := .agg #[.int .i64 c.kind, .string ⟨c.table.toArray⟩, .string ⟨c.other.toArray⟩, .string ⟨c.to.toArray⟩, .string ⟨c.also.toArray⟩, .string ⟨c.name.toArray⟩, .int .i64 c.type, .slice no c.names.length nc, .string ⟨c.col.name.toArray⟩, .int .i64 c.col.kind, .bool c.col.null, .int .i64 c.col.d.k, .int .i64 c.col.d.n, .int .u64 c.col.d.b, .string ⟨c.col.d.s.toArray⟩, .string ⟨c.df.name.toArray⟩, .int .i64 c.df.keys, .slice dO c.df.cs.length dc]) rfl (by kernel_rfl) (by kernel_rfl) (by kernel_rfl) (fun _ _ _ h => h) (yieldsIf_load_mid (by rfl) _ _ rfl (w.heap.size + 1) 0 rfl [.int .i64 c.kind, .string ⟨c.table.toArray⟩, .string ⟨c.other.toArray⟩, .string ⟨c.to.toArray⟩, .string ⟨c.also.toArray⟩, .string ⟨c.name.toArray⟩, .int .i64 c.type, .slice no c.names.length nc, .string ⟨c.col.name.toArray⟩, .int .i64 c.col.kind, .bool c.col.null, .int .i64 c.col.d.k, .int .i64 c.col.d.n, .int .u64 c.col.d.b, .string ⟨c.col.d.s.toArray⟩, .string ⟨c.df.name.toArray⟩, .int .i64 c.df.keys, .slice dO c.df.cs.length dc] _ (fun v hv => rng ((K1.out.2.2.below J.out.2.1).below hv)) Tryz.underlying32 rfl infoCh) hH0 ?_
      try simp only [Act.put, List.getElem_toArray, List.getElem_cons_succ, List.getElem_cons_zero, List.setIfInBounds_toArray, List.set_cons_zero, List.set_cons_succ]
      refine wpAnyH_take (i := 2) (oi := _) (v := .slice (some a) l.length lc) rfl (by kernel_rfl) (by kernel_rfl) (by kernel_rfl) (fun _ _ _ h => h) (Or.inl ⟨by rfl, by intro v hv; go_simp⟩) hH0 ?_
      try simp only [Act.put, List.getElem_toArray, List.getElem_cons_succ, List.getElem_cons_zero, List.setIfInBounds_toArray, List.set_cons_zero, List.set_cons_succ]
      refine wpAnyH_take (i := 3) (oi := _) (v := .int .i64 (j : Int)) rfl (by kernel_rfl) (by kernel_rfl) (by kernel_rfl) (fun _ _ _ h => h) (Or.inl ⟨by rfl, by intro v hv; go_simp⟩) hH0 ?_
      try simp only [Act.put, List.getElem_toArray, List.getElem_cons_succ, List.getElem_cons_zero, List.setIfInBounds_toArray, List.set_cons_zero, List.set_cons_succ]
      refine wpAnyH_take (i := 4) (oi := _) (v := .pointer (some (a.add j))) rfl (by kernel_rfl) (by kernel_rfl) (by kernel_rfl) (fun _ _ _ h => h) (Or.inl ⟨by rfl, by intro v hv; go_simp⟩) hH0 ?_
      try simp only [Act.put, List.getElem_toArray, List.getElem_cons_succ, List.getElem_cons_zero, List.setIfInBounds_toArray, List.set_cons_zero, List.set_cons_succ]
      refine wpAnyH_take (i := 5) (oi := _) (v := .slice y.ao y.xs.length y.cap) rfl (by kernel_rfl) (by kernel_rfl) (by kernel_rfl) (fun _ _ _ h => h) (Or.inl ⟨by rfl, by intro v hv; have y0 := keep0 a0 hv; clear a0; go_simp⟩) hH0 ?_
      try simp only [Act.put, List.getElem_toArray, List.getElem_cons_succ, List.getElem_cons_zero, List.setIfInBounds_toArray, List.set_cons_zero, List.set_cons_succ]
      clear t0 t1 t2 a0
      refine wpAnyH_ready (rs := [6]) (by kernel_rfl) (by simp) ?_
      refine AllReadyH.cons (o := _) rfl (fun K' hK => ?_) AllReadyH.nil
      go_simp
      refine (rrow_is c no nc dO dc t ao cap y.xs _ rfl y.ao y.cap _ (H.out.1.keep (step0 (step0 K1.out.1 J.out.2.1) hH0)) (Y.out.1.1.below (step0 (step0 K1.out.1 J.out.2.1) hH0)) Y.out.1.2.1 Y.out.1.2.2 (H.out.2.2.2.2.1.below (step0 (step0 K1.out.1 J.out.2.1) hH0)) H.out.2.2.2.2.2.1 (r1, E) HR.out).mono ?_
      rintro e w3 ⟨⟨ro, rc, rys, rfl, hrx, hrs, hrf⟩, hb3⟩
      simp only at hrx
      have bw : Below wr.heap.size wr w3 := step0 hH0 hb3
      go_wp2_with fail
      refine hK.out _ _ bw (fun _ => ?_)
      clear hK K'
      have B3 := Lib.hid (And.intro bw (And.intro hrx (And.intro hrs hrf)))
      clear hb3 hrx hrs hrf hH0
      try simp only [Act.put, List.getElem_toArray, List.getElem_cons_succ, List.getElem_cons_zero, List.setIfInBounds_toArray, List.set_cons_zero, List.set_cons_succ]
      refine wpAnyH_take (i := 7) (oi := _) (v := .tuple #[.slice ro rys.length rc, .int .i64 E]) rfl (by kernel_rfl) (by kernel_rfl) (by kernel_rfl) (fun _ _ _ h => h) (Or.inl ⟨by rfl, by intro v hv; go_simp⟩) bw ?_
      try simp only [Act.put, List.getElem_toArray, List.getElem_cons_succ, List.getElem_cons_zero, List.setIfInBounds_toArray, List.set_cons_zero, List.set_cons_succ]
      refine wpAnyH_take (i := 8) (oi := _) (v := .slice ro rys.length rc) rfl (by kernel_rfl) (by kernel_rfl) (by kernel_rfl) (fun _ _ _ h => h) (Or.inl ⟨by rfl, by intro v hv; go_simp⟩) bw ?_
      try simp only [Act.put, List.getElem_toArray, List.getElem_cons_succ, List.getElem_cons_zero, List.setIfInBounds_toArray, List.set_cons_zero, List.set_cons_succ]
      refine wpAnyH_take (i := 9) (oi := _) (v := .int .i64 E) rfl (by kernel_rfl) (by kernel_rfl) (by kernel_rfl) (fun _ _ _ h => h) (Or.inl ⟨by rfl, by intro v hv; go_simp⟩) bw ?_
      try simp only [Act.put, List.getElem_toArray, List.getElem_cons_succ, List.getElem_cons_zero, List.setIfInBounds_toArray, List.set_cons_zero, List.set_cons_succ]
      refine wpAnyH_take (i := 10) (oi := _) (v := .slice ro rys.length rc) rfl (by kernel_rfl) (by kernel_rfl) (by kernel_rfl) (fun _ _ _ h => h) (Or.inl ⟨by rfl, by intro v hv; go_simp⟩) bw ?_
      try simp only [Act.put, List.getElem_toArray, List.getElem_cons_succ, List.getElem_cons_zero, List.setIfInBounds_toArray, List.set_cons_zero, List.set_cons_succ]
      refine wpAnyH_take (i := 11) (oi := _) (v := .int .i64 E) rfl (by kernel_rfl) (by kernel_rfl) (by kernel_rfl) (fun _ _ _ h => h) (Or.inl ⟨by rfl, by intro v hv; go_simp⟩) bw ?_
      try simp only [Act.put, List.getElem_toArray, List.getElem_cons_succ, List.getElem_cons_zero, List.setIfInBounds_toArray, List.set_cons_zero, List.set_cons_succ]
      refine wpAnyH_done (by kernel_rfl) ?_ _
      clear bw
      by_cases hE : E = 0
      · subst hE
        have hrl : rys.length = 1 := by
          have h1 := congrArg List.length B3.out.2.1
          simp only [rxs, List.length_map] at h1
          have h2 := row_len (c := c) (t := t) (row := y.xs) (by rw [HR.out])
          rw [HR.out] at h2
          have h3 : kn c.kind = 1 := H.out.2.2.2.2.2.2.2.2.2.2
          rw [h3] at h2
          simp only at h2
          omega
        have RL := Lib.hid hrl
        clear hrl
        obtain ⟨w0, hw0⟩ : ∃ w0, w0 = wr := ⟨_, rfl⟩
        subst hw0
        go_wp2
        go_loopw [14] (fun i wr' => ∃ (k : Nat) (zs' : List QV), i = .int .i64 k ∧ k ≤ 1 ∧ Below Wb.heap.size Wb wr' ∧ w3.heap.size ≤ wr'.heap.size ∧ OwQ wr' Wb.heap.size (.slice (some ⟨g, 0, none⟩) 1 1) zs' ∧ FitQ wr' Wb.heap.size zs' ∧ zs'.length = 1 ∧ zs'.map QV.ls = stp (zs.map QV.ls) r1 k ∧ (∀ z ∈ zs', ∀ m, (Value.slice z.ao z.ys.length z.cap).ownBlock = some m → m < w0.heap.size ∨ w3.heap.size ≤ m) ∧ SlR wr' ro rys ∧ FitR wr' Wb.heap.size rys) (fun i _ => 1 - (intOf i).toNat)
        case atStart =>
          refine ⟨0, zs, rfl, Nat.zero_le _, J.out.2.1.trans (B3.out.1.mono J.out.2.1.size), Nat.le_refl _, J.out.2.2.1.keep B3.out.1, J.out.2.2.2.1.keep B3.out.1, J.out.2.2.2.2.1, (stp_0 _ _).symm, ?_, B3.out.2.2.1, B3.out.2.2.2.1.base J.out.2.1.size⟩
          intro z hz m hm
          exact .inl ((J.out.2.2.2.1.1 z hz).1.lt m hm).2
        case round =>
          obtain ⟨k, zs', rfl, hk, hb', hsz, hO', hF', hzn', hls, hbl, hrs', hrf'⟩ := hrel
          have I := Lib.hid (And.intro hk (And.intro hb' (And.intro hsz (And.intro hO' (And.intro hF' (And.intro hzn' (And.intro hls (And.intro hbl (And.intro hrs' hrf')))))))))
          clear hk hb' hsz hO' hF' hzn' hls hbl hrs' hrf'
          by_cases hkn : k < 1
          · have hkz : k < zs'.length := by have := I.out.2.2.2.2.2.1; omega
            have hkr : k < rys.length := by have := RL.out; omega
            obtain ⟨z, hz⟩ : ∃ z, zs'[k] = z := ⟨_, rfl⟩
            have hzk : zs'[k]? = some z := by rw [List.getElem?_eq_getElem hkz, hz]
            obtain ⟨y1, hy1⟩ : ∃ y, rys[k] = y := ⟨_, rfl⟩
            have hyk : rys[k]? = some y1 := by rw [List.getElem?_eq_getElem hkr, hy1]
            obtain ⟨ra, hra, r0'⟩ := I.out.2.2.2.2.2.2.2.2.1 k y1 hyk
            subst hra
            have c1' := I.out.2.2.2.1.at k z hzk
            obtain ⟨Wd, hWd⟩ : ∃ Wd, wr.drew = Wd := ⟨_, rfl⟩
            have bd : Below wr.heap.size wr Wd := hWd ▸ below_drew1 (Below.refl _ wr)
            have sd : Wd.heap.size = wr.heap.size := hWd ▸ rfl
            have c1 := keep0 c1' bd
            have r0 := keep0 r0' bd
            have c2 : ∀ o, (Wd.alloc o).cell? ⟨g, k, none⟩ = some (.slice z.ao z.ys.length z.cap) := fun o => keep0 c1 (below1 _ _)
            have hwk : wrap64 ((k : Int) + 1) = (k : Int) + 1 := by have := H.out.2.2.2.2.2.2.2.2.2.1; exact wrap_in _ (by omega) (by omega)
            have i0 : (0 : Int) ≤ (k : Int) := by omega
            have i1 : (k : Int) < (1 : Int) := by omega
            have i2 : (k : Int) < (rys.length : Int) := by omega
            have zlen : z.ys.length ≤ 1000000000 := by
              have h1 := (z_at I.out.2.2.2.2.2.2.1 (by have := congrArg List.length B3.out.2.1; simp only [rxs, List.length_map] at this; have := RL.out; have := J.out.2.2.2.2.1; omega) (by have := J.out.2.2.2.2.1; omega) hzk J.out.2.2.2.2.2.2).2
              have := H.out.2.2.2.1
              omega
            have P := Lib.hid (And.intro hzk (And.intro hyk (And.intro bd sd)))
            clear hz hzk hy1 hyk bd sd c1' r0' hkz hkr
            go_wp2_with fail
            refine wp_region_held_drew (S := fun _ => True) (by kernel_rfl) trivial (fun hH => ?_)
            rw [hWd]
            refine wpAnyH_take (i := 0) (oi := _) (v := .slice (some ⟨g, 0, none⟩) 1 1) rfl (by kernel_rfl) (by kernel_rfl) (by kernel_rfl) (fun _ _ _ h => h) (Or.inl ⟨by rfl, by intro v hv; go_simp⟩) trivial ?_
            try simp only [Act.put, List.getElem_toArray, List.getElem_cons_succ, List.getElem_cons_zero, List.setIfInBounds_toArray, List.set_cons_zero, List.set_cons_succ]
            refine wpAnyH_take (i := 1) (oi := _) (v := .int .i64 (k : Int)) rfl (by kernel_rfl) (by kernel_rfl) (by kernel_rfl) (fun _ _ _ h => h) (Or.inl ⟨by rfl, by intro v hv; go_simp⟩) trivial ?_
            try simp only [Act.put, List.getElem_toArray, List.getElem_cons_succ, List.getElem_cons_zero, List.setIfInBounds_toArray, List.set_cons_zero, List.set_cons_succ]
            refine wpAnyH_take (i := 2) (oi := _) (v := .slice (some ⟨g, 0, none⟩) 1 1) rfl (by kernel_rfl) (by kernel_rfl) (by kernel_rfl) (fun _ _ _ h => h) (Or.inl ⟨by rfl, by intro v hv; go_simp⟩) trivial ?_
            try simp only [Act.put, List.getElem_toArray, List.getElem_cons_succ, List.getElem_cons_zero, List.setIfInBounds_toArray, List.set_cons_zero, List.set_cons_succ]
            refine wpAnyH_take (i := 3) (oi := _) (v := .int .i64 (k : Int)) rfl (by kernel_rfl) (by kernel_rfl) (by kernel_rfl) (fun _ _ _ h => h) (Or.inl ⟨by rfl, by intro v hv; go_simp⟩) trivial ?_
            try simp only [Act.put, List.getElem_toArray, List.getElem_cons_succ, List.getElem_cons_zero, List.setIfInBounds_toArray, List.set_cons_zero, List.set_cons_succ]
            refine wpAnyH_take (i := 4) (oi := _) (v := .pointer (some ⟨g, k, none⟩)) rfl (by kernel_rfl) (by kernel_rfl) (by kernel_rfl) (fun _ _ _ h => h) (Or.inl ⟨by rfl, by intro v hv; go_simp⟩) trivial ?_
            try simp only [Act.put, List.getElem_toArray, List.getElem_cons_succ, List.getElem_cons_zero, List.setIfInBounds_toArray, List.set_cons_zero, List.set_cons_succ]
            refine wpAnyH_take (i := 6) (oi := _) (v := .slice (some ra) rys.length rc) rfl (by kernel_rfl) (by kernel_rfl) (by kernel_rfl) (fun _ _ _ h => h) (Or.inl ⟨by rfl, by intro v hv; go_simp⟩) trivial ?_
            try simp only [Act.put, List.getElem_toArray, List.getElem_cons_succ, List.getElem_cons_zero, List.setIfInBounds_toArray, List.set_cons_zero, List.set_cons_succ]
            refine wpAnyH_take (i := 7) (oi := _) (v := .int .i64 (k : Int)) rfl (by kernel_rfl) (by kernel_rfl) (by kernel_rfl) (fun _ _ _ h => h) (Or.inl ⟨by rfl, by intro v hv; go_simp⟩) trivial ?_
            try simp only [Act.put, List.getElem_toArray, List.getElem_cons_succ, List.getElem_cons_zero, List.setIfInBounds_toArray, List.set_cons_zero, List.set_cons_succ]
            refine wpAnyH_take (i := 8) (oi := _) (v := .pointer (some (ra.add k))) rfl (by kernel_rfl) (by kernel_rfl) (by kernel_rfl) (fun _ _ _ h => h) (Or.inl ⟨by rfl, by intro v hv; go_simp⟩) trivial ?_
            try simp only [Act.put, List.getElem_toArray, List.getElem_cons_succ, List.getElem_cons_zero, List.setIfInBounds_toArray, List.set_cons_zero, List.set_cons_succ]
            have ZL := Lib.hid (show z.ys.length ≤ 1000000000 from zlen)
            clear zlen
            refine wpAnyH_ready (rs := [5, 9]) (by kernel_rfl) (by simp) ?_
            refine AllReadyH.cons (o := _) rfl (fun K' hK => ?_) (AllReadyH.cons (o := _) rfl (fun K' hK => ?_) AllReadyH.nil)
            · go_simp
              refine hK.out _ _ trivial (fun _ => ?_)
              clear hK K'
              try simp only [Act.put, List.getElem_toArray, List.getElem_cons_succ, List.getElem_cons_zero, List.setIfInBounds_toArray, List.set_cons_zero, List.set_cons_succ]
              refine wpAnyH_ready (rs := [9]) (by kernel_rfl) (by simp) ?_
              refine AllReadyH.cons (o := _) rfl (fun K' hK => ?_) AllReadyH.nil
              go_simp
              refine hK.out _ _ trivial (fun _ => ?_)
              clear hK K'
              try simp only [Act.put, List.getElem_toArray, List.getElem_cons_succ, List.getElem_cons_zero, List.setIfInBounds_toArray, List.set_cons_zero, List.set_cons_succ]
              refine wpAnyH_ready (rs := [10]) (by kernel_rfl) (by simp) ?_
              refine AllReadyH.cons (o := _) rfl (fun K' hK => ?_) AllReadyH.nil
              go_simp
              refine hK.out _ _ trivial (fun _ => ?_)
              clear hK K'
              try simp only [Act.put, List.getElem_toArray, List.getElem_cons_succ, List.getElem_cons_zero, List.setIfInBounds_toArray, List.set_cons_zero, List.set_cons_succ]
              clear c1 c2 r0
              refine wpAnyH_ready (rs := [11]) (by kernel_rfl) (by simp) ?_
              refine AllReadyH.cons (o := _) rfl (fun K' hK => ?_) AllReadyH.nil
              refine step_appR rfl (.tmp 63) (.tmp 68) rfl Wb.heap.size (.slice z.ao z.ys.length z.cap) z.ys y1 Wd.heap.size (by simp [Act.eval, Act.put]) (by simp [Act.eval, Act.put]) (((I.out.2.2.2.2.1.1 z (List.mem_of_getElem? P.out.1)).1.keep P.out.2.2.1).keep (below1 _ _)) (Blk.new Wd _ _) ZL.out (by have := I.out.2.1.size; have := P.out.2.2.2; simp; omega) ?_
              intro v' w4 hOR hgr hbk
              refine hK.out _ _ trivial (fun _ => ?_)
              clear hK K'
              obtain ⟨Z1, hZ1⟩ : ∃ Z1, z.ys ++ [y1] = Z1 := ⟨_, rfl⟩
              rw [hZ1] at hOR
              obtain ⟨vo, vc, rfl, _, _⟩ := hOR.sl
              have hQ4 := ((I.out.2.2.2.1.keep P.out.2.2.1).keep (below1 Wd (.cells #[.slice y1.ao y1.xs.length y1.cap] 33))).kept hgr (((I.out.2.2.2.2.1.1 z (List.mem_of_getElem? P.out.1)).1.keep P.out.2.2.1).keep (below1 Wd (.cells #[.slice y1.ao y1.xs.length y1.cap] 33)) |>.type (by decide))
              have d1 := hQ4.at k z P.out.1
              have hst := hQ4.store I.out.2.2.2.2.2.1.symm k ⟨Z1, vo, vc⟩
              have d2 := hst.2.2.2.1 k
              have G := Lib.hid (And.intro hOR (And.intro hgr (And.intro hbk (And.intro hZ1 (And.intro hQ4 hst)))))
              clear hOR hgr hbk hZ1 hQ4 hst
              try simp only [Act.put, List.getElem_toArray, List.getElem_cons_succ, List.getElem_cons_zero, List.setIfInBounds_toArray, List.set_cons_zero, List.set_cons_succ]
              refine wpAnyH_take (i := 12) (oi := _) (v := .pointer (some ⟨g, k, none⟩)) rfl (by kernel_rfl) (by kernel_rfl) (by kernel_rfl) (fun _ _ _ h => h) (Or.inl ⟨by rfl, by intro v hv; go_simp⟩) trivial ?_
              try simp only [Act.put, List.getElem_toArray, List.getElem_cons_succ, List.getElem_cons_zero, List.setIfInBounds_toArray, List.set_cons_zero, List.set_cons_succ]
              refine wpAnyH_ready (rs := [13]) (by kernel_rfl) (by simp) ?_
              refine AllReadyH.cons (o := _) rfl (fun K' hK => ?_) AllReadyH.nil
              go_simp
              refine hK.out _ _ trivial (fun _ => ?_)
              clear hK K'
              try simp only [Act.put, List.getElem_toArray, List.getElem_cons_succ, List.getElem_cons_zero, List.setIfInBounds_toArray, List.set_cons_zero, List.set_cons_succ]
              refine wpAnyH_done (by kernel_rfl) ?_ _
              go_wp2
              go_roundw
              case rel => exact ⟨k + 1, zs'.set k ⟨Z1, vo, vc⟩, by go_num, hkn, inner J.out.2.2.2.2.1 I.out P.out.1 P.out.2.1 P.out.2.2.1 P.out.2.2.2 G.out RL.out hkn B3.out.2.1 B3.out.2.2.2.2 B3.out.2.2.1 B3.out.1 (J.out.2.2.1.lt g rfl).2⟩
              case measure => (try rw [hwk]); simp [intOf]; omega
            · go_simp
              refine hK.out _ _ trivial (fun _ => ?_)
              clear hK K'
              try simp only [Act.put, List.getElem_toArray, List.getElem_cons_succ, List.getElem_cons_zero, List.setIfInBounds_toArray, List.set_cons_zero, List.set_cons_succ]
              refine wpAnyH_ready (rs := [5, 10]) (by kernel_rfl) (by simp) ?_
              refine AllReadyH.cons (o := _) rfl (fun K' hK => ?_) (AllReadyH.cons (o := _) rfl (fun K' hK => ?_) AllReadyH.nil)
              · go_simp
                refine hK.out _ _ trivial (fun _ => ?_)
                clear hK K'
                try simp only [Act.put, List.getElem_toArray, List.getElem_cons_succ, List.getElem_cons_zero, List.setIfInBounds_toArray, List.set_cons_zero, List.set_cons_succ]
                refine wpAnyH_ready (rs := [10]) (by kernel_rfl) (by simp) ?_
                refine AllReadyH.cons (o := _) rfl (fun K' hK => ?_) AllReadyH.nil
                go_simp
                refine hK.out _ _ trivial (fun _ => ?_)
                clear hK K'
                try simp only [Act.put, List.getElem_toArray, List.getElem_cons_succ, List.getElem_cons_zero, List.setIfInBounds_toArray, List.set_cons_zero, List.set_cons_succ]
                clear c1 c2 r0
                refine wpAnyH_ready (rs := [11]) (by kernel_rfl) (by simp) ?_
                refine AllReadyH.cons (o := _) rfl (fun K' hK => ?_) AllReadyH.nil
                refine step_appR rfl (.tmp 63) (.tmp 68) rfl Wb.heap.size (.slice z.ao z.ys.length z.cap) z.ys y1 Wd.heap.size (by simp [Act.eval, Act.put]) (by simp [Act.eval, Act.put]) (((I.out.2.2.2.2.1.1 z (List.mem_of_getElem? P.out.1)).1.keep P.out.2.2.1).keep (below1 _ _)) (Blk.new Wd _ _) ZL.out (by have := I.out.2.1.size; have := P.out.2.2.2; simp; omega) ?_
                intro v' w4 hOR hgr hbk
                refine hK.out _ _ trivial (fun _ => ?_)
                clear hK K'
                obtain ⟨Z1, hZ1⟩ : ∃ Z1, z.ys ++ [y1] = Z1 := ⟨_, rfl⟩
                rw [hZ1] at hOR
                obtain ⟨vo, vc, rfl, _, _⟩ := hOR.sl
                have hQ4 := ((I.out.2.2.2.1.keep P.out.2.2.1).keep (below1 Wd (.cells #[.slice y1.ao y1.xs.length y1.cap] 33))).kept hgr (((I.out.2.2.2.2.1.1 z (List.mem_of_getElem? P.out.1)).1.keep P.out.2.2.1).keep (below1 Wd (.cells #[.slice y1.ao y1.xs.length y1.cap] 33)) |>.type (by decide))
                have d1 := hQ4.at k z P.out.1
                have hst := hQ4.store I.out.2.2.2.2.2.1.symm k ⟨Z1, vo, vc⟩
                have d2 := hst.2.2.2.1 k
                have G := Lib.hid (And.intro hOR (And.intro hgr (And.intro hbk (And.intro hZ1 (And.intro hQ4 hst)))))
                clear hOR hgr hbk hZ1 hQ4 hst
                try simp only [Act.put, List.getElem_toArray, List.getElem_cons_succ, List.getElem_cons_zero, List.setIfInBounds_toArray, List.set_cons_zero, List.set_cons_succ]
                refine wpAnyH_take (i := 12) (oi := _) (v := .pointer (some ⟨g, k, none⟩)) rfl (by kernel_rfl) (by kernel_rfl) (by kernel_rfl) (fun _ _ _ h => h) (Or.inl ⟨by rfl, by intro v hv; go_simp⟩) trivial ?_
                try simp only [Act.put, List.getElem_toArray, List.getElem_cons_succ, List.getElem_cons_zero, List.setIfInBounds_toArray, List.set_cons_zero, List.set_cons_succ]
                refine wpAnyH_ready (rs := [13]) (by kernel_rfl) (by simp) ?_
                refine AllReadyH.cons (o := _) rfl (fun K' hK => ?_) AllReadyH.nil
                go_simp
                refine hK.out _ _ trivial (fun _ => ?_)
                clear hK K'
                try simp only [Act.put, List.getElem_toArray, List.getElem_cons_succ, List.getElem_cons_zero, List.setIfInBounds_toArray, List.set_cons_zero, List.set_cons_succ]
                refine wpAnyH_done (by kernel_rfl) ?_ _
                go_wp2
                go_roundw
                case rel => exact ⟨k + 1, zs'.set k ⟨Z1, vo, vc⟩, by go_num, hkn, inner J.out.2.2.2.2.1 I.out P.out.1 P.out.2.1 P.out.2.2.1 P.out.2.2.2 G.out RL.out hkn B3.out.2.1 B3.out.2.2.2.2 B3.out.2.2.1 B3.out.1 (J.out.2.2.1.lt g rfl).2⟩
                case measure => (try rw [hwk]); simp [intOf]; omega
              · go_simp
                refine hK.out _ _ trivial (fun _ => ?_)
                clear hK K'
                try simp only [Act.put, List.getElem_toArray, List.getElem_cons_succ, List.getElem_cons_zero, List.setIfInBounds_toArray, List.set_cons_zero, List.set_cons_succ]
                refine wpAnyH_ready (rs := [5]) (by kernel_rfl) (by simp) ?_
                refine AllReadyH.cons (o := _) rfl (fun K' hK => ?_) AllReadyH.nil
                go_simp
                refine hK.out _ _ trivial (fun _ => ?_)
                clear hK K'
                try simp only [Act.put, List.getElem_toArray, List.getElem_cons_succ, List.getElem_cons_zero, List.setIfInBounds_toArray, List.set_cons_zero, List.set_cons_succ]
                clear c1 c2 r0
                refine wpAnyH_ready (rs := [11]) (by kernel_rfl) (by simp) ?_
                refine AllReadyH.cons (o := _) rfl (fun K' hK => ?_) AllReadyH.nil
                refine step_appR rfl (.tmp 63) (.tmp 68) rfl Wb.heap.size (.slice z.ao z.ys.length z.cap) z.ys y1 Wd.heap.size (by simp [Act.eval, Act.put]) (by simp [Act.eval, Act.put]) (((I.out.2.2.2.2.1.1 z (List.mem_of_getElem? P.out.1)).1.keep P.out.2.2.1).keep (below1 _ _)) (Blk.new Wd _ _) ZL.out (by have := I.out.2.1.size; have := P.out.2.2.2; simp; omega) ?_
                intro v' w4 hOR hgr hbk
                refine hK.out _ _ trivial (fun _ => ?_)
                clear hK K'
                obtain ⟨Z1, hZ1⟩ : ∃ Z1, z.ys ++ [y1] = Z1 := ⟨_, rfl⟩
                rw [hZ1] at hOR
                obtain ⟨vo, vc, rfl, _, _⟩ := hOR.sl
                have hQ4 := ((I.out.2.2.2.1.keep P.out.2.2.1).keep (below1 Wd (.cells #[.slice y1.ao y1.xs.length y1.cap] 33))).kept hgr (((I.out.2.2.2.2.1.1 z (List.mem_of_getElem? P.out.1)).1.keep P.out.2.2.1).keep (below1 Wd (.cells #[.slice y1.ao y1.xs.length y1.cap] 33)) |>.type (by decide))
                have d1 := hQ4.at k z P.out.1
                have hst := hQ4.store I.out.2.2.2.2.2.1.symm k ⟨Z1, vo, vc⟩
                have d2 := hst.2.2.2.1 k
                have G := Lib.hid (And.intro hOR (And.intro hgr (And.intro hbk (And.intro hZ1 (And.intro hQ4 hst)))))
                clear hOR hgr hbk hZ1 hQ4 hst
                try simp only [Act.put, List.getElem_toArray, List.getElem_cons_succ, List.getElem_cons_zero, List.setIfInBounds_toArray, List.set_cons_zero, List.set_cons_succ]
                refine wpAnyH_take (i := 12) (oi := _) (v := .pointer (some ⟨g, k, none⟩)) rfl (by kernel_rfl) (by kernel_rfl) (by kernel_rfl) (fun _ _ _ h => h) (Or.inl ⟨by rfl, by intro v hv; go_simp⟩) trivial ?_
                try simp only [Act.put, List.getElem_toArray, List.getElem_cons_succ, List.getElem_cons_zero, List.setIfInBounds_toArray, List.set_cons_zero, List.set_cons_succ]
                refine wpAnyH_ready (rs := [13]) (by kernel_rfl) (by simp) ?_
                refine AllReadyH.cons (o := _) rfl (fun K' hK => ?_) AllReadyH.nil
                go_simp
                refine hK.out _ _ trivial (fun _ => ?_)
                clear hK K'
                try simp only [Act.put, List.getElem_toArray, List.getElem_cons_succ, List.getElem_cons_zero, List.setIfInBounds_toArray, List.set_cons_zero, List.set_cons_succ]
                refine wpAnyH_done (by kernel_rfl) ?_ _
                go_wp2
                go_roundw
                case rel => exact ⟨k + 1, zs'.set k ⟨Z1, vo, vc⟩, by go_num, hkn, inner J.out.2.2.2.2.1 I.out P.out.1 P.out.2.1 P.out.2.2.1 P.out.2.2.2 G.out RL.out hkn B3.out.2.1 B3.out.2.2.2.2 B3.out.2.2.1 B3.out.1 (J.out.2.2.1.lt g rfl).2⟩
                case measure => (try rw [hwk]); simp [intOf]; omega
          · obtain rfl : k = 1 := by have := I.out.1; omega
            go_wp2
            go_roundw
            case rel =>
              refine ⟨j + 1, zs', by go_num, hlt, I.out.2.1, I.out.2.2.2.1, I.out.2.2.2.2.1, I.out.2.2.2.2.2.1, ?_, ?_⟩
              · have e1 : (rxs l)[j]'(by simpa [rxs] using hlt) = y.xs := (List.getElem?_eq_some_iff.1 Y.out.2).2
                rw [J.out.2.2.2.2.2.1, rws_next (by simpa [rxs] using hlt) (by rw [e1, HR.out]), e1, HR.out, I.out.2.2.2.2.2.2.1]
                have hL : (zs.map QV.ls).length = 1 := by simpa using J.out.2.2.2.2.1
                have hr1 : r1.length = (zs.map QV.ls).length := by
                  rw [hL, ← RL.out, ← B3.out.2.1]; simp [rxs]
                have := stp_all hr1
                rw [hL] at this
                rw [this]
              · intro z hz
                have hlen : z.ls.length ≤ j + 1 := by
                  have hm : z.ls ∈ zs'.map QV.ls := List.mem_map_of_mem hz
                  rw [I.out.2.2.2.2.2.2.1] at hm
                  exact stp_bound (fun x hx => by obtain ⟨u, hu, rfl⟩ := List.mem_map.1 hx; simpa [QV.ls, rxs] using J.out.2.2.2.2.2.2 u hu) _ hm
                simpa [QV.ls, rxs] using hlen
            case measure => (try rw [hw]); simp [intOf]; omega
      · have e0 := bne_t hE
        have HE := Lib.hid hE
        clear hE
        have hstop : R = ([], (j : Int), E) := by
          have e1 : (rxs l)[j]'(by simpa [rxs] using hlt) = y.xs := (List.getElem?_eq_some_iff.1 Y.out.2).2
          rw [← HRw.out, J.out.2.2.2.2.2.1, rws_stop (by simpa [rxs] using hlt) (by rw [e1, HR.out]; exact HE.out), e1, HR.out]
        have ST := Lib.hid hstop
        clear hstop
        go_wp2
        go_ret3
        exact ⟨QQ.bad ST.out, step0 K1.out.1 (J.out.2.1.trans (B3.out.1.mono J.out.2.1.size))⟩
    · obtain rfl : j = l.length := by have := J.out.1; omega
      have hend : R = (zs.map QV.ls, 0, 0) := by
        have hl : (rxs l).length = l.length := by simp [rxs]
        have := rws_end (c := c) (t := t) (l := rxs l) (out := zs.map QV.ls)
        rw [hl] at this
        rw [← HRw.out, J.out.2.2.2.2.2.1, this]
      have ST := Lib.hid hend
      clear hend
      go_wp2
      go_ret3
      refine ⟨⟨some ⟨g, 0, none⟩, 1, zs, ?_, by rw [ST.out], ?_, ?_⟩, step0 K1.out.1 J.out.2.1⟩
      · rw [ST.out, J.out.2.2.2.2.1]; rfl
      · obtain ⟨ao', cap', e, _, hq⟩ := J.out.2.2.1.sl
        injection e with e1 _ _
        rw [e1]
        exact hq
      · intro z hz
        obtain ⟨ao', cap', e, _, hq⟩ := (J.out.2.2.2.1.1 z hz).1.sl
        injection e with e1 _ _
        exact ⟨by rw [e1]; exact hq, (J.out.2.2.2.1.1 z hz).2.in⟩)

set_option maxHeartbeats 8000000 in
set_option maxRecDepth 100000 in
theorem rrows_5 (c : Ch) (no : Option Addr) (nc : Nat) (dO : Option Addr) (dc : Nat) (t : T) (ao : Option Addr) (cap : Nat) (l : List RV) (lo : Option Addr) (lc : Nat) (w : World) (hT : At3 w t ao cap) (hl : SlR w lo l) (hIn : ∀ y ∈ l, Sl w y.ao y.xs ∧ y.xs.length ≤ 30 ∧ ∀ x ∈ y.xs, x.ok) (hm : l.length ≤ 30) (hns : SlS w no c.names) (hnl : c.names.length ≤ 1000) (h0 : l.length ≠ 0) :
    Calls Tryz.prog 15 #[.agg #[.string ⟨t.name.toArray⟩, .int .i64 t.keys, .slice ao t.cs.length cap], .agg #[.int .i64 5, .string ⟨c.table.toArray⟩, .string ⟨c.other.toArray⟩, .string ⟨c.to.toArray⟩, .string ⟨c.also.toArray⟩, .string ⟨c.name.toArray⟩, .int .i64 c.type, .slice no c.names.length nc, .string ⟨c.col.name.toArray⟩, .int .i64 c.col.kind, .bool c.col.null, .int .i64 c.col.d.k, .int .i64 c.col.d.n, .int .u64 c.col.d.b, .string ⟨c.col.d.s.toArray⟩, .string ⟨c.df.name.toArray⟩, .int .i64 c.df.keys, .slice dO c.df.cs.length dc], .slice lo l.length lc] w fun e w' => QQ w' e (rws (⟨5, c.table, c.other, c.to, c.also, c.name, c.type, c.names, c.col, c.df⟩ : Ch) t (rxs l) 0 (List.replicate 2 [])) ∧ Below w.heap.size w w' := by
  have hmx : Tryz.prog.follows .mixedOrders = true := by kernel_rfl
  have z1 : ((l.length : Int) == 0) = false := beq_f (by omega)
  have z2 : (l.length == 0) = false := by simp [h0]
  obtain ⟨R, hR⟩ : ∃ R, rws (⟨5, c.table, c.other, c.to, c.also, c.name, c.type, c.names, c.col, c.df⟩ : Ch) t (rxs l) 0 (List.replicate 2 []) = R := ⟨_, rfl⟩
  rw [hR]
  have HRw := Lib.hid hR
  clear hR
  have H := Lib.hid (And.intro hT (And.intro hl (And.intro hIn (And.intro hm (And.intro hns (And.intro hnl (And.intro trivial (And.intro trivial (And.intro trivial (And.intro (show 2 ≤ 2 by decide) h0))))))))))
  clear hT hl hIn hm hns hnl h0
  obtain ⟨Wb, hWb⟩ : ∃ Wb, (w.alloc (.cells #[.string ⟨t.name.toArray⟩, .int .i64 t.keys, .slice ao t.cs.length cap] 24)).alloc (.cells #[.int .i64 5, .string ⟨c.table.toArray⟩, .string ⟨c.other.toArray⟩, .string ⟨c.to.toArray⟩, .string ⟨c.also.toArray⟩, .string ⟨c.name.toArray⟩, .int .i64 c.type, .slice no c.names.length nc, .string ⟨c.col.name.toArray⟩, .int .i64 c.col.kind, .bool c.col.null, .int .i64 c.col.d.k, .int .i64 c.col.d.n, .int .u64 c.col.d.b, .string ⟨c.col.d.s.toArray⟩, .string ⟨c.df.name.toArray⟩, .int .i64 c.df.keys, .slice dO c.df.cs.length dc] 32) = Wb := ⟨_, rfl⟩
  have q0 : Blk Wb w.heap.size #[.string ⟨t.name.toArray⟩, .int .i64 t.keys, .slice ao t.cs.length cap] 24 := hWb ▸ (Blk.new w _ _).alloc _
  have q1 : Blk Wb (w.heap.size + 1) #[.int .i64 5, .string ⟨c.table.toArray⟩, .string ⟨c.other.toArray⟩, .string ⟨c.to.toArray⟩, .string ⟨c.also.toArray⟩, .string ⟨c.name.toArray⟩, .int .i64 c.type, .slice no c.names.length nc, .string ⟨c.col.name.toArray⟩, .int .i64 c.col.kind, .bool c.col.null, .int .i64 c.col.d.k, .int .i64 c.col.d.n, .int .u64 c.col.d.b, .string ⟨c.col.d.s.toArray⟩, .string ⟨c.df.name.toArray⟩, .int .i64 c.df.keys, .slice dO c.df.cs.length dc] 32 := hWb ▸ Blk.newB (w.alloc (.cells #[.string ⟨t.name.toArray⟩, .int .i64 t.keys, .slice ao t.cs.length cap] 24)) (w.heap.size + 1) _ _ (by simp)
  have K1 := Lib.hid (And.intro (show Below w.heap.size w Wb from hWb ▸ below2s w _ _) (And.intro q0 q1))
  have x0 := q1.cell 0
  simp at x0
  clear q0 q1
  go_enter Tryz.func15, Tryz.ntmps15
  go_wp2_with (refine makeQ _ rfl _ _ rfl _ _ _ _ 2 rfl rfl rfl rfl (by decide) ?_; intro g w2 hg hO hb; have M := Lib.hid (And.intro hO (And.intro hb hg)); clear hO hb hg x0; go_frame)
  go_loopw [11] (fun i wr => ∃ (j : Nat) (zs : List QV), i = .int .i64 j ∧ j ≤ l.length ∧ Below Wb.heap.size Wb wr ∧ OwQ wr Wb.heap.size (.slice (some ⟨g, 0, none⟩) 2 2) zs ∧ FitQ wr Wb.heap.size zs ∧ zs.length = 2 ∧ rws (⟨5, c.table, c.other, c.to, c.also, c.name, c.type, c.names, c.col, c.df⟩ : Ch) t (rxs l) 0 (List.replicate 2 []) = rws (⟨5, c.table, c.other, c.to, c.also, c.name, c.type, c.names, c.col, c.df⟩ : Ch) t ((rxs l).drop j) j (zs.map QV.ls) ∧ ∀ z ∈ zs, z.ys.length ≤ j) (fun i _ => l.length - (intOf i).toNat)
  case atStart =>
    refine ⟨0, List.replicate 2 QV0, rfl, Nat.zero_le _, M.out.2.1, M.out.1, FitQ.made _ _ _, by simp, ?_, ?_⟩
    · rw [List.drop_zero, List.map_replicate]; rfl
    · intro z hz
      obtain rfl := (List.mem_replicate.1 hz).2
      exact Nat.le_refl _
  case round =>
    obtain ⟨j, zs, rfl, hj, hb, hO, hF, hzn, hrw, hzl⟩ := hrel
    have J := Lib.hid (And.intro hj (And.intro hb (And.intro hO (And.intro hF (And.intro hzn (And.intro hrw hzl))))))
    clear hj hb hO hF hzn hrw hzl
    by_cases hlt : j < l.length
    · have hw : wrap64 ((j : Int) + 1) = (j : Int) + 1 := by have := H.out.2.2.2.1; exact wrap_in _ (by omega) (by omega)
      have g0 : (0 : Int) ≤ (j : Int) := by omega
      have g1 : (j : Int) < (l.length : Int) := by omega
      obtain ⟨a, rfl, a0⟩ := (H.out.2.1.below (step0 K1.out.1 J.out.2.1)) j l[j] (List.getElem?_eq_getElem hlt)
      obtain ⟨y, hy⟩ : ∃ y, l[j] = y := ⟨_, rfl⟩
      rw [hy] at a0
      have hyl : (rxs l)[j]? = some y.xs := by simp [rxs, List.getElem?_eq_getElem hlt, hy]
      have Y := Lib.hid (And.intro (H.out.2.2.1 y (hy ▸ List.getElem_mem hlt)) hyl)
      obtain ⟨t0, t1, t2⟩ := (K1.out.2.1.below J.out.2.1).t3
      clear hy hyl
      obtain ⟨⟨r1, E⟩, hr⟩ : ∃ r, (⟨5, c.table, c.other, c.to, c.also, c.name, c.type, c.names, c.col, c.df⟩ : Ch).row t y.xs = r := ⟨_, rfl⟩
      have HR := Lib.hid hr
      clear hr
      go_wp2_with fail
      refine wp_region_held_drew (S := fun v => Below wr.heap.size wr v) (by kernel_rfl) (Below.refl _ _).drew (fun hH0 => ?_)
      refine wpAnyH_take (i := 0) (oi := _) (v := .agg #[.string ⟨t.name.toArray⟩, .int .i64 t.keys, .slice ao t.cs.length cap]) rfl (by kernel_rfl) (by kernel_rfl) (by kernel_rfl) (fun _ _ _ h => h) (Or.inl ⟨by rfl, by intro v hv; have y0 := keep0 t0 hv; have y1 := keep0 t1 hv; have y2 := keep0 t2 hv; clear t0 t1 t2; go_simp⟩) hH0 ?_
      try simp only [Act.put, List.getElem_toArray, List.getElem_cons_succ, List.getElem_cons_zero, List.setIfInBounds_toArray, List.set_cons_zero, List.set_cons_succ]
      refine wpAnyH_take (i := 1) (oi := _) (v := .agg #[.int .i64 5, .string ⟨c.table.toArray⟩, .string ⟨c.other.toArray⟩, .string ⟨c.to.toArray⟩, .string ⟨c.also.toArray⟩, .string ⟨c.name.toArray⟩, .int .i64 c.type, .slice no c.names.length nc, .string ⟨c.col.name.toArray⟩, .int .i64 c.col.kind, .bool c.col.null, .int .i64 c.col.d.k, .int .i64 c.col.d.n, .int .u64 c.col.d.b, .string ⟨c.col.d.s.toArray⟩, .string ⟨c.df.name.toArray⟩, .int .i64 c.df.keys, .slice dO c.df.cs.length dc]) rfl (by kernel_rfl) (by kernel_rfl) (by kernel_rfl) (fun _ _ _ h => h) (yieldsIf_load_mid (by rfl) _ _ rfl (w.heap.size + 1) 0 rfl [.int .i64 5, .string ⟨c.table.toArray⟩, .string ⟨c.other.toArray⟩, .string ⟨c.to.toArray⟩, .string ⟨c.also.toArray⟩, .string ⟨c.name.toArray⟩, .int .i64 c.type, .slice no c.names.length nc, .string ⟨c.col.name.toArray⟩, .int .i64 c.col.kind, .bool c.col.null, .int .i64 c.col.d.k, .int .i64 c.col.d.n, .int .u64 c.col.d.b, .string ⟨c.col.d.s.toArray⟩, .string ⟨c.df.name.toArray⟩, .int .i64 c.df.keys, .slice dO c.df.cs.length dc] _ (fun v hv => rng ((K1.out.2.2.below J.out.2.1).below hv)) Tryz.underlying32 rfl infoCh) hH0 ?_
      try simp only [Act.put, List.getElem_toArray, List.getElem_cons_succ, List.getElem_cons_zero, List.setIfInBounds_toArray, List.set_cons_zero, List.set_cons_succ]
      refine wpAnyH_take (i := 2) (oi := _) (v := .slice (some a) l.length lc) rfl (by kernel_rfl) (by kernel_rfl) (by kernel_rfl) (fun _ _ _ h => h) (Or.inl ⟨by rfl, by intro v hv; go_simp⟩) hH0 ?_
      try simp only [Act.put, List.getElem_toArray, List.getElem_cons_succ, List.getElem_cons_zero, List.setIfInBounds_toArray, List.set_cons_zero, List.set_cons_succ]
      refine wpAnyH_take (i := 3) (oi := _) (v := .int .i64 (j : Int)) rfl (by kernel_rfl) (by kernel_rfl) (by kernel_rfl) (fun _ _ _ h => h) (Or.inl ⟨by rfl, by intro v hv; go_simp⟩) hH0 ?_
      try simp only [Act.put, List.getElem_toArray, List.getElem_cons_succ, List.getElem_cons_zero, List.setIfInBounds_toArray, List.set_cons_zero, List.set_cons_succ]
      refine wpAnyH_take (i := 4) (oi := _) (v := .pointer (some (a.add j))) rfl (by kernel_rfl) (by kernel_rfl) (by kernel_rfl) (fun _ _ _ h => h) (Or.inl ⟨by rfl, by intro v hv; go_simp⟩) hH0 ?_
      try simp only [Act.put, List.getElem_toArray, List.getElem_cons_succ, List.getElem_cons_zero, List.setIfInBounds_toArray, List.set_cons_zero, List.set_cons_succ]
      refine wpAnyH_take (i := 5) (oi := _) (v := .slice y.ao y.xs.length y.cap) rfl (by kernel_rfl) (by kernel_rfl) (by kernel_rfl) (fun _ _ _ h => h) (Or.inl ⟨by rfl, by intro v hv; have y0 := keep0 a0 hv; clear a0; go_simp⟩) hH0 ?_
      try simp only [Act.put, List.getElem_toArray, List.getElem_cons_succ, List.getElem_cons_zero, List.setIfInBounds_toArray, List.set_cons_zero, List.set_cons_succ]
      clear t0 t1 t2 a0
      refine wpAnyH_ready (rs := [6]) (by kernel_rfl) (by simp) ?_
      refine AllReadyH.cons (o := _) rfl (fun K' hK => ?_) AllReadyH.nil
      go_simp
      refine (rrow_is (⟨5, c.table, c.other, c.to, c.also, c.name, c.type, c.names, c.col, c.df⟩ : Ch) no nc dO dc t ao cap y.xs _ rfl y.ao y.cap _ (H.out.1.keep (step0 (step0 K1.out.1 J.out.2.1) hH0)) (Y.out.1.1.below (step0 (step0 K1.out.1 J.out.2.1) hH0)) Y.out.1.2.1 Y.out.1.2.2 (H.out.2.2.2.2.1.below (step0 (step0 K1.out.1 J.out.2.1) hH0)) H.out.2.2.2.2.2.1 (r1, E) HR.out).mono ?_
      rintro e w3 ⟨⟨ro, rc, rys, rfl, hrx, hrs, hrf⟩, hb3⟩
      simp only at hrx
      have bw : Below wr.heap.size wr w3 := step0 hH0 hb3
      go_wp2_with fail
      refine hK.out _ _ bw (fun _ => ?_)
      clear hK K'
      have B3 := Lib.hid (And.intro bw (And.intro hrx (And.intro hrs hrf)))
      clear hb3 hrx hrs hrf hH0
      try simp only [Act.put, List.getElem_toArray, List.getElem_cons_succ, List.getElem_cons_zero, List.setIfInBounds_toArray, List.set_cons_zero, List.set_cons_succ]
      refine wpAnyH_take (i := 7) (oi := _) (v := .tuple #[.slice ro rys.length rc, .int .i64 E]) rfl (by kernel_rfl) (by kernel_rfl) (by kernel_rfl) (fun _ _ _ h => h) (Or.inl ⟨by rfl, by intro v hv; go_simp⟩) bw ?_
      try simp only [Act.put, List.getElem_toArray, List.getElem_cons_succ, List.getElem_cons_zero, List.setIfInBounds_toArray, List.set_cons_zero, List.set_cons_succ]
      refine wpAnyH_take (i := 8) (oi := _) (v := .slice ro rys.length rc) rfl (by kernel_rfl) (by kernel_rfl) (by kernel_rfl) (fun _ _ _ h => h) (Or.inl ⟨by rfl, by intro v hv; go_simp⟩) bw ?_
      try simp only [Act.put, List.getElem_toArray, List.getElem_cons_succ, List.getElem_cons_zero, List.setIfInBounds_toArray, List.set_cons_zero, List.set_cons_succ]
      refine wpAnyH_take (i := 9) (oi := _) (v := .int .i64 E) rfl (by kernel_rfl) (by kernel_rfl) (by kernel_rfl) (fun _ _ _ h => h) (Or.inl ⟨by rfl, by intro v hv; go_simp⟩) bw ?_
      try simp only [Act.put, List.getElem_toArray, List.getElem_cons_succ, List.getElem_cons_zero, List.setIfInBounds_toArray, List.set_cons_zero, List.set_cons_succ]
      refine wpAnyH_take (i := 10) (oi := _) (v := .slice ro rys.length rc) rfl (by kernel_rfl) (by kernel_rfl) (by kernel_rfl) (fun _ _ _ h => h) (Or.inl ⟨by rfl, by intro v hv; go_simp⟩) bw ?_
      try simp only [Act.put, List.getElem_toArray, List.getElem_cons_succ, List.getElem_cons_zero, List.setIfInBounds_toArray, List.set_cons_zero, List.set_cons_succ]
      refine wpAnyH_take (i := 11) (oi := _) (v := .int .i64 E) rfl (by kernel_rfl) (by kernel_rfl) (by kernel_rfl) (fun _ _ _ h => h) (Or.inl ⟨by rfl, by intro v hv; go_simp⟩) bw ?_
      try simp only [Act.put, List.getElem_toArray, List.getElem_cons_succ, List.getElem_cons_zero, List.setIfInBounds_toArray, List.set_cons_zero, List.set_cons_succ]
      refine wpAnyH_done (by kernel_rfl) ?_ _
      clear bw
      by_cases hE : E = 0
      · subst hE
        have hrl : rys.length = 2 := by
          have h1 := congrArg List.length B3.out.2.1
          simp only [rxs, List.length_map] at h1
          have h2 := row_len (c := (⟨5, c.table, c.other, c.to, c.also, c.name, c.type, c.names, c.col, c.df⟩ : Ch)) (t := t) (row := y.xs) (by rw [HR.out])
          rw [HR.out] at h2
          have h3 : kn (⟨5, c.table, c.other, c.to, c.also, c.name, c.type, c.names, c.col, c.df⟩ : Ch).kind = 2 := rfl
          rw [h3] at h2
          simp only at h2
          omega
        have RL := Lib.hid hrl
        clear hrl
        obtain ⟨w0, hw0⟩ : ∃ w0, w0 = wr := ⟨_, rfl⟩
        subst hw0
        go_wp2
        go_loopw [14] (fun i wr' => ∃ (k : Nat) (zs' : List QV), i = .int .i64 k ∧ k ≤ 2 ∧ Below Wb.heap.size Wb wr' ∧ w3.heap.size ≤ wr'.heap.size ∧ OwQ wr' Wb.heap.size (.slice (some ⟨g, 0, none⟩) 2 2) zs' ∧ FitQ wr' Wb.heap.size zs' ∧ zs'.length = 2 ∧ zs'.map QV.ls = stp (zs.map QV.ls) r1 k ∧ (∀ z ∈ zs', ∀ m, (Value.slice z.ao z.ys.length z.cap).ownBlock = some m → m < w0.heap.size ∨ w3.heap.size ≤ m) ∧ SlR wr' ro rys ∧ FitR wr' Wb.heap.size rys) (fun i _ => 2 - (intOf i).toNat)
        case atStart =>
          refine ⟨0, zs, rfl, Nat.zero_le _, J.out.2.1.trans (B3.out.1.mono J.out.2.1.size), Nat.le_refl _, J.out.2.2.1.keep B3.out.1, J.out.2.2.2.1.keep B3.out.1, J.out.2.2.2.2.1, (stp_0 _ _).symm, ?_, B3.out.2.2.1, B3.out.2.2.2.1.base J.out.2.1.size⟩
          intro z hz m hm
          exact .inl ((J.out.2.2.2.1.1 z hz).1.lt m hm).2
        case round =>
          obtain ⟨k, zs', rfl, hk, hb', hsz, hO', hF', hzn', hls, hbl, hrs', hrf'⟩ := hrel
          have I := Lib.hid (And.intro hk (And.intro hb' (And.intro hsz (And.intro hO' (And.intro hF' (And.intro hzn' (And.intro hls (And.intro hbl (And.intro hrs' hrf')))))))))
          clear hk hb' hsz hO' hF' hzn' hls hbl hrs' hrf'
          by_cases hkn : k < 2
          · have hkz : k < zs'.length := by have := I.out.2.2.2.2.2.1; omega
            have hkr : k < rys.length := by have := RL.out; omega
            obtain ⟨z, hz⟩ : ∃ z, zs'[k] = z := ⟨_, rfl⟩
            have hzk : zs'[k]? = some z := by rw [List.getElem?_eq_getElem hkz, hz]
            obtain ⟨y1, hy1⟩ : ∃ y, rys[k] = y := ⟨_, rfl⟩
            have hyk : rys[k]? = some y1 := by rw [List.getElem?_eq_getElem hkr, hy1]
            obtain ⟨ra, hra, r0'⟩ := I.out.2.2.2.2.2.2.2.2.1 k y1 hyk
            subst hra
            have c1' := I.out.2.2.2.1.at k z hzk
            obtain ⟨Wd, hWd⟩ : ∃ Wd, wr.drew = Wd := ⟨_, rfl⟩
            have bd : Below wr.heap.size wr Wd := hWd ▸ below_drew1 (Below.refl _ wr)
            have sd : Wd.heap.size = wr.heap.size := hWd ▸ rfl
            have c1 := keep0 c1' bd
            have r0 := keep0 r0' bd
            have c2 : ∀ o, (Wd.alloc o).cell? ⟨g, k, none⟩ = some (.slice z.ao z.ys.length z.cap) := fun o => keep0 c1 (below1 _ _)
            have hwk : wrap64 ((k : Int) + 1) = (k : Int) + 1 := by have := H.out.2.2.2.2.2.2.2.2.2.1; exact wrap_in _ (by omega) (by omega)
            have i0 : (0 : Int) ≤ (k : Int) := by omega
            have i1 : (k : Int) < (2 : Int) := by omega
            have i2 : (k : Int) < (rys.length : Int) := by omega
            have zlen : z.ys.length ≤ 1000000000 := by
              have h1 := (z_at I.out.2.2.2.2.2.2.1 (by have := congrArg List.length B3.out.2.1; simp only [rxs, List.length_map] at this; have := RL.out; have := J.out.2.2.2.2.1; omega) (by have := J.out.2.2.2.2.1; omega) hzk J.out.2.2.2.2.2.2).2
              have := H.out.2.2.2.1
              omega
            have P := Lib.hid (And.intro hzk (And.intro hyk (And.intro bd sd)))
            clear hz hzk hy1 hyk bd sd c1' r0' hkz hkr
            go_wp2_with fail
            refine wp_region_held_drew (S := fun _ => True) (by kernel_rfl) trivial (fun hH => ?_)
            rw [hWd]
            refine wpAnyH_take (i := 0) (oi := _) (v := .slice (some ⟨g, 0, none⟩) 2 2) rfl (by kernel_rfl) (by kernel_rfl) (by kernel_rfl) (fun _ _ _ h => h) (Or.inl ⟨by rfl, by intro v hv; go_simp⟩) trivial ?_
            try simp only [Act.put, List.getElem_toArray, List.getElem_cons_succ, List.getElem_cons_zero, List.setIfInBounds_toArray, List.set_cons_zero, List.set_cons_succ]
            refine wpAnyH_take (i := 1) (oi := _) (v := .int .i64 (k : Int)) rfl (by kernel_rfl) (by kernel_rfl) (by kernel_rfl) (fun _ _ _ h => h) (Or.inl ⟨by rfl, by intro v hv; go_simp⟩) trivial ?_
            try simp only [Act.put, List.getElem_toArray, List.getElem_cons_succ, List.getElem_cons_zero, List.setIfInBounds_toArray, List.set_cons_zero, List.set_cons_succ]
            refine wpAnyH_take (i := 2) (oi := _) (v := .slice (some ⟨g, 0, none⟩) 2 2) rfl (by kernel_rfl) (by kernel_rfl) (by kernel_rfl) (fun _ _ _ h => h) (Or.inl ⟨by rfl, by intro v hv; go_simp⟩) trivial ?_
            try simp only [Act.put, List.getElem_toArray, List.getElem_cons_succ, List.getElem_cons_zero, List.setIfInBounds_toArray, List.set_cons_zero, List.set_cons_succ]
            refine wpAnyH_take (i := 3) (oi := _) (v := .int .i64 (k : Int)) rfl (by kernel_rfl) (by kernel_rfl) (by kernel_rfl) (fun _ _ _ h => h) (Or.inl ⟨by rfl, by intro v hv; go_simp⟩) trivial ?_
            try simp only [Act.put, List.getElem_toArray, List.getElem_cons_succ, List.getElem_cons_zero, List.setIfInBounds_toArray, List.set_cons_zero, List.set_cons_succ]
            refine wpAnyH_take (i := 4) (oi := _) (v := .pointer (some ⟨g, k, none⟩)) rfl (by kernel_rfl) (by kernel_rfl) (by kernel_rfl) (fun _ _ _ h => h) (Or.inl ⟨by rfl, by intro v hv; go_simp⟩) trivial ?_
            try simp only [Act.put, List.getElem_toArray, List.getElem_cons_succ, List.getElem_cons_zero, List.setIfInBounds_toArray, List.set_cons_zero, List.set_cons_succ]
            refine wpAnyH_take (i := 6) (oi := _) (v := .slice (some ra) rys.length rc) rfl (by kernel_rfl) (by kernel_rfl) (by kernel_rfl) (fun _ _ _ h => h) (Or.inl ⟨by rfl, by intro v hv; go_simp⟩) trivial ?_
            try simp only [Act.put, List.getElem_toArray, List.getElem_cons_succ, List.getElem_cons_zero, List.setIfInBounds_toArray, List.set_cons_zero, List.set_cons_succ]
            refine wpAnyH_take (i := 7) (oi := _) (v := .int .i64 (k : Int)) rfl (by kernel_rfl) (by kernel_rfl) (by kernel_rfl) (fun _ _ _ h => h) (Or.inl ⟨by rfl, by intro v hv; go_simp⟩) trivial ?_
            try simp only [Act.put, List.getElem_toArray, List.getElem_cons_succ, List.getElem_cons_zero, List.setIfInBounds_toArray, List.set_cons_zero, List.set_cons_succ]
            refine wpAnyH_take (i := 8) (oi := _) (v := .pointer (some (ra.add k))) rfl (by kernel_rfl) (by kernel_rfl) (by kernel_rfl) (fun _ _ _ h => h) (Or.inl ⟨by rfl, by intro v hv; go_simp⟩) trivial ?_
            try simp only [Act.put, List.getElem_toArray, List.getElem_cons_succ, List.getElem_cons_zero, List.setIfInBounds_toArray, List.set_cons_zero, List.set_cons_succ]
            have ZL := Lib.hid (show z.ys.length ≤ 1000000000 from zlen)
            clear zlen
            refine wpAnyH_ready (rs := [5, 9]) (by kernel_rfl) (by simp) ?_
            refine AllReadyH.cons (o := _) rfl (fun K' hK => ?_) (AllReadyH.cons (o := _) rfl (fun K' hK => ?_) AllReadyH.nil)
            · go_simp
              refine hK.out _ _ trivial (fun _ => ?_)
              clear hK K'
              try simp only [Act.put, List.getElem_toArray, List.getElem_cons_succ, List.getElem_cons_zero, List.setIfInBounds_toArray, List.set_cons_zero, List.set_cons_succ]
              refine wpAnyH_ready (rs := [9]) (by kernel_rfl) (by simp) ?_
              refine AllReadyH.cons (o := _) rfl (fun K' hK => ?_) AllReadyH.nil
              go_simp
              refine hK.out _ _ trivial (fun _ => ?_)
              clear hK K'
              try simp only [Act.put, List.getElem_toArray, List.getElem_cons_succ, List.getElem_cons_zero, List.setIfInBounds_toArray, List.set_cons_zero, List.set_cons_succ]
              refine wpAnyH_ready (rs := [10]) (by kernel_rfl) (by simp) ?_
              refine AllReadyH.cons (o := _) rfl (fun K' hK => ?_) AllReadyH.nil
              go_simp
              refine hK.out _ _ trivial (fun _ => ?_)
              clear hK K'
              try simp only [Act.put, List.getElem_toArray, List.getElem_cons_succ, List.getElem_cons_zero, List.setIfInBounds_toArray, List.set_cons_zero, List.set_cons_succ]
              clear c1 c2 r0
              refine wpAnyH_ready (rs := [11]) (by kernel_rfl) (by simp) ?_
              refine AllReadyH.cons (o := _) rfl (fun K' hK => ?_) AllReadyH.nil
              refine step_appR rfl (.tmp 63) (.tmp 68) rfl Wb.heap.size (.slice z.ao z.ys.length z.cap) z.ys y1 Wd.heap.size (by simp [Act.eval, Act.put]) (by simp [Act.eval, Act.put]) (((I.out.2.2.2.2.1.1 z (List.mem_of_getElem? P.out.1)).1.keep P.out.2.2.1).keep (below1 _ _)) (Blk.new Wd _ _) ZL.out (by have := I.out.2.1.size; have := P.out.2.2.2; simp; omega) ?_
              intro v' w4 hOR hgr hbk
              refine hK.out _ _ trivial (fun _ => ?_)
              clear hK K'
              obtain ⟨Z1, hZ1⟩ : ∃ Z1, z.ys ++ [y1] = Z1 := ⟨_, rfl⟩
              rw [hZ1] at hOR
              obtain ⟨vo, vc, rfl, _, _⟩ := hOR.sl
              have hQ4 := ((I.out.2.2.2.1.keep P.out.2.2.1).keep (below1 Wd (.cells #[.slice y1.ao y1.xs.length y1.cap] 33))).kept hgr (((I.out.2.2.2.2.1.1 z (List.mem_of_getElem? P.out.1)).1.keep P.out.2.2.1).keep (below1 Wd (.cells #[.slice y1.ao y1.xs.length y1.cap] 33)) |>.type (by decide))
              have d1 := hQ4.at k z P.out.1
              have hst := hQ4.store I.out.2.2.2.2.2.1.symm k ⟨Z1, vo, vc⟩
              have d2 := hst.2.2.2.1 k
              have G := Lib.hid (And.intro hOR (And.intro hgr (And.intro hbk (And.intro hZ1 (And.intro hQ4 hst)))))
              clear hOR hgr hbk hZ1 hQ4 hst
              try simp only [Act.put, List.getElem_toArray, List.getElem_cons_succ, List.getElem_cons_zero, List.setIfInBounds_toArray, List.set_cons_zero, List.set_cons_succ]
              refine wpAnyH_take (i := 12) (oi := _) (v := .pointer (some ⟨g, k, none⟩)) rfl (by kernel_rfl) (by kernel_rfl) (by kernel_rfl) (fun _ _ _ h => h) (Or.inl ⟨by rfl, by intro v hv; go_simp⟩) trivial ?_
              try simp only [Act.put, List.getElem_toArray, List.getElem_cons_succ, List.getElem_cons_zero, List.setIfInBounds_toArray, List.set_cons_zero, List.set_cons_succ]
              refine wpAnyH_ready (rs := [13]) (by kernel_rfl) (by simp) ?_
              refine AllReadyH.cons (o := _) rfl (fun K' hK => ?_) AllReadyH.nil
              go_simp
              refine hK.out _ _ trivial (fun _ => ?_)
              clear hK K'
              try simp only [Act.put, List.getElem_toArray, List.getElem_cons_succ, List.getElem_cons_zero, List.setIfInBounds_toArray, List.set_cons_zero, List.set_cons_succ]
              refine wpAnyH_done (by kernel_rfl) ?_ _
              go_wp2
              go_roundw
              case rel => exact ⟨k + 1, zs'.set k ⟨Z1, vo, vc⟩, by go_num, hkn, inner J.out.2.2.2.2.1 I.out P.out.1 P.out.2.1 P.out.2.2.1 P.out.2.2.2 G.out RL.out hkn B3.out.2.1 B3.out.2.2.2.2 B3.out.2.2.1 B3.out.1 (J.out.2.2.1.lt g rfl).2⟩
              case measure => (try rw [hwk]); simp [intOf]; omega
            · go_simp
              refine hK.out _ _ trivial (fun _ => ?_)
              clear hK K'
              try simp only [Act.put, List.getElem_toArray, List.getElem_cons_succ, List.getElem_cons_zero, List.setIfInBounds_toArray, List.set_cons_zero, List.set_cons_succ]
              refine wpAnyH_ready (rs := [5, 10]) (by kernel_rfl) (by simp) ?_
              refine AllReadyH.cons (o := _) rfl (fun K' hK => ?_) (AllReadyH.cons (o := _) rfl (fun K' hK => ?_) AllReadyH.nil)
              · go_simp
                refine hK.out _ _ trivial (fun _ => ?_)
                clear hK K'
                try simp only [Act.put, List.getElem_toArray, List.getElem_cons_succ, List.getElem_cons_zero, List.setIfInBounds_toArray, List.set_cons_zero, List.set_cons_succ]
                refine wpAnyH_ready (rs := [10]) (by kernel_rfl) (by simp) ?_
                refine AllReadyH.cons (o := _) rfl (fun K' hK => ?_) AllReadyH.nil
                go_simp
                refine hK.out _ _ trivial (fun _ => ?_)
                clear hK K'
                try simp only [Act.put, List.getElem_toArray, List.getElem_cons_succ, List.getElem_cons_zero, List.setIfInBounds_toArray, List.set_cons_zero, List.set_cons_succ]
                clear c1 c2 r0
                refine wpAnyH_ready (rs := [11]) (by kernel_rfl) (by simp) ?_
                refine AllReadyH.cons (o := _) rfl (fun K' hK => ?_) AllReadyH.nil
                refine step_appR rfl (.tmp 63) (.tmp 68) rfl Wb.heap.size (.slice z.ao z.ys.length z.cap) z.ys y1 Wd.heap.size (by simp [Act.eval, Act.put]) (by simp [Act.eval, Act.put]) (((I.out.2.2.2.2.1.1 z (List.mem_of_getElem? P.out.1)).1.keep P.out.2.2.1).keep (below1 _ _)) (Blk.new Wd _ _) ZL.out (by have := I.out.2.1.size; have := P.out.2.2.2; simp; omega) ?_
                intro v' w4 hOR hgr hbk
                refine hK.out _ _ trivial (fun _ => ?_)
                clear hK K'
                obtain ⟨Z1, hZ1⟩ : ∃ Z1, z.ys ++ [y1] = Z1 := ⟨_, rfl⟩
                rw [hZ1] at hOR
                obtain ⟨vo, vc, rfl, _, _⟩ := hOR.sl
                have hQ4 := ((I.out.2.2.2.1.keep P.out.2.2.1).keep (below1 Wd (.cells #[.slice y1.ao y1.xs.length y1.cap] 33))).kept hgr (((I.out.2.2.2.2.1.1 z (List.mem_of_getElem? P.out.1)).1.keep P.out.2.2.1).keep (below1 Wd (.cells #[.slice y1.ao y1.xs.length y1.cap] 33)) |>.type (by decide))
                have d1 := hQ4.at k z P.out.1
                have hst := hQ4.store I.out.2.2.2.2.2.1.symm k ⟨Z1, vo, vc⟩
                have d2 := hst.2.2.2.1 k
                have G := Lib.hid (And.intro hOR (And.intro hgr (And.intro hbk (And.intro hZ1 (And.intro hQ4 hst)))))
                clear hOR hgr hbk hZ1 hQ4 hst
                try simp only [Act.put, List.getElem_toArray, List.getElem_cons_succ, List.getElem_cons_zero, List.setIfInBounds_toArray, List.set_cons_zero, List.set_cons_succ]
                refine wpAnyH_take (i := 12) (oi := _) (v := .pointer (some ⟨g, k, none⟩)) rfl (by kernel_rfl) (by kernel_rfl) (by kernel_rfl) (fun _ _ _ h => h) (Or.inl ⟨by rfl, by intro v hv; go_simp⟩) trivial ?_
                try simp only [Act.put, List.getElem_toArray, List.getElem_cons_succ, List.getElem_cons_zero, List.setIfInBounds_toArray, List.set_cons_zero, List.set_cons_succ]
                refine wpAnyH_ready (rs := [13]) (by kernel_rfl) (by simp) ?_
                refine AllReadyH.cons (o := _) rfl (fun K' hK => ?_) AllReadyH.nil
                go_simp
                refine hK.out _ _ trivial (fun _ => ?_)
                clear hK K'
                try simp only [Act.put, List.getElem_toArray, List.getElem_cons_succ, List.getElem_cons_zero, List.setIfInBounds_toArray, List.set_cons_zero, List.set_cons_succ]
                refine wpAnyH_done (by kernel_rfl) ?_ _
                go_wp2
                go_roundw
                case rel => exact ⟨k + 1, zs'.set k ⟨Z1, vo, vc⟩, by go_num, hkn, inner J.out.2.2.2.2.1 I.out P.out.1 P.out.2.1 P.out.2.2.1 P.out.2.2.2 G.out RL.out hkn B3.out.2.1 B3.out.2.2.2.2 B3.out.2.2.1 B3.out.1 (J.out.2.2.1.lt g rfl).2⟩
                case measure => (try rw [hwk]); simp [intOf]; omega
              · go_simp
                refine hK.out _ _ trivial (fun _ => ?_)
                clear hK K'
                try simp only [Act.put, List.getElem_toArray, List.getElem_cons_succ, List.getElem_cons_zero, List.setIfInBounds_toArray, List.set_cons_zero, List.set_cons_succ]
                refine wpAnyH_ready (rs := [5]) (by kernel_rfl) (by simp) ?_
                refine AllReadyH.cons (o := _) rfl (fun K' hK => ?_) AllReadyH.nil
                go_simp
                refine hK.out _ _ trivial (fun _ => ?_)
                clear hK K'
                try simp only [Act.put, List.getElem_toArray, List.getElem_cons_succ, List.getElem_cons_zero, List.setIfInBounds_toArray, List.set_cons_zero, List.set_cons_succ]
                clear c1 c2 r0
                refine wpAnyH_ready (rs := [11]) (by kernel_rfl) (by simp) ?_
                refine AllReadyH.cons (o := _) rfl (fun K' hK => ?_) AllReadyH.nil
                refine step_appR rfl (.tmp 63) (.tmp 68) rfl Wb.heap.size (.slice z.ao z.ys.length z.cap) z.ys y1 Wd.heap.size (by simp [Act.eval, Act.put]) (by simp [Act.eval, Act.put]) (((I.out.2.2.2.2.1.1 z (List.mem_of_getElem? P.out.1)).1.keep P.out.2.2.1).keep (below1 _ _)) (Blk.new Wd _ _) ZL.out (by have := I.out.2.1.size; have := P.out.2.2.2; simp; omega) ?_
                intro v' w4 hOR hgr hbk
                refine hK.out _ _ trivial (fun _ => ?_)
                clear hK K'
                obtain ⟨Z1, hZ1⟩ : ∃ Z1, z.ys ++ [y1] = Z1 := ⟨_, rfl⟩
                rw [hZ1] at hOR
                obtain ⟨vo, vc, rfl, _, _⟩ := hOR.sl
                have hQ4 := ((I.out.2.2.2.1.keep P.out.2.2.1).keep (below1 Wd (.cells #[.slice y1.ao y1.xs.length y1.cap] 33))).kept hgr (((I.out.2.2.2.2.1.1 z (List.mem_of_getElem? P.out.1)).1.keep P.out.2.2.1).keep (below1 Wd (.cells #[.slice y1.ao y1.xs.length y1.cap] 33)) |>.type (by decide))
                have d1 := hQ4.at k z P.out.1
                have hst := hQ4.store I.out.2.2.2.2.2.1.symm k ⟨Z1, vo, vc⟩
                have d2 := hst.2.2.2.1 k
                have G := Lib.hid (And.intro hOR (And.intro hgr (And.intro hbk (And.intro hZ1 (And.intro hQ4 hst)))))
                clear hOR hgr hbk hZ1 hQ4 hst
                try simp only [Act.put, List.getElem_toArray, List.getElem_cons_succ, List.getElem_cons_zero, List.setIfInBounds_toArray, List.set_cons_zero, List.set_cons_succ]
                refine wpAnyH_take (i := 12) (oi := _) (v := .pointer (some ⟨g, k, none⟩)) rfl (by kernel_rfl) (by kernel_rfl) (by kernel_rfl) (fun _ _ _ h => h) (Or.inl ⟨by rfl, by intro v hv; go_simp⟩) trivial ?_
                try simp only [Act.put, List.getElem_toArray, List.getElem_cons_succ, List.getElem_cons_zero, List.setIfInBounds_toArray, List.set_cons_zero, List.set_cons_succ]
                refine wpAnyH_ready (rs := [13]) (by kernel_rfl) (by simp) ?_
                refine AllReadyH.cons (o := _) rfl (fun K' hK => ?_) AllReadyH.nil
                go_simp
                refine hK.out _ _ trivial (fun _ => ?_)
                clear hK K'
                try simp only [Act.put, List.getElem_toArray, List.getElem_cons_succ, List.getElem_cons_zero, List.setIfInBounds_toArray, List.set_cons_zero, List.set_cons_succ]
                refine wpAnyH_done (by kernel_rfl) ?_ _
                go_wp2
                go_roundw
                case rel => exact ⟨k + 1, zs'.set k ⟨Z1, vo, vc⟩, by go_num, hkn, inner J.out.2.2.2.2.1 I.out P.out.1 P.out.2.1 P.out.2.2.1 P.out.2.2.2 G.out RL.out hkn B3.out.2.1 B3.out.2.2.2.2 B3.out.2.2.1 B3.out.1 (J.out.2.2.1.lt g rfl).2⟩
                case measure => (try rw [hwk]); simp [intOf]; omega
          · obtain rfl : k = 2 := by have := I.out.1; omega
            go_wp2
            go_roundw
            case rel =>
              refine ⟨j + 1, zs', by go_num, hlt, I.out.2.1, I.out.2.2.2.1, I.out.2.2.2.2.1, I.out.2.2.2.2.2.1, ?_, ?_⟩
              · have e1 : (rxs l)[j]'(by simpa [rxs] using hlt) = y.xs := (List.getElem?_eq_some_iff.1 Y.out.2).2
                rw [J.out.2.2.2.2.2.1, rws_next (by simpa [rxs] using hlt) (by rw [e1, HR.out]), e1, HR.out, I.out.2.2.2.2.2.2.1]
                have hL : (zs.map QV.ls).length = 2 := by simpa using J.out.2.2.2.2.1
                have hr1 : r1.length = (zs.map QV.ls).length := by
                  rw [hL, ← RL.out, ← B3.out.2.1]; simp [rxs]
                have := stp_all hr1
                rw [hL] at this
                rw [this]
              · intro z hz
                have hlen : z.ls.length ≤ j + 1 := by
                  have hm : z.ls ∈ zs'.map QV.ls := List.mem_map_of_mem hz
                  rw [I.out.2.2.2.2.2.2.1] at hm
                  exact stp_bound (fun x hx => by obtain ⟨u, hu, rfl⟩ := List.mem_map.1 hx; simpa [QV.ls, rxs] using J.out.2.2.2.2.2.2 u hu) _ hm
                simpa [QV.ls, rxs] using hlen
            case measure => (try rw [hw]); simp [intOf]; omega
      · have e0 := bne_t hE
        have HE := Lib.hid hE
        clear hE
        have hstop : R = ([], (j : Int), E) := by
          have e1 : (rxs l)[j]'(by simpa [rxs] using hlt) = y.xs := (List.getElem?_eq_some_iff.1 Y.out.2).2
          rw [← HRw.out, J.out.2.2.2.2.2.1, rws_stop (by simpa [rxs] using hlt) (by rw [e1, HR.out]; exact HE.out), e1, HR.out]
        have ST := Lib.hid hstop
        clear hstop
        go_wp2
        go_ret3
        exact ⟨QQ.bad ST.out, step0 K1.out.1 (J.out.2.1.trans (B3.out.1.mono J.out.2.1.size))⟩
    · obtain rfl : j = l.length := by have := J.out.1; omega
      have hend : R = (zs.map QV.ls, 0, 0) := by
        have hl : (rxs l).length = l.length := by simp [rxs]
        have := rws_end (c := (⟨5, c.table, c.other, c.to, c.also, c.name, c.type, c.names, c.col, c.df⟩ : Ch)) (t := t) (l := rxs l) (out := zs.map QV.ls)
        rw [hl] at this
        rw [← HRw.out, J.out.2.2.2.2.2.1, this]
      have ST := Lib.hid hend
      clear hend
      go_wp2
      go_ret3
      refine ⟨⟨some ⟨g, 0, none⟩, 2, zs, ?_, by rw [ST.out], ?_, ?_⟩, step0 K1.out.1 J.out.2.1⟩
      · rw [ST.out, J.out.2.2.2.2.1]; rfl
      · obtain ⟨ao', cap', e, _, hq⟩ := J.out.2.2.1.sl
        injection e with e1 _ _
        rw [e1]
        exact hq
      · intro z hz
        obtain ⟨ao', cap', e, _, hq⟩ := (J.out.2.2.2.1.1 z hz).1.sl
        injection e with e1 _ _
        exact ⟨by rw [e1]; exact hq, (J.out.2.2.2.1.1 z hz).2.in⟩

set_option maxHeartbeats 8000000 in
set_option maxRecDepth 100000 in
theorem rrows_o (c : Ch) (no : Option Addr) (nc : Nat) (dO : Option Addr) (dc : Nat) (t : T) (ao : Option Addr) (cap : Nat) (l : List RV) (lo : Option Addr) (lc : Nat) (w : World) (hT : At3 w t ao cap) (hl : SlR w lo l) (hIn : ∀ y ∈ l, Sl w y.ao y.xs ∧ y.xs.length ≤ 30 ∧ ∀ x ∈ y.xs, x.ok) (hm : l.length ≤ 30) (hns : SlS w no c.names) (hnl : c.names.length ≤ 1000) (h0 : l.length ≠ 0) (h2 : (c.kind == 2) = false) (h3 : (c.kind == 3) = false) (h4 : (c.kind == 4) = false) (h5 : (c.kind == 5) = false) (h6 : (c.kind == 6) = false) (hkn : ¬ (2 ≤ c.kind ∧ c.kind ≤ 6)) :
    Calls Tryz.prog 15 #[.agg #[.string ⟨t.name.toArray⟩, .int .i64 t.keys, .slice ao t.cs.length cap], .agg #[.int .i64 c.kind, .string ⟨c.table.toArray⟩, .string ⟨c.other.toArray⟩, .string ⟨c.to.toArray⟩, .string ⟨c.also.toArray⟩, .string ⟨c.name.toArray⟩, .int .i64 c.type, .slice no c.names.length nc, .string ⟨c.col.name.toArray⟩, .int .i64 c.col.kind, .bool c.col.null, .int .i64 c.col.d.k, .int .i64 c.col.d.n, .int .u64 c.col.d.b, .string ⟨c.col.d.s.toArray⟩, .string ⟨c.df.name.toArray⟩, .int .i64 c.df.keys, .slice dO c.df.cs.length dc], .slice lo l.length lc] w fun e w' => QQ w' e (rws c t (rxs l) 0 (List.replicate 0 [])) ∧ Below w.heap.size w w' := by
  have hmx : Tryz.prog.follows .mixedOrders = true := by kernel_rfl
  have z1 : ((l.length : Int) == 0) = false := beq_f (by omega)
  have z2 : (l.length == 0) = false := by simp [h0]
  obtain ⟨R, hR⟩ : ∃ R, rws c t (rxs l) 0 (List.replicate 0 []) = R := ⟨_, rfl⟩
  rw [hR]
  have HRw := Lib.hid hR
  clear hR
  have H := Lib.hid (And.intro hT (And.intro hl (And.intro hIn (And.intro hm (And.intro hns (And.intro hnl (And.intro trivial (And.intro trivial (And.intro trivial hkn)))))))))
  clear hT hl hIn hm hns hnl h0 hkn
  obtain ⟨Wb, hWb⟩ : ∃ Wb, (w.alloc (.cells #[.string ⟨t.name.toArray⟩, .int .i64 t.keys, .slice ao t.cs.length cap] 24)).alloc (.cells #[.int .i64 c.kind, .string ⟨c.table.toArray⟩, .string ⟨c.other.toArray⟩, .string ⟨c.to.toArray⟩, .string ⟨c.also.toArray⟩, .string ⟨c.name.toArray⟩, .int .i64 c.type, .slice no c.names.length nc, .string ⟨c.col.name.toArray⟩, .int .i64 c.col.kind, .bool c.col.null, .int .i64 c.col.d.k, .int .i64 c.col.d.n, .int .u64 c.col.d.b, .string ⟨c.col.d.s.toArray⟩, .string ⟨c.df.name.toArray⟩, .int .i64 c.df.keys, .slice dO c.df.cs.length dc] 32) = Wb := ⟨_, rfl⟩
  have q0 : Blk Wb w.heap.size #[.string ⟨t.name.toArray⟩, .int .i64 t.keys, .slice ao t.cs.length cap] 24 := hWb ▸ (Blk.new w _ _).alloc _
  have q1 : Blk Wb (w.heap.size + 1) #[.int .i64 c.kind, .string ⟨c.table.toArray⟩, .string ⟨c.other.toArray⟩, .string ⟨c.to.toArray⟩, .string ⟨c.also.toArray⟩, .string ⟨c.name.toArray⟩, .int .i64 c.type, .slice no c.names.length nc, .string ⟨c.col.name.toArray⟩, .int .i64 c.col.kind, .bool c.col.null, .int .i64 c.col.d.k, .int .i64 c.col.d.n, .int .u64 c.col.d.b, .string ⟨c.col.d.s.toArray⟩, .string ⟨c.df.name.toArray⟩, .int .i64 c.df.keys, .slice dO c.df.cs.length dc] 32 := hWb ▸ Blk.newB (w.alloc (.cells #[.string ⟨t.name.toArray⟩, .int .i64 t.keys, .slice ao t.cs.length cap] 24)) (w.heap.size + 1) _ _ (by simp)
  have K1 := Lib.hid (And.intro (show Below w.heap.size w Wb from hWb ▸ below2s w _ _) (And.intro q0 q1))
  have x0 := q1.cell 0
  simp at x0
  clear q0 q1
  go_enter Tryz.func15, Tryz.ntmps15
  go_wp2_with (refine makeQ _ rfl _ _ rfl _ _ _ _ 0 rfl rfl rfl rfl (by decide) ?_; intro g w2 hg hO hb; have M := Lib.hid (And.intro hO (And.intro hb hg)); clear hO hb hg x0; go_frame)
  go_loopw [11] (fun i wr => ∃ (j : Nat) (zs : List QV), i = .int .i64 j ∧ j ≤ l.length ∧ Below Wb.heap.size Wb wr ∧ OwQ wr Wb.heap.size (.slice (some ⟨g, 0, none⟩) 0 0) zs ∧ FitQ wr Wb.heap.size zs ∧ zs.length = 0 ∧ rws c t (rxs l) 0 (List.replicate 0 []) = rws c t ((rxs l).drop j) j (zs.map QV.ls) ∧ ∀ z ∈ zs, z.ys.length ≤ j) (fun i _ => l.length - (intOf i).toNat)
  case atStart =>
    refine ⟨0, List.replicate 0 QV0, rfl, Nat.zero_le _, M.out.2.1, M.out.1, FitQ.made _ _ _, by simp, ?_, ?_⟩
    · rw [List.drop_zero, List.map_replicate]; rfl
    · intro z hz
      obtain rfl := (List.mem_replicate.1 hz).2
      exact Nat.le_refl _
  case round =>
    obtain ⟨j, zs, rfl, hj, hb, hO, hF, hzn, hrw, hzl⟩ := hrel
    have J := Lib.hid (And.intro hj (And.intro hb (And.intro hO (And.intro hF (And.intro hzn (And.intro hrw hzl))))))
    clear hj hb hO hF hzn hrw hzl
    by_cases hlt : j < l.length
    · have hw : wrap64 ((j : Int) + 1) = (j : Int) + 1 := by have := H.out.2.2.2.1; exact wrap_in _ (by omega) (by omega)
      have g0 : (0 : Int) ≤ (j : Int) := by omega
      have g1 : (j : Int) < (l.length : Int) := by omega
      obtain ⟨a, rfl, a0⟩ := (H.out.2.1.below (step0 K1.out.1 J.out.2.1)) j l[j] (List.getElem?_eq_getElem hlt)
      obtain ⟨y, hy⟩ : ∃ y, l[j] = y := ⟨_, rfl⟩
      rw [hy] at a0
      have hyl : (rxs l)[j]? = some y.xs := by simp [rxs, List.getElem?_eq_getElem hlt, hy]
      have Y := Lib.hid (And.intro (H.out.2.2.1 y (hy ▸ List.getElem_mem hlt)) hyl)
      obtain ⟨t0, t1, t2⟩ := (K1.out.2.1.below J.out.2.1).t3
      clear hy hyl
      obtain ⟨⟨r1, E⟩, hr⟩ : ∃ r, c.row t y.xs = r := ⟨_, rfl⟩
      have HR := Lib.hid hr
      clear hr
      go_wp2_with fail
      refine wp_region_held_drew (S := fun v => Below wr.heap.size wr v) (by kernel_rfl) (Below.refl _ _).drew (fun hH0 => ?_)
      refine wpAnyH_take (i := 0) (oi := _) (v := .agg #[.string ⟨t.name.toArray⟩, .int .i64 t.keys, .slice ao t.cs.length cap]) rfl (by kernel_rfl) (by kernel_rfl) (by kernel_rfl) (fun _ _ _ h => h) (Or.inl ⟨by rfl, by intro v hv; have y0 := keep0 t0 hv; have y1 := keep0 t1 hv; have y2 := keep0 t2 hv; clear t0 t1 t2; go_simp⟩) hH0 ?_
      try simp only [Act.put, List.getElem_toArray, List.getElem_cons_succ, List.getElem_cons_zero, List.setIfInBounds_toArray, List.set_cons_zero, List.set_cons_succ]
      refine wpAnyH_take (i := 1) (oi := _) (v := .agg #[.int .i64 c.kind, .string ⟨c.table.toArray⟩, .string ⟨c.other.toArray⟩, .string ⟨c.to.toArray⟩, .string ⟨c.also.toArray⟩, .string ⟨c.name.toArray⟩, .int .i64 c.type, .slice no c.names.length nc, .string ⟨c.col.name.toArray⟩, .int .i64 c.col.kind, .bool c.col.null, .int .i64 c.col.d.k, .int .i64 c.col.d.n, .int .u64 c.col.d.b, .string ⟨c.col.d.s.toArray⟩, .string ⟨c.df.name.toArray⟩, .int .i64 c.df.keys, .slice dO c.df.cs.length dc]) rfl (by kernel_rfl) (by kernel_rfl) (by kernel_rfl) (fun _ _ _ h => h) (yieldsIf_load_mid (by rfl) _ _ rfl (w.heap.size + 1) 0 rfl [.int .i64 c.kind, .string ⟨c.table.toArray⟩, .string ⟨c.other.toArray⟩, .string ⟨c.to.toArray⟩, .string ⟨c.also.toArray⟩, .string ⟨c.name.toArray⟩, .int .i64 c.type, .slice no c.names.length nc, .string ⟨c.col.name.toArray⟩, .int .i64 c.col.kind, .bool c.col.null, .int .i64 c.col.d.k, .int .i64 c.col.d.n, .int .u64 c.col.d.b, .string ⟨c.col.d.s.toArray⟩, .string ⟨c.df.name.toArray⟩, .int .i64 c.df.keys, .slice dO c.df.cs.length dc] _ (fun v hv => rng ((K1.out.2.2.below J.out.2.1).below hv)) Tryz.underlying32 rfl infoCh) hH0 ?_
      try simp only [Act.put, List.getElem_toArray, List.getElem_cons_succ, List.getElem_cons_zero, List.setIfInBounds_toArray, List.set_cons_zero, List.set_cons_succ]
      refine wpAnyH_take (i := 2) (oi := _) (v := .slice (some a) l.length lc) rfl (by kernel_rfl) (by kernel_rfl) (by kernel_rfl) (fun _ _ _ h => h) (Or.inl ⟨by rfl, by intro v hv; go_simp⟩) hH0 ?_
      try simp only [Act.put, List.getElem_toArray, List.getElem_cons_succ, List.getElem_cons_zero, List.setIfInBounds_toArray, List.set_cons_zero, List.set_cons_succ]
      refine wpAnyH_take (i := 3) (oi := _) (v := .int .i64 (j : Int)) rfl (by kernel_rfl) (by kernel_rfl) (by kernel_rfl) (fun _ _ _ h => h) (Or.inl ⟨by rfl, by intro v hv; go_simp⟩) hH0 ?_
      try simp only [Act.put, List.getElem_toArray, List.getElem_cons_succ, List.getElem_cons_zero, List.setIfInBounds_toArray, List.set_cons_zero, List.set_cons_succ]
      refine wpAnyH_take (i := 4) (oi := _) (v := .pointer (some (a.add j))) rfl (by kernel_rfl) (by kernel_rfl) (by kernel_rfl) (fun _ _ _ h => h) (Or.inl ⟨by rfl, by intro v hv; go_simp⟩) hH0 ?_
      try simp only [Act.put, List.getElem_toArray, List.getElem_cons_succ, List.getElem_cons_zero, List.setIfInBounds_toArray, List.set_cons_zero, List.set_cons_succ]
      refine wpAnyH_take (i := 5) (oi := _) (v := .slice y.ao y.xs.length y.cap) rfl (by kernel_rfl) (by kernel_rfl) (by kernel_rfl) (fun _ _ _ h => h) (Or.inl ⟨by rfl, by intro v hv; have y0 := keep0 a0 hv; clear a0; go_simp⟩) hH0 ?_
      try simp only [Act.put, List.getElem_toArray, List.getElem_cons_succ, List.getElem_cons_zero, List.setIfInBounds_toArray, List.set_cons_zero, List.set_cons_succ]
      clear t0 t1 t2 a0
      refine wpAnyH_ready (rs := [6]) (by kernel_rfl) (by simp) ?_
      refine AllReadyH.cons (o := _) rfl (fun K' hK => ?_) AllReadyH.nil
      go_simp
      refine (rrow_is c no nc dO dc t ao cap y.xs _ rfl y.ao y.cap _ (H.out.1.keep (step0 (step0 K1.out.1 J.out.2.1) hH0)) (Y.out.1.1.below (step0 (step0 K1.out.1 J.out.2.1) hH0)) Y.out.1.2.1 Y.out.1.2.2 (H.out.2.2.2.2.1.below (step0 (step0 K1.out.1 J.out.2.1) hH0)) H.out.2.2.2.2.2.1 (r1, E) HR.out).mono ?_
      rintro e w3 ⟨⟨ro, rc, rys, rfl, hrx, hrs, hrf⟩, hb3⟩
      simp only at hrx
      have bw : Below wr.heap.size wr w3 := step0 hH0 hb3
      go_wp2_with fail
      refine hK.out _ _ bw (fun _ => ?_)
      clear hK K'
      have B3 := Lib.hid (And.intro bw (And.intro hrx (And.intro hrs hrf)))
      clear hb3 hrx hrs hrf hH0
      try simp only [Act.put, List.getElem_toArray, List.getElem_cons_succ, List.getElem_cons_zero, List.setIfInBounds_toArray, List.set_cons_zero, List.set_cons_succ]
      refine wpAnyH_take (i := 7) (oi := _) (v := .tuple #[.slice ro rys.length rc, .int .i64 E]) rfl (by kernel_rfl) (by kernel_rfl) (by kernel_rfl) (fun _ _ _ h => h) (Or.inl ⟨by rfl, by intro v hv; go_simp⟩) bw ?_
      try simp only [Act.put, List.getElem_toArray, List.getElem_cons_succ, List.getElem_cons_zero, List.setIfInBounds_toArray, List.set_cons_zero, List.set_cons_succ]
      refine wpAnyH_take (i := 8) (oi := _) (v := .slice ro rys.length rc) rfl (by kernel_rfl) (by kernel_rfl) (by kernel_rfl) (fun _ _ _ h => h) (Or.inl ⟨by rfl, by intro v hv; go_simp⟩) bw ?_
      try simp only [Act.put, List.getElem_toArray, List.getElem_cons_succ, List.getElem_cons_zero, List.setIfInBounds_toArray, List.set_cons_zero, List.set_cons_succ]
      refine wpAnyH_take (i := 9) (oi := _) (v := .int .i64 E) rfl (by kernel_rfl) (by kernel_rfl) (by kernel_rfl) (fun _ _ _ h => h) (Or.inl ⟨by rfl, by intro v hv; go_simp⟩) bw ?_
      try simp only [Act.put, List.getElem_toArray, List.getElem_cons_succ, List.getElem_cons_zero, List.setIfInBounds_toArray, List.set_cons_zero, List.set_cons_succ]
      refine wpAnyH_take (i := 10) (oi := _) (v := .slice ro rys.length rc) rfl (by kernel_rfl) (by kernel_rfl) (by kernel_rfl) (fun _ _ _ h => h) (Or.inl ⟨by rfl, by intro v hv; go_simp⟩) bw ?_
      try simp only [Act.put, List.getElem_toArray, List.getElem_cons_succ, List.getElem_cons_zero, List.setIfInBounds_toArray, List.set_cons_zero, List.set_cons_succ]
      refine wpAnyH_take (i := 11) (oi := _) (v := .int .i64 E) rfl (by kernel_rfl) (by kernel_rfl) (by kernel_rfl) (fun _ _ _ h => h) (Or.inl ⟨by rfl, by intro v hv; go_simp⟩) bw ?_
      try simp only [Act.put, List.getElem_toArray, List.getElem_cons_succ, List.getElem_cons_zero, List.setIfInBounds_toArray, List.set_cons_zero, List.set_cons_succ]
      refine wpAnyH_done (by kernel_rfl) ?_ _
      clear bw
      by_cases hE : E = 0
      · subst hE
        exfalso
        have h0 : (c.row t y.xs).2 = 0 := by rw [HR.out]
        by_cases hf : t.fit y.xs = 0
        · by_cases hs : t.name ∈ c.src
          · exact H.out.2.2.2.2.2.2.2.2.2 (src_kind hs)
          · rw [row_none hf hs] at h0; exact absurd h0 (by decide)
        · rw [row_bad hf] at h0; exact hf h0
      · have e0 := bne_t hE
        have HE := Lib.hid hE
        clear hE
        have hstop : R = ([], (j : Int), E) := by
          have e1 : (rxs l)[j]'(by simpa [rxs] using hlt) = y.xs := (List.getElem?_eq_some_iff.1 Y.out.2).2
          rw [← HRw.out, J.out.2.2.2.2.2.1, rws_stop (by simpa [rxs] using hlt) (by rw [e1, HR.out]; exact HE.out), e1, HR.out]
        have ST := Lib.hid hstop
        clear hstop
        go_wp2
        go_ret3
        exact ⟨QQ.bad ST.out, step0 K1.out.1 (J.out.2.1.trans (B3.out.1.mono J.out.2.1.size))⟩
    · obtain rfl : j = l.length := by have := J.out.1; omega
      have hend : R = (zs.map QV.ls, 0, 0) := by
        have hl : (rxs l).length = l.length := by simp [rxs]
        have := rws_end (c := c) (t := t) (l := rxs l) (out := zs.map QV.ls)
        rw [hl] at this
        rw [← HRw.out, J.out.2.2.2.2.2.1, this]
      have ST := Lib.hid hend
      clear hend
      go_wp2
      go_ret3
      refine ⟨⟨some ⟨g, 0, none⟩, 0, zs, ?_, by rw [ST.out], ?_, ?_⟩, step0 K1.out.1 J.out.2.1⟩
      · rw [ST.out, J.out.2.2.2.2.1]; rfl
      · obtain ⟨ao', cap', e, _, hq⟩ := J.out.2.2.1.sl
        injection e with e1 _ _
        rw [e1]
        exact hq
      · intro z hz
        obtain ⟨ao', cap', e, _, hq⟩ := (J.out.2.2.2.1.1 z hz).1.sl
        injection e with e1 _ _
        exact ⟨by rw [e1]; exact hq, (J.out.2.2.2.1.1 z hz).2.in⟩

end Go.Proofs.YtdonmbmahcjfbaaGreatDoor
