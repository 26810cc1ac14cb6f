/-
  How many rows one row becomes, and what transform.Rows tells. Conditions: a table and at most 30 rows of at most 30 values in memory that keep a value's bounds; the listed variables as they are laid.
  Few of tables and of changes, and the table of the law's example. Conditions: the bounds named in each theorem.
  The example that each statement ends with: it is true. Condition: the listed variables as they are laid.
-/
import Derived.Test.YtdonmbmahcjfbaaGreatDoorTfRow
import Derived.Test.YtdonmbmahcjfbaaGreatDoorTfMem
import Derived.Deep.RegionHeld3
import Derived.Test.YtdonmbmahcjfbaaGreatDoorScFit
namespace Go.Proofs.YtdonmbmahcjfbaaGreatDoor
open Go.RowKit
set_option linter.unusedVariables false
set_option linter.unusedSimpArgs false

theorem Blk.newB (W : World) (B : Nat) (cs : Array Value) (t : TypeId) (h : W.heap.size = B) : Blk (W.alloc (.cells cs t)) B cs t := h ▸ Blk.new W cs t
/-- What Rows tells. -/
def QQ (W : World) (e : Ending) (R : List (List (List V)) × Int × Int) : Prop :=
  ∃ (ao : Option Addr) (cap : Nat) (zs : List QV), e = .returned (.tuple #[.slice ao zs.length cap, .int .i64 R.2.1, .int .i64 R.2.2]) ∧ zs.map QV.ls = R.1 ∧ SlQ W ao zs ∧ ∀ z ∈ zs, SlR W z.ao z.ys ∧ InR W z.ys
theorem QQ.bad {W : World} {R : List (List (List V)) × Int × Int} {i E : Int} (h : R = ([], i, E)) : QQ W (.returned (.tuple #[.slice none 0 0, .int .i64 i, .int .i64 E])) R := by
  subst h
  exact ⟨none, 0, [], rfl, rfl, SlQ.nil _ _, by simp⟩
/-- Lists of rows, so many of them with a row more. -/
def stp (L : List (List (List V))) (r : List (List V)) (k : Nat) : List (List (List V)) := (List.zipWith (fun o y => o ++ [y]) L r).take k ++ L.drop k
theorem stp_0 (L : List (List (List V))) (r : List (List V)) : stp L r 0 = L := by simp [stp]
theorem stp_all {L : List (List (List V))} {r : List (List V)} (h : r.length = L.length) : stp L r L.length = List.zipWith (fun o y => o ++ [y]) L r := by
  unfold stp
  rw [List.take_of_length_le (by simp [h]), List.drop_length, List.append_nil]
theorem stp_next {L : List (List (List V))} {r : List (List V)} {k : Nat} (hk : k < L.length) (hr : k < r.length) : stp L r (k + 1) = (stp L r k).set k (L[k] ++ [r[k]]) := by
  unfold stp
  have hz : k < (List.zipWith (fun o y => o ++ [y]) L r).length := by simp; omega
  have e : ((List.zipWith (fun o y => o ++ [y]) L r).take k).length = k := by simp; omega
  rw [List.take_succ_eq_append_getElem hz, List.set_append_right _ _ (by omega), e, Nat.sub_self, List.drop_eq_getElem_cons hk, List.set_cons_zero, List.append_assoc, List.getElem_zipWith]
  rfl
theorem stp_get {L : List (List (List V))} {r : List (List V)} {k : Nat} (h : r.length = L.length) (hk : k < L.length) : (stp L r k)[k]? = some L[k] := by
  have e : ((List.zipWith (fun o y => o ++ [y]) L r).take k).length = k := by simp; omega
  unfold stp
  rw [List.getElem?_append_right (by omega), e, Nat.sub_self, List.drop_eq_getElem_cons hk]
  rfl
theorem rws_next {c : Ch} {t : T} {l : List (List V)} {j : Nat} {out : List (List (List V))} (hj : j < l.length) (h : (c.row t l[j]).2 = 0) : rws c t (l.drop j) j out = rws c t (l.drop (j + 1)) (j + 1) (List.zipWith (fun o y => o ++ [y]) out (c.row t l[j]).1) := by
  rw [List.drop_eq_getElem_cons hj, rws, if_neg (by simpa using h)]
theorem rws_stop {c : Ch} {t : T} {l : List (List V)} {j : Nat} {out : List (List (List V))} (hj : j < l.length) (h : (c.row t l[j]).2 ≠ 0) : rws c t (l.drop j) j out = ([], (j : Int), (c.row t l[j]).2) := by
  rw [List.drop_eq_getElem_cons hj, rws, if_pos h]
theorem rws_end {c : Ch} {t : T} {l : List (List V)} {out : List (List (List V))} : rws c t (l.drop l.length) l.length out = (out, 0, 0) := by
  rw [List.drop_length, rws]
theorem stp_bound {L : List (List (List V))} {r : List (List V)} {k j : Nat} (h : ∀ x ∈ L, x.length ≤ j) : ∀ x ∈ stp L r k, x.length ≤ j + 1 := by
  intro x hx
  unfold stp at hx
  rcases List.mem_append.1 hx with hx | hx
  · have hx := List.mem_of_mem_take hx
    obtain ⟨i, hi, rfl⟩ := List.getElem_of_mem hx
    rw [List.getElem_zipWith, List.length_append]
    have := h _ (List.getElem_mem (l := L) (n := i) (by simp at hi; omega))
    simp
    omega
  · have := h x (List.mem_of_mem_drop hx)
    omega
theorem z_at {zs zs' : List QV} {r : List (List V)} {k j : Nat} {z : QV} (hls : zs'.map QV.ls = stp (zs.map QV.ls) r k) (hr : r.length = zs.length) (hk : k < zs.length) (hz : zs'[k]? = some z) (hzl : ∀ z ∈ zs, z.ys.length ≤ j) : z.ls = (zs.map QV.ls)[k]'(by simpa using hk) ∧ z.ys.length ≤ j := by
  have h1 : (zs'.map QV.ls)[k]? = some z.ls := by rw [List.getElem?_map, hz]; rfl
  rw [hls, stp_get (by simpa using hr) (by simpa using hk)] at h1
  have h2 := Option.some.inj h1
  refine ⟨h2.symm, ?_⟩
  have h3 := hzl zs[k] (List.getElem_mem hk)
  have h4 : z.ls.length = zs[k].ls.length := by rw [← h2]; simp
  simp [QV.ls, rxs] at h4
  omega
theorem cell_same {W W' : World} {p : Addr} (h : W'.heap[p.block]? = W.heap[p.block]?) : W'.cell? p = W.cell? p := by unfold World.cell?; rw [h]
theorem add_blk (a : Addr) (i : Nat) : (a.add i).block = a.block := by unfold Addr.add; split <;> rfl
theorem SlR.same {W W' : World} {a : Addr} {ys : List RV} (h : SlR W (some a) ys) (hb : W'.heap[a.block]? = W.heap[a.block]?) : SlR W' (some a) ys := by
  intro i y hi
  obtain ⟨a', ha, h0⟩ := h i y hi
  cases ha
  exact ⟨a, rfl, (cell_same (by rw [add_blk]; exact hb)).trans h0⟩
theorem inner {Wb wr w3 wr' Wd w4 : World} {n k g : Nat} {zs zs' : List QV} {z : QV} {y1 : RV} {rys : List RV} {ra : Addr} {r1 : List (List V)} {Z1 : List RV} {vo : Option Addr} {vc : Nat} (hzn : zs.length = n)
    (I : k ≤ n ∧ Below Wb.heap.size Wb wr' ∧ w3.heap.size ≤ wr'.heap.size ∧ OwQ wr' Wb.heap.size (.slice (some ⟨g, 0, none⟩) n n) zs' ∧ FitQ wr' Wb.heap.size zs' ∧ zs'.length = n ∧ zs'.map QV.ls = stp (zs.map QV.ls) r1 k ∧ (∀ z ∈ zs', ∀ m, (Value.slice z.ao z.ys.length z.cap).ownBlock = some m → m < wr.heap.size ∨ w3.heap.size ≤ m) ∧ SlR wr' (some ra) rys ∧ FitR wr' Wb.heap.size rys)
    (hz : zs'[k]? = some z) (hy : rys[k]? = some y1) (bd : Below wr'.heap.size wr' Wd) (sd : Wd.heap.size = wr'.heap.size)
    (G : OwR w4 Wb.heap.size (.slice vo Z1.length vc) Z1 ∧ (Wd.alloc (.cells #[.slice y1.ao y1.xs.length y1.cap] 33)).grownBy w4 (Value.slice z.ao z.ys.length z.cap).ownBlock ∧ ((Value.slice vo Z1.length vc).ownBlock = (Value.slice z.ao z.ys.length z.cap).ownBlock ∨ (Value.slice vo Z1.length vc).ownBlock = some (Wd.alloc (.cells #[.slice y1.ao y1.xs.length y1.cap] 33)).heap.size) ∧ z.ys ++ [y1] = Z1 ∧ OwQ w4 Wb.heap.size (.slice (some ⟨g, 0, none⟩) n n) zs' ∧
      OwQ (w4.setCell ⟨g, k, none⟩ (.slice vo Z1.length vc)) Wb.heap.size (.slice (some ⟨g, 0, none⟩) n n) (zs'.set k ⟨Z1, vo, vc⟩) ∧ Wb.heap.size ≤ g ∧ g < w4.heap.size ∧ (∀ i, w4.frozen? ⟨g, i, none⟩ = false) ∧ w4.grownBy (w4.setCell ⟨g, k, none⟩ (.slice vo Z1.length vc)) (some g))
    (RL : rys.length = n) (hkn : k < n) (hrx : rxs rys = r1) (hab : ∀ a, some ra = some a → wr.heap.size ≤ a.block) (hs3 : SlR w3 (some ra) rys) (hb3 : Below wr.heap.size wr w3) (hgw : g < wr.heap.size) :
    Below Wb.heap.size Wb (w4.setCell ⟨g, k, none⟩ (.slice vo Z1.length vc)) ∧ w3.heap.size ≤ (w4.setCell ⟨g, k, none⟩ (.slice vo Z1.length vc)).heap.size ∧ OwQ (w4.setCell ⟨g, k, none⟩ (.slice vo Z1.length vc)) Wb.heap.size (.slice (some ⟨g, 0, none⟩) n n) (zs'.set k ⟨Z1, vo, vc⟩) ∧ FitQ (w4.setCell ⟨g, k, none⟩ (.slice vo Z1.length vc)) Wb.heap.size (zs'.set k ⟨Z1, vo, vc⟩) ∧ (zs'.set k ⟨Z1, vo, vc⟩).length = n ∧ (zs'.set k ⟨Z1, vo, vc⟩).map QV.ls = stp (zs.map QV.ls) r1 (k + 1) ∧ (∀ z ∈ zs'.set k ⟨Z1, vo, vc⟩, ∀ m, (Value.slice z.ao z.ys.length z.cap).ownBlock = some m → m < wr.heap.size ∨ w3.heap.size ≤ m) ∧ SlR (w4.setCell ⟨g, k, none⟩ (.slice vo Z1.length vc)) (some ra) rys ∧ FitR (w4.setCell ⟨g, k, none⟩ (.slice vo Z1.length vc)) Wb.heap.size rys := by
  obtain ⟨_, ib, isz, iO, iF, il, ils, ibl, isl, ifr⟩ := I
  obtain ⟨gO, gg, gb, rfl, gQ, gs, gl, glt, gf, gst⟩ := G
  obtain ⟨We, hWe⟩ : ∃ We, Wd.alloc (.cells #[.slice y1.ao y1.xs.length y1.cap] 33) = We := ⟨_, rfl⟩
  have be : Below wr'.heap.size wr' We := hWe ▸ bd.alloc (by omega) _
  have se : wr'.heap.size + 1 = We.heap.size := by rw [← hWe]; simp [sd]
  rw [hWe] at gg gb
  have hzm := List.mem_of_getElem? hz
  have own := (iF.1 z hzm).1.keep be
  have bw4 : Below Wb.heap.size Wb w4 := (ib.trans (be.mono ib.size)).grown gg (Nat.le_trans ib.size be.size) (fun m hm => (own.lt m hm).1)
  have b5 := bw4.grown gst (Nat.le_trans ib.size (Nat.le_trans be.size gg.size)) (fun m hm => by cases hm; exact gl)
  have tq : ∀ t, t ≠ 38 → ∀ cur fz, w4.heap[g]? ≠ some (.cells cur t fz) := fun t ht cur fz => gQ.type ht g cur fz rfl
  have hra3 : ra.block < w3.heap.size := by
    obtain ⟨a', ha, h0⟩ := hs3 k y1 hy
    cases ha
    have := cell_lt h0
    rwa [add_blk] at this
  have hraw := hab ra rfl
  refine ⟨b5, Nat.le_trans isz (Nat.le_trans be.size (Nat.le_trans gg.size gst.size)), gs, (iF.keep be).more hz gg gO (FitR.keep (FitR.one (ifr y1 (List.mem_of_getElem? hy))) be) gb gst tq, by simpa using il, ?_, ?_, ?_, ?_⟩
  · have hL : (zs.map QV.ls).length = n := by simpa using hzn
    have hr : r1.length = n := by rw [← hrx]; simpa [rxs] using RL
    rw [List.map_set, ils, stp_next (by omega) (by omega)]
    congr 1
    have h1 : (zs'.map QV.ls)[k]? = some z.ls := by rw [List.getElem?_map, hz]; rfl
    rw [ils, stp_get (by omega) (by omega)] at h1
    have h2 := Option.some.inj h1
    have h3 : r1[k]'(by omega) = y1.xs := by
      have : r1[k]? = some y1.xs := by rw [← hrx]; simp [rxs, hy]
      exact (List.getElem?_eq_some_iff.1 this).2
    rw [h2, h3]
    simp [QV.ls, rxs]
  · intro u hu m hm
    obtain ⟨i, hi, rfl⟩ := List.getElem_of_mem hu
    rw [List.length_set] at hi
    rw [List.getElem_set] at hm
    split at hm
    · rcases gb with e | e
      · exact ibl z hzm m (e ▸ hm)
      · have e2 : some We.heap.size = some m := e.symm.trans hm
        obtain rfl := Option.some.inj e2
        exact .inr (by omega)
    · exact ibl _ (List.getElem_mem hi) m hm
  · refine isl.same ?_
    have n1 : some ra.block ≠ (Value.slice z.ao z.ys.length z.cap).ownBlock := fun e => by
      rcases ibl z hzm _ e.symm with h | h <;> omega
    have n2 : ra.block ≠ g := by omega
    rw [gst.block ra.block (by have := gg.size; have := be.size; omega) (fun e => n2 (Option.some.inj e)), gg.block ra.block (by have := be.size; omega) n1, be.block ra.block (by omega)]
  · exact ((ifr.keep be).kept gg (own.type (by decide))).kept gst (fun g' cur fz e => by cases e; exact tq _ (by decide) cur fz)
theorem kn_le (k : Int) : kn k ≤ 2 := by unfold kn; split <;> (try split) <;> omega

theorem targets_2k (w : World) : Calls Tryz.prog 37 #[.int .i64 2] w fun e w' => e = .returned (.int .i64 1) ∧ w = w' := by
  go_enter Tryz.func37, Tryz.ntmps37
  go_wp2
  go_ret
  exact ⟨rfl, rfl⟩

theorem targets_3k (w : World) : Calls Tryz.prog 37 #[.int .i64 3] w fun e w' => e = .returned (.int .i64 1) ∧ w = w' := by
  go_enter Tryz.func37, Tryz.ntmps37
  go_wp2
  go_ret
  exact ⟨rfl, rfl⟩

theorem targets_4k (w : World) : Calls Tryz.prog 37 #[.int .i64 4] w fun e w' => e = .returned (.int .i64 1) ∧ w = w' := by
  go_enter Tryz.func37, Tryz.ntmps37
  go_wp2
  go_ret
  exact ⟨rfl, rfl⟩

theorem targets_5k (w : World) : Calls Tryz.prog 37 #[.int .i64 5] w fun e w' => e = .returned (.int .i64 2) ∧ w = w' := by
  go_enter Tryz.func37, Tryz.ntmps37
  go_wp2
  go_ret
  exact ⟨rfl, rfl⟩

theorem targets_6k (w : World) : Calls Tryz.prog 37 #[.int .i64 6] w fun e w' => e = .returned (.int .i64 1) ∧ w = w' := by
  go_enter Tryz.func37, Tryz.ntmps37
  go_wp2
  go_ret
  exact ⟨rfl, rfl⟩

theorem targets_0k (k : Int) (w : World) (h2 : (k == 2) = false) (h3 : (k == 3) = false) (h4 : (k == 4) = false) (h5 : (k == 5) = false) (h6 : (k == 6) = false) : Calls Tryz.prog 37 #[.int .i64 k] w fun e w' => e = .returned (.int .i64 0) ∧ w = w' := by
  go_enter Tryz.func37, Tryz.ntmps37
  go_wp2
  go_ret
  exact ⟨rfl, rfl⟩
theorem targetsN_is (k : Int) (n : Nat) (w : World) (hn : kn k = n) : Calls Tryz.prog 37 #[.int .i64 k] w fun e w' => e = .returned (.int .i64 (n : Int)) ∧ w = w' := by
  subst hn
  by_cases h2 : k = 2
  · subst h2; exact targets_2k w
  by_cases h3 : k = 3
  · subst h3; exact targets_3k w
  by_cases h4 : k = 4
  · subst h4; exact targets_4k w
  by_cases h5 : k = 5
  · subst h5; exact targets_5k w
  by_cases h6 : k = 6
  · subst h6; exact targets_6k w
  have e : kn k = 0 := by unfold kn; rw [if_neg h5, if_neg (by omega)]
  rw [e]
  exact targets_0k k w (beq_f h2) (beq_f h3) (beq_f h4) (beq_f h5) (beq_f h6)

set_option maxHeartbeats 4000000 in
set_option maxRecDepth 100000 in
theorem rows_go (c : Ch) (no : Option Addr) (nc : Nat) (dO : Option Addr) (dc : Nat) (t : T) (ao : Option Addr) (cap : Nat) (l : List RV) (lo : Option Addr) (lc : Nat) (w : World) (hg : Env w) (hG : Km.Env w) (hT : At3 w t ao cap) (hl : SlR w lo l) (hIn : ∀ y ∈ l, Sl w y.ao y.xs ∧ y.xs.length ≤ 30 ∧ y.xs.length ≤ y.cap ∧ ∀ x ∈ y.xs, x.ok) (hm : l.length ≤ 30) (hns : SlS w no c.names) (hnl : c.names.length ≤ 1000) (h0 : l.length ≠ 0) :
    Calls Tryz.prog 14 #[.agg #[.string ⟨t.name.toArray⟩, .int .i64 t.keys, .slice ao t.cs.length cap], .agg #[.int .i64 c.kind, .string ⟨c.table.toArray⟩, .string ⟨c.other.toArray⟩, .string ⟨c.to.toArray⟩, .string ⟨c.also.toArray⟩, .string ⟨c.name.toArray⟩, .int .i64 c.type, .slice no c.names.length nc, .string ⟨c.col.name.toArray⟩, .int .i64 c.col.kind, .bool c.col.null, .int .i64 c.col.d.k, .int .i64 c.col.d.n, .int .u64 c.col.d.b, .string ⟨c.col.d.s.toArray⟩, .string ⟨c.df.name.toArray⟩, .int .i64 c.df.keys, .slice dO c.df.cs.length dc], .slice lo l.length lc] w fun e w' => QQ w' e (rws c t (rxs l) 0 (List.replicate (kn c.kind) [])) ∧ Below w.heap.size w w' := by
  have hmx : Tryz.prog.follows .mixedOrders = true := by kernel_rfl
  obtain ⟨n, hn⟩ : ∃ n, kn c.kind = n := ⟨_, rfl⟩
  have hn2 := kn_le c.kind
  have z1 : ((l.length : Int) == 0) = false := beq_f (by omega)
  have z2 : (l.length == 0) = false := by simp [h0]
  rw [hn] at hn2 ⊢
  obtain ⟨R, hR⟩ : ∃ R, rws c t (rxs l) 0 (List.replicate n []) = R := ⟨_, rfl⟩
  rw [hR]
  have HRw := Lib.hid hR
  clear hR
  have H := Lib.hid (And.intro hT (And.intro hl (And.intro hIn (And.intro hm (And.intro hns (And.intro hnl (And.intro hg (And.intro hG (And.intro hn (And.intro hn2 h0))))))))))
  clear hT hl hIn hm hns hnl hg hG hn hn2 h0
  go_enter Tryz.func14, Tryz.ntmps14
  go_wp2_with fail
  refine (targetsN_is c.kind n _ H.out.2.2.2.2.2.2.2.2.1).mono ?_
  rintro e w1 ⟨rfl, rfl⟩
  obtain ⟨Wb, hWb⟩ : ∃ Wb, (w.alloc (.cells #[.string ⟨t.name.toArray⟩, .int .i64 t.keys, .slice ao t.cs.length cap] 24)).alloc (.cells #[.int .i64 c.kind, .string ⟨c.table.toArray⟩, .string ⟨c.other.toArray⟩, .string ⟨c.to.toArray⟩, .string ⟨c.also.toArray⟩, .string ⟨c.name.toArray⟩, .int .i64 c.type, .slice no c.names.length nc, .string ⟨c.col.name.toArray⟩, .int .i64 c.col.kind, .bool c.col.null, .int .i64 c.col.d.k, .int .i64 c.col.d.n, .int .u64 c.col.d.b, .string ⟨c.col.d.s.toArray⟩, .string ⟨c.df.name.toArray⟩, .int .i64 c.df.keys, .slice dO c.df.cs.length dc] 32) = Wb := ⟨_, rfl⟩
  have q0 : Blk Wb w.heap.size #[.string ⟨t.name.toArray⟩, .int .i64 t.keys, .slice ao t.cs.length cap] 24 := hWb ▸ (Blk.new w _ _).alloc _
  have q1 : Blk Wb (w.heap.size + 1) #[.int .i64 c.kind, .string ⟨c.table.toArray⟩, .string ⟨c.other.toArray⟩, .string ⟨c.to.toArray⟩, .string ⟨c.also.toArray⟩, .string ⟨c.name.toArray⟩, .int .i64 c.type, .slice no c.names.length nc, .string ⟨c.col.name.toArray⟩, .int .i64 c.col.kind, .bool c.col.null, .int .i64 c.col.d.k, .int .i64 c.col.d.n, .int .u64 c.col.d.b, .string ⟨c.col.d.s.toArray⟩, .string ⟨c.df.name.toArray⟩, .int .i64 c.df.keys, .slice dO c.df.cs.length dc] 32 := hWb ▸ Blk.newB (w.alloc (.cells #[.string ⟨t.name.toArray⟩, .int .i64 t.keys, .slice ao t.cs.length cap] 24)) (w.heap.size + 1) _ _ (by simp)
  have K1 := Lib.hid (And.intro (show Below w.heap.size w Wb from hWb ▸ below2s w _ _) (And.intro q0 q1))
  clear q0 q1
  go_wp2_with (refine makeQ _ rfl _ _ rfl _ _ _ _ n rfl rfl rfl rfl (by have := H.out.2.2.2.2.2.2.2.2.2.1; omega) ?_; intro g w2 hg hO hb; have M := Lib.hid (And.intro hO (And.intro hb hg)); clear hO hb hg; go_frame)
  go_loopw [29] (fun i wr => ∃ (j : Nat) (zs : List QV), i = .int .i64 j ∧ j ≤ l.length ∧ Below Wb.heap.size Wb wr ∧ OwQ wr Wb.heap.size (.slice (some ⟨g, 0, none⟩) n n) zs ∧ FitQ wr Wb.heap.size zs ∧ zs.length = n ∧ rws c t (rxs l) 0 (List.replicate n []) = rws c t ((rxs l).drop j) j (zs.map QV.ls) ∧ ∀ z ∈ zs, z.ys.length ≤ j) (fun i _ => l.length - (intOf i).toNat)
  case atStart =>
    refine ⟨0, List.replicate n QV0, rfl, Nat.zero_le _, M.out.2.1, M.out.1, FitQ.made _ _ _, by simp, ?_, ?_⟩
    · rw [List.drop_zero, List.map_replicate]; rfl
    · intro z hz
      obtain rfl := (List.mem_replicate.1 hz).2
      exact Nat.le_refl _
  case round =>
    obtain ⟨j, zs, rfl, hj, hb, hO, hF, hzn, hrw, hzl⟩ := hrel
    have J := Lib.hid (And.intro hj (And.intro hb (And.intro hO (And.intro hF (And.intro hzn (And.intro hrw hzl))))))
    clear hj hb hO hF hzn hrw hzl
    by_cases hlt : j < l.length
    · have hw : wrap64 ((j : Int) + 1) = (j : Int) + 1 := by have := H.out.2.2.2.1; exact wrap_in _ (by omega) (by omega)
      have g0 : (0 : Int) ≤ (j : Int) := by omega
      have g1 : (j : Int) < (l.length : Int) := by omega
      obtain ⟨a, rfl, a0⟩ := (H.out.2.1.below (step0 K1.out.1 J.out.2.1)) j l[j] (List.getElem?_eq_getElem hlt)
      obtain ⟨y, hy⟩ : ∃ y, l[j] = y := ⟨_, rfl⟩
      rw [hy] at a0
      have hyl : (rxs l)[j]? = some y.xs := by simp [rxs, List.getElem?_eq_getElem hlt, hy]
      have Y := Lib.hid (And.intro (H.out.2.2.1 y (hy ▸ List.getElem_mem hlt)) hyl)
      obtain ⟨t0, t1, t2⟩ := (K1.out.2.1.below J.out.2.1).t3
      clear hy hyl
      go_wp2_with ((refine (?_ : wpList _ _ _ (Oper.mk _ (Op.load 32 _) _ _ _ _ :: _) _ _)); refine wpList_load_mid rfl 32 _ rfl (w.heap.size + 1) 0 rfl [.int .i64 c.kind, .string ⟨c.table.toArray⟩, .string ⟨c.other.toArray⟩, .string ⟨c.to.toArray⟩, .string ⟨c.also.toArray⟩, .string ⟨c.name.toArray⟩, .int .i64 c.type, .slice no c.names.length nc, .string ⟨c.col.name.toArray⟩, .int .i64 c.col.kind, .bool c.col.null, .int .i64 c.col.d.k, .int .i64 c.col.d.n, .int .u64 c.col.d.b, .string ⟨c.col.d.s.toArray⟩, .string ⟨c.df.name.toArray⟩, .int .i64 c.df.keys, .slice dO c.df.cs.length dc] _ (rng (K1.out.2.2.below J.out.2.1)) Tryz.underlying32 rfl infoCh ?_; go_frame)
      obtain ⟨⟨r1, E⟩, hr⟩ : ∃ r, c.row t y.xs = r := ⟨_, rfl⟩
      have HR := Lib.hid hr
      clear hr
      refine (row_is c no nc dO dc t ao cap y.xs _ rfl y.ao y.cap _ (H.out.2.2.2.2.2.2.1.keep (step0 K1.out.1 J.out.2.1)) (H.out.1.keep (step0 K1.out.1 J.out.2.1)) (Y.out.1.1.below (step0 K1.out.1 J.out.2.1)) Y.out.1.2.1 Y.out.1.2.2.2 (H.out.2.2.2.2.2.2.2.1.below (step0 K1.out.1 J.out.2.1)) (H.out.2.2.2.2.1.below (step0 K1.out.1 J.out.2.1)) H.out.2.2.2.2.2.1 Y.out.1.2.2.1 (r1, E) HR.out).mono ?_
      rintro e w3 ⟨⟨ro, rc, rys, rfl, hrx, hrs, hrf⟩, hb3⟩
      simp only at hrx
      have B3 := Lib.hid (And.intro hb3 (And.intro hrx (And.intro hrs hrf)))
      clear hb3 hrx hrs hrf t0 t1 t2 a0
      by_cases hE : E = 0
      · subst hE
        have hrl : rys.length = n := by
          have h1 := congrArg List.length B3.out.2.1
          simp only [rxs, List.length_map] at h1
          have h2 := row_len (c := c) (t := t) (row := y.xs) (by rw [HR.out])
          rw [HR.out, H.out.2.2.2.2.2.2.2.2.1] at h2
          simp only at h2
          omega
        have RL := Lib.hid hrl
        clear hrl
        obtain ⟨w0, hw0⟩ : ∃ w0, w0 = wr := ⟨_, rfl⟩
        subst hw0
        go_wp2
        go_loopw [47] (fun i wr' => ∃ (k : Nat) (zs' : List QV), i = .int .i64 k ∧ k ≤ n ∧ Below Wb.heap.size Wb wr' ∧ w3.heap.size ≤ wr'.heap.size ∧ OwQ wr' Wb.heap.size (.slice (some ⟨g, 0, none⟩) n n) zs' ∧ FitQ wr' Wb.heap.size zs' ∧ zs'.length = n ∧ zs'.map QV.ls = stp (zs.map QV.ls) r1 k ∧ (∀ z ∈ zs', ∀ m, (Value.slice z.ao z.ys.length z.cap).ownBlock = some m → m < w0.heap.size ∨ w3.heap.size ≤ m) ∧ SlR wr' ro rys ∧ FitR wr' Wb.heap.size rys) (fun i _ => n - (intOf i).toNat)
        case atStart =>
          refine ⟨0, zs, rfl, Nat.zero_le _, J.out.2.1.trans (B3.out.1.mono J.out.2.1.size), Nat.le_refl _, J.out.2.2.1.keep B3.out.1, J.out.2.2.2.1.keep B3.out.1, J.out.2.2.2.2.1, (stp_0 _ _).symm, ?_, B3.out.2.2.1, B3.out.2.2.2.1.base J.out.2.1.size⟩
          intro z hz m hm
          exact .inl ((J.out.2.2.2.1.1 z hz).1.lt m hm).2
        case round =>
          obtain ⟨k, zs', rfl, hk, hb', hsz, hO', hF', hzn', hls, hbl, hrs', hrf'⟩ := hrel
          have I := Lib.hid (And.intro hk (And.intro hb' (And.intro hsz (And.intro hO' (And.intro hF' (And.intro hzn' (And.intro hls (And.intro hbl (And.intro hrs' hrf')))))))))
          clear hk hb' hsz hO' hF' hzn' hls hbl hrs' hrf'
          by_cases hkn : k < n
          · have hkz : k < zs'.length := by have := I.out.2.2.2.2.2.1; omega
            have hkr : k < rys.length := by have := RL.out; omega
            obtain ⟨z, hz⟩ : ∃ z, zs'[k] = z := ⟨_, rfl⟩
            have hzk : zs'[k]? = some z := by rw [List.getElem?_eq_getElem hkz, hz]
            obtain ⟨y1, hy1⟩ : ∃ y, rys[k] = y := ⟨_, rfl⟩
            have hyk : rys[k]? = some y1 := by rw [List.getElem?_eq_getElem hkr, hy1]
            obtain ⟨ra, hra, r0'⟩ := I.out.2.2.2.2.2.2.2.2.1 k y1 hyk
            subst hra
            have c1' := I.out.2.2.2.1.at k z hzk
            obtain ⟨Wd, hWd⟩ : ∃ Wd, wr.drew = Wd := ⟨_, rfl⟩
            have bd : Below wr.heap.size wr Wd := hWd ▸ below_drew1 (Below.refl _ wr)
            have sd : Wd.heap.size = wr.heap.size := hWd ▸ rfl
            have c1 := keep0 c1' bd
            have r0 := keep0 r0' bd
            have c2 : ∀ o, (Wd.alloc o).cell? ⟨g, k, none⟩ = some (.slice z.ao z.ys.length z.cap) := fun o => keep0 c1 (below1 _ _)
            have hwk : wrap64 ((k : Int) + 1) = (k : Int) + 1 := by have := H.out.2.2.2.2.2.2.2.2.2.1; exact wrap_in _ (by omega) (by omega)
            have i0 : (0 : Int) ≤ (k : Int) := by omega
            have i1 : (k : Int) < (n : Int) := by omega
            have i2 : (k : Int) < (rys.length : Int) := by omega
            have zlen : z.ys.length ≤ 1000000000 := by
              have h1 := (z_at I.out.2.2.2.2.2.2.1 (by have := congrArg List.length B3.out.2.1; simp only [rxs, List.length_map] at this; have := RL.out; have := J.out.2.2.2.2.1; omega) (by have := J.out.2.2.2.2.1; omega) hzk J.out.2.2.2.2.2.2).2
              have := H.out.2.2.2.1
              omega
            have P := Lib.hid (And.intro hzk (And.intro hyk (And.intro bd sd)))
            clear hz hzk hy1 hyk bd sd c1' r0' hkz hkr
            go_wp2_with fail
            refine wp_region_held_drew (S := fun _ => True) (by kernel_rfl) trivial (fun hH => ?_)
            rw [hWd]
            refine wpAnyH_take (i := 0) (oi := _) (v := .slice (some ⟨g, 0, none⟩) n n) rfl (by kernel_rfl) (by kernel_rfl) (by kernel_rfl) (fun _ _ _ h => h) (Or.inl ⟨by rfl, by intro v hv; go_simp⟩) trivial ?_
            try simp only [Act.put, List.getElem_toArray, List.getElem_cons_succ, List.getElem_cons_zero, List.setIfInBounds_toArray, List.set_cons_zero, List.set_cons_succ]
            refine wpAnyH_take (i := 1) (oi := _) (v := .int .i64 (k : Int)) rfl (by kernel_rfl) (by kernel_rfl) (by kernel_rfl) (fun _ _ _ h => h) (Or.inl ⟨by rfl, by intro v hv; go_simp⟩) trivial ?_
            try simp only [Act.put, List.getElem_toArray, List.getElem_cons_succ, List.getElem_cons_zero, List.setIfInBounds_toArray, List.set_cons_zero, List.set_cons_succ]
            refine wpAnyH_take (i := 2) (oi := _) (v := .slice (some ⟨g, 0, none⟩) n n) rfl (by kernel_rfl) (by kernel_rfl) (by kernel_rfl) (fun _ _ _ h => h) (Or.inl ⟨by rfl, by intro v hv; go_simp⟩) trivial ?_
            try simp only [Act.put, List.getElem_toArray, List.getElem_cons_succ, List.getElem_cons_zero, List.setIfInBounds_toArray, List.set_cons_zero, List.set_cons_succ]
            refine wpAnyH_take (i := 3) (oi := _) (v := .int .i64 (k : Int)) rfl (by kernel_rfl) (by kernel_rfl) (by kernel_rfl) (fun _ _ _ h => h) (Or.inl ⟨by rfl, by intro v hv; go_simp⟩) trivial ?_
            try simp only [Act.put, List.getElem_toArray, List.getElem_cons_succ, List.getElem_cons_zero, List.setIfInBounds_toArray, List.set_cons_zero, List.set_cons_succ]
            refine wpAnyH_take (i := 4) (oi := _) (v := .pointer (some ⟨g, k, none⟩)) rfl (by kernel_rfl) (by kernel_rfl) (by kernel_rfl) (fun _ _ _ h => h) (Or.inl ⟨by rfl, by intro v hv; go_simp⟩) trivial ?_
            try simp only [Act.put, List.getElem_toArray, List.getElem_cons_succ, List.getElem_cons_zero, List.setIfInBounds_toArray, List.set_cons_zero, List.set_cons_succ]
            refine wpAnyH_take (i := 6) (oi := _) (v := .slice (some ra) rys.length rc) rfl (by kernel_rfl) (by kernel_rfl) (by kernel_rfl) (fun _ _ _ h => h) (Or.inl ⟨by rfl, by intro v hv; go_simp⟩) trivial ?_
            try simp only [Act.put, List.getElem_toArray, List.getElem_cons_succ, List.getElem_cons_zero, List.setIfInBounds_toArray, List.set_cons_zero, List.set_cons_succ]
            refine wpAnyH_take (i := 7) (oi := _) (v := .int .i64 (k : Int)) rfl (by kernel_rfl) (by kernel_rfl) (by kernel_rfl) (fun _ _ _ h => h) (Or.inl ⟨by rfl, by intro v hv; go_simp⟩) trivial ?_
            try simp only [Act.put, List.getElem_toArray, List.getElem_cons_succ, List.getElem_cons_zero, List.setIfInBounds_toArray, List.set_cons_zero, List.set_cons_succ]
            refine wpAnyH_take (i := 8) (oi := _) (v := .pointer (some (ra.add k))) rfl (by kernel_rfl) (by kernel_rfl) (by kernel_rfl) (fun _ _ _ h => h) (Or.inl ⟨by rfl, by intro v hv; go_simp⟩) trivial ?_
            try simp only [Act.put, List.getElem_toArray, List.getElem_cons_succ, List.getElem_cons_zero, List.setIfInBounds_toArray, List.set_cons_zero, List.set_cons_succ]
            have ZL := Lib.hid (show z.ys.length ≤ 1000000000 from zlen)
            clear zlen
            refine wpAnyH_ready (rs := [5, 9]) (by kernel_rfl) (by simp) ?_
            refine AllReadyH.cons (o := _) rfl (fun K' hK => ?_) (AllReadyH.cons (o := _) rfl (fun K' hK => ?_) AllReadyH.nil)
            · go_simp
              refine hK.out _ _ trivial (fun _ => ?_)
              clear hK K'
              try simp only [Act.put, List.getElem_toArray, List.getElem_cons_succ, List.getElem_cons_zero, List.setIfInBounds_toArray, List.set_cons_zero, List.set_cons_succ]
              refine wpAnyH_ready (rs := [9]) (by kernel_rfl) (by simp) ?_
              refine AllReadyH.cons (o := _) rfl (fun K' hK => ?_) AllReadyH.nil
              go_simp
              refine hK.out _ _ trivial (fun _ => ?_)
              clear hK K'
              try simp only [Act.put, List.getElem_toArray, List.getElem_cons_succ, List.getElem_cons_zero, List.setIfInBounds_toArray, List.set_cons_zero, List.set_cons_succ]
              refine wpAnyH_ready (rs := [10]) (by kernel_rfl) (by simp) ?_
              refine AllReadyH.cons (o := _) rfl (fun K' hK => ?_) AllReadyH.nil
              go_simp
              refine hK.out _ _ trivial (fun _ => ?_)
              clear hK K'
              try simp only [Act.put, List.getElem_toArray, List.getElem_cons_succ, List.getElem_cons_zero, List.setIfInBounds_toArray, List.set_cons_zero, List.set_cons_succ]
              clear c1 c2 r0
              refine wpAnyH_ready (rs := [11]) (by kernel_rfl) (by simp) ?_
              refine AllReadyH.cons (o := _) rfl (fun K' hK => ?_) AllReadyH.nil
              refine step_appR rfl (.tmp 55) (.tmp 60) rfl Wb.heap.size (.slice z.ao z.ys.length z.cap) z.ys y1 Wd.heap.size (by simp [Act.eval, Act.put]) (by simp [Act.eval, Act.put]) (((I.out.2.2.2.2.1.1 z (List.mem_of_getElem? P.out.1)).1.keep P.out.2.2.1).keep (below1 _ _)) (Blk.new Wd _ _) ZL.out (by have := I.out.2.1.size; have := P.out.2.2.2; simp; omega) ?_
              intro v' w4 hOR hgr hbk
              refine hK.out _ _ trivial (fun _ => ?_)
              clear hK K'
              obtain ⟨Z1, hZ1⟩ : ∃ Z1, z.ys ++ [y1] = Z1 := ⟨_, rfl⟩
              rw [hZ1] at hOR
              obtain ⟨vo, vc, rfl, _, _⟩ := hOR.sl
              have hQ4 := ((I.out.2.2.2.1.keep P.out.2.2.1).keep (below1 Wd (.cells #[.slice y1.ao y1.xs.length y1.cap] 33))).kept hgr (((I.out.2.2.2.2.1.1 z (List.mem_of_getElem? P.out.1)).1.keep P.out.2.2.1).keep (below1 Wd (.cells #[.slice y1.ao y1.xs.length y1.cap] 33)) |>.type (by decide))
              have d1 := hQ4.at k z P.out.1
              have hst := hQ4.store I.out.2.2.2.2.2.1.symm k ⟨Z1, vo, vc⟩
              have d2 := hst.2.2.2.1 k
              have G := Lib.hid (And.intro hOR (And.intro hgr (And.intro hbk (And.intro hZ1 (And.intro hQ4 hst)))))
              clear hOR hgr hbk hZ1 hQ4 hst
              try simp only [Act.put, List.getElem_toArray, List.getElem_cons_succ, List.getElem_cons_zero, List.setIfInBounds_toArray, List.set_cons_zero, List.set_cons_succ]
              refine wpAnyH_take (i := 12) (oi := _) (v := .pointer (some ⟨g, k, none⟩)) rfl (by kernel_rfl) (by kernel_rfl) (by kernel_rfl) (fun _ _ _ h => h) (Or.inl ⟨by rfl, by intro v hv; go_simp⟩) trivial ?_
              try simp only [Act.put, List.getElem_toArray, List.getElem_cons_succ, List.getElem_cons_zero, List.setIfInBounds_toArray, List.set_cons_zero, List.set_cons_succ]
              refine wpAnyH_ready (rs := [13]) (by kernel_rfl) (by simp) ?_
              refine AllReadyH.cons (o := _) rfl (fun K' hK => ?_) AllReadyH.nil
              go_simp
              refine hK.out _ _ trivial (fun _ => ?_)
              clear hK K'
              try simp only [Act.put, List.getElem_toArray, List.getElem_cons_succ, List.getElem_cons_zero, List.setIfInBounds_toArray, List.set_cons_zero, List.set_cons_succ]
              refine wpAnyH_done (by kernel_rfl) ?_ _
              go_wp2
              go_roundw
              case rel => exact ⟨k + 1, zs'.set k ⟨Z1, vo, vc⟩, by go_num, hkn, inner J.out.2.2.2.2.1 I.out P.out.1 P.out.2.1 P.out.2.2.1 P.out.2.2.2 G.out RL.out hkn B3.out.2.1 B3.out.2.2.2.2 B3.out.2.2.1 B3.out.1 (J.out.2.2.1.lt g rfl).2⟩
              case measure => rw [hwk]; simp [intOf]; omega
            · go_simp
              refine hK.out _ _ trivial (fun _ => ?_)
              clear hK K'
              try simp only [Act.put, List.getElem_toArray, List.getElem_cons_succ, List.getElem_cons_zero, List.setIfInBounds_toArray, List.set_cons_zero, List.set_cons_succ]
              refine wpAnyH_ready (rs := [5, 10]) (by kernel_rfl) (by simp) ?_
              refine AllReadyH.cons (o := _) rfl (fun K' hK => ?_) (AllReadyH.cons (o := _) rfl (fun K' hK => ?_) AllReadyH.nil)
              · go_simp
                refine hK.out _ _ trivial (fun _ => ?_)
                clear hK K'
                try simp only [Act.put, List.getElem_toArray, List.getElem_cons_succ, List.getElem_cons_zero, List.setIfInBounds_toArray, List.set_cons_zero, List.set_cons_succ]
                refine wpAnyH_ready (rs := [10]) (by kernel_rfl) (by simp) ?_
                refine AllReadyH.cons (o := _) rfl (fun K' hK => ?_) AllReadyH.nil
                go_simp
                refine hK.out _ _ trivial (fun _ => ?_)
                clear hK K'
                try simp only [Act.put, List.getElem_toArray, List.getElem_cons_succ, List.getElem_cons_zero, List.setIfInBounds_toArray, List.set_cons_zero, List.set_cons_succ]
                clear c1 c2 r0
                refine wpAnyH_ready (rs := [11]) (by kernel_rfl) (by simp) ?_
                refine AllReadyH.cons (o := _) rfl (fun K' hK => ?_) AllReadyH.nil
                refine step_appR rfl (.tmp 55) (.tmp 60) rfl Wb.heap.size (.slice z.ao z.ys.length z.cap) z.ys y1 Wd.heap.size (by simp [Act.eval, Act.put]) (by simp [Act.eval, Act.put]) (((I.out.2.2.2.2.1.1 z (List.mem_of_getElem? P.out.1)).1.keep P.out.2.2.1).keep (below1 _ _)) (Blk.new Wd _ _) ZL.out (by have := I.out.2.1.size; have := P.out.2.2.2; simp; omega) ?_
                intro v' w4 hOR hgr hbk
                refine hK.out _ _ trivial (fun _ => ?_)
                clear hK K'
                obtain ⟨Z1, hZ1⟩ : ∃ Z1, z.ys ++ [y1] = Z1 := ⟨_, rfl⟩
                rw [hZ1] at hOR
                obtain ⟨vo, vc, rfl, _, _⟩ := hOR.sl
                have hQ4 := ((I.out.2.2.2.1.keep P.out.2.2.1).keep (below1 Wd (.cells #[.slice y1.ao y1.xs.length y1.cap] 33))).kept hgr (((I.out.2.2.2.2.1.1 z (List.mem_of_getElem? P.out.1)).1.keep P.out.2.2.1).keep (below1 Wd (.cells #[.slice y1.ao y1.xs.length y1.cap] 33)) |>.type (by decide))
                have d1 := hQ4.at k z P.out.1
                have hst := hQ4.store I.out.2.2.2.2.2.1.symm k ⟨Z1, vo, vc⟩
                have d2 := hst.2.2.2.1 k
                have G := Lib.hid (And.intro hOR (And.intro hgr (And.intro hbk (And.intro hZ1 (And.intro hQ4 hst)))))
                clear hOR hgr hbk hZ1 hQ4 hst
                try simp only [Act.put, List.getElem_toArray, List.getElem_cons_succ, List.getElem_cons_zero, List.setIfInBounds_toArray, List.set_cons_zero, List.set_cons_succ]
                refine wpAnyH_take (i := 12) (oi := _) (v := .pointer (some ⟨g, k, none⟩)) rfl (by kernel_rfl) (by kernel_rfl) (by kernel_rfl) (fun _ _ _ h => h) (Or.inl ⟨by rfl, by intro v hv; go_simp⟩) trivial ?_
                try simp only [Act.put, List.getElem_toArray, List.getElem_cons_succ, List.getElem_cons_zero, List.setIfInBounds_toArray, List.set_cons_zero, List.set_cons_succ]
                refine wpAnyH_ready (rs := [13]) (by kernel_rfl) (by simp) ?_
                refine AllReadyH.cons (o := _) rfl (fun K' hK => ?_) AllReadyH.nil
                go_simp
                refine hK.out _ _ trivial (fun _ => ?_)
                clear hK K'
                try simp only [Act.put, List.getElem_toArray, List.getElem_cons_succ, List.getElem_cons_zero, List.setIfInBounds_toArray, List.set_cons_zero, List.set_cons_succ]
                refine wpAnyH_done (by kernel_rfl) ?_ _
                go_wp2
                go_roundw
                case rel => exact ⟨k + 1, zs'.set k ⟨Z1, vo, vc⟩, by go_num, hkn, inner J.out.2.2.2.2.1 I.out P.out.1 P.out.2.1 P.out.2.2.1 P.out.2.2.2 G.out RL.out hkn B3.out.2.1 B3.out.2.2.2.2 B3.out.2.2.1 B3.out.1 (J.out.2.2.1.lt g rfl).2⟩
                case measure => rw [hwk]; simp [intOf]; omega
              · go_simp
                refine hK.out _ _ trivial (fun _ => ?_)
                clear hK K'
                try simp only [Act.put, List.getElem_toArray, List.getElem_cons_succ, List.getElem_cons_zero, List.setIfInBounds_toArray, List.set_cons_zero, List.set_cons_succ]
                refine wpAnyH_ready (rs := [5]) (by kernel_rfl) (by simp) ?_
                refine AllReadyH.cons (o := _) rfl (fun K' hK => ?_) AllReadyH.nil
                go_simp
                refine hK.out _ _ trivial (fun _ => ?_)
                clear hK K'
                try simp only [Act.put, List.getElem_toArray, List.getElem_cons_succ, List.getElem_cons_zero, List.setIfInBounds_toArray, List.set_cons_zero, List.set_cons_succ]
                clear c1 c2 r0
                refine wpAnyH_ready (rs := [11]) (by kernel_rfl) (by simp) ?_
                refine AllReadyH.cons (o := _) rfl (fun K' hK => ?_) AllReadyH.nil
                refine step_appR rfl (.tmp 55) (.tmp 60) rfl Wb.heap.size (.slice z.ao z.ys.length z.cap) z.ys y1 Wd.heap.size (by simp [Act.eval, Act.put]) (by simp [Act.eval, Act.put]) (((I.out.2.2.2.2.1.1 z (List.mem_of_getElem? P.out.1)).1.keep P.out.2.2.1).keep (below1 _ _)) (Blk.new Wd _ _) ZL.out (by have := I.out.2.1.size; have := P.out.2.2.2; simp; omega) ?_
                intro v' w4 hOR hgr hbk
                refine hK.out _ _ trivial (fun _ => ?_)
                clear hK K'
                obtain ⟨Z1, hZ1⟩ : ∃ Z1, z.ys ++ [y1] = Z1 := ⟨_, rfl⟩
                rw [hZ1] at hOR
                obtain ⟨vo, vc, rfl, _, _⟩ := hOR.sl
                have hQ4 := ((I.out.2.2.2.1.keep P.out.2.2.1).keep (below1 Wd (.cells #[.slice y1.ao y1.xs.length y1.cap] 33))).kept hgr (((I.out.2.2.2.2.1.1 z (List.mem_of_getElem? P.out.1)).1.keep P.out.2.2.1).keep (below1 Wd (.cells #[.slice y1.ao y1.xs.length y1.cap] 33)) |>.type (by decide))
                have d1 := hQ4.at k z P.out.1
                have hst := hQ4.store I.out.2.2.2.2.2.1.symm k ⟨Z1, vo, vc⟩
                have d2 := hst.2.2.2.1 k
                have G := Lib.hid (And.intro hOR (And.intro hgr (And.intro hbk (And.intro hZ1 (And.intro hQ4 hst)))))
                clear hOR hgr hbk hZ1 hQ4 hst
                try simp only [Act.put, List.getElem_toArray, List.getElem_cons_succ, List.getElem_cons_zero, List.setIfInBounds_toArray, List.set_cons_zero, List.set_cons_succ]
                refine wpAnyH_take (i := 12) (oi := _) (v := .pointer (some ⟨g, k, none⟩)) rfl (by kernel_rfl) (by kernel_rfl) (by kernel_rfl) (fun _ _ _ h => h) (Or.inl ⟨by rfl, by intro v hv; go_simp⟩) trivial ?_
                try simp only [Act.put, List.getElem_toArray, List.getElem_cons_succ, List.getElem_cons_zero, List.setIfInBounds_toArray, List.set_cons_zero, List.set_cons_succ]
                refine wpAnyH_ready (rs := [13]) (by kernel_rfl) (by simp) ?_
                refine AllReadyH.cons (o := _) rfl (fun K' hK => ?_) AllReadyH.nil
                go_simp
                refine hK.out _ _ trivial (fun _ => ?_)
                clear hK K'
                try simp only [Act.put, List.getElem_toArray, List.getElem_cons_succ, List.getElem_cons_zero, List.setIfInBounds_toArray, List.set_cons_zero, List.set_cons_succ]
                refine wpAnyH_done (by kernel_rfl) ?_ _
                go_wp2
                go_roundw
                case rel => exact ⟨k + 1, zs'.set k ⟨Z1, vo, vc⟩, by go_num, hkn, inner J.out.2.2.2.2.1 I.out P.out.1 P.out.2.1 P.out.2.2.1 P.out.2.2.2 G.out RL.out hkn B3.out.2.1 B3.out.2.2.2.2 B3.out.2.2.1 B3.out.1 (J.out.2.2.1.lt g rfl).2⟩
                case measure => rw [hwk]; simp [intOf]; omega
          · obtain rfl : k = n := by have := I.out.1; omega
            go_wp2
            go_roundw
            case rel =>
              refine ⟨j + 1, zs', by go_num, hlt, I.out.2.1, I.out.2.2.2.1, I.out.2.2.2.2.1, I.out.2.2.2.2.2.1, ?_, ?_⟩
              · have e1 : (rxs l)[j]'(by simpa [rxs] using hlt) = y.xs := (List.getElem?_eq_some_iff.1 Y.out.2).2
                rw [J.out.2.2.2.2.2.1, rws_next (by simpa [rxs] using hlt) (by rw [e1, HR.out]), e1, HR.out, I.out.2.2.2.2.2.2.1]
                have hL : (zs.map QV.ls).length = k := by simpa using J.out.2.2.2.2.1
                have hr1 : r1.length = (zs.map QV.ls).length := by
                  rw [hL, ← RL.out, ← B3.out.2.1]; simp [rxs]
                have := stp_all hr1
                rw [hL] at this
                rw [this]
              · intro z hz
                have hlen : z.ls.length ≤ j + 1 := by
                  have hm : z.ls ∈ zs'.map QV.ls := List.mem_map_of_mem hz
                  rw [I.out.2.2.2.2.2.2.1] at hm
                  exact stp_bound (fun x hx => by obtain ⟨u, hu, rfl⟩ := List.mem_map.1 hx; simpa [QV.ls, rxs] using J.out.2.2.2.2.2.2 u hu) _ hm
                simpa [QV.ls, rxs] using hlen
            case measure => rw [hw]; simp [intOf]; omega
      · have e0 := bne_t hE
        have HE := Lib.hid hE
        clear hE
        have hstop : R = ([], (j : Int), E) := by
          have e1 : (rxs l)[j]'(by simpa [rxs] using hlt) = y.xs := (List.getElem?_eq_some_iff.1 Y.out.2).2
          rw [← HRw.out, J.out.2.2.2.2.2.1, rws_stop (by simpa [rxs] using hlt) (by rw [e1, HR.out]; exact HE.out), e1, HR.out]
        have ST := Lib.hid hstop
        clear hstop
        go_wp2
        go_ret3
        exact ⟨QQ.bad ST.out, step0 K1.out.1 (J.out.2.1.trans (B3.out.1.mono J.out.2.1.size))⟩
    · obtain rfl : j = l.length := by have := J.out.1; omega
      have hend : R = (zs.map QV.ls, 0, 0) := by
        have hl : (rxs l).length = l.length := by simp [rxs]
        have := rws_end (c := c) (t := t) (l := rxs l) (out := zs.map QV.ls)
        rw [hl] at this
        rw [← HRw.out, J.out.2.2.2.2.2.1, this]
      have ST := Lib.hid hend
      clear hend
      go_wp2
      go_ret3
      refine ⟨⟨some ⟨g, 0, none⟩, n, zs, ?_, by rw [ST.out], ?_, ?_⟩, step0 K1.out.1 J.out.2.1⟩
      · rw [ST.out, J.out.2.2.2.2.1]; rfl
      · obtain ⟨ao', cap', e, _, hq⟩ := J.out.2.2.1.sl
        injection e with e1 _ _
        rw [e1]
        exact hq
      · intro z hz
        obtain ⟨ao', cap', e, _, hq⟩ := (J.out.2.2.2.1.1 z hz).1.sl
        injection e with e1 _ _
        exact ⟨by rw [e1]; exact hq, (J.out.2.2.2.1.1 z hz).2.in⟩

set_option maxHeartbeats 4000000 in
set_option maxRecDepth 100000 in
theorem rows_n0 (c : Ch) (no : Option Addr) (nc : Nat) (dO : Option Addr) (dc : Nat) (t : T) (ao : Option Addr) (cap : Nat) (lo : Option Addr) (lc : Nat) (w : World) (hn : kn c.kind = 0) :
    Calls Tryz.prog 14 #[.agg #[.string ⟨t.name.toArray⟩, .int .i64 t.keys, .slice ao t.cs.length cap], .agg #[.int .i64 c.kind, .string ⟨c.table.toArray⟩, .string ⟨c.other.toArray⟩, .string ⟨c.to.toArray⟩, .string ⟨c.also.toArray⟩, .string ⟨c.name.toArray⟩, .int .i64 c.type, .slice no c.names.length nc, .string ⟨c.col.name.toArray⟩, .int .i64 c.col.kind, .bool c.col.null, .int .i64 c.col.d.k, .int .i64 c.col.d.n, .int .u64 c.col.d.b, .string ⟨c.col.d.s.toArray⟩, .string ⟨c.df.name.toArray⟩, .int .i64 c.df.keys, .slice dO c.df.cs.length dc], .slice lo 0 lc] w fun e w' => e = .returned (.tuple #[.slice none 0 0, .int .i64 0, .int .i64 1]) ∧ Below w.heap.size w w' := by
  obtain ⟨n, hnn⟩ : ∃ n, kn c.kind = n := ⟨_, rfl⟩
  obtain rfl : n = 0 := by omega
  have HN := Lib.hid hnn
  clear hnn hn
  go_enter Tryz.func14, Tryz.ntmps14
  go_wp2_with fail
  refine (targetsN_is c.kind 0 _ HN.out).mono ?_
  rintro e w1 ⟨rfl, rfl⟩
  obtain ⟨Wb, hWb⟩ : ∃ Wb, (w.alloc (.cells #[.string ⟨t.name.toArray⟩, .int .i64 t.keys, .slice ao t.cs.length cap] 24)).alloc (.cells #[.int .i64 c.kind, .string ⟨c.table.toArray⟩, .string ⟨c.other.toArray⟩, .string ⟨c.to.toArray⟩, .string ⟨c.also.toArray⟩, .string ⟨c.name.toArray⟩, .int .i64 c.type, .slice no c.names.length nc, .string ⟨c.col.name.toArray⟩, .int .i64 c.col.kind, .bool c.col.null, .int .i64 c.col.d.k, .int .i64 c.col.d.n, .int .u64 c.col.d.b, .string ⟨c.col.d.s.toArray⟩, .string ⟨c.df.name.toArray⟩, .int .i64 c.df.keys, .slice dO c.df.cs.length dc] 32) = Wb := ⟨_, rfl⟩
  have K1 := Lib.hid (show Below w.heap.size w Wb from hWb ▸ below2s w _ _)
  go_wp2_with (refine makeQ _ rfl _ _ rfl _ _ _ _ 0 rfl rfl rfl rfl (by have := kn_le c.kind; have := HN.out; omega) ?_; intro g w2 hg hO hb; have M := Lib.hid (And.intro hO (And.intro hb hg)); clear hO hb hg; go_frame)
  go_ret3
  exact ⟨rfl, step0 K1.out M.out.2.1⟩

set_option maxHeartbeats 4000000 in
set_option maxRecDepth 100000 in
theorem rows_n1 (c : Ch) (no : Option Addr) (nc : Nat) (dO : Option Addr) (dc : Nat) (t : T) (ao : Option Addr) (cap : Nat) (lo : Option Addr) (lc : Nat) (w : World) (h0 : kn c.kind ≠ 0) :
    Calls Tryz.prog 14 #[.agg #[.string ⟨t.name.toArray⟩, .int .i64 t.keys, .slice ao t.cs.length cap], .agg #[.int .i64 c.kind, .string ⟨c.table.toArray⟩, .string ⟨c.other.toArray⟩, .string ⟨c.to.toArray⟩, .string ⟨c.also.toArray⟩, .string ⟨c.name.toArray⟩, .int .i64 c.type, .slice no c.names.length nc, .string ⟨c.col.name.toArray⟩, .int .i64 c.col.kind, .bool c.col.null, .int .i64 c.col.d.k, .int .i64 c.col.d.n, .int .u64 c.col.d.b, .string ⟨c.col.d.s.toArray⟩, .string ⟨c.df.name.toArray⟩, .int .i64 c.df.keys, .slice dO c.df.cs.length dc], .slice lo 0 lc] w fun e w' => QQ w' e (List.replicate (kn c.kind) [], 0, 0) ∧ Below w.heap.size w w' := by
  obtain ⟨n, hnn⟩ : ∃ n, kn c.kind = n := ⟨_, rfl⟩
  rw [hnn] at h0 ⊢
  have z1 : ((n : Int) == 0) = false := beq_f (by omega)
  have z2 : (n == 0) = false := by simp [h0]
  have HN := Lib.hid hnn
  clear hnn h0
  go_enter Tryz.func14, Tryz.ntmps14
  go_wp2_with fail
  refine (targetsN_is c.kind n _ HN.out).mono ?_
  rintro e w1 ⟨rfl, rfl⟩
  obtain ⟨Wb, hWb⟩ : ∃ Wb, (w.alloc (.cells #[.string ⟨t.name.toArray⟩, .int .i64 t.keys, .slice ao t.cs.length cap] 24)).alloc (.cells #[.int .i64 c.kind, .string ⟨c.table.toArray⟩, .string ⟨c.other.toArray⟩, .string ⟨c.to.toArray⟩, .string ⟨c.also.toArray⟩, .string ⟨c.name.toArray⟩, .int .i64 c.type, .slice no c.names.length nc, .string ⟨c.col.name.toArray⟩, .int .i64 c.col.kind, .bool c.col.null, .int .i64 c.col.d.k, .int .i64 c.col.d.n, .int .u64 c.col.d.b, .string ⟨c.col.d.s.toArray⟩, .string ⟨c.df.name.toArray⟩, .int .i64 c.df.keys, .slice dO c.df.cs.length dc] 32) = Wb := ⟨_, rfl⟩
  have K1 := Lib.hid (show Below w.heap.size w Wb from hWb ▸ below2s w _ _)
  go_wp2_with (refine makeQ _ rfl _ _ rfl _ _ _ _ n rfl rfl rfl rfl (by have := kn_le c.kind; have := HN.out; omega) ?_; intro g w2 hg hO hb; have M := Lib.hid (And.intro hO (And.intro hb hg)); clear hO hb hg; go_frame)
  go_loopw [29] (fun i wr => i = .int .i64 0 ∧ wr = w2) (fun _ _ => 0)
  case atStart => exact ⟨rfl, rfl⟩
  case round =>
    obtain ⟨rfl, rfl⟩ := hrel
    go_wp2
    go_ret3
    refine ⟨⟨some ⟨g, 0, none⟩, n, List.replicate n QV0, ?_, by simp [QV0, QV.ls, rxs], ?_, ?_⟩, step0 K1.out M.out.2.1⟩
    · rw [List.length_replicate]; rfl
    · obtain ⟨ao', cap', e, _, hq⟩ := M.out.1.sl
      injection e with e1 _ _
      rw [e1]
      exact hq
    · intro z hz
      obtain rfl := (List.mem_replicate.1 hz).2
      exact ⟨SlR.nil _ _, fun y hy => by simp [QV0] at hy⟩

/-- What Rows tells of any table, change and rows. -/
theorem rows_is (c : Ch) (no : Option Addr) (nc : Nat) (dO : Option Addr) (dc : Nat) (t : T) (ao : Option Addr) (cap : Nat) (l : List RV) (lo : Option Addr) (lc : Nat) (w : World) (hg : Env w) (hG : Km.Env w) (hT : At3 w t ao cap) (hl : SlR w lo l) (hIn : ∀ y ∈ l, Sl w y.ao y.xs ∧ y.xs.length ≤ 30 ∧ y.xs.length ≤ y.cap ∧ ∀ x ∈ y.xs, x.ok) (hm : l.length ≤ 30) (hns : SlS w no c.names) (hnl : c.names.length ≤ 1000) (R : List (List (List V)) × Int × Int) (hR : c.rows t (rxs l) = R) :
    Calls Tryz.prog 14 #[.agg #[.string ⟨t.name.toArray⟩, .int .i64 t.keys, .slice ao t.cs.length cap], .agg #[.int .i64 c.kind, .string ⟨c.table.toArray⟩, .string ⟨c.other.toArray⟩, .string ⟨c.to.toArray⟩, .string ⟨c.also.toArray⟩, .string ⟨c.name.toArray⟩, .int .i64 c.type, .slice no c.names.length nc, .string ⟨c.col.name.toArray⟩, .int .i64 c.col.kind, .bool c.col.null, .int .i64 c.col.d.k, .int .i64 c.col.d.n, .int .u64 c.col.d.b, .string ⟨c.col.d.s.toArray⟩, .string ⟨c.df.name.toArray⟩, .int .i64 c.df.keys, .slice dO c.df.cs.length dc], .slice lo l.length lc] w fun e w' => QQ w' e R ∧ Below w.heap.size w w' := by
  subst hR
  have hll : (rxs l).length = l.length := by simp [rxs]
  unfold Ch.rows
  rw [hll]
  by_cases h0 : l.length = 0
  · obtain rfl := List.eq_nil_of_length_eq_zero h0
    by_cases hn : kn c.kind = 0
    · rw [if_pos ⟨rfl, hn⟩]
      refine (rows_n0 c no nc dO dc t ao cap lo lc w hn).mono ?_
      rintro e w1 ⟨rfl, hb⟩
      exact ⟨QQ.bad rfl, hb⟩
    · rw [if_neg (fun h => hn h.2)]
      exact rows_n1 c no nc dO dc t ao cap lo lc w hn
  · rw [if_neg (fun h => h0 h.1)]
    exact rows_go c no nc dO dc t ao cap l lo lc w hg hG hT hl hIn hm hns hnl h0

end Go.Proofs.YtdonmbmahcjfbaaGreatDoor

namespace Go.Proofs.YtdonmbmahcjfbaaGreatDoor
open Go.RowKit
set_option linter.unusedVariables false

/-- Not too great. -/
def Tb (t : T) : Prop := t.cs.length ≤ 20 ∧ t.name.length ≤ 500 ∧ ∀ c ∈ t.cs, c.name.length ≤ 500 ∧ c.d.s.length ≤ 2000
set_option maxHeartbeats 4000000 in
theorem tfew_yes (nm : List UInt8) (ks : Int) (cs : List C) (ao : Option Addr) (cap : Nat) (w : World) (h : SlC w ao cs) (hl : cs.length ≤ 20) (hn : nm.length ≤ 500) (hs : ∀ c ∈ cs, c.name.length ≤ 500 ∧ c.d.s.length ≤ 2000) :
    Calls Tryz.prog 6 #[.agg #[.string ⟨nm.toArray⟩, .int .i64 ks, .slice ao cs.length cap]] w fun e w' => e = .returned (.int .i64 1) ∧ Below w.heap.size w w' := by
  have l1 : decide ((20 : Int) < (cs.length : Int)) = false := by rw [decide_eq_false_iff_not]; omega
  have l2 : decide ((500 : Int) < (nm.length : Int)) = false := by rw [decide_eq_false_iff_not]; omega
  have H := Lib.hid (And.intro h (And.intro hl hs))
  clear h hl hs hn
  go_enter Tryz.func6, Tryz.ntmps6
  go_wp2
  go_loopw [3] (fun i wr => ∃ j : Nat, i = .int .i64 j ∧ j ≤ cs.length ∧ Below w.heap.size w wr ∧ Blk wr w.heap.size #[.string ⟨nm.toArray⟩, .int .i64 ks, .slice ao cs.length cap] 24) (fun i _ => cs.length - (intOf i).toNat)
  case atStart => exact ⟨0, rfl, Nat.zero_le _, below1 _ _, Blk.new _ _ _⟩
  case round =>
    obtain ⟨j, rfl, hj, hbel, hbl⟩ := hrel
    obtain ⟨t0, t1, t2⟩ := hbl.t3
    have J := Lib.hid (And.intro hbel hbl)
    clear hbel hbl
    by_cases hlt : j < cs.length
    · obtain ⟨a, rfl, h0, h1, h2, h3, h4, h5, h6⟩ := H.out.1.below J.out.1 j cs[j] (List.getElem?_eq_getElem hlt)
      have hw : wrap64 ((j : Int) + 1) = (j : Int) + 1 := by have := H.out.2.1; exact wrap_in _ (by omega) (by omega)
      have HS := Lib.hid (H.out.2.2 _ (List.getElem_mem hlt))
      have q1 : decide ((500 : Int) < (cs[j].name.length : Int)) = false := by have := HS.out; rw [decide_eq_false_iff_not]; omega
      go_wp2_with fail
      refine (few_1 _ _ _ _ _ HS.out.2).mono ?_
      rintro e w1 ⟨rfl, hb⟩
      have K := Lib.hid (And.intro (step0 J.out.1 hb) (J.out.2.below hb))
      clear hb
      go_wp2
      go_roundw
      case rel => exact ⟨j + 1, by go_num, hlt, K.out.1, K.out.2⟩
      case measure => rw [hw]; simp [intOf]; omega
    · obtain rfl : j = cs.length := by omega
      go_wp2
      go_ret
      exact ⟨rfl, J.out.1⟩

set_option maxHeartbeats 4000000 in
theorem tfew_cols (nm : List UInt8) (ks : Int) (cs : List C) (ao : Option Addr) (cap : Nat) (w : World) (h : SlC w ao cs) (hl : cs.length ≤ 20) (hn : nm.length ≤ 500) (hs : ¬ ∀ c ∈ cs, c.name.length ≤ 500 ∧ c.d.s.length ≤ 2000) :
    Calls Tryz.prog 6 #[.agg #[.string ⟨nm.toArray⟩, .int .i64 ks, .slice ao cs.length cap]] w fun e w' => e = .returned (.int .i64 0) ∧ Below w.heap.size w w' := by
  have l1 : decide ((20 : Int) < (cs.length : Int)) = false := by rw [decide_eq_false_iff_not]; omega
  have l2 : decide ((500 : Int) < (nm.length : Int)) = false := by rw [decide_eq_false_iff_not]; omega
  have H := Lib.hid (And.intro h (And.intro hl hs))
  clear h hl hs hn
  go_enter Tryz.func6, Tryz.ntmps6
  go_wp2
  go_loopw [3] (fun i wr => ∃ j : Nat, i = .int .i64 j ∧ j ≤ cs.length ∧ Below w.heap.size w wr ∧ Blk wr w.heap.size #[.string ⟨nm.toArray⟩, .int .i64 ks, .slice ao cs.length cap] 24 ∧ ∀ c ∈ cs.take j, c.name.length ≤ 500 ∧ c.d.s.length ≤ 2000) (fun i _ => cs.length - (intOf i).toNat)
  case atStart => exact ⟨0, rfl, Nat.zero_le _, below1 _ _, Blk.new _ _ _, by simp⟩
  case round =>
    obtain ⟨j, rfl, hj, hbel, hbl, hall⟩ := hrel
    obtain ⟨t0, t1, t2⟩ := hbl.t3
    have J := Lib.hid (And.intro hbel (And.intro hbl hall))
    clear hbel hbl hall
    by_cases hlt : j < cs.length
    · obtain ⟨a, rfl, h0, h1, h2, h3, h4, h5, h6⟩ := H.out.1.below J.out.1 j cs[j] (List.getElem?_eq_getElem hlt)
      have hw : wrap64 ((j : Int) + 1) = (j : Int) + 1 := by have := H.out.2.1; exact wrap_in _ (by omega) (by omega)
      by_cases hn1 : cs[j].name.length ≤ 500
      · have q1 : decide ((500 : Int) < (cs[j].name.length : Int)) = false := by rw [decide_eq_false_iff_not]; omega
        by_cases hn2 : cs[j].d.s.length ≤ 2000
        · have HS := Lib.hid (And.intro hn1 hn2)
          clear hn1 hn2
          go_wp2_with fail
          refine (few_1 _ _ _ _ _ HS.out.2).mono ?_
          rintro e w1 ⟨rfl, hb⟩
          have K := Lib.hid (And.intro (step0 J.out.1 hb) (J.out.2.1.below hb))
          clear hb
          go_wp2
          go_roundw
          case rel => exact ⟨j + 1, by go_num, hlt, K.out.1, K.out.2, take_all hlt J.out.2.2 HS.out⟩
          case measure => rw [hw]; simp [intOf]; omega
        · have HS := Lib.hid hn2
          clear hn1 hn2
          go_wp2_with fail
          refine (few_0 _ _ _ _ _ (Nat.lt_of_not_le HS.out)).mono ?_
          rintro e w1 ⟨rfl, hb⟩
          have K := Lib.hid (step0 J.out.1 hb)
          clear hb
          go_wp2
          go_ret
          exact ⟨rfl, K.out⟩
      · have q1 : (500 : Int) < (cs[j].name.length : Int) := by omega
        clear hn1
        go_wp2
        go_ret
        exact ⟨rfl, J.out.1⟩
    · exfalso
      refine H.out.2.2 ?_
      have := J.out.2.2
      rwa [List.take_of_length_le (by omega)] at this

theorem tfew_many (nm : List UInt8) (ks : Int) (cs : List C) (ao : Option Addr) (cap : Nat) (w : World) (hl : 20 < (cs.length : Int)) :
    Calls Tryz.prog 6 #[.agg #[.string ⟨nm.toArray⟩, .int .i64 ks, .slice ao cs.length cap]] w fun e w' => e = .returned (.int .i64 0) ∧ Below w.heap.size w w' := by
  go_enter Tryz.func6, Tryz.ntmps6
  go_wp2
  go_ret
  exact ⟨rfl, below1 _ _⟩
theorem tfew_name (nm : List UInt8) (ks : Int) (cs : List C) (ao : Option Addr) (cap : Nat) (w : World) (hl : decide ((20 : Int) < (cs.length : Int)) = false) (hn : 500 < (nm.length : Int)) :
    Calls Tryz.prog 6 #[.agg #[.string ⟨nm.toArray⟩, .int .i64 ks, .slice ao cs.length cap]] w fun e w' => e = .returned (.int .i64 0) ∧ Below w.heap.size w w' := by
  go_enter Tryz.func6, Tryz.ntmps6
  go_wp2
  go_ret
  exact ⟨rfl, below1 _ _⟩
theorem few_t (t : T) (ao : Option Addr) (cap : Nat) (w : World) (h : SlC w ao t.cs) (ht : Tb t) :
    Calls Tryz.prog 6 #[.agg #[.string ⟨t.name.toArray⟩, .int .i64 t.keys, .slice ao t.cs.length cap]] w fun e w' => e = .returned (.int .i64 1) ∧ Below w.heap.size w w' := tfew_yes _ _ _ _ _ w h ht.1 ht.2.1 ht.2.2
theorem few_n (t : T) (ao : Option Addr) (cap : Nat) (w : World) (h : SlC w ao t.cs) (ht : ¬ Tb t) :
    Calls Tryz.prog 6 #[.agg #[.string ⟨t.name.toArray⟩, .int .i64 t.keys, .slice ao t.cs.length cap]] w fun e w' => e = .returned (.int .i64 0) ∧ Below w.heap.size w w' := by
  by_cases h1 : t.cs.length ≤ 20
  · by_cases h2 : t.name.length ≤ 500
    · exact tfew_cols _ _ _ _ _ w h h1 h2 fun h3 => ht ⟨h1, h2, h3⟩
    · exact tfew_name _ _ _ _ _ w (by rw [decide_eq_false_iff_not]; omega) (by omega)
  · exact tfew_many _ _ _ _ _ w (by omega)

/-- The statements' own table; with the key's column Null. -/
def tP (n : Bool) : T := ⟨[116], 1, [⟨[107], 2, n, ⟨0, 0, 0, []⟩⟩, ⟨[118], 5, true, ⟨0, 0, 0, []⟩⟩]⟩
def rowP (n : Bool) : Array Value := #[.string ⟨([107] : List UInt8).toArray⟩, .int .i64 2, .bool n, .int .i64 0, .int .i64 0, .int .u64 0, .string ⟨([] : List UInt8).toArray⟩, .string ⟨([118] : List UInt8).toArray⟩, .int .i64 5, .bool true, .int .i64 0, .int .i64 0, .int .u64 0, .string ⟨([] : List UInt8).toArray⟩]
theorem slP {W : World} {g : Nat} {n : Bool} (h : Blk W g (rowP n) 30) : SlC W (some ⟨g, 0, none⟩) (tP n).cs := by
  intro i c hi
  refine ⟨⟨g, 0, none⟩, rfl, ?_⟩
  match i, hi with
  | 0, hi =>
    obtain rfl : (⟨[107], 2, n, ⟨0, 0, 0, []⟩⟩ : C) = c := by simpa [tP] using hi
    rw [add_none]
    exact ⟨h.cell 0, h.cell 1, h.cell 2, h.cell 3, h.cell 4, h.cell 5, h.cell 6⟩
  | 1, hi =>
    obtain rfl : (⟨[118], 5, true, ⟨0, 0, 0, []⟩⟩ : C) = c := by simpa [tP] using hi
    rw [add_none]
    exact ⟨h.cell 7, h.cell 8, h.cell 9, h.cell 10, h.cell 11, h.cell 12, h.cell 13⟩
  | (i + 2), hi => simp [tP] at hi
theorem plain_is (w : World) : Calls Tryz.prog 24 #[] w fun e w' => ∃ g, e = .returned (.agg #[.string ⟨([116] : List UInt8).toArray⟩, .int .i64 1, .slice (some ⟨g, 0, none⟩) 2 2]) ∧ Blk w' g (rowP false) 30 ∧ w.heap.size ≤ g ∧ Below w.heap.size w w' := by
  go_enter Tryz.func24, Tryz.ntmps24
  go_wp2
  refine bodyPost_ret (v := .agg #[.string ⟨([116] : List UInt8).toArray⟩, .int .i64 1, .slice (some ⟨w.heap.size + 1, 0, none⟩) 2 2]) ?_ rfl ⟨w.heap.size + 1, rfl, ?_, by omega, below2s _ _ _⟩
  · simp [results, Tryz.results24, go_sem]
  · have := Blk.new (w.alloc (.cells #[.string ⟨([116] : List UInt8).toArray⟩, .int .i64 1, .slice (some ⟨w.heap.size + 1, 0, none⟩) 2 2] 24)) (rowP false) 30
    simpa [rowP] using this

theorem sl_pair {W : World} {g : Nat} {x y : V} (h : Blk W g #[.int .i64 x.k, .int .i64 x.n, .int .u64 x.b, .string ⟨x.s.toArray⟩, .int .i64 y.k, .int .i64 y.n, .int .u64 y.b, .string ⟨y.s.toArray⟩] 28) : Sl W (some ⟨g, 0, none⟩) [x, y] := by
  intro i c hi
  refine ⟨⟨g, 0, none⟩, rfl, ?_⟩
  match i, hi with
  | 0, hi =>
    obtain rfl : x = c := by simpa using hi
    rw [add_none]
    exact ⟨h.cell 0, h.cell 1, h.cell 2, h.cell 3⟩
  | 1, hi =>
    obtain rfl : y = c := by simpa using hi
    rw [add_none]
    exact ⟨h.cell 4, h.cell 5, h.cell 6, h.cell 7⟩
  | (i + 2), hi => simp at hi

theorem sls_six {W : World} {G : Nat} {s0 s1 s2 s3 s4 s5 : Nm.S} (h : Blk W G #[.string ⟨s0.toArray⟩, .string ⟨s1.toArray⟩, .string ⟨s2.toArray⟩, .string ⟨s3.toArray⟩, .string ⟨s4.toArray⟩, .string ⟨s5.toArray⟩] 9) : SlS W (some ⟨G, 0, none⟩) [s0, s1, s2, s3, s4, s5] := by
  intro i x hi
  refine ⟨⟨G, 0, none⟩, rfl, ?_⟩
  rw [add_none]
  match i, hi with
  | 0, hi => obtain rfl : s0 = x := by simpa using hi
             exact h.cell 0
  | 1, hi => obtain rfl : s1 = x := by simpa using hi
             exact h.cell 1
  | 2, hi => obtain rfl : s2 = x := by simpa using hi
             exact h.cell 2
  | 3, hi => obtain rfl : s3 = x := by simpa using hi
             exact h.cell 3
  | 4, hi => obtain rfl : s4 = x := by simpa using hi
             exact h.cell 4
  | 5, hi => obtain rfl : s5 = x := by simpa using hi
             exact h.cell 5
  | (i + 6), hi => simp at hi
/-- A change that is not too great. -/
def Ch.few (c : Ch) : Prop := Fw c.names ∧ Fw [c.table, c.other, c.to, c.also, c.name, c.col.name] ∧ Tb c.df ∧ c.col.d.s.length ≤ 2000
set_option maxHeartbeats 2000000 in
theorem cfew_1 (c : Ch) (no : Option Addr) (nc : Nat) (dO : Option Addr) (dc : Nat) (w : World) (hns : SlS w no c.names) (hdf : SlC w dO c.df.cs) (h1 : ¬ Fw c.names) :
    Calls Tryz.prog 7 #[.agg #[.int .i64 c.kind, .string ⟨c.table.toArray⟩, .string ⟨c.other.toArray⟩, .string ⟨c.to.toArray⟩, .string ⟨c.also.toArray⟩, .string ⟨c.name.toArray⟩, .int .i64 c.type, .slice no c.names.length nc, .string ⟨c.col.name.toArray⟩, .int .i64 c.col.kind, .bool c.col.null, .int .i64 c.col.d.k, .int .i64 c.col.d.n, .int .u64 c.col.d.b, .string ⟨c.col.d.s.toArray⟩, .string ⟨c.df.name.toArray⟩, .int .i64 c.df.keys, .slice dO c.df.cs.length dc]] w fun e w' => e = .returned (.int .i64 0) ∧ Below w.heap.size w w' := by
  have H := Lib.hid (And.intro hns (And.intro hdf (And.intro h1 trivial)))
  obtain ⟨W2, hW2⟩ : ∃ W2, (w.alloc (.cells #[.int .i64 c.kind, .string ⟨c.table.toArray⟩, .string ⟨c.other.toArray⟩, .string ⟨c.to.toArray⟩, .string ⟨c.also.toArray⟩, .string ⟨c.name.toArray⟩, .int .i64 c.type, .slice no c.names.length nc, .string ⟨c.col.name.toArray⟩, .int .i64 c.col.kind, .bool c.col.null, .int .i64 c.col.d.k, .int .i64 c.col.d.n, .int .u64 c.col.d.b, .string ⟨c.col.d.s.toArray⟩, .string ⟨c.df.name.toArray⟩, .int .i64 c.df.keys, .slice dO c.df.cs.length dc] 32)).alloc (.cells #[.string ⟨c.table.toArray⟩, .string ⟨c.other.toArray⟩, .string ⟨c.to.toArray⟩, .string ⟨c.also.toArray⟩, .string ⟨c.name.toArray⟩, .string ⟨c.col.name.toArray⟩] 9) = W2 := ⟨_, rfl⟩
  have q0 : Blk W2 w.heap.size #[.int .i64 c.kind, .string ⟨c.table.toArray⟩, .string ⟨c.other.toArray⟩, .string ⟨c.to.toArray⟩, .string ⟨c.also.toArray⟩, .string ⟨c.name.toArray⟩, .int .i64 c.type, .slice no c.names.length nc, .string ⟨c.col.name.toArray⟩, .int .i64 c.col.kind, .bool c.col.null, .int .i64 c.col.d.k, .int .i64 c.col.d.n, .int .u64 c.col.d.b, .string ⟨c.col.d.s.toArray⟩, .string ⟨c.df.name.toArray⟩, .int .i64 c.df.keys, .slice dO c.df.cs.length dc] 32 := hW2 ▸ (Blk.new w _ _).alloc _
  have q1 : Blk W2 (w.heap.size + 1) #[.string ⟨c.table.toArray⟩, .string ⟨c.other.toArray⟩, .string ⟨c.to.toArray⟩, .string ⟨c.also.toArray⟩, .string ⟨c.name.toArray⟩, .string ⟨c.col.name.toArray⟩] 9 := hW2 ▸ Blk.newB (w.alloc (.cells #[.int .i64 c.kind, .string ⟨c.table.toArray⟩, .string ⟨c.other.toArray⟩, .string ⟨c.to.toArray⟩, .string ⟨c.also.toArray⟩, .string ⟨c.name.toArray⟩, .int .i64 c.type, .slice no c.names.length nc, .string ⟨c.col.name.toArray⟩, .int .i64 c.col.kind, .bool c.col.null, .int .i64 c.col.d.k, .int .i64 c.col.d.n, .int .u64 c.col.d.b, .string ⟨c.col.d.s.toArray⟩, .string ⟨c.df.name.toArray⟩, .int .i64 c.df.keys, .slice dO c.df.cs.length dc] 32)) (w.heap.size + 1) _ _ (by simp)
  have K := Lib.hid (And.intro (show Below w.heap.size w W2 from hW2 ▸ below2s w _ _) (And.intro q0 (sls_six q1)))
  obtain ⟨_, _, _, _, _, _, _, x7, _, _, _, x11, x12, x13, x14, x15, x16, x17⟩ := q0.e18
  clear q0 q1 hns hdf h1
  go_enter Tryz.func7, Tryz.ntmps7
  go_wp2_with fail
  refine (nm_few_no c.names no nc _ (H.out.1.below K.out.1) H.out.2.2.1).mono ?_
  rintro e w1 ⟨rfl, rfl⟩
  go_wp2
  go_ret
  exact ⟨rfl, K.out.1⟩

set_option maxHeartbeats 2000000 in
theorem cfew_2 (c : Ch) (no : Option Addr) (nc : Nat) (dO : Option Addr) (dc : Nat) (w : World) (hns : SlS w no c.names) (hdf : SlC w dO c.df.cs) (h1 : Fw c.names) (h2 : ¬ Fw [c.table, c.other, c.to, c.also, c.name, c.col.name]) :
    Calls Tryz.prog 7 #[.agg #[.int .i64 c.kind, .string ⟨c.table.toArray⟩, .string ⟨c.other.toArray⟩, .string ⟨c.to.toArray⟩, .string ⟨c.also.toArray⟩, .string ⟨c.name.toArray⟩, .int .i64 c.type, .slice no c.names.length nc, .string ⟨c.col.name.toArray⟩, .int .i64 c.col.kind, .bool c.col.null, .int .i64 c.col.d.k, .int .i64 c.col.d.n, .int .u64 c.col.d.b, .string ⟨c.col.d.s.toArray⟩, .string ⟨c.df.name.toArray⟩, .int .i64 c.df.keys, .slice dO c.df.cs.length dc]] w fun e w' => e = .returned (.int .i64 0) ∧ Below w.heap.size w w' := by
  have H := Lib.hid (And.intro hns (And.intro hdf (And.intro h1 h2)))
  obtain ⟨W2, hW2⟩ : ∃ W2, (w.alloc (.cells #[.int .i64 c.kind, .string ⟨c.table.toArray⟩, .string ⟨c.other.toArray⟩, .string ⟨c.to.toArray⟩, .string ⟨c.also.toArray⟩, .string ⟨c.name.toArray⟩, .int .i64 c.type, .slice no c.names.length nc, .string ⟨c.col.name.toArray⟩, .int .i64 c.col.kind, .bool c.col.null, .int .i64 c.col.d.k, .int .i64 c.col.d.n, .int .u64 c.col.d.b, .string ⟨c.col.d.s.toArray⟩, .string ⟨c.df.name.toArray⟩, .int .i64 c.df.keys, .slice dO c.df.cs.length dc] 32)).alloc (.cells #[.string ⟨c.table.toArray⟩, .string ⟨c.other.toArray⟩, .string ⟨c.to.toArray⟩, .string ⟨c.also.toArray⟩, .string ⟨c.name.toArray⟩, .string ⟨c.col.name.toArray⟩] 9) = W2 := ⟨_, rfl⟩
  have q0 : Blk W2 w.heap.size #[.int .i64 c.kind, .string ⟨c.table.toArray⟩, .string ⟨c.other.toArray⟩, .string ⟨c.to.toArray⟩, .string ⟨c.also.toArray⟩, .string ⟨c.name.toArray⟩, .int .i64 c.type, .slice no c.names.length nc, .string ⟨c.col.name.toArray⟩, .int .i64 c.col.kind, .bool c.col.null, .int .i64 c.col.d.k, .int .i64 c.col.d.n, .int .u64 c.col.d.b, .string ⟨c.col.d.s.toArray⟩, .string ⟨c.df.name.toArray⟩, .int .i64 c.df.keys, .slice dO c.df.cs.length dc] 32 := hW2 ▸ (Blk.new w _ _).alloc _
  have q1 : Blk W2 (w.heap.size + 1) #[.string ⟨c.table.toArray⟩, .string ⟨c.other.toArray⟩, .string ⟨c.to.toArray⟩, .string ⟨c.also.toArray⟩, .string ⟨c.name.toArray⟩, .string ⟨c.col.name.toArray⟩] 9 := hW2 ▸ Blk.newB (w.alloc (.cells #[.int .i64 c.kind, .string ⟨c.table.toArray⟩, .string ⟨c.other.toArray⟩, .string ⟨c.to.toArray⟩, .string ⟨c.also.toArray⟩, .string ⟨c.name.toArray⟩, .int .i64 c.type, .slice no c.names.length nc, .string ⟨c.col.name.toArray⟩, .int .i64 c.col.kind, .bool c.col.null, .int .i64 c.col.d.k, .int .i64 c.col.d.n, .int .u64 c.col.d.b, .string ⟨c.col.d.s.toArray⟩, .string ⟨c.df.name.toArray⟩, .int .i64 c.df.keys, .slice dO c.df.cs.length dc] 32)) (w.heap.size + 1) _ _ (by simp)
  have K := Lib.hid (And.intro (show Below w.heap.size w W2 from hW2 ▸ below2s w _ _) (And.intro q0 (sls_six q1)))
  obtain ⟨_, _, _, _, _, _, _, x7, _, _, _, x11, x12, x13, x14, x15, x16, x17⟩ := q0.e18
  clear q0 q1 hns hdf h1 h2
  go_enter Tryz.func7, Tryz.ntmps7
  go_wp2_with fail
  refine (nm_few_yes c.names no nc _ (H.out.1.below K.out.1) H.out.2.2.1).mono ?_
  rintro e w1 ⟨rfl, rfl⟩
  go_wp2_with fail
  refine (nm_few_no [c.table, c.other, c.to, c.also, c.name, c.col.name] (some ⟨w.heap.size + 1, 0, none⟩) 6 _ K.out.2.2 H.out.2.2.2).mono ?_
  rintro e w1 ⟨rfl, rfl⟩
  go_wp2
  go_ret
  exact ⟨rfl, K.out.1⟩

set_option maxHeartbeats 2000000 in
theorem cfew_3 (c : Ch) (no : Option Addr) (nc : Nat) (dO : Option Addr) (dc : Nat) (w : World) (hns : SlS w no c.names) (hdf : SlC w dO c.df.cs) (h1 : Fw c.names) (h2 : Fw [c.table, c.other, c.to, c.also, c.name, c.col.name]) (h3 : ¬ Tb c.df) :
    Calls Tryz.prog 7 #[.agg #[.int .i64 c.kind, .string ⟨c.table.toArray⟩, .string ⟨c.other.toArray⟩, .string ⟨c.to.toArray⟩, .string ⟨c.also.toArray⟩, .string ⟨c.name.toArray⟩, .int .i64 c.type, .slice no c.names.length nc, .string ⟨c.col.name.toArray⟩, .int .i64 c.col.kind, .bool c.col.null, .int .i64 c.col.d.k, .int .i64 c.col.d.n, .int .u64 c.col.d.b, .string ⟨c.col.d.s.toArray⟩, .string ⟨c.df.name.toArray⟩, .int .i64 c.df.keys, .slice dO c.df.cs.length dc]] w fun e w' => e = .returned (.int .i64 0) ∧ Below w.heap.size w w' := by
  have H := Lib.hid (And.intro hns (And.intro hdf (And.intro h1 (And.intro h2 h3))))
  obtain ⟨W2, hW2⟩ : ∃ W2, (w.alloc (.cells #[.int .i64 c.kind, .string ⟨c.table.toArray⟩, .string ⟨c.other.toArray⟩, .string ⟨c.to.toArray⟩, .string ⟨c.also.toArray⟩, .string ⟨c.name.toArray⟩, .int .i64 c.type, .slice no c.names.length nc, .string ⟨c.col.name.toArray⟩, .int .i64 c.col.kind, .bool c.col.null, .int .i64 c.col.d.k, .int .i64 c.col.d.n, .int .u64 c.col.d.b, .string ⟨c.col.d.s.toArray⟩, .string ⟨c.df.name.toArray⟩, .int .i64 c.df.keys, .slice dO c.df.cs.length dc] 32)).alloc (.cells #[.string ⟨c.table.toArray⟩, .string ⟨c.other.toArray⟩, .string ⟨c.to.toArray⟩, .string ⟨c.also.toArray⟩, .string ⟨c.name.toArray⟩, .string ⟨c.col.name.toArray⟩] 9) = W2 := ⟨_, rfl⟩
  have q0 : Blk W2 w.heap.size #[.int .i64 c.kind, .string ⟨c.table.toArray⟩, .string ⟨c.other.toArray⟩, .string ⟨c.to.toArray⟩, .string ⟨c.also.toArray⟩, .string ⟨c.name.toArray⟩, .int .i64 c.type, .slice no c.names.length nc, .string ⟨c.col.name.toArray⟩, .int .i64 c.col.kind, .bool c.col.null, .int .i64 c.col.d.k, .int .i64 c.col.d.n, .int .u64 c.col.d.b, .string ⟨c.col.d.s.toArray⟩, .string ⟨c.df.name.toArray⟩, .int .i64 c.df.keys, .slice dO c.df.cs.length dc] 32 := hW2 ▸ (Blk.new w _ _).alloc _
  have q1 : Blk W2 (w.heap.size + 1) #[.string ⟨c.table.toArray⟩, .string ⟨c.other.toArray⟩, .string ⟨c.to.toArray⟩, .string ⟨c.also.toArray⟩, .string ⟨c.name.toArray⟩, .string ⟨c.col.name.toArray⟩] 9 := hW2 ▸ Blk.newB (w.alloc (.cells #[.int .i64 c.kind, .string ⟨c.table.toArray⟩, .string ⟨c.other.toArray⟩, .string ⟨c.to.toArray⟩, .string ⟨c.also.toArray⟩, .string ⟨c.name.toArray⟩, .int .i64 c.type, .slice no c.names.length nc, .string ⟨c.col.name.toArray⟩, .int .i64 c.col.kind, .bool c.col.null, .int .i64 c.col.d.k, .int .i64 c.col.d.n, .int .u64 c.col.d.b, .string ⟨c.col.d.s.toArray⟩, .string ⟨c.df.name.toArray⟩, .int .i64 c.df.keys, .slice dO c.df.cs.length dc] 32)) (w.heap.size + 1) _ _ (by simp)
  have K := Lib.hid (And.intro (show Below w.heap.size w W2 from hW2 ▸ below2s w _ _) (And.intro q0 (sls_six q1)))
  obtain ⟨_, _, _, _, _, _, _, x7, _, _, _, x11, x12, x13, x14, x15, x16, x17⟩ := q0.e18
  clear q0 q1 hns hdf h1 h2 h3
  go_enter Tryz.func7, Tryz.ntmps7
  go_wp2_with fail
  refine (nm_few_yes c.names no nc _ (H.out.1.below K.out.1) H.out.2.2.1).mono ?_
  rintro e w1 ⟨rfl, rfl⟩
  go_wp2_with fail
  refine (nm_few_yes [c.table, c.other, c.to, c.also, c.name, c.col.name] (some ⟨w.heap.size + 1, 0, none⟩) 6 _ K.out.2.2 H.out.2.2.2.1).mono ?_
  rintro e w1 ⟨rfl, rfl⟩
  go_wp2_with fail
  refine (few_n c.df dO dc _ (H.out.2.1.below K.out.1) H.out.2.2.2.2).mono ?_
  rintro e w3 ⟨rfl, hb⟩
  have K3 := Lib.hid (And.intro (step0 K.out.1 hb) (K.out.2.1.below hb))
  clear hb x7 x11 x12 x13 x14 x15 x16 x17
  obtain ⟨_, _, _, _, _, _, _, _, _, _, _, x11, x12, x13, x14, _, _, _⟩ := K3.out.2.e18
  go_wp2
  go_ret
  exact ⟨rfl, K3.out.1⟩

set_option maxHeartbeats 2000000 in
theorem cfew_4 (c : Ch) (no : Option Addr) (nc : Nat) (dO : Option Addr) (dc : Nat) (w : World) (hns : SlS w no c.names) (hdf : SlC w dO c.df.cs) (h1 : Fw c.names) (h2 : Fw [c.table, c.other, c.to, c.also, c.name, c.col.name]) (h3 : Tb c.df) (h4 : 2000 < c.col.d.s.length) :
    Calls Tryz.prog 7 #[.agg #[.int .i64 c.kind, .string ⟨c.table.toArray⟩, .string ⟨c.other.toArray⟩, .string ⟨c.to.toArray⟩, .string ⟨c.also.toArray⟩, .string ⟨c.name.toArray⟩, .int .i64 c.type, .slice no c.names.length nc, .string ⟨c.col.name.toArray⟩, .int .i64 c.col.kind, .bool c.col.null, .int .i64 c.col.d.k, .int .i64 c.col.d.n, .int .u64 c.col.d.b, .string ⟨c.col.d.s.toArray⟩, .string ⟨c.df.name.toArray⟩, .int .i64 c.df.keys, .slice dO c.df.cs.length dc]] w fun e w' => e = .returned (.int .i64 0) ∧ Below w.heap.size w w' := by
  have H := Lib.hid (And.intro hns (And.intro hdf (And.intro h1 (And.intro h2 (And.intro h3 h4)))))
  obtain ⟨W2, hW2⟩ : ∃ W2, (w.alloc (.cells #[.int .i64 c.kind, .string ⟨c.table.toArray⟩, .string ⟨c.other.toArray⟩, .string ⟨c.to.toArray⟩, .string ⟨c.also.toArray⟩, .string ⟨c.name.toArray⟩, .int .i64 c.type, .slice no c.names.length nc, .string ⟨c.col.name.toArray⟩, .int .i64 c.col.kind, .bool c.col.null, .int .i64 c.col.d.k, .int .i64 c.col.d.n, .int .u64 c.col.d.b, .string ⟨c.col.d.s.toArray⟩, .string ⟨c.df.name.toArray⟩, .int .i64 c.df.keys, .slice dO c.df.cs.length dc] 32)).alloc (.cells #[.string ⟨c.table.toArray⟩, .string ⟨c.other.toArray⟩, .string ⟨c.to.toArray⟩, .string ⟨c.also.toArray⟩, .string ⟨c.name.toArray⟩, .string ⟨c.col.name.toArray⟩] 9) = W2 := ⟨_, rfl⟩
  have q0 : Blk W2 w.heap.size #[.int .i64 c.kind, .string ⟨c.table.toArray⟩, .string ⟨c.other.toArray⟩, .string ⟨c.to.toArray⟩, .string ⟨c.also.toArray⟩, .string ⟨c.name.toArray⟩, .int .i64 c.type, .slice no c.names.length nc, .string ⟨c.col.name.toArray⟩, .int .i64 c.col.kind, .bool c.col.null, .int .i64 c.col.d.k, .int .i64 c.col.d.n, .int .u64 c.col.d.b, .string ⟨c.col.d.s.toArray⟩, .string ⟨c.df.name.toArray⟩, .int .i64 c.df.keys, .slice dO c.df.cs.length dc] 32 := hW2 ▸ (Blk.new w _ _).alloc _
  have q1 : Blk W2 (w.heap.size + 1) #[.string ⟨c.table.toArray⟩, .string ⟨c.other.toArray⟩, .string ⟨c.to.toArray⟩, .string ⟨c.also.toArray⟩, .string ⟨c.name.toArray⟩, .string ⟨c.col.name.toArray⟩] 9 := hW2 ▸ Blk.newB (w.alloc (.cells #[.int .i64 c.kind, .string ⟨c.table.toArray⟩, .string ⟨c.other.toArray⟩, .string ⟨c.to.toArray⟩, .string ⟨c.also.toArray⟩, .string ⟨c.name.toArray⟩, .int .i64 c.type, .slice no c.names.length nc, .string ⟨c.col.name.toArray⟩, .int .i64 c.col.kind, .bool c.col.null, .int .i64 c.col.d.k, .int .i64 c.col.d.n, .int .u64 c.col.d.b, .string ⟨c.col.d.s.toArray⟩, .string ⟨c.df.name.toArray⟩, .int .i64 c.df.keys, .slice dO c.df.cs.length dc] 32)) (w.heap.size + 1) _ _ (by simp)
  have K := Lib.hid (And.intro (show Below w.heap.size w W2 from hW2 ▸ below2s w _ _) (And.intro q0 (sls_six q1)))
  obtain ⟨_, _, _, _, _, _, _, x7, _, _, _, x11, x12, x13, x14, x15, x16, x17⟩ := q0.e18
  clear q0 q1 hns hdf h1 h2 h3 h4
  go_enter Tryz.func7, Tryz.ntmps7
  go_wp2_with fail
  refine (nm_few_yes c.names no nc _ (H.out.1.below K.out.1) H.out.2.2.1).mono ?_
  rintro e w1 ⟨rfl, rfl⟩
  go_wp2_with fail
  refine (nm_few_yes [c.table, c.other, c.to, c.also, c.name, c.col.name] (some ⟨w.heap.size + 1, 0, none⟩) 6 _ K.out.2.2 H.out.2.2.2.1).mono ?_
  rintro e w1 ⟨rfl, rfl⟩
  go_wp2_with fail
  refine (few_t c.df dO dc _ (H.out.2.1.below K.out.1) H.out.2.2.2.2.1).mono ?_
  rintro e w3 ⟨rfl, hb⟩
  have K3 := Lib.hid (And.intro (step0 K.out.1 hb) (K.out.2.1.below hb))
  clear hb x7 x11 x12 x13 x14 x15 x16 x17
  obtain ⟨_, _, _, _, _, _, _, _, _, _, _, x11, x12, x13, x14, _, _, _⟩ := K3.out.2.e18
  go_wp2_with fail
  refine (few_0 c.col.d.k c.col.d.n c.col.d.b c.col.d.s _ H.out.2.2.2.2.2).mono ?_
  rintro e w4 ⟨rfl, hb⟩
  have K4 := Lib.hid (step0 K3.out.1 hb)
  clear hb
  go_wp2
  go_ret
  exact ⟨rfl, K4.out⟩

set_option maxHeartbeats 2000000 in
theorem cfew_yes (c : Ch) (no : Option Addr) (nc : Nat) (dO : Option Addr) (dc : Nat) (w : World) (hns : SlS w no c.names) (hdf : SlC w dO c.df.cs) (h1 : Fw c.names) (h2 : Fw [c.table, c.other, c.to, c.also, c.name, c.col.name]) (h3 : Tb c.df) (h4 : c.col.d.s.length ≤ 2000) :
    Calls Tryz.prog 7 #[.agg #[.int .i64 c.kind, .string ⟨c.table.toArray⟩, .string ⟨c.other.toArray⟩, .string ⟨c.to.toArray⟩, .string ⟨c.also.toArray⟩, .string ⟨c.name.toArray⟩, .int .i64 c.type, .slice no c.names.length nc, .string ⟨c.col.name.toArray⟩, .int .i64 c.col.kind, .bool c.col.null, .int .i64 c.col.d.k, .int .i64 c.col.d.n, .int .u64 c.col.d.b, .string ⟨c.col.d.s.toArray⟩, .string ⟨c.df.name.toArray⟩, .int .i64 c.df.keys, .slice dO c.df.cs.length dc]] w fun e w' => e = .returned (.int .i64 1) ∧ Below w.heap.size w w' := by
  have H := Lib.hid (And.intro hns (And.intro hdf (And.intro h1 (And.intro h2 (And.intro h3 h4)))))
  obtain ⟨W2, hW2⟩ : ∃ W2, (w.alloc (.cells #[.int .i64 c.kind, .string ⟨c.table.toArray⟩, .string ⟨c.other.toArray⟩, .string ⟨c.to.toArray⟩, .string ⟨c.also.toArray⟩, .string ⟨c.name.toArray⟩, .int .i64 c.type, .slice no c.names.length nc, .string ⟨c.col.name.toArray⟩, .int .i64 c.col.kind, .bool c.col.null, .int .i64 c.col.d.k, .int .i64 c.col.d.n, .int .u64 c.col.d.b, .string ⟨c.col.d.s.toArray⟩, .string ⟨c.df.name.toArray⟩, .int .i64 c.df.keys, .slice dO c.df.cs.length dc] 32)).alloc (.cells #[.string ⟨c.table.toArray⟩, .string ⟨c.other.toArray⟩, .string ⟨c.to.toArray⟩, .string ⟨c.also.toArray⟩, .string ⟨c.name.toArray⟩, .string ⟨c.col.name.toArray⟩] 9) = W2 := ⟨_, rfl⟩
  have q0 : Blk W2 w.heap.size #[.int .i64 c.kind, .string ⟨c.table.toArray⟩, .string ⟨c.other.toArray⟩, .string ⟨c.to.toArray⟩, .string ⟨c.also.toArray⟩, .string ⟨c.name.toArray⟩, .int .i64 c.type, .slice no c.names.length nc, .string ⟨c.col.name.toArray⟩, .int .i64 c.col.kind, .bool c.col.null, .int .i64 c.col.d.k, .int .i64 c.col.d.n, .int .u64 c.col.d.b, .string ⟨c.col.d.s.toArray⟩, .string ⟨c.df.name.toArray⟩, .int .i64 c.df.keys, .slice dO c.df.cs.length dc] 32 := hW2 ▸ (Blk.new w _ _).alloc _
  have q1 : Blk W2 (w.heap.size + 1) #[.string ⟨c.table.toArray⟩, .string ⟨c.other.toArray⟩, .string ⟨c.to.toArray⟩, .string ⟨c.also.toArray⟩, .string ⟨c.name.toArray⟩, .string ⟨c.col.name.toArray⟩] 9 := hW2 ▸ Blk.newB (w.alloc (.cells #[.int .i64 c.kind, .string ⟨c.table.toArray⟩, .string ⟨c.other.toArray⟩, .string ⟨c.to.toArray⟩, .string ⟨c.also.toArray⟩, .string ⟨c.name.toArray⟩, .int .i64 c.type, .slice no c.names.length nc, .string ⟨c.col.name.toArray⟩, .int .i64 c.col.kind, .bool c.col.null, .int .i64 c.col.d.k, .int .i64 c.col.d.n, .int .u64 c.col.d.b, .string ⟨c.col.d.s.toArray⟩, .string ⟨c.df.name.toArray⟩, .int .i64 c.df.keys, .slice dO c.df.cs.length dc] 32)) (w.heap.size + 1) _ _ (by simp)
  have K := Lib.hid (And.intro (show Below w.heap.size w W2 from hW2 ▸ below2s w _ _) (And.intro q0 (sls_six q1)))
  obtain ⟨_, _, _, _, _, _, _, x7, _, _, _, x11, x12, x13, x14, x15, x16, x17⟩ := q0.e18
  clear q0 q1 hns hdf h1 h2 h3 h4
  go_enter Tryz.func7, Tryz.ntmps7
  go_wp2_with fail
  refine (nm_few_yes c.names no nc _ (H.out.1.below K.out.1) H.out.2.2.1).mono ?_
  rintro e w1 ⟨rfl, rfl⟩
  go_wp2_with fail
  refine (nm_few_yes [c.table, c.other, c.to, c.also, c.name, c.col.name] (some ⟨w.heap.size + 1, 0, none⟩) 6 _ K.out.2.2 H.out.2.2.2.1).mono ?_
  rintro e w1 ⟨rfl, rfl⟩
  go_wp2_with fail
  refine (few_t c.df dO dc _ (H.out.2.1.below K.out.1) H.out.2.2.2.2.1).mono ?_
  rintro e w3 ⟨rfl, hb⟩
  have K3 := Lib.hid (And.intro (step0 K.out.1 hb) (K.out.2.1.below hb))
  clear hb x7 x11 x12 x13 x14 x15 x16 x17
  obtain ⟨_, _, _, _, _, _, _, _, _, _, _, x11, x12, x13, x14, _, _, _⟩ := K3.out.2.e18
  go_wp2_with fail
  refine (few_1 c.col.d.k c.col.d.n c.col.d.b c.col.d.s _ H.out.2.2.2.2.2).mono ?_
  rintro e w4 ⟨rfl, hb⟩
  have K4 := Lib.hid (step0 K3.out.1 hb)
  clear hb
  go_wp2
  go_ret
  exact ⟨rfl, K4.out⟩

theorem cfew_no (c : Ch) (no : Option Addr) (nc : Nat) (dO : Option Addr) (dc : Nat) (w : World) (hns : SlS w no c.names) (hdf : SlC w dO c.df.cs) (h : ¬ c.few) :
    Calls Tryz.prog 7 #[.agg #[.int .i64 c.kind, .string ⟨c.table.toArray⟩, .string ⟨c.other.toArray⟩, .string ⟨c.to.toArray⟩, .string ⟨c.also.toArray⟩, .string ⟨c.name.toArray⟩, .int .i64 c.type, .slice no c.names.length nc, .string ⟨c.col.name.toArray⟩, .int .i64 c.col.kind, .bool c.col.null, .int .i64 c.col.d.k, .int .i64 c.col.d.n, .int .u64 c.col.d.b, .string ⟨c.col.d.s.toArray⟩, .string ⟨c.df.name.toArray⟩, .int .i64 c.df.keys, .slice dO c.df.cs.length dc]] w fun e w' => e = .returned (.int .i64 0) ∧ Below w.heap.size w w' := by
  by_cases h1 : Fw c.names
  case neg => exact cfew_1 c no nc dO dc w hns hdf h1
  by_cases h2 : Fw [c.table, c.other, c.to, c.also, c.name, c.col.name]
  case neg => exact cfew_2 c no nc dO dc w hns hdf h1 h2
  by_cases h3 : Tb c.df
  case neg => exact cfew_3 c no nc dO dc w hns hdf h1 h2 h3
  refine cfew_4 c no nc dO dc w hns hdf h1 h2 h3 ?_
  rcases Nat.lt_or_ge 2000 c.col.d.s.length with g | g
  · exact g
  · exact absurd ⟨h1, h2, h3, g⟩ h

end Go.Proofs.YtdonmbmahcjfbaaGreatDoor

namespace Go.Proofs.YtdonmbmahcjfbaaGreatDoor
open Go.RowKit
set_option linter.unusedVariables false

theorem u0' : Rl.U 0 := ⟨by decide, by decide⟩
theorem ok0 : V.ok ⟨0, 0, 0, []⟩ := ⟨u0', by decide, by decide⟩
theorem okP (n : Bool) : ∀ c ∈ (tP n).cs, c.d.ok := by
  intro c hc
  simp [tP] at hc
  rcases hc with rfl | rfl <;> exact ok0
theorem okR : ∀ x ∈ ([⟨2, 1, 0, []⟩, ⟨5, 0, 0, [120]⟩] : List V), x.ok := by
  intro x hx
  simp at hx
  rcases hx with rfl | rfl
  · exact ⟨u0', by decide, by decide⟩
  · exact ⟨u0', by decide, by decide⟩
theorem r1E : ((⟨4, [116], [], [], [], [118], 2, [], ⟨[], 0, false, ⟨0, 0, 0, []⟩⟩, ⟨[], 0, []⟩⟩ : Ch).row (tP false) [⟨2, 1, 0, []⟩, ⟨5, 0, 0, [120]⟩]).2 = 7 := by decide +kernel
theorem r1L : ((⟨4, [116], [], [], [], [118], 2, [], ⟨[], 0, false, ⟨0, 0, 0, []⟩⟩, ⟨[], 0, []⟩⟩ : Ch).row (tP false) [⟨2, 1, 0, []⟩, ⟨5, 0, 0, [120]⟩]).1.length = 0 := by decide +kernel
theorem r2E : ((⟨3, [116], [], [], [], [118], 0, [], ⟨[], 0, false, ⟨0, 0, 0, []⟩⟩, ⟨[], 0, []⟩⟩ : Ch).row (tP false) [⟨2, 1, 0, []⟩, ⟨5, 0, 0, [120]⟩]).2 = 0 := by decide +kernel
theorem r2M : (((⟨3, [116], [], [], [], [118], 0, [], ⟨[], 0, false, ⟨0, 0, 0, []⟩⟩, ⟨[], 0, []⟩⟩ : Ch).row (tP false) [⟨2, 1, 0, []⟩, ⟨5, 0, 0, [120]⟩]).1.map List.length) = [1] := by decide +kernel
theorem r4E : ((⟨3, [117], [], [], [], [118], 0, [], ⟨[], 0, false, ⟨0, 0, 0, []⟩⟩, ⟨[], 0, []⟩⟩ : Ch).row (tP false) [⟨2, 1, 0, []⟩, ⟨5, 0, 0, [120]⟩]).2 = 1 := by decide +kernel
theorem r4L : ((⟨3, [117], [], [], [], [118], 0, [], ⟨[], 0, false, ⟨0, 0, 0, []⟩⟩, ⟨[], 0, []⟩⟩ : Ch).row (tP false) [⟨2, 1, 0, []⟩, ⟨5, 0, 0, [120]⟩]).1.length = 0 := by decide +kernel
theorem r3E : ((⟨5, [116], [], [], [], [], 0, [[118]], ⟨[], 0, false, ⟨0, 0, 0, []⟩⟩, ⟨[], 0, []⟩⟩ : Ch).rows (tP false) [[⟨2, 1, 0, []⟩, ⟨5, 0, 0, [120]⟩], [⟨2, 1, 0, []⟩, ⟨5, 0, 0, [120]⟩]]).2 = (0, 0) := by decide +kernel
theorem r3M : (((⟨5, [116], [], [], [], [], 0, [[118]], ⟨[], 0, false, ⟨0, 0, 0, []⟩⟩, ⟨[], 0, []⟩⟩ : Ch).rows (tP false) [[⟨2, 1, 0, []⟩, ⟨5, 0, 0, [120]⟩], [⟨2, 1, 0, []⟩, ⟨5, 0, 0, [120]⟩]]).1.map List.length) = [2, 2] := by decide +kernel
theorem RR.len {w w' : World} {e : Ending} {r : List (List V) × Int} {n : Nat} {E : Int} (h : RR w w' e r) (hn : r.1.length = n) (hE : r.2 = E) : ∃ ao cap, e = .returned (.tuple #[.slice ao n cap, .int .i64 E]) := by
  obtain ⟨ao, cap, ys, rfl, h1, _⟩ := h
  have : ys.length = n := by rw [← hn, ← h1]; simp [rxs]
  subst this hE
  exact ⟨ao, cap, rfl⟩
theorem RR.first {w w' : World} {e : Ending} {r : List (List V) × Int} {m : Nat} {E : Int} (h : RR w w' e r) (hn : r.1.map List.length = [m]) (hE : r.2 = E) : ∃ a cap ao' cap', e = .returned (.tuple #[.slice (some a) 1 cap, .int .i64 E]) ∧ w'.cell? a = some (.slice ao' m cap') := by
  obtain ⟨ao, cap, ys, rfl, h1, h2, _⟩ := h
  rw [← h1] at hn
  match ys, hn with
  | [y], hn =>
    simp [rxs] at hn
    obtain ⟨a, rfl, h0⟩ := h2 0 y rfl
    subst hn hE
    exact ⟨a, cap, y.ao, y.cap, rfl, by simpa [Addr.add] using h0⟩
theorem QQ.both {W : World} {e : Ending} {R : List (List (List V)) × Int × Int} {m m' : Nat} (h : QQ W e R) (hn : R.1.map List.length = [m, m']) (hE : R.2 = (0, 0)) : ∃ a cap ao' cap' ao'' cap'', e = .returned (.tuple #[.slice (some a) 2 cap, .int .i64 0, .int .i64 0]) ∧ W.cell? a = some (.slice ao' m cap') ∧ W.cell? ⟨a.block, a.off + 1, none⟩ = some (.slice ao'' m' cap'') := by
  obtain ⟨ao, cap, zs, rfl, h1, h2, _⟩ := h
  rw [← h1] at hn
  rw [hE]
  match zs, hn with
  | [z, z'], hn =>
    simp [QV.ls, rxs] at hn
    obtain ⟨a, rfl, h0⟩ := h2 0 z rfl
    obtain ⟨a', ha, h0'⟩ := h2 1 z' rfl
    cases ha
    obtain ⟨rfl, rfl⟩ := hn
    exact ⟨a, cap, z.ao, z.cap, z'.ao, z'.cap, rfl, by simpa [Addr.add] using h0, by simpa [Addr.add] using h0'⟩
theorem slr_pair {W : World} {G : Nat} {y z : RV} (h : Blk W G #[.slice y.ao y.xs.length y.cap, .slice z.ao z.xs.length z.cap] 33) : SlR W (some ⟨G, 0, none⟩) [y, z] := by
  intro i x hi
  refine ⟨⟨G, 0, none⟩, rfl, ?_⟩
  rw [add_none]
  match i, hi with
  | 0, hi => obtain rfl : y = x := by simpa using hi
             exact h.cell 0
  | 1, hi => obtain rfl : z = x := by simpa using hi
             exact h.cell 1
  | (i + 2), hi => simp at hi
theorem sls_new {W : World} {G : Nat} {s : Nm.S} (h : Blk W G #[.string ⟨s.toArray⟩] 9) : SlS W (some ⟨G, 0, none⟩) [s] := by
  intro i x hi
  refine ⟨⟨G, 0, none⟩, rfl, ?_⟩
  rw [add_none]
  match i, hi with
  | 0, hi => obtain rfl : s = x := by simpa using hi
             exact h.cell 0
  | (i + 1), hi => simp at hi

set_option maxHeartbeats 8000000 in
set_option maxRecDepth 100000 in
theorem awake_any (w : World) (hg : Env w) (hG : Km.Env w) : Calls Tryz.prog 9 #[] w fun e w' => e = .returned (.bool true) ∧ Below w.heap.size w w' := by
  have HG := Lib.hid (And.intro hg hG)
  clear hg hG
  go_enter Tryz.func9, Tryz.ntmps9
  go_wp2_with fail
  refine (plain_is _).mono ?_
  rintro e w1 ⟨g, rfl, hbl, _, hb⟩
  obtain ⟨W2, hW2⟩ : ∃ W2, (w1.alloc (.cells #[.string ⟨([116] : List UInt8).toArray⟩, .int .i64 1, .slice (some ⟨g, 0, none⟩) 2 2] 24)).alloc (.cells #[.int .i64 2, .int .i64 1, .int .u64 0, .string ⟨([] : List UInt8).toArray⟩, .int .i64 5, .int .i64 0, .int .u64 0, .string ⟨([120] : List UInt8).toArray⟩] 28) = W2 := ⟨_, rfl⟩
  have p0 : Blk W2 w1.heap.size #[.string ⟨([116] : List UInt8).toArray⟩, .int .i64 1, .slice (some ⟨g, 0, none⟩) 2 2] 24 := hW2 ▸ (Blk.new w1 _ _).alloc _
  have p1 : Blk W2 (w1.heap.size + 1) #[.int .i64 2, .int .i64 1, .int .u64 0, .string ⟨([] : List UInt8).toArray⟩, .int .i64 5, .int .i64 0, .int .u64 0, .string ⟨([120] : List UInt8).toArray⟩] 28 := hW2 ▸ Blk.newB (w1.alloc _) (w1.heap.size + 1) _ _ (by simp)
  have b2 : Below w1.heap.size w1 W2 := hW2 ▸ below2s w1 _ _
  have a3 : At3 W2 (tP false) (some ⟨g, 0, none⟩) 2 := ⟨slP (hbl.below b2), by decide, okP false⟩
  have sl : Sl W2 (some ⟨w1.heap.size + 1, 0, none⟩) [⟨2, 1, 0, []⟩, ⟨5, 0, 0, [120]⟩] := sl_pair (x := ⟨2, 1, 0, []⟩) (y := ⟨5, 0, 0, [120]⟩) p1
  have K2 := Lib.hid (And.intro (step0 hb b2) (And.intro p0 (And.intro a3 sl)))
  obtain ⟨t0, t1, t2⟩ := p0.t3
  clear hbl hb p0 p1 b2 a3 sl
  go_wp2_with fail
  refine (row_is (⟨4, [116], [], [], [], [118], 2, [], ⟨[], 0, false, ⟨0, 0, 0, []⟩⟩, ⟨[], 0, []⟩⟩ : Ch) none 0 none 0 (tP false) (some ⟨g, 0, none⟩) 2 [⟨2, 1, 0, []⟩, ⟨5, 0, 0, [120]⟩] 2 rfl (some ⟨w1.heap.size + 1, 0, none⟩) 2 _ (HG.out.1.keep (step0 K2.out.1 (Below.refl _ W2))) (K2.out.2.2.1.keep (Below.refl _ W2)) (K2.out.2.2.2.below (Below.refl _ W2)) (by decide) okR (HG.out.2.below (step0 K2.out.1 (Below.refl _ W2))) (SlS.nil _ _) (by decide) (by decide) _ rfl).mono ?_
  rintro e w3 ⟨hRR, hb⟩
  obtain ⟨o1, c1, rfl⟩ := hRR.len r1L r1E
  have K3 := Lib.hid hb
  obtain ⟨t0', t1', t2'⟩ := (K2.out.2.1.below hb).t3
  clear hRR hb t0 t1 t2
  go_wp2_with fail
  refine (row_is (⟨3, [116], [], [], [], [118], 0, [], ⟨[], 0, false, ⟨0, 0, 0, []⟩⟩, ⟨[], 0, []⟩⟩ : Ch) none 0 none 0 (tP false) (some ⟨g, 0, none⟩) 2 [⟨2, 1, 0, []⟩, ⟨5, 0, 0, [120]⟩] 2 rfl (some ⟨w1.heap.size + 1, 0, none⟩) 2 _ (HG.out.1.keep (step0 K2.out.1 K3.out)) (K2.out.2.2.1.keep K3.out) (K2.out.2.2.2.below K3.out) (by decide) okR (HG.out.2.below (step0 K2.out.1 K3.out)) (SlS.nil _ _) (by decide) (by decide) _ rfl).mono ?_
  rintro e w4 ⟨hRR, hb⟩
  obtain ⟨a2, c2, o2', c2', rfl, hc2⟩ := hRR.first r2M r2E
  obtain ⟨W5, hW5⟩ : ∃ W5, (w4.alloc (.cells #[.string ⟨([118] : List UInt8).toArray⟩] 9)).alloc (.cells #[.slice (some ⟨w1.heap.size + 1, 0, none⟩) 2 2, .slice (some ⟨w1.heap.size + 1, 0, none⟩) 2 2] 33) = W5 := ⟨_, rfl⟩
  have b5 : Below w4.heap.size w4 W5 := hW5 ▸ below2s w4 _ _
  have n5 : SlS W5 (some ⟨w4.heap.size, 0, none⟩) [[118]] := sls_new (hW5 ▸ (Blk.new w4 _ _).alloc _)
  have l5 : SlR W5 (some ⟨w4.heap.size + 1, 0, none⟩) [⟨[⟨2, 1, 0, []⟩, ⟨5, 0, 0, [120]⟩], some ⟨w1.heap.size + 1, 0, none⟩, 2⟩, ⟨[⟨2, 1, 0, []⟩, ⟨5, 0, 0, [120]⟩], some ⟨w1.heap.size + 1, 0, none⟩, 2⟩] := slr_pair (hW5 ▸ Blk.newB (w4.alloc _) (w4.heap.size + 1) _ _ (by simp))
  have K4 := Lib.hid (And.intro (step0 K3.out hb) (And.intro (step0 (step0 K3.out hb) b5) (And.intro n5 (And.intro l5 (And.intro hc2 b5)))))
  obtain ⟨t0, t1, t2⟩ := (K2.out.2.1.below K4.out.1).t3
  clear hRR hb t0' t1' t2' b5 n5 l5 hc2
  go_wp2_with fail
  refine (rows_is (⟨5, [116], [], [], [], [], 0, [[118]], ⟨[], 0, false, ⟨0, 0, 0, []⟩⟩, ⟨[], 0, []⟩⟩ : Ch) (some ⟨w4.heap.size, 0, none⟩) 1 none 0 (tP false) (some ⟨g, 0, none⟩) 2 [⟨[⟨2, 1, 0, []⟩, ⟨5, 0, 0, [120]⟩], some ⟨w1.heap.size + 1, 0, none⟩, 2⟩, ⟨[⟨2, 1, 0, []⟩, ⟨5, 0, 0, [120]⟩], some ⟨w1.heap.size + 1, 0, none⟩, 2⟩] (some ⟨w4.heap.size + 1, 0, none⟩) 2 _ (HG.out.1.keep (step0 K2.out.1 K4.out.2.1)) (HG.out.2.below (step0 K2.out.1 K4.out.2.1)) (K2.out.2.2.1.keep K4.out.2.1) K4.out.2.2.2.1 (by
      intro y hy
      simp at hy
      subst hy
      exact ⟨K2.out.2.2.2.below K4.out.2.1, by simp, by simp, okR⟩) (by simp) K4.out.2.2.1 (by decide) _ rfl).mono ?_
  rintro e w6 ⟨hQQ, hb⟩
  obtain ⟨a6, c6, o6, c6', o7, c7, rfl, h6, h7⟩ := hQQ.both r3M r3E
  have K6 := Lib.hid (And.intro (step0 K4.out.2.1 hb) (And.intro h6 (And.intro h7 (step0 K4.out.2.2.2.2.2 hb))))
  obtain ⟨t0', t1', t2'⟩ := (K2.out.2.1.below K6.out.1).t3
  clear hQQ hb h6 h7 t0 t1 t2
  go_wp2_with fail
  refine (row_is (⟨3, [117], [], [], [], [118], 0, [], ⟨[], 0, false, ⟨0, 0, 0, []⟩⟩, ⟨[], 0, []⟩⟩ : Ch) none 0 none 0 (tP false) (some ⟨g, 0, none⟩) 2 [⟨2, 1, 0, []⟩, ⟨5, 0, 0, [120]⟩] 2 rfl (some ⟨w1.heap.size + 1, 0, none⟩) 2 _ (HG.out.1.keep (step0 K2.out.1 K6.out.1)) (K2.out.2.2.1.keep K6.out.1) (K2.out.2.2.2.below K6.out.1) (by decide) okR (HG.out.2.below (step0 K2.out.1 K6.out.1)) (SlS.nil _ _) (by decide) (by decide) _ rfl).mono ?_
  rintro e w7 ⟨hRR, hb⟩
  obtain ⟨o8, c8, rfl⟩ := hRR.len r4L r4E
  have hc2 := keep0 (keep0 K4.out.2.2.2.2.1 K6.out.2.2.2) hb
  have h6 := keep0 K6.out.2.1 hb
  have h7 := keep0 K6.out.2.2.1 hb
  have K7 := Lib.hid (step0 K2.out.1 (step0 K6.out.1 hb))
  clear hRR hb t0' t1' t2'
  go_wp2
  go_ret
  exact ⟨rfl, K7.out⟩

end Go.Proofs.YtdonmbmahcjfbaaGreatDoor
