/-
  What transform.Row tells, kind by kind. Conditions: a table and a row of at most 30 values in memory that keep a value's bounds; the listed variables as they are laid.
-/
import Derived.Test.YtdonmbmahcjfbaaGreatDoorTfRet
import Derived.Test.YtdonmbmahcjfbaaGreatDoorChSrcs
import Derived.Deep.MidRow
import Derived.Deep.RegionHeld3
namespace Go.Proofs.YtdonmbmahcjfbaaGreatDoor
open Go.RowKit
set_option linter.unusedVariables false
set_option linter.unusedSimpArgs false

theorem Blk.e18 {W : World} {B : Nat} {u0 u1 u2 u3 u4 u5 u6 u7 u8 u9 u10 u11 u12 u13 u14 u15 u16 u17 : Value} {t : TypeId} (h : Blk W B #[u0, u1, u2, u3, u4, u5, u6, u7, u8, u9, u10, u11, u12, u13, u14, u15, u16, u17] t) : W.cell? ⟨B, 0, none⟩ = some u0 ∧ W.cell? ⟨B, 1, none⟩ = some u1 ∧ W.cell? ⟨B, 2, none⟩ = some u2 ∧ W.cell? ⟨B, 3, none⟩ = some u3 ∧ W.cell? ⟨B, 4, none⟩ = some u4 ∧ W.cell? ⟨B, 5, none⟩ = some u5 ∧ W.cell? ⟨B, 6, none⟩ = some u6 ∧ W.cell? ⟨B, 7, none⟩ = some u7 ∧ W.cell? ⟨B, 8, none⟩ = some u8 ∧ W.cell? ⟨B, 9, none⟩ = some u9 ∧ W.cell? ⟨B, 10, none⟩ = some u10 ∧ W.cell? ⟨B, 11, none⟩ = some u11 ∧ W.cell? ⟨B, 12, none⟩ = some u12 ∧ W.cell? ⟨B, 13, none⟩ = some u13 ∧ W.cell? ⟨B, 14, none⟩ = some u14 ∧ W.cell? ⟨B, 15, none⟩ = some u15 ∧ W.cell? ⟨B, 16, none⟩ = some u16 ∧ W.cell? ⟨B, 17, none⟩ = some u17 := ⟨h.cell 0, h.cell 1, h.cell 2, h.cell 3, h.cell 4, h.cell 5, h.cell 6, h.cell 7, h.cell 8, h.cell 9, h.cell 10, h.cell 11, h.cell 12, h.cell 13, h.cell 14, h.cell 15, h.cell 16, h.cell 17⟩
theorem src_len (c : Ch) : c.src.length ≤ 2 := by
  unfold Ch.src
  split
  · simp
  · split <;> simp

set_option maxHeartbeats 4000000 in
set_option maxRecDepth 100000 in
theorem row_n1 (c : Ch) (no : Option Addr) (nc : Nat) (dO : Option Addr) (dc : Nat) (t : T) (ao : Option Addr) (cap : Nat) (xs : List V) (n : Nat) (hn : xs.length = n) (bo : Option Addr) (bc : Nat) (w : World) (hg : Env w) (hT : At3 w t ao cap) (hx : Sl w bo xs) (hm : xs.length ≤ 30) (ho : ∀ x ∈ xs, x.ok) (E : Int) (hE : t.fit xs = E) (hE0 : ¬ E = 0) :
    Calls Tryz.prog 10 #[.agg #[.string ⟨t.name.toArray⟩, .int .i64 t.keys, .slice ao t.cs.length cap], .agg #[.int .i64 c.kind, .string ⟨c.table.toArray⟩, .string ⟨c.other.toArray⟩, .string ⟨c.to.toArray⟩, .string ⟨c.also.toArray⟩, .string ⟨c.name.toArray⟩, .int .i64 c.type, .slice no c.names.length nc, .string ⟨c.col.name.toArray⟩, .int .i64 c.col.kind, .bool c.col.null, .int .i64 c.col.d.k, .int .i64 c.col.d.n, .int .u64 c.col.d.b, .string ⟨c.col.d.s.toArray⟩, .string ⟨c.df.name.toArray⟩, .int .i64 c.df.keys, .slice dO c.df.cs.length dc], .slice bo n bc] w fun e w' => e = .returned (.tuple #[.slice none 0 0, .int .i64 E]) ∧ Below w.heap.size w w' := by
  have hmx : Tryz.prog.follows .mixedOrders = true := by kernel_rfl
  subst hn
  have e0 := bne_t hE0
  have H := Lib.hid (And.intro hT (And.intro hx (And.intro hm (And.intro ho (And.intro hg (And.intro hE hE0))))))
  clear hT hx hm ho hg
  go_enter Tryz.func10, Tryz.ntmps10
  go_wp2_with fail
  refine (fits_t t xs ao bo cap bc _ (H.out.1.keep (below2s _ _ _)) (H.out.2.1.below (below2s _ _ _)) H.out.2.2.1 H.out.2.2.2.1 (H.out.2.2.2.2.1.keep (below2s _ _ _)) E H.out.2.2.2.2.2.1).mono ?_
  rintro e w1 ⟨rfl, hb⟩
  have B := Lib.hid (step0 (below2s w _ _) hb)
  clear hb hE hE0
  go_wp2
  go_ret2
  exact ⟨rfl, B.out⟩

set_option maxHeartbeats 4000000 in
set_option maxRecDepth 100000 in
theorem row_n2 (c : Ch) (no : Option Addr) (nc : Nat) (dO : Option Addr) (dc : Nat) (t : T) (ao : Option Addr) (cap : Nat) (xs : List V) (n : Nat) (hn : xs.length = n) (bo : Option Addr) (bc : Nat) (w : World) (hg : Env w) (hT : At3 w t ao cap) (hx : Sl w bo xs) (hm : xs.length ≤ 30) (ho : ∀ x ∈ xs, x.ok) (hE : t.fit xs = 0) (hs : t.name ∉ c.src) :
    Calls Tryz.prog 10 #[.agg #[.string ⟨t.name.toArray⟩, .int .i64 t.keys, .slice ao t.cs.length cap], .agg #[.int .i64 c.kind, .string ⟨c.table.toArray⟩, .string ⟨c.other.toArray⟩, .string ⟨c.to.toArray⟩, .string ⟨c.also.toArray⟩, .string ⟨c.name.toArray⟩, .int .i64 c.type, .slice no c.names.length nc, .string ⟨c.col.name.toArray⟩, .int .i64 c.col.kind, .bool c.col.null, .int .i64 c.col.d.k, .int .i64 c.col.d.n, .int .u64 c.col.d.b, .string ⟨c.col.d.s.toArray⟩, .string ⟨c.df.name.toArray⟩, .int .i64 c.df.keys, .slice dO c.df.cs.length dc], .slice bo n bc] w fun e w' => e = .returned (.tuple #[.slice none 0 0, .int .i64 1]) ∧ Below w.heap.size w w' := by
  have hmx : Tryz.prog.follows .mixedOrders = true := by kernel_rfl
  subst hn
  have H := Lib.hid (And.intro hT (And.intro hx (And.intro hm (And.intro ho (And.intro hg (And.intro hE (decide_eq_false hs)))))))
  clear hT hx hm ho hg
  go_enter Tryz.func10, Tryz.ntmps10
  go_wp2_with fail
  refine (fits_t t xs ao bo cap bc _ (H.out.1.keep (below2s _ _ _)) (H.out.2.1.below (below2s _ _ _)) H.out.2.2.1 H.out.2.2.2.1 (H.out.2.2.2.2.1.keep (below2s _ _ _)) 0 H.out.2.2.2.2.2.1).mono ?_
  rintro e w1 ⟨rfl, hb⟩
  clear hE hs
  have q0 := ((Blk.new w #[.string ⟨t.name.toArray⟩, .int .i64 t.keys, .slice ao t.cs.length cap] 24).alloc (.cells #[.int .i64 c.kind, .string ⟨c.table.toArray⟩, .string ⟨c.other.toArray⟩, .string ⟨c.to.toArray⟩, .string ⟨c.also.toArray⟩, .string ⟨c.name.toArray⟩, .int .i64 c.type, .slice no c.names.length nc, .string ⟨c.col.name.toArray⟩, .int .i64 c.col.kind, .bool c.col.null, .int .i64 c.col.d.k, .int .i64 c.col.d.n, .int .u64 c.col.d.b, .string ⟨c.col.d.s.toArray⟩, .string ⟨c.df.name.toArray⟩, .int .i64 c.df.keys, .slice dO c.df.cs.length dc] 32)).below hb
  have q1 := (Blk.new (w.alloc (.cells #[.string ⟨t.name.toArray⟩, .int .i64 t.keys, .slice ao t.cs.length cap] 24)) #[.int .i64 c.kind, .string ⟨c.table.toArray⟩, .string ⟨c.other.toArray⟩, .string ⟨c.to.toArray⟩, .string ⟨c.also.toArray⟩, .string ⟨c.name.toArray⟩, .int .i64 c.type, .slice no c.names.length nc, .string ⟨c.col.name.toArray⟩, .int .i64 c.col.kind, .bool c.col.null, .int .i64 c.col.d.k, .int .i64 c.col.d.n, .int .u64 c.col.d.b, .string ⟨c.col.d.s.toArray⟩, .string ⟨c.df.name.toArray⟩, .int .i64 c.df.keys, .slice dO c.df.cs.length dc] 32).below hb
  have hsz : (w.alloc (.cells #[.string ⟨t.name.toArray⟩, .int .i64 t.keys, .slice ao t.cs.length cap] 24)).heap.size = w.heap.size + 1 := by simp
  rw [hsz] at q1
  have K1 := Lib.hid (And.intro (step0 (below2s w _ _) hb) (And.intro q0 q1))
  clear hb q0 q1 hsz
  go_wp2_with fail
  refine wp_region_held_drew (S := fun v => Below w1.heap.size w1 v ∧ v.rangeAt (w.heap.size + 1) 0 [.int .i64 c.kind, .string ⟨c.table.toArray⟩, .string ⟨c.other.toArray⟩, .string ⟨c.to.toArray⟩, .string ⟨c.also.toArray⟩, .string ⟨c.name.toArray⟩, .int .i64 c.type, .slice no c.names.length nc, .string ⟨c.col.name.toArray⟩, .int .i64 c.col.kind, .bool c.col.null, .int .i64 c.col.d.k, .int .i64 c.col.d.n, .int .u64 c.col.d.b, .string ⟨c.col.d.s.toArray⟩, .string ⟨c.df.name.toArray⟩, .int .i64 c.df.keys, .slice dO c.df.cs.length dc] ∧ v.cell? ⟨w.heap.size, 0, none⟩ = some (.string ⟨t.name.toArray⟩)) (by kernel_rfl) ⟨(Below.refl _ _).drew, rng K1.out.2.2, K1.out.2.1.cell 0⟩ (fun hH0 => ?_)
  refine wpAnyH_take (i := 0) (oi := _) (v := .agg #[.int .i64 c.kind, .string ⟨c.table.toArray⟩, .string ⟨c.other.toArray⟩, .string ⟨c.to.toArray⟩, .string ⟨c.also.toArray⟩, .string ⟨c.name.toArray⟩, .int .i64 c.type, .slice no c.names.length nc, .string ⟨c.col.name.toArray⟩, .int .i64 c.col.kind, .bool c.col.null, .int .i64 c.col.d.k, .int .i64 c.col.d.n, .int .u64 c.col.d.b, .string ⟨c.col.d.s.toArray⟩, .string ⟨c.df.name.toArray⟩, .int .i64 c.df.keys, .slice dO c.df.cs.length dc]) rfl (by kernel_rfl) (by kernel_rfl) (by kernel_rfl) (fun _ _ _ h => h) (yieldsIf_load_mid (by rfl) _ _ rfl (w.heap.size + 1) 0 rfl [.int .i64 c.kind, .string ⟨c.table.toArray⟩, .string ⟨c.other.toArray⟩, .string ⟨c.to.toArray⟩, .string ⟨c.also.toArray⟩, .string ⟨c.name.toArray⟩, .int .i64 c.type, .slice no c.names.length nc, .string ⟨c.col.name.toArray⟩, .int .i64 c.col.kind, .bool c.col.null, .int .i64 c.col.d.k, .int .i64 c.col.d.n, .int .u64 c.col.d.b, .string ⟨c.col.d.s.toArray⟩, .string ⟨c.df.name.toArray⟩, .int .i64 c.df.keys, .slice dO c.df.cs.length dc] _ (fun v hv => hv.2.1) Tryz.underlying32 rfl infoCh) hH0 ?_
  simp only [Act.put, List.setIfInBounds_toArray, List.set_cons_zero, List.set_cons_succ]
  refine wpAnyH_take (i := 2) (oi := _) (v := .pointer (some ⟨w.heap.size, 0, none⟩)) rfl (by kernel_rfl) (by kernel_rfl) (by kernel_rfl) (fun _ _ _ h => h) (Or.inl ⟨by rfl, by intro v hv; go_simp⟩) hH0 ?_
  simp only [Act.put, List.setIfInBounds_toArray, List.set_cons_zero, List.set_cons_succ]
  refine wpAnyH_take (i := 3) (oi := _) (v := .string ⟨t.name.toArray⟩) rfl (by kernel_rfl) (by kernel_rfl) (by kernel_rfl) (fun _ _ _ h => h) (Or.inl ⟨by rfl, by intro v hv; have hc := hv.2.2; clear hv; go_simp⟩) hH0 ?_
  simp only [Act.put, List.setIfInBounds_toArray, List.set_cons_zero, List.set_cons_succ]
  refine wpAnyH_ready (rs := [1]) (by kernel_rfl) (by simp) ?_
  refine AllReadyH.cons (o := _) rfl (fun K hK => ?_) AllReadyH.nil
  go_simp
  refine (sources_is c no nc dO dc _).mono ?_
  rintro e w5 ⟨v, rfl, hO, hb⟩
  obtain ⟨so, sc, rfl, hSl⟩ := hO.sl
  have B5 := Lib.hid (And.intro (step0 (below_drew1 (Below.refl _ w1)) hb) hSl)
  clear hO hb hSl
  go_wp2_with fail
  refine hK.out _ _ ⟨B5.out.1, rng (K1.out.2.2.below B5.out.1), (K1.out.2.1.below B5.out.1).cell 0⟩ (fun hH1 => ?_)
  clear hK K hH0
  try simp only [Act.put, List.setIfInBounds_toArray, List.set_cons_zero, List.set_cons_succ]
  refine wpAnyH_ready (rs := [4]) (by kernel_rfl) (by simp) ?_
  refine AllReadyH.cons (o := _) rfl (fun K hK => ?_) AllReadyH.nil
  go_simp
  refine (contains_is c.src t.name _ false so sc _ rfl B5.out.2 (by have := src_len c; omega) H.out.2.2.2.2.2.2).mono ?_
  rintro e w6 ⟨rfl, rfl⟩
  go_wp2_with fail
  refine hK.out _ _ hH1 (fun _ => ?_)
  clear hK K
  try simp only [Act.put, List.setIfInBounds_toArray, List.set_cons_zero, List.set_cons_succ]
  refine wpAnyH_take (i := 5) (oi := _) (v := .bool true) rfl (by kernel_rfl) (by kernel_rfl) (by kernel_rfl) (fun _ _ _ h => h) (Or.inl ⟨by rfl, by intro v hv; go_simp⟩) hH1 ?_
  simp only [Act.put, List.setIfInBounds_toArray, List.set_cons_zero, List.set_cons_succ]
  refine wpAnyH_done (by kernel_rfl) ?_ _
  clear hH1
  go_wp2
  go_ret2
  exact ⟨rfl, step0 K1.out.1 B5.out.1⟩

set_option maxHeartbeats 4000000 in
set_option maxRecDepth 100000 in
theorem row_6 (c : Ch) (no : Option Addr) (nc : Nat) (dO : Option Addr) (dc : Nat) (t : T) (ao : Option Addr) (cap : Nat) (xs : List V) (n : Nat) (hn : xs.length = n) (bo : Option Addr) (bc : Nat) (w : World) (hg : Env w) (hT : At3 w t ao cap) (hx : Sl w bo xs) (hm : xs.length ≤ 30) (ho : ∀ x ∈ xs, x.ok) (hE : t.fit xs = 0) (hs : t.name ∈ (⟨6, c.table, c.other, c.to, c.also, c.name, c.type, c.names, c.col, c.df⟩ : Ch).src) :
    Calls Tryz.prog 10 #[.agg #[.string ⟨t.name.toArray⟩, .int .i64 t.keys, .slice ao t.cs.length cap], .agg #[.int .i64 6, .string ⟨c.table.toArray⟩, .string ⟨c.other.toArray⟩, .string ⟨c.to.toArray⟩, .string ⟨c.also.toArray⟩, .string ⟨c.name.toArray⟩, .int .i64 c.type, .slice no c.names.length nc, .string ⟨c.col.name.toArray⟩, .int .i64 c.col.kind, .bool c.col.null, .int .i64 c.col.d.k, .int .i64 c.col.d.n, .int .u64 c.col.d.b, .string ⟨c.col.d.s.toArray⟩, .string ⟨c.df.name.toArray⟩, .int .i64 c.df.keys, .slice dO c.df.cs.length dc], .slice bo n bc] w fun e w' => RR w w' e ([xs], 0) ∧ Below w.heap.size w w' := by
  have hmx : Tryz.prog.follows .mixedOrders = true := by kernel_rfl
  subst hn
  have H := Lib.hid (And.intro hT (And.intro hx (And.intro hm (And.intro ho (And.intro hg (And.intro hE (And.intro (decide_eq_true hs) trivial)))))))
  clear hT hx hm ho hg
  go_enter Tryz.func10, Tryz.ntmps10
  go_wp2_with fail
  refine (fits_t t xs ao bo cap bc _ (H.out.1.keep (below2s _ _ _)) (H.out.2.1.below (below2s _ _ _)) H.out.2.2.1 H.out.2.2.2.1 (H.out.2.2.2.2.1.keep (below2s _ _ _)) 0 H.out.2.2.2.2.2.1).mono ?_
  rintro e w1 ⟨rfl, hb⟩
  clear hE hs
  have q0 := ((Blk.new w #[.string ⟨t.name.toArray⟩, .int .i64 t.keys, .slice ao t.cs.length cap] 24).alloc (.cells #[.int .i64 6, .string ⟨c.table.toArray⟩, .string ⟨c.other.toArray⟩, .string ⟨c.to.toArray⟩, .string ⟨c.also.toArray⟩, .string ⟨c.name.toArray⟩, .int .i64 c.type, .slice no c.names.length nc, .string ⟨c.col.name.toArray⟩, .int .i64 c.col.kind, .bool c.col.null, .int .i64 c.col.d.k, .int .i64 c.col.d.n, .int .u64 c.col.d.b, .string ⟨c.col.d.s.toArray⟩, .string ⟨c.df.name.toArray⟩, .int .i64 c.df.keys, .slice dO c.df.cs.length dc] 32)).below hb
  have q1 := (Blk.new (w.alloc (.cells #[.string ⟨t.name.toArray⟩, .int .i64 t.keys, .slice ao t.cs.length cap] 24)) #[.int .i64 6, .string ⟨c.table.toArray⟩, .string ⟨c.other.toArray⟩, .string ⟨c.to.toArray⟩, .string ⟨c.also.toArray⟩, .string ⟨c.name.toArray⟩, .int .i64 c.type, .slice no c.names.length nc, .string ⟨c.col.name.toArray⟩, .int .i64 c.col.kind, .bool c.col.null, .int .i64 c.col.d.k, .int .i64 c.col.d.n, .int .u64 c.col.d.b, .string ⟨c.col.d.s.toArray⟩, .string ⟨c.df.name.toArray⟩, .int .i64 c.df.keys, .slice dO c.df.cs.length dc] 32).below hb
  have hsz : (w.alloc (.cells #[.string ⟨t.name.toArray⟩, .int .i64 t.keys, .slice ao t.cs.length cap] 24)).heap.size = w.heap.size + 1 := by simp
  rw [hsz] at q1
  have K1 := Lib.hid (And.intro (step0 (below2s w _ _) hb) (And.intro q0 q1))
  clear hb q0 q1 hsz
  go_wp2_with fail
  refine wp_region_held_drew (S := fun v => Below w1.heap.size w1 v ∧ v.rangeAt (w.heap.size + 1) 0 [.int .i64 6, .string ⟨c.table.toArray⟩, .string ⟨c.other.toArray⟩, .string ⟨c.to.toArray⟩, .string ⟨c.also.toArray⟩, .string ⟨c.name.toArray⟩, .int .i64 c.type, .slice no c.names.length nc, .string ⟨c.col.name.toArray⟩, .int .i64 c.col.kind, .bool c.col.null, .int .i64 c.col.d.k, .int .i64 c.col.d.n, .int .u64 c.col.d.b, .string ⟨c.col.d.s.toArray⟩, .string ⟨c.df.name.toArray⟩, .int .i64 c.df.keys, .slice dO c.df.cs.length dc] ∧ v.cell? ⟨w.heap.size, 0, none⟩ = some (.string ⟨t.name.toArray⟩)) (by kernel_rfl) ⟨(Below.refl _ _).drew, rng K1.out.2.2, K1.out.2.1.cell 0⟩ (fun hH0 => ?_)
  refine wpAnyH_take (i := 0) (oi := _) (v := .agg #[.int .i64 6, .string ⟨c.table.toArray⟩, .string ⟨c.other.toArray⟩, .string ⟨c.to.toArray⟩, .string ⟨c.also.toArray⟩, .string ⟨c.name.toArray⟩, .int .i64 c.type, .slice no c.names.length nc, .string ⟨c.col.name.toArray⟩, .int .i64 c.col.kind, .bool c.col.null, .int .i64 c.col.d.k, .int .i64 c.col.d.n, .int .u64 c.col.d.b, .string ⟨c.col.d.s.toArray⟩, .string ⟨c.df.name.toArray⟩, .int .i64 c.df.keys, .slice dO c.df.cs.length dc]) rfl (by kernel_rfl) (by kernel_rfl) (by kernel_rfl) (fun _ _ _ h => h) (yieldsIf_load_mid (by rfl) _ _ rfl (w.heap.size + 1) 0 rfl [.int .i64 6, .string ⟨c.table.toArray⟩, .string ⟨c.other.toArray⟩, .string ⟨c.to.toArray⟩, .string ⟨c.also.toArray⟩, .string ⟨c.name.toArray⟩, .int .i64 c.type, .slice no c.names.length nc, .string ⟨c.col.name.toArray⟩, .int .i64 c.col.kind, .bool c.col.null, .int .i64 c.col.d.k, .int .i64 c.col.d.n, .int .u64 c.col.d.b, .string ⟨c.col.d.s.toArray⟩, .string ⟨c.df.name.toArray⟩, .int .i64 c.df.keys, .slice dO c.df.cs.length dc] _ (fun v hv => hv.2.1) Tryz.underlying32 rfl infoCh) hH0 ?_
  simp only [Act.put, List.setIfInBounds_toArray, List.set_cons_zero, List.set_cons_succ]
  refine wpAnyH_take (i := 2) (oi := _) (v := .pointer (some ⟨w.heap.size, 0, none⟩)) rfl (by kernel_rfl) (by kernel_rfl) (by kernel_rfl) (fun _ _ _ h => h) (Or.inl ⟨by rfl, by intro v hv; go_simp⟩) hH0 ?_
  simp only [Act.put, List.setIfInBounds_toArray, List.set_cons_zero, List.set_cons_succ]
  refine wpAnyH_take (i := 3) (oi := _) (v := .string ⟨t.name.toArray⟩) rfl (by kernel_rfl) (by kernel_rfl) (by kernel_rfl) (fun _ _ _ h => h) (Or.inl ⟨by rfl, by intro v hv; have hc := hv.2.2; clear hv; go_simp⟩) hH0 ?_
  simp only [Act.put, List.setIfInBounds_toArray, List.set_cons_zero, List.set_cons_succ]
  refine wpAnyH_ready (rs := [1]) (by kernel_rfl) (by simp) ?_
  refine AllReadyH.cons (o := _) rfl (fun K hK => ?_) AllReadyH.nil
  go_simp
  refine (sources_is (⟨6, c.table, c.other, c.to, c.also, c.name, c.type, c.names, c.col, c.df⟩ : Ch) no nc dO dc _).mono ?_
  rintro e w5 ⟨v, rfl, hO, hb⟩
  obtain ⟨so, sc, rfl, hSl⟩ := hO.sl
  have B5 := Lib.hid (And.intro (step0 (below_drew1 (Below.refl _ w1)) hb) hSl)
  clear hO hb hSl
  go_wp2_with fail
  refine hK.out _ _ ⟨B5.out.1, rng (K1.out.2.2.below B5.out.1), (K1.out.2.1.below B5.out.1).cell 0⟩ (fun hH1 => ?_)
  clear hK K hH0
  try simp only [Act.put, List.setIfInBounds_toArray, List.set_cons_zero, List.set_cons_succ]
  refine wpAnyH_ready (rs := [4]) (by kernel_rfl) (by simp) ?_
  refine AllReadyH.cons (o := _) rfl (fun K hK => ?_) AllReadyH.nil
  go_simp
  refine (contains_is (⟨6, c.table, c.other, c.to, c.also, c.name, c.type, c.names, c.col, c.df⟩ : Ch).src t.name _ true so sc _ rfl B5.out.2 (by have := src_len (⟨6, c.table, c.other, c.to, c.also, c.name, c.type, c.names, c.col, c.df⟩ : Ch); omega) H.out.2.2.2.2.2.2.1).mono ?_
  rintro e w6 ⟨rfl, rfl⟩
  go_wp2_with fail
  refine hK.out _ _ hH1 (fun _ => ?_)
  clear hK K
  try simp only [Act.put, List.setIfInBounds_toArray, List.set_cons_zero, List.set_cons_succ]
  refine wpAnyH_take (i := 5) (oi := _) (v := .bool false) rfl (by kernel_rfl) (by kernel_rfl) (by kernel_rfl) (fun _ _ _ h => h) (Or.inl ⟨by rfl, by intro v hv; go_simp⟩) hH1 ?_
  simp only [Act.put, List.setIfInBounds_toArray, List.set_cons_zero, List.set_cons_succ]
  refine wpAnyH_done (by kernel_rfl) ?_ _
  clear hH1
  have x0 := (K1.out.2.2.below B5.out.1).cell 0
  simp at x0
  go_wp2_with fail
  refine (vcopied_is xs _ bo bc _ rfl (H.out.2.1.below (step0 K1.out.1 B5.out.1)) (by have := H.out.2.2.1; omega)).mono ?_
  rintro e w7 ⟨g, rfl, hO, hb⟩
  have B7 := Lib.hid (And.intro hO (step0 (step0 K1.out.1 B5.out.1) hb))
  clear hO hb
  go_wp2
  go_ret2
  refine ⟨⟨_, _, [⟨xs, some ⟨g, 0, none⟩, xs.length⟩], rfl, rfl, slr_one w7 ⟨xs, some ⟨g, 0, none⟩, xs.length⟩, FitR.one ?_, at_new B7.out.2.size⟩, B7.out.2.alloc B7.out.2.size _⟩
  exact (B7.out.1.base (step0 K1.out.1 B5.out.1).size).keep (below1 _ _)

set_option maxHeartbeats 4000000 in
set_option maxRecDepth 100000 in
theorem row_5 (c : Ch) (no : Option Addr) (nc : Nat) (dO : Option Addr) (dc : Nat) (tn : Nm.S) (K : Nat) (tc : List C) (ao : Option Addr) (cap : Nat) (xs : List V) (n : Nat) (hn : xs.length = n) (hlen : xs.length = tc.length) (hc8 : tc.length ≤ 8) (hk0 : 1 ≤ K) (hk1 : K ≤ tc.length) (ba : Addr) (bc : Nat) (w : World) (hg : Env w) (hT : At3 w ⟨tn, (K : Int), tc⟩ ao cap) (hx : Sl w (some ba) xs) (hm : xs.length ≤ 30) (ho : ∀ x ∈ xs, x.ok) (hE : (⟨tn, (K : Int), tc⟩ : T).fit xs = 0) (hs : tn ∈ (⟨5, c.table, c.other, c.to, c.also, c.name, c.type, c.names, c.col, c.df⟩ : Ch).src) (hns : SlS w no c.names) (hnl : c.names.length ≤ 1000) (hcb : xs.length ≤ bc) :
    Calls Tryz.prog 10 #[.agg #[.string ⟨tn.toArray⟩, .int .i64 (K : Int), .slice ao tc.length cap], .agg #[.int .i64 5, .string ⟨c.table.toArray⟩, .string ⟨c.other.toArray⟩, .string ⟨c.to.toArray⟩, .string ⟨c.also.toArray⟩, .string ⟨c.name.toArray⟩, .int .i64 c.type, .slice no c.names.length nc, .string ⟨c.col.name.toArray⟩, .int .i64 c.col.kind, .bool c.col.null, .int .i64 c.col.d.k, .int .i64 c.col.d.n, .int .u64 c.col.d.b, .string ⟨c.col.d.s.toArray⟩, .string ⟨c.df.name.toArray⟩, .int .i64 c.df.keys, .slice dO c.df.cs.length dc], .slice (some ba) n bc] w fun e w' => RR w w' e ([vsm tc c.names K xs, vrs tc c.names K xs], 0) ∧ Below w.heap.size w w' := by
  have hmx : Tryz.prog.follows .mixedOrders = true := by kernel_rfl
  subst hn
  have Hk := Lib.hid (And.intro hlen (And.intro hc8 (And.intro hk0 hk1)))
  clear hlen hc8 hk0 hk1
  have H := Lib.hid (And.intro hT (And.intro hx (And.intro hm (And.intro ho (And.intro hg (And.intro hE (And.intro (decide_eq_true hs) (And.intro hns (And.intro hnl hcb)))))))))
  clear hT hx hm ho hg
  go_enter Tryz.func10, Tryz.ntmps10
  go_wp2_with fail
  refine (fits_t ⟨tn, (K : Int), tc⟩ xs ao (some ba) cap bc _ (H.out.1.keep (below2s _ _ _)) (H.out.2.1.below (below2s _ _ _)) H.out.2.2.1 H.out.2.2.2.1 (H.out.2.2.2.2.1.keep (below2s _ _ _)) 0 H.out.2.2.2.2.2.1).mono ?_
  rintro e w1 ⟨rfl, hb⟩
  clear hE hs
  have q0 := ((Blk.new w #[.string ⟨tn.toArray⟩, .int .i64 (K : Int), .slice ao tc.length cap] 24).alloc (.cells #[.int .i64 5, .string ⟨c.table.toArray⟩, .string ⟨c.other.toArray⟩, .string ⟨c.to.toArray⟩, .string ⟨c.also.toArray⟩, .string ⟨c.name.toArray⟩, .int .i64 c.type, .slice no c.names.length nc, .string ⟨c.col.name.toArray⟩, .int .i64 c.col.kind, .bool c.col.null, .int .i64 c.col.d.k, .int .i64 c.col.d.n, .int .u64 c.col.d.b, .string ⟨c.col.d.s.toArray⟩, .string ⟨c.df.name.toArray⟩, .int .i64 c.df.keys, .slice dO c.df.cs.length dc] 32)).below hb
  have q1 := (Blk.new (w.alloc (.cells #[.string ⟨tn.toArray⟩, .int .i64 (K : Int), .slice ao tc.length cap] 24)) #[.int .i64 5, .string ⟨c.table.toArray⟩, .string ⟨c.other.toArray⟩, .string ⟨c.to.toArray⟩, .string ⟨c.also.toArray⟩, .string ⟨c.name.toArray⟩, .int .i64 c.type, .slice no c.names.length nc, .string ⟨c.col.name.toArray⟩, .int .i64 c.col.kind, .bool c.col.null, .int .i64 c.col.d.k, .int .i64 c.col.d.n, .int .u64 c.col.d.b, .string ⟨c.col.d.s.toArray⟩, .string ⟨c.df.name.toArray⟩, .int .i64 c.df.keys, .slice dO c.df.cs.length dc] 32).below hb
  have hsz : (w.alloc (.cells #[.string ⟨tn.toArray⟩, .int .i64 (K : Int), .slice ao tc.length cap] 24)).heap.size = w.heap.size + 1 := by simp
  rw [hsz] at q1
  have K1 := Lib.hid (And.intro (step0 (below2s w _ _) hb) (And.intro q0 q1))
  clear hb q0 q1 hsz
  go_wp2_with fail
  refine wp_region_held_drew (S := fun v => Below w1.heap.size w1 v ∧ v.rangeAt (w.heap.size + 1) 0 [.int .i64 5, .string ⟨c.table.toArray⟩, .string ⟨c.other.toArray⟩, .string ⟨c.to.toArray⟩, .string ⟨c.also.toArray⟩, .string ⟨c.name.toArray⟩, .int .i64 c.type, .slice no c.names.length nc, .string ⟨c.col.name.toArray⟩, .int .i64 c.col.kind, .bool c.col.null, .int .i64 c.col.d.k, .int .i64 c.col.d.n, .int .u64 c.col.d.b, .string ⟨c.col.d.s.toArray⟩, .string ⟨c.df.name.toArray⟩, .int .i64 c.df.keys, .slice dO c.df.cs.length dc] ∧ v.cell? ⟨w.heap.size, 0, none⟩ = some (.string ⟨tn.toArray⟩)) (by kernel_rfl) ⟨(Below.refl _ _).drew, rng K1.out.2.2, K1.out.2.1.cell 0⟩ (fun hH0 => ?_)
  refine wpAnyH_take (i := 0) (oi := _) (v := .agg #[.int .i64 5, .string ⟨c.table.toArray⟩, .string ⟨c.other.toArray⟩, .string ⟨c.to.toArray⟩, .string ⟨c.also.toArray⟩, .string ⟨c.name.toArray⟩, .int .i64 c.type, .slice no c.names.length nc, .string ⟨c.col.name.toArray⟩, .int .i64 c.col.kind, .bool c.col.null, .int .i64 c.col.d.k, .int .i64 c.col.d.n, .int .u64 c.col.d.b, .string ⟨c.col.d.s.toArray⟩, .string ⟨c.df.name.toArray⟩, .int .i64 c.df.keys, .slice dO c.df.cs.length dc]) rfl (by kernel_rfl) (by kernel_rfl) (by kernel_rfl) (fun _ _ _ h => h) (yieldsIf_load_mid (by rfl) _ _ rfl (w.heap.size + 1) 0 rfl [.int .i64 5, .string ⟨c.table.toArray⟩, .string ⟨c.other.toArray⟩, .string ⟨c.to.toArray⟩, .string ⟨c.also.toArray⟩, .string ⟨c.name.toArray⟩, .int .i64 c.type, .slice no c.names.length nc, .string ⟨c.col.name.toArray⟩, .int .i64 c.col.kind, .bool c.col.null, .int .i64 c.col.d.k, .int .i64 c.col.d.n, .int .u64 c.col.d.b, .string ⟨c.col.d.s.toArray⟩, .string ⟨c.df.name.toArray⟩, .int .i64 c.df.keys, .slice dO c.df.cs.length dc] _ (fun v hv => hv.2.1) Tryz.underlying32 rfl infoCh) hH0 ?_
  simp only [Act.put, List.setIfInBounds_toArray, List.set_cons_zero, List.set_cons_succ]
  refine wpAnyH_take (i := 2) (oi := _) (v := .pointer (some ⟨w.heap.size, 0, none⟩)) rfl (by kernel_rfl) (by kernel_rfl) (by kernel_rfl) (fun _ _ _ h => h) (Or.inl ⟨by rfl, by intro v hv; go_simp⟩) hH0 ?_
  simp only [Act.put, List.setIfInBounds_toArray, List.set_cons_zero, List.set_cons_succ]
  refine wpAnyH_take (i := 3) (oi := _) (v := .string ⟨tn.toArray⟩) rfl (by kernel_rfl) (by kernel_rfl) (by kernel_rfl) (fun _ _ _ h => h) (Or.inl ⟨by rfl, by intro v hv; have hc := hv.2.2; clear hv; go_simp⟩) hH0 ?_
  simp only [Act.put, List.setIfInBounds_toArray, List.set_cons_zero, List.set_cons_succ]
  refine wpAnyH_ready (rs := [1]) (by kernel_rfl) (by simp) ?_
  refine AllReadyH.cons (o := _) rfl (fun K hK => ?_) AllReadyH.nil
  go_simp
  refine (sources_is (⟨5, c.table, c.other, c.to, c.also, c.name, c.type, c.names, c.col, c.df⟩ : Ch) no nc dO dc _).mono ?_
  rintro e w5 ⟨v, rfl, hO, hb⟩
  obtain ⟨so, sc, rfl, hSl⟩ := hO.sl
  have B5 := Lib.hid (And.intro (step0 (below_drew1 (Below.refl _ w1)) hb) hSl)
  clear hO hb hSl
  go_wp2_with fail
  refine hK.out _ _ ⟨B5.out.1, rng (K1.out.2.2.below B5.out.1), (K1.out.2.1.below B5.out.1).cell 0⟩ (fun hH1 => ?_)
  clear hK K hH0
  try simp only [Act.put, List.setIfInBounds_toArray, List.set_cons_zero, List.set_cons_succ]
  refine wpAnyH_ready (rs := [4]) (by kernel_rfl) (by simp) ?_
  refine AllReadyH.cons (o := _) rfl (fun K hK => ?_) AllReadyH.nil
  go_simp
  refine (contains_is (⟨5, c.table, c.other, c.to, c.also, c.name, c.type, c.names, c.col, c.df⟩ : Ch).src tn _ true so sc _ rfl B5.out.2 (by have := src_len (⟨5, c.table, c.other, c.to, c.also, c.name, c.type, c.names, c.col, c.df⟩ : Ch); omega) H.out.2.2.2.2.2.2.1).mono ?_
  rintro e w6 ⟨rfl, rfl⟩
  go_wp2_with fail
  refine hK.out _ _ hH1 (fun _ => ?_)
  clear hK K
  try simp only [Act.put, List.setIfInBounds_toArray, List.set_cons_zero, List.set_cons_succ]
  refine wpAnyH_take (i := 5) (oi := _) (v := .bool false) rfl (by kernel_rfl) (by kernel_rfl) (by kernel_rfl) (fun _ _ _ h => h) (Or.inl ⟨by rfl, by intro v hv; go_simp⟩) hH1 ?_
  simp only [Act.put, List.setIfInBounds_toArray, List.set_cons_zero, List.set_cons_succ]
  refine wpAnyH_done (by kernel_rfl) ?_ _
  clear hH1
  have x0 := (K1.out.2.2.below B5.out.1).cell 0
  simp at x0
  obtain ⟨t0, t1, t2⟩ := (K1.out.2.1.below B5.out.1).t3
  have x7 := (K1.out.2.2.below B5.out.1).cell 7
  simp at x7
  go_wp2_with fail
  refine (vparts_is tn K tc c.names ao no cap nc xs _ ba bc _ rfl (H.out.1.1.below (step0 K1.out.1 B5.out.1)) (by have := Hk.out; omega) (H.out.2.1.below (step0 K1.out.1 B5.out.1)) Hk.out.1 (by have := Hk.out; omega) H.out.2.2.2.2.2.2.2.2.2 (H.out.2.2.2.2.2.2.2.1.below (step0 K1.out.1 B5.out.1)) H.out.2.2.2.2.2.2.2.2.1).mono ?_
  rintro e w7 ⟨o1, c1, o2, c2, rfl, hO1, hO2, hb⟩
  have B7 := Lib.hid (And.intro hO1 (And.intro hO2 (step0 (step0 K1.out.1 B5.out.1) hb)))
  clear hO1 hO2 hb
  obtain ⟨X, hX⟩ : ∃ X, vsm tc c.names K xs = X := ⟨_, rfl⟩
  obtain ⟨Y, hY⟩ : ∃ Y, vrs tc c.names K xs = Y := ⟨_, rfl⟩
  rw [hX, hY] at B7
  rw [hX, hY]
  go_wp2
  go_ret2
  refine ⟨⟨_, _, [⟨X, o1, c1⟩, ⟨Y, o2, c2⟩], rfl, (show [X, Y] = [vsm tc c.names K xs, vrs tc c.names K xs] by rw [hX, hY]), slr_two w7 ⟨X, o1, c1⟩ ⟨Y, o2, c2⟩, FitR.two ?_ ?_, at_new B7.out.2.2.size⟩, B7.out.2.2.alloc B7.out.2.2.size _⟩
  · exact (B7.out.1.base (step0 K1.out.1 B5.out.1).size).keep (below1 _ _)
  · exact (B7.out.2.1.base (step0 K1.out.1 B5.out.1).size).keep (below1 _ _)

set_option maxHeartbeats 4000000 in
set_option maxRecDepth 100000 in
theorem row_3n (c : Ch) (no : Option Addr) (nc : Nat) (dO : Option Addr) (dc : Nat) (tn : Nm.S) (K : Nat) (tc : List C) (ao : Option Addr) (cap : Nat) (xs : List V) (n : Nat) (hn : xs.length = n) (hlen : xs.length = tc.length) (hc8 : tc.length ≤ 8) (hk0 : 1 ≤ K) (hk1 : K ≤ tc.length) (bo : Option Addr) (bc : Nat) (w : World) (hg : Env w) (hT : At3 w ⟨tn, (K : Int), tc⟩ ao cap) (hx : Sl w bo xs) (hm : xs.length ≤ 30) (ho : ∀ x ∈ xs, x.ok) (hE : (⟨tn, (K : Int), tc⟩ : T).fit xs = 0) (hs : tn ∈ (⟨3, c.table, c.other, c.to, c.also, c.name, c.type, c.names, c.col, c.df⟩ : Ch).src) (hf : Nm.fi (tc.map C.name) c.name < (K : Int)) :
    Calls Tryz.prog 10 #[.agg #[.string ⟨tn.toArray⟩, .int .i64 (K : Int), .slice ao tc.length cap], .agg #[.int .i64 3, .string ⟨c.table.toArray⟩, .string ⟨c.other.toArray⟩, .string ⟨c.to.toArray⟩, .string ⟨c.also.toArray⟩, .string ⟨c.name.toArray⟩, .int .i64 c.type, .slice no c.names.length nc, .string ⟨c.col.name.toArray⟩, .int .i64 c.col.kind, .bool c.col.null, .int .i64 c.col.d.k, .int .i64 c.col.d.n, .int .u64 c.col.d.b, .string ⟨c.col.d.s.toArray⟩, .string ⟨c.df.name.toArray⟩, .int .i64 c.df.keys, .slice dO c.df.cs.length dc], .slice bo n bc] w fun e w' => e = .returned (.tuple #[.slice none 0 0, .int .i64 10]) ∧ Below w.heap.size w w' := by
  have hmx : Tryz.prog.follows .mixedOrders = true := by kernel_rfl
  subst hn
  have Hk := Lib.hid (And.intro hlen (And.intro hc8 (And.intro hk0 hk1)))
  clear hlen hc8 hk0 hk1
  have H := Lib.hid (And.intro hT (And.intro hx (And.intro hm (And.intro ho (And.intro hg (And.intro hE (And.intro (decide_eq_true hs) hf)))))))
  clear hT hx hm ho hg
  go_enter Tryz.func10, Tryz.ntmps10
  go_wp2_with fail
  refine (fits_t ⟨tn, (K : Int), tc⟩ xs ao bo cap bc _ (H.out.1.keep (below2s _ _ _)) (H.out.2.1.below (below2s _ _ _)) H.out.2.2.1 H.out.2.2.2.1 (H.out.2.2.2.2.1.keep (below2s _ _ _)) 0 H.out.2.2.2.2.2.1).mono ?_
  rintro e w1 ⟨rfl, hb⟩
  clear hE hs
  have q0 := ((Blk.new w #[.string ⟨tn.toArray⟩, .int .i64 (K : Int), .slice ao tc.length cap] 24).alloc (.cells #[.int .i64 3, .string ⟨c.table.toArray⟩, .string ⟨c.other.toArray⟩, .string ⟨c.to.toArray⟩, .string ⟨c.also.toArray⟩, .string ⟨c.name.toArray⟩, .int .i64 c.type, .slice no c.names.length nc, .string ⟨c.col.name.toArray⟩, .int .i64 c.col.kind, .bool c.col.null, .int .i64 c.col.d.k, .int .i64 c.col.d.n, .int .u64 c.col.d.b, .string ⟨c.col.d.s.toArray⟩, .string ⟨c.df.name.toArray⟩, .int .i64 c.df.keys, .slice dO c.df.cs.length dc] 32)).below hb
  have q1 := (Blk.new (w.alloc (.cells #[.string ⟨tn.toArray⟩, .int .i64 (K : Int), .slice ao tc.length cap] 24)) #[.int .i64 3, .string ⟨c.table.toArray⟩, .string ⟨c.other.toArray⟩, .string ⟨c.to.toArray⟩, .string ⟨c.also.toArray⟩, .string ⟨c.name.toArray⟩, .int .i64 c.type, .slice no c.names.length nc, .string ⟨c.col.name.toArray⟩, .int .i64 c.col.kind, .bool c.col.null, .int .i64 c.col.d.k, .int .i64 c.col.d.n, .int .u64 c.col.d.b, .string ⟨c.col.d.s.toArray⟩, .string ⟨c.df.name.toArray⟩, .int .i64 c.df.keys, .slice dO c.df.cs.length dc] 32).below hb
  have hsz : (w.alloc (.cells #[.string ⟨tn.toArray⟩, .int .i64 (K : Int), .slice ao tc.length cap] 24)).heap.size = w.heap.size + 1 := by simp
  rw [hsz] at q1
  have K1 := Lib.hid (And.intro (step0 (below2s w _ _) hb) (And.intro q0 q1))
  clear hb q0 q1 hsz
  go_wp2_with fail
  refine wp_region_held_drew (S := fun v => Below w1.heap.size w1 v ∧ v.rangeAt (w.heap.size + 1) 0 [.int .i64 3, .string ⟨c.table.toArray⟩, .string ⟨c.other.toArray⟩, .string ⟨c.to.toArray⟩, .string ⟨c.also.toArray⟩, .string ⟨c.name.toArray⟩, .int .i64 c.type, .slice no c.names.length nc, .string ⟨c.col.name.toArray⟩, .int .i64 c.col.kind, .bool c.col.null, .int .i64 c.col.d.k, .int .i64 c.col.d.n, .int .u64 c.col.d.b, .string ⟨c.col.d.s.toArray⟩, .string ⟨c.df.name.toArray⟩, .int .i64 c.df.keys, .slice dO c.df.cs.length dc] ∧ v.cell? ⟨w.heap.size, 0, none⟩ = some (.string ⟨tn.toArray⟩)) (by kernel_rfl) ⟨(Below.refl _ _).drew, rng K1.out.2.2, K1.out.2.1.cell 0⟩ (fun hH0 => ?_)
  refine wpAnyH_take (i := 0) (oi := _) (v := .agg #[.int .i64 3, .string ⟨c.table.toArray⟩, .string ⟨c.other.toArray⟩, .string ⟨c.to.toArray⟩, .string ⟨c.also.toArray⟩, .string ⟨c.name.toArray⟩, .int .i64 c.type, .slice no c.names.length nc, .string ⟨c.col.name.toArray⟩, .int .i64 c.col.kind, .bool c.col.null, .int .i64 c.col.d.k, .int .i64 c.col.d.n, .int .u64 c.col.d.b, .string ⟨c.col.d.s.toArray⟩, .string ⟨c.df.name.toArray⟩, .int .i64 c.df.keys, .slice dO c.df.cs.length dc]) rfl (by kernel_rfl) (by kernel_rfl) (by kernel_rfl) (fun _ _ _ h => h) (yieldsIf_load_mid (by rfl) _ _ rfl (w.heap.size + 1) 0 rfl [.int .i64 3, .string ⟨c.table.toArray⟩, .string ⟨c.other.toArray⟩, .string ⟨c.to.toArray⟩, .string ⟨c.also.toArray⟩, .string ⟨c.name.toArray⟩, .int .i64 c.type, .slice no c.names.length nc, .string ⟨c.col.name.toArray⟩, .int .i64 c.col.kind, .bool c.col.null, .int .i64 c.col.d.k, .int .i64 c.col.d.n, .int .u64 c.col.d.b, .string ⟨c.col.d.s.toArray⟩, .string ⟨c.df.name.toArray⟩, .int .i64 c.df.keys, .slice dO c.df.cs.length dc] _ (fun v hv => hv.2.1) Tryz.underlying32 rfl infoCh) hH0 ?_
  simp only [Act.put, List.setIfInBounds_toArray, List.set_cons_zero, List.set_cons_succ]
  refine wpAnyH_take (i := 2) (oi := _) (v := .pointer (some ⟨w.heap.size, 0, none⟩)) rfl (by kernel_rfl) (by kernel_rfl) (by kernel_rfl) (fun _ _ _ h => h) (Or.inl ⟨by rfl, by intro v hv; go_simp⟩) hH0 ?_
  simp only [Act.put, List.setIfInBounds_toArray, List.set_cons_zero, List.set_cons_succ]
  refine wpAnyH_take (i := 3) (oi := _) (v := .string ⟨tn.toArray⟩) rfl (by kernel_rfl) (by kernel_rfl) (by kernel_rfl) (fun _ _ _ h => h) (Or.inl ⟨by rfl, by intro v hv; have hc := hv.2.2; clear hv; go_simp⟩) hH0 ?_
  simp only [Act.put, List.setIfInBounds_toArray, List.set_cons_zero, List.set_cons_succ]
  refine wpAnyH_ready (rs := [1]) (by kernel_rfl) (by simp) ?_
  refine AllReadyH.cons (o := _) rfl (fun K hK => ?_) AllReadyH.nil
  go_simp
  refine (sources_is (⟨3, c.table, c.other, c.to, c.also, c.name, c.type, c.names, c.col, c.df⟩ : Ch) no nc dO dc _).mono ?_
  rintro e w5 ⟨v, rfl, hO, hb⟩
  obtain ⟨so, sc, rfl, hSl⟩ := hO.sl
  have B5 := Lib.hid (And.intro (step0 (below_drew1 (Below.refl _ w1)) hb) hSl)
  clear hO hb hSl
  go_wp2_with fail
  refine hK.out _ _ ⟨B5.out.1, rng (K1.out.2.2.below B5.out.1), (K1.out.2.1.below B5.out.1).cell 0⟩ (fun hH1 => ?_)
  clear hK K hH0
  try simp only [Act.put, List.setIfInBounds_toArray, List.set_cons_zero, List.set_cons_succ]
  refine wpAnyH_ready (rs := [4]) (by kernel_rfl) (by simp) ?_
  refine AllReadyH.cons (o := _) rfl (fun K hK => ?_) AllReadyH.nil
  go_simp
  refine (contains_is (⟨3, c.table, c.other, c.to, c.also, c.name, c.type, c.names, c.col, c.df⟩ : Ch).src tn _ true so sc _ rfl B5.out.2 (by have := src_len (⟨3, c.table, c.other, c.to, c.also, c.name, c.type, c.names, c.col, c.df⟩ : Ch); omega) H.out.2.2.2.2.2.2.1).mono ?_
  rintro e w6 ⟨rfl, rfl⟩
  go_wp2_with fail
  refine hK.out _ _ hH1 (fun _ => ?_)
  clear hK K
  try simp only [Act.put, List.setIfInBounds_toArray, List.set_cons_zero, List.set_cons_succ]
  refine wpAnyH_take (i := 5) (oi := _) (v := .bool false) rfl (by kernel_rfl) (by kernel_rfl) (by kernel_rfl) (fun _ _ _ h => h) (Or.inl ⟨by rfl, by intro v hv; go_simp⟩) hH1 ?_
  simp only [Act.put, List.setIfInBounds_toArray, List.set_cons_zero, List.set_cons_succ]
  refine wpAnyH_done (by kernel_rfl) ?_ _
  clear hH1
  have x0 := (K1.out.2.2.below B5.out.1).cell 0
  simp at x0
  clear hf
  obtain ⟨t0, t1, t2⟩ := (K1.out.2.1.below B5.out.1).t3
  have x5 := (K1.out.2.2.below B5.out.1).cell 5
  simp at x5
  go_wp2_with fail
  refine (dropped_bad tn K tc c.name ao cap xs _ bo bc _ rfl (H.out.1.1.below (step0 K1.out.1 B5.out.1)) (by have := Hk.out; omega) (H.out.2.1.below (step0 K1.out.1 B5.out.1)) Hk.out.1 H.out.2.2.2.2.2.2.2).mono ?_
  rintro e w7 ⟨rfl, hb⟩
  have B7 := Lib.hid (step0 (step0 K1.out.1 B5.out.1) hb)
  clear hb
  go_wp2
  go_ret2
  exact ⟨rfl, B7.out⟩

set_option maxHeartbeats 4000000 in
set_option maxRecDepth 100000 in
theorem row_3 (c : Ch) (no : Option Addr) (nc : Nat) (dO : Option Addr) (dc : Nat) (tn : Nm.S) (K : Nat) (tc : List C) (ao : Option Addr) (cap : Nat) (xs : List V) (n : Nat) (hn : xs.length = n) (hlen : xs.length = tc.length) (hc8 : tc.length ≤ 8) (hk0 : 1 ≤ K) (hk1 : K ≤ tc.length) (bo : Option Addr) (bc : Nat) (w : World) (hg : Env w) (hT : At3 w ⟨tn, (K : Int), tc⟩ ao cap) (hx : Sl w bo xs) (hm : xs.length ≤ 30) (ho : ∀ x ∈ xs, x.ok) (hE : (⟨tn, (K : Int), tc⟩ : T).fit xs = 0) (hs : tn ∈ (⟨3, c.table, c.other, c.to, c.also, c.name, c.type, c.names, c.col, c.df⟩ : Ch).src) (I : Nat) (hf : Nm.fi (tc.map C.name) c.name = (I : Int)) (hKI : (K : Int) ≤ (I : Int)) (hI : I < tc.length) :
    Calls Tryz.prog 10 #[.agg #[.string ⟨tn.toArray⟩, .int .i64 (K : Int), .slice ao tc.length cap], .agg #[.int .i64 3, .string ⟨c.table.toArray⟩, .string ⟨c.other.toArray⟩, .string ⟨c.to.toArray⟩, .string ⟨c.also.toArray⟩, .string ⟨c.name.toArray⟩, .int .i64 c.type, .slice no c.names.length nc, .string ⟨c.col.name.toArray⟩, .int .i64 c.col.kind, .bool c.col.null, .int .i64 c.col.d.k, .int .i64 c.col.d.n, .int .u64 c.col.d.b, .string ⟨c.col.d.s.toArray⟩, .string ⟨c.df.name.toArray⟩, .int .i64 c.df.keys, .slice dO c.df.cs.length dc], .slice bo n bc] w fun e w' => RR w w' e ([xs.eraseIdx I], 0) ∧ Below w.heap.size w w' := by
  have hmx : Tryz.prog.follows .mixedOrders = true := by kernel_rfl
  subst hn
  have Hk := Lib.hid (And.intro hlen (And.intro hc8 (And.intro hk0 hk1)))
  clear hlen hc8 hk0 hk1
  have H := Lib.hid (And.intro hT (And.intro hx (And.intro hm (And.intro ho (And.intro hg (And.intro hE (And.intro (decide_eq_true hs) (And.intro hf (And.intro hKI hI)))))))))
  clear hT hx hm ho hg
  go_enter Tryz.func10, Tryz.ntmps10
  go_wp2_with fail
  refine (fits_t ⟨tn, (K : Int), tc⟩ xs ao bo cap bc _ (H.out.1.keep (below2s _ _ _)) (H.out.2.1.below (below2s _ _ _)) H.out.2.2.1 H.out.2.2.2.1 (H.out.2.2.2.2.1.keep (below2s _ _ _)) 0 H.out.2.2.2.2.2.1).mono ?_
  rintro e w1 ⟨rfl, hb⟩
  clear hE hs
  have q0 := ((Blk.new w #[.string ⟨tn.toArray⟩, .int .i64 (K : Int), .slice ao tc.length cap] 24).alloc (.cells #[.int .i64 3, .string ⟨c.table.toArray⟩, .string ⟨c.other.toArray⟩, .string ⟨c.to.toArray⟩, .string ⟨c.also.toArray⟩, .string ⟨c.name.toArray⟩, .int .i64 c.type, .slice no c.names.length nc, .string ⟨c.col.name.toArray⟩, .int .i64 c.col.kind, .bool c.col.null, .int .i64 c.col.d.k, .int .i64 c.col.d.n, .int .u64 c.col.d.b, .string ⟨c.col.d.s.toArray⟩, .string ⟨c.df.name.toArray⟩, .int .i64 c.df.keys, .slice dO c.df.cs.length dc] 32)).below hb
  have q1 := (Blk.new (w.alloc (.cells #[.string ⟨tn.toArray⟩, .int .i64 (K : Int), .slice ao tc.length cap] 24)) #[.int .i64 3, .string ⟨c.table.toArray⟩, .string ⟨c.other.toArray⟩, .string ⟨c.to.toArray⟩, .string ⟨c.also.toArray⟩, .string ⟨c.name.toArray⟩, .int .i64 c.type, .slice no c.names.length nc, .string ⟨c.col.name.toArray⟩, .int .i64 c.col.kind, .bool c.col.null, .int .i64 c.col.d.k, .int .i64 c.col.d.n, .int .u64 c.col.d.b, .string ⟨c.col.d.s.toArray⟩, .string ⟨c.df.name.toArray⟩, .int .i64 c.df.keys, .slice dO c.df.cs.length dc] 32).below hb
  have hsz : (w.alloc (.cells #[.string ⟨tn.toArray⟩, .int .i64 (K : Int), .slice ao tc.length cap] 24)).heap.size = w.heap.size + 1 := by simp
  rw [hsz] at q1
  have K1 := Lib.hid (And.intro (step0 (below2s w _ _) hb) (And.intro q0 q1))
  clear hb q0 q1 hsz
  go_wp2_with fail
  refine wp_region_held_drew (S := fun v => Below w1.heap.size w1 v ∧ v.rangeAt (w.heap.size + 1) 0 [.int .i64 3, .string ⟨c.table.toArray⟩, .string ⟨c.other.toArray⟩, .string ⟨c.to.toArray⟩, .string ⟨c.also.toArray⟩, .string ⟨c.name.toArray⟩, .int .i64 c.type, .slice no c.names.length nc, .string ⟨c.col.name.toArray⟩, .int .i64 c.col.kind, .bool c.col.null, .int .i64 c.col.d.k, .int .i64 c.col.d.n, .int .u64 c.col.d.b, .string ⟨c.col.d.s.toArray⟩, .string ⟨c.df.name.toArray⟩, .int .i64 c.df.keys, .slice dO c.df.cs.length dc] ∧ v.cell? ⟨w.heap.size, 0, none⟩ = some (.string ⟨tn.toArray⟩)) (by kernel_rfl) ⟨(Below.refl _ _).drew, rng K1.out.2.2, K1.out.2.1.cell 0⟩ (fun hH0 => ?_)
  refine wpAnyH_take (i := 0) (oi := _) (v := .agg #[.int .i64 3, .string ⟨c.table.toArray⟩, .string ⟨c.other.toArray⟩, .string ⟨c.to.toArray⟩, .string ⟨c.also.toArray⟩, .string ⟨c.name.toArray⟩, .int .i64 c.type, .slice no c.names.length nc, .string ⟨c.col.name.toArray⟩, .int .i64 c.col.kind, .bool c.col.null, .int .i64 c.col.d.k, .int .i64 c.col.d.n, .int .u64 c.col.d.b, .string ⟨c.col.d.s.toArray⟩, .string ⟨c.df.name.toArray⟩, .int .i64 c.df.keys, .slice dO c.df.cs.length dc]) rfl (by kernel_rfl) (by kernel_rfl) (by kernel_rfl) (fun _ _ _ h => h) (yieldsIf_load_mid (by rfl) _ _ rfl (w.heap.size + 1) 0 rfl [.int .i64 3, .string ⟨c.table.toArray⟩, .string ⟨c.other.toArray⟩, .string ⟨c.to.toArray⟩, .string ⟨c.also.toArray⟩, .string ⟨c.name.toArray⟩, .int .i64 c.type, .slice no c.names.length nc, .string ⟨c.col.name.toArray⟩, .int .i64 c.col.kind, .bool c.col.null, .int .i64 c.col.d.k, .int .i64 c.col.d.n, .int .u64 c.col.d.b, .string ⟨c.col.d.s.toArray⟩, .string ⟨c.df.name.toArray⟩, .int .i64 c.df.keys, .slice dO c.df.cs.length dc] _ (fun v hv => hv.2.1) Tryz.underlying32 rfl infoCh) hH0 ?_
  simp only [Act.put, List.setIfInBounds_toArray, List.set_cons_zero, List.set_cons_succ]
  refine wpAnyH_take (i := 2) (oi := _) (v := .pointer (some ⟨w.heap.size, 0, none⟩)) rfl (by kernel_rfl) (by kernel_rfl) (by kernel_rfl) (fun _ _ _ h => h) (Or.inl ⟨by rfl, by intro v hv; go_simp⟩) hH0 ?_
  simp only [Act.put, List.setIfInBounds_toArray, List.set_cons_zero, List.set_cons_succ]
  refine wpAnyH_take (i := 3) (oi := _) (v := .string ⟨tn.toArray⟩) rfl (by kernel_rfl) (by kernel_rfl) (by kernel_rfl) (fun _ _ _ h => h) (Or.inl ⟨by rfl, by intro v hv; have hc := hv.2.2; clear hv; go_simp⟩) hH0 ?_
  simp only [Act.put, List.setIfInBounds_toArray, List.set_cons_zero, List.set_cons_succ]
  refine wpAnyH_ready (rs := [1]) (by kernel_rfl) (by simp) ?_
  refine AllReadyH.cons (o := _) rfl (fun K hK => ?_) AllReadyH.nil
  go_simp
  refine (sources_is (⟨3, c.table, c.other, c.to, c.also, c.name, c.type, c.names, c.col, c.df⟩ : Ch) no nc dO dc _).mono ?_
  rintro e w5 ⟨v, rfl, hO, hb⟩
  obtain ⟨so, sc, rfl, hSl⟩ := hO.sl
  have B5 := Lib.hid (And.intro (step0 (below_drew1 (Below.refl _ w1)) hb) hSl)
  clear hO hb hSl
  go_wp2_with fail
  refine hK.out _ _ ⟨B5.out.1, rng (K1.out.2.2.below B5.out.1), (K1.out.2.1.below B5.out.1).cell 0⟩ (fun hH1 => ?_)
  clear hK K hH0
  try simp only [Act.put, List.setIfInBounds_toArray, List.set_cons_zero, List.set_cons_succ]
  refine wpAnyH_ready (rs := [4]) (by kernel_rfl) (by simp) ?_
  refine AllReadyH.cons (o := _) rfl (fun K hK => ?_) AllReadyH.nil
  go_simp
  refine (contains_is (⟨3, c.table, c.other, c.to, c.also, c.name, c.type, c.names, c.col, c.df⟩ : Ch).src tn _ true so sc _ rfl B5.out.2 (by have := src_len (⟨3, c.table, c.other, c.to, c.also, c.name, c.type, c.names, c.col, c.df⟩ : Ch); omega) H.out.2.2.2.2.2.2.1).mono ?_
  rintro e w6 ⟨rfl, rfl⟩
  go_wp2_with fail
  refine hK.out _ _ hH1 (fun _ => ?_)
  clear hK K
  try simp only [Act.put, List.setIfInBounds_toArray, List.set_cons_zero, List.set_cons_succ]
  refine wpAnyH_take (i := 5) (oi := _) (v := .bool false) rfl (by kernel_rfl) (by kernel_rfl) (by kernel_rfl) (fun _ _ _ h => h) (Or.inl ⟨by rfl, by intro v hv; go_simp⟩) hH1 ?_
  simp only [Act.put, List.setIfInBounds_toArray, List.set_cons_zero, List.set_cons_succ]
  refine wpAnyH_done (by kernel_rfl) ?_ _
  clear hH1
  have x0 := (K1.out.2.2.below B5.out.1).cell 0
  simp at x0
  clear hf hKI hI
  obtain ⟨t0, t1, t2⟩ := (K1.out.2.1.below B5.out.1).t3
  have x5 := (K1.out.2.2.below B5.out.1).cell 5
  simp at x5
  go_wp2_with fail
  refine (dropped_ok tn K tc c.name ao cap xs _ bo bc _ rfl (H.out.1.1.below (step0 K1.out.1 B5.out.1)) (by have := Hk.out; omega) (H.out.2.1.below (step0 K1.out.1 B5.out.1)) Hk.out.1 I H.out.2.2.2.2.2.2.2.1 (by have := H.out.2.2.2.2.2.2.2.2.1; omega) H.out.2.2.2.2.2.2.2.2.2).mono ?_
  rintro e w7 ⟨hRR, hb⟩
  have B7 := Lib.hid (And.intro (hRR.base (step0 K1.out.1 B5.out.1).size) (step0 (step0 K1.out.1 B5.out.1) hb))
  obtain ⟨ro, rc, ys, rfl, _, _, _⟩ := hRR
  clear hb
  go_wp2
  go_ret2
  exact ⟨B7.out.1, B7.out.2⟩

set_option maxHeartbeats 4000000 in
set_option maxRecDepth 100000 in
theorem row_4n (c : Ch) (no : Option Addr) (nc : Nat) (dO : Option Addr) (dc : Nat) (tn : Nm.S) (K : Nat) (tc : List C) (ao : Option Addr) (cap : Nat) (xs : List V) (n : Nat) (hn : xs.length = n) (hlen : xs.length = tc.length) (hc8 : tc.length ≤ 8) (hk0 : 1 ≤ K) (hk1 : K ≤ tc.length) (bo : Option Addr) (bc : Nat) (w : World) (hg : Env w) (hT : At3 w ⟨tn, (K : Int), tc⟩ ao cap) (hx : Sl w bo xs) (hm : xs.length ≤ 30) (ho : ∀ x ∈ xs, x.ok) (hE : (⟨tn, (K : Int), tc⟩ : T).fit xs = 0) (hs : tn ∈ (⟨4, c.table, c.other, c.to, c.also, c.name, c.type, c.names, c.col, c.df⟩ : Ch).src) (hG : Km.Env w) (hf : Nm.fi (tc.map C.name) c.name < (K : Int)) :
    Calls Tryz.prog 10 #[.agg #[.string ⟨tn.toArray⟩, .int .i64 (K : Int), .slice ao tc.length cap], .agg #[.int .i64 4, .string ⟨c.table.toArray⟩, .string ⟨c.other.toArray⟩, .string ⟨c.to.toArray⟩, .string ⟨c.also.toArray⟩, .string ⟨c.name.toArray⟩, .int .i64 c.type, .slice no c.names.length nc, .string ⟨c.col.name.toArray⟩, .int .i64 c.col.kind, .bool c.col.null, .int .i64 c.col.d.k, .int .i64 c.col.d.n, .int .u64 c.col.d.b, .string ⟨c.col.d.s.toArray⟩, .string ⟨c.df.name.toArray⟩, .int .i64 c.df.keys, .slice dO c.df.cs.length dc], .slice bo n bc] w fun e w' => e = .returned (.tuple #[.slice none 0 0, .int .i64 10]) ∧ Below w.heap.size w w' := by
  have hmx : Tryz.prog.follows .mixedOrders = true := by kernel_rfl
  subst hn
  have Hk := Lib.hid (And.intro hlen (And.intro hc8 (And.intro hk0 hk1)))
  clear hlen hc8 hk0 hk1
  have H := Lib.hid (And.intro hT (And.intro hx (And.intro hm (And.intro ho (And.intro hg (And.intro hE (And.intro (decide_eq_true hs) (And.intro hf hG))))))))
  clear hT hx hm ho hg
  go_enter Tryz.func10, Tryz.ntmps10
  go_wp2_with fail
  refine (fits_t ⟨tn, (K : Int), tc⟩ xs ao bo cap bc _ (H.out.1.keep (below2s _ _ _)) (H.out.2.1.below (below2s _ _ _)) H.out.2.2.1 H.out.2.2.2.1 (H.out.2.2.2.2.1.keep (below2s _ _ _)) 0 H.out.2.2.2.2.2.1).mono ?_
  rintro e w1 ⟨rfl, hb⟩
  clear hE hs
  have q0 := ((Blk.new w #[.string ⟨tn.toArray⟩, .int .i64 (K : Int), .slice ao tc.length cap] 24).alloc (.cells #[.int .i64 4, .string ⟨c.table.toArray⟩, .string ⟨c.other.toArray⟩, .string ⟨c.to.toArray⟩, .string ⟨c.also.toArray⟩, .string ⟨c.name.toArray⟩, .int .i64 c.type, .slice no c.names.length nc, .string ⟨c.col.name.toArray⟩, .int .i64 c.col.kind, .bool c.col.null, .int .i64 c.col.d.k, .int .i64 c.col.d.n, .int .u64 c.col.d.b, .string ⟨c.col.d.s.toArray⟩, .string ⟨c.df.name.toArray⟩, .int .i64 c.df.keys, .slice dO c.df.cs.length dc] 32)).below hb
  have q1 := (Blk.new (w.alloc (.cells #[.string ⟨tn.toArray⟩, .int .i64 (K : Int), .slice ao tc.length cap] 24)) #[.int .i64 4, .string ⟨c.table.toArray⟩, .string ⟨c.other.toArray⟩, .string ⟨c.to.toArray⟩, .string ⟨c.also.toArray⟩, .string ⟨c.name.toArray⟩, .int .i64 c.type, .slice no c.names.length nc, .string ⟨c.col.name.toArray⟩, .int .i64 c.col.kind, .bool c.col.null, .int .i64 c.col.d.k, .int .i64 c.col.d.n, .int .u64 c.col.d.b, .string ⟨c.col.d.s.toArray⟩, .string ⟨c.df.name.toArray⟩, .int .i64 c.df.keys, .slice dO c.df.cs.length dc] 32).below hb
  have hsz : (w.alloc (.cells #[.string ⟨tn.toArray⟩, .int .i64 (K : Int), .slice ao tc.length cap] 24)).heap.size = w.heap.size + 1 := by simp
  rw [hsz] at q1
  have K1 := Lib.hid (And.intro (step0 (below2s w _ _) hb) (And.intro q0 q1))
  clear hb q0 q1 hsz
  go_wp2_with fail
  refine wp_region_held_drew (S := fun v => Below w1.heap.size w1 v ∧ v.rangeAt (w.heap.size + 1) 0 [.int .i64 4, .string ⟨c.table.toArray⟩, .string ⟨c.other.toArray⟩, .string ⟨c.to.toArray⟩, .string ⟨c.also.toArray⟩, .string ⟨c.name.toArray⟩, .int .i64 c.type, .slice no c.names.length nc, .string ⟨c.col.name.toArray⟩, .int .i64 c.col.kind, .bool c.col.null, .int .i64 c.col.d.k, .int .i64 c.col.d.n, .int .u64 c.col.d.b, .string ⟨c.col.d.s.toArray⟩, .string ⟨c.df.name.toArray⟩, .int .i64 c.df.keys, .slice dO c.df.cs.length dc] ∧ v.cell? ⟨w.heap.size, 0, none⟩ = some (.string ⟨tn.toArray⟩)) (by kernel_rfl) ⟨(Below.refl _ _).drew, rng K1.out.2.2, K1.out.2.1.cell 0⟩ (fun hH0 => ?_)
  refine wpAnyH_take (i := 0) (oi := _) (v := .agg #[.int .i64 4, .string ⟨c.table.toArray⟩, .string ⟨c.other.toArray⟩, .string ⟨c.to.toArray⟩, .string ⟨c.also.toArray⟩, .string ⟨c.name.toArray⟩, .int .i64 c.type, .slice no c.names.length nc, .string ⟨c.col.name.toArray⟩, .int .i64 c.col.kind, .bool c.col.null, .int .i64 c.col.d.k, .int .i64 c.col.d.n, .int .u64 c.col.d.b, .string ⟨c.col.d.s.toArray⟩, .string ⟨c.df.name.toArray⟩, .int .i64 c.df.keys, .slice dO c.df.cs.length dc]) rfl (by kernel_rfl) (by kernel_rfl) (by kernel_rfl) (fun _ _ _ h => h) (yieldsIf_load_mid (by rfl) _ _ rfl (w.heap.size + 1) 0 rfl [.int .i64 4, .string ⟨c.table.toArray⟩, .string ⟨c.other.toArray⟩, .string ⟨c.to.toArray⟩, .string ⟨c.also.toArray⟩, .string ⟨c.name.toArray⟩, .int .i64 c.type, .slice no c.names.length nc, .string ⟨c.col.name.toArray⟩, .int .i64 c.col.kind, .bool c.col.null, .int .i64 c.col.d.k, .int .i64 c.col.d.n, .int .u64 c.col.d.b, .string ⟨c.col.d.s.toArray⟩, .string ⟨c.df.name.toArray⟩, .int .i64 c.df.keys, .slice dO c.df.cs.length dc] _ (fun v hv => hv.2.1) Tryz.underlying32 rfl infoCh) hH0 ?_
  simp only [Act.put, List.setIfInBounds_toArray, List.set_cons_zero, List.set_cons_succ]
  refine wpAnyH_take (i := 2) (oi := _) (v := .pointer (some ⟨w.heap.size, 0, none⟩)) rfl (by kernel_rfl) (by kernel_rfl) (by kernel_rfl) (fun _ _ _ h => h) (Or.inl ⟨by rfl, by intro v hv; go_simp⟩) hH0 ?_
  simp only [Act.put, List.setIfInBounds_toArray, List.set_cons_zero, List.set_cons_succ]
  refine wpAnyH_take (i := 3) (oi := _) (v := .string ⟨tn.toArray⟩) rfl (by kernel_rfl) (by kernel_rfl) (by kernel_rfl) (fun _ _ _ h => h) (Or.inl ⟨by rfl, by intro v hv; have hc := hv.2.2; clear hv; go_simp⟩) hH0 ?_
  simp only [Act.put, List.setIfInBounds_toArray, List.set_cons_zero, List.set_cons_succ]
  refine wpAnyH_ready (rs := [1]) (by kernel_rfl) (by simp) ?_
  refine AllReadyH.cons (o := _) rfl (fun K hK => ?_) AllReadyH.nil
  go_simp
  refine (sources_is (⟨4, c.table, c.other, c.to, c.also, c.name, c.type, c.names, c.col, c.df⟩ : Ch) no nc dO dc _).mono ?_
  rintro e w5 ⟨v, rfl, hO, hb⟩
  obtain ⟨so, sc, rfl, hSl⟩ := hO.sl
  have B5 := Lib.hid (And.intro (step0 (below_drew1 (Below.refl _ w1)) hb) hSl)
  clear hO hb hSl
  go_wp2_with fail
  refine hK.out _ _ ⟨B5.out.1, rng (K1.out.2.2.below B5.out.1), (K1.out.2.1.below B5.out.1).cell 0⟩ (fun hH1 => ?_)
  clear hK K hH0
  try simp only [Act.put, List.setIfInBounds_toArray, List.set_cons_zero, List.set_cons_succ]
  refine wpAnyH_ready (rs := [4]) (by kernel_rfl) (by simp) ?_
  refine AllReadyH.cons (o := _) rfl (fun K hK => ?_) AllReadyH.nil
  go_simp
  refine (contains_is (⟨4, c.table, c.other, c.to, c.also, c.name, c.type, c.names, c.col, c.df⟩ : Ch).src tn _ true so sc _ rfl B5.out.2 (by have := src_len (⟨4, c.table, c.other, c.to, c.also, c.name, c.type, c.names, c.col, c.df⟩ : Ch); omega) H.out.2.2.2.2.2.2.1).mono ?_
  rintro e w6 ⟨rfl, rfl⟩
  go_wp2_with fail
  refine hK.out _ _ hH1 (fun _ => ?_)
  clear hK K
  try simp only [Act.put, List.setIfInBounds_toArray, List.set_cons_zero, List.set_cons_succ]
  refine wpAnyH_take (i := 5) (oi := _) (v := .bool false) rfl (by kernel_rfl) (by kernel_rfl) (by kernel_rfl) (fun _ _ _ h => h) (Or.inl ⟨by rfl, by intro v hv; go_simp⟩) hH1 ?_
  simp only [Act.put, List.setIfInBounds_toArray, List.set_cons_zero, List.set_cons_succ]
  refine wpAnyH_done (by kernel_rfl) ?_ _
  clear hH1
  have x0 := (K1.out.2.2.below B5.out.1).cell 0
  simp at x0
  clear hf hG
  obtain ⟨t0, t1, t2⟩ := (K1.out.2.1.below B5.out.1).t3
  have x5 := (K1.out.2.2.below B5.out.1).cell 5
  simp at x5
  have x6 := (K1.out.2.2.below B5.out.1).cell 6
  simp at x6
  go_wp2_with fail
  refine (retyped_bad tn K tc c.name c.type ao cap xs _ bo bc _ (H.out.2.2.2.2.2.2.2.2.below (step0 K1.out.1 B5.out.1)) rfl (H.out.1.1.below (step0 K1.out.1 B5.out.1)) (by have := Hk.out; omega) (H.out.2.1.below (step0 K1.out.1 B5.out.1)) Hk.out.1 H.out.2.2.2.2.2.2.2.1).mono ?_
  rintro e w7 ⟨rfl, hb⟩
  have B7 := Lib.hid (step0 (step0 K1.out.1 B5.out.1) hb)
  clear hb
  go_wp2
  go_ret2
  exact ⟨rfl, B7.out⟩

set_option maxHeartbeats 4000000 in
set_option maxRecDepth 100000 in
theorem row_4e (c : Ch) (no : Option Addr) (nc : Nat) (dO : Option Addr) (dc : Nat) (tn : Nm.S) (K : Nat) (tc : List C) (ao : Option Addr) (cap : Nat) (xs : List V) (n : Nat) (hn : xs.length = n) (hlen : xs.length = tc.length) (hc8 : tc.length ≤ 8) (hk0 : 1 ≤ K) (hk1 : K ≤ tc.length) (bo : Option Addr) (bc : Nat) (w : World) (hg : Env w) (hT : At3 w ⟨tn, (K : Int), tc⟩ ao cap) (hx : Sl w bo xs) (hm : xs.length ≤ 30) (ho : ∀ x ∈ xs, x.ok) (hE : (⟨tn, (K : Int), tc⟩ : T).fit xs = 0) (hs : tn ∈ (⟨4, c.table, c.other, c.to, c.also, c.name, c.type, c.names, c.col, c.df⟩ : Ch).src) (hG : Km.Env w) (I : Nat) (hf : Nm.fi (tc.map C.name) c.name = (I : Int)) (hKI : (K : Int) ≤ (I : Int)) (hI : I < xs.length) (x : V) (hxI : xs[I] = x) (k1 n1 b1 : Int) (s1 : List UInt8) (E : Int) (hr : Km.Cv.to x.k x.n x.b x.s c.type = ⟨k1, n1, b1, s1, E⟩) (hE0 : ¬ E = 0) :
    Calls Tryz.prog 10 #[.agg #[.string ⟨tn.toArray⟩, .int .i64 (K : Int), .slice ao tc.length cap], .agg #[.int .i64 4, .string ⟨c.table.toArray⟩, .string ⟨c.other.toArray⟩, .string ⟨c.to.toArray⟩, .string ⟨c.also.toArray⟩, .string ⟨c.name.toArray⟩, .int .i64 c.type, .slice no c.names.length nc, .string ⟨c.col.name.toArray⟩, .int .i64 c.col.kind, .bool c.col.null, .int .i64 c.col.d.k, .int .i64 c.col.d.n, .int .u64 c.col.d.b, .string ⟨c.col.d.s.toArray⟩, .string ⟨c.df.name.toArray⟩, .int .i64 c.df.keys, .slice dO c.df.cs.length dc], .slice bo n bc] w fun e w' => e = .returned (.tuple #[.slice none 0 0, .int .i64 E]) ∧ Below w.heap.size w w' := by
  have hmx : Tryz.prog.follows .mixedOrders = true := by kernel_rfl
  subst hn
  have Hk := Lib.hid (And.intro hlen (And.intro hc8 (And.intro hk0 hk1)))
  clear hlen hc8 hk0 hk1
  have H := Lib.hid (And.intro hT (And.intro hx (And.intro hm (And.intro ho (And.intro hg (And.intro hE (And.intro (decide_eq_true hs) (And.intro hf (And.intro hKI (And.intro hI (And.intro hG (And.intro hxI (And.intro (ho _ (hxI ▸ List.getElem_mem hI)) (And.intro hr hE0))))))))))))))
  clear hT hx hm ho hg
  go_enter Tryz.func10, Tryz.ntmps10
  go_wp2_with fail
  refine (fits_t ⟨tn, (K : Int), tc⟩ xs ao bo cap bc _ (H.out.1.keep (below2s _ _ _)) (H.out.2.1.below (below2s _ _ _)) H.out.2.2.1 H.out.2.2.2.1 (H.out.2.2.2.2.1.keep (below2s _ _ _)) 0 H.out.2.2.2.2.2.1).mono ?_
  rintro e w1 ⟨rfl, hb⟩
  clear hE hs
  have q0 := ((Blk.new w #[.string ⟨tn.toArray⟩, .int .i64 (K : Int), .slice ao tc.length cap] 24).alloc (.cells #[.int .i64 4, .string ⟨c.table.toArray⟩, .string ⟨c.other.toArray⟩, .string ⟨c.to.toArray⟩, .string ⟨c.also.toArray⟩, .string ⟨c.name.toArray⟩, .int .i64 c.type, .slice no c.names.length nc, .string ⟨c.col.name.toArray⟩, .int .i64 c.col.kind, .bool c.col.null, .int .i64 c.col.d.k, .int .i64 c.col.d.n, .int .u64 c.col.d.b, .string ⟨c.col.d.s.toArray⟩, .string ⟨c.df.name.toArray⟩, .int .i64 c.df.keys, .slice dO c.df.cs.length dc] 32)).below hb
  have q1 := (Blk.new (w.alloc (.cells #[.string ⟨tn.toArray⟩, .int .i64 (K : Int), .slice ao tc.length cap] 24)) #[.int .i64 4, .string ⟨c.table.toArray⟩, .string ⟨c.other.toArray⟩, .string ⟨c.to.toArray⟩, .string ⟨c.also.toArray⟩, .string ⟨c.name.toArray⟩, .int .i64 c.type, .slice no c.names.length nc, .string ⟨c.col.name.toArray⟩, .int .i64 c.col.kind, .bool c.col.null, .int .i64 c.col.d.k, .int .i64 c.col.d.n, .int .u64 c.col.d.b, .string ⟨c.col.d.s.toArray⟩, .string ⟨c.df.name.toArray⟩, .int .i64 c.df.keys, .slice dO c.df.cs.length dc] 32).below hb
  have hsz : (w.alloc (.cells #[.string ⟨tn.toArray⟩, .int .i64 (K : Int), .slice ao tc.length cap] 24)).heap.size = w.heap.size + 1 := by simp
  rw [hsz] at q1
  have K1 := Lib.hid (And.intro (step0 (below2s w _ _) hb) (And.intro q0 q1))
  clear hb q0 q1 hsz
  go_wp2_with fail
  refine wp_region_held_drew (S := fun v => Below w1.heap.size w1 v ∧ v.rangeAt (w.heap.size + 1) 0 [.int .i64 4, .string ⟨c.table.toArray⟩, .string ⟨c.other.toArray⟩, .string ⟨c.to.toArray⟩, .string ⟨c.also.toArray⟩, .string ⟨c.name.toArray⟩, .int .i64 c.type, .slice no c.names.length nc, .string ⟨c.col.name.toArray⟩, .int .i64 c.col.kind, .bool c.col.null, .int .i64 c.col.d.k, .int .i64 c.col.d.n, .int .u64 c.col.d.b, .string ⟨c.col.d.s.toArray⟩, .string ⟨c.df.name.toArray⟩, .int .i64 c.df.keys, .slice dO c.df.cs.length dc] ∧ v.cell? ⟨w.heap.size, 0, none⟩ = some (.string ⟨tn.toArray⟩)) (by kernel_rfl) ⟨(Below.refl _ _).drew, rng K1.out.2.2, K1.out.2.1.cell 0⟩ (fun hH0 => ?_)
  refine wpAnyH_take (i := 0) (oi := _) (v := .agg #[.int .i64 4, .string ⟨c.table.toArray⟩, .string ⟨c.other.toArray⟩, .string ⟨c.to.toArray⟩, .string ⟨c.also.toArray⟩, .string ⟨c.name.toArray⟩, .int .i64 c.type, .slice no c.names.length nc, .string ⟨c.col.name.toArray⟩, .int .i64 c.col.kind, .bool c.col.null, .int .i64 c.col.d.k, .int .i64 c.col.d.n, .int .u64 c.col.d.b, .string ⟨c.col.d.s.toArray⟩, .string ⟨c.df.name.toArray⟩, .int .i64 c.df.keys, .slice dO c.df.cs.length dc]) rfl (by kernel_rfl) (by kernel_rfl) (by kernel_rfl) (fun _ _ _ h => h) (yieldsIf_load_mid (by rfl) _ _ rfl (w.heap.size + 1) 0 rfl [.int .i64 4, .string ⟨c.table.toArray⟩, .string ⟨c.other.toArray⟩, .string ⟨c.to.toArray⟩, .string ⟨c.also.toArray⟩, .string ⟨c.name.toArray⟩, .int .i64 c.type, .slice no c.names.length nc, .string ⟨c.col.name.toArray⟩, .int .i64 c.col.kind, .bool c.col.null, .int .i64 c.col.d.k, .int .i64 c.col.d.n, .int .u64 c.col.d.b, .string ⟨c.col.d.s.toArray⟩, .string ⟨c.df.name.toArray⟩, .int .i64 c.df.keys, .slice dO c.df.cs.length dc] _ (fun v hv => hv.2.1) Tryz.underlying32 rfl infoCh) hH0 ?_
  simp only [Act.put, List.setIfInBounds_toArray, List.set_cons_zero, List.set_cons_succ]
  refine wpAnyH_take (i := 2) (oi := _) (v := .pointer (some ⟨w.heap.size, 0, none⟩)) rfl (by kernel_rfl) (by kernel_rfl) (by kernel_rfl) (fun _ _ _ h => h) (Or.inl ⟨by rfl, by intro v hv; go_simp⟩) hH0 ?_
  simp only [Act.put, List.setIfInBounds_toArray, List.set_cons_zero, List.set_cons_succ]
  refine wpAnyH_take (i := 3) (oi := _) (v := .string ⟨tn.toArray⟩) rfl (by kernel_rfl) (by kernel_rfl) (by kernel_rfl) (fun _ _ _ h => h) (Or.inl ⟨by rfl, by intro v hv; have hc := hv.2.2; clear hv; go_simp⟩) hH0 ?_
  simp only [Act.put, List.setIfInBounds_toArray, List.set_cons_zero, List.set_cons_succ]
  refine wpAnyH_ready (rs := [1]) (by kernel_rfl) (by simp) ?_
  refine AllReadyH.cons (o := _) rfl (fun K hK => ?_) AllReadyH.nil
  go_simp
  refine (sources_is (⟨4, c.table, c.other, c.to, c.also, c.name, c.type, c.names, c.col, c.df⟩ : Ch) no nc dO dc _).mono ?_
  rintro e w5 ⟨v, rfl, hO, hb⟩
  obtain ⟨so, sc, rfl, hSl⟩ := hO.sl
  have B5 := Lib.hid (And.intro (step0 (below_drew1 (Below.refl _ w1)) hb) hSl)
  clear hO hb hSl
  go_wp2_with fail
  refine hK.out _ _ ⟨B5.out.1, rng (K1.out.2.2.below B5.out.1), (K1.out.2.1.below B5.out.1).cell 0⟩ (fun hH1 => ?_)
  clear hK K hH0
  try simp only [Act.put, List.setIfInBounds_toArray, List.set_cons_zero, List.set_cons_succ]
  refine wpAnyH_ready (rs := [4]) (by kernel_rfl) (by simp) ?_
  refine AllReadyH.cons (o := _) rfl (fun K hK => ?_) AllReadyH.nil
  go_simp
  refine (contains_is (⟨4, c.table, c.other, c.to, c.also, c.name, c.type, c.names, c.col, c.df⟩ : Ch).src tn _ true so sc _ rfl B5.out.2 (by have := src_len (⟨4, c.table, c.other, c.to, c.also, c.name, c.type, c.names, c.col, c.df⟩ : Ch); omega) H.out.2.2.2.2.2.2.1).mono ?_
  rintro e w6 ⟨rfl, rfl⟩
  go_wp2_with fail
  refine hK.out _ _ hH1 (fun _ => ?_)
  clear hK K
  try simp only [Act.put, List.setIfInBounds_toArray, List.set_cons_zero, List.set_cons_succ]
  refine wpAnyH_take (i := 5) (oi := _) (v := .bool false) rfl (by kernel_rfl) (by kernel_rfl) (by kernel_rfl) (fun _ _ _ h => h) (Or.inl ⟨by rfl, by intro v hv; go_simp⟩) hH1 ?_
  simp only [Act.put, List.setIfInBounds_toArray, List.set_cons_zero, List.set_cons_succ]
  refine wpAnyH_done (by kernel_rfl) ?_ _
  clear hH1
  have x0 := (K1.out.2.2.below B5.out.1).cell 0
  simp at x0
  clear hf hKI hG hxI hr hE0
  obtain ⟨t0, t1, t2⟩ := (K1.out.2.1.below B5.out.1).t3
  have x5 := (K1.out.2.2.below B5.out.1).cell 5
  simp at x5
  have x6 := (K1.out.2.2.below B5.out.1).cell 6
  simp at x6
  go_wp2_with fail
  refine (retyped_err tn K tc c.name c.type ao cap xs _ bo bc _ (H.out.2.2.2.2.2.2.2.2.2.2.1.below (step0 K1.out.1 B5.out.1)) rfl (H.out.1.1.below (step0 K1.out.1 B5.out.1)) (by have := Hk.out; omega) (H.out.2.1.below (step0 K1.out.1 B5.out.1)) Hk.out.1 I H.out.2.2.2.2.2.2.2.1 (by have := H.out.2.2.2.2.2.2.2.2.1; omega) H.out.2.2.2.2.2.2.2.2.2.1 x H.out.2.2.2.2.2.2.2.2.2.2.2.1 H.out.2.2.2.2.2.2.2.2.2.2.2.2.1 k1 n1 b1 s1 E H.out.2.2.2.2.2.2.2.2.2.2.2.2.2.1 H.out.2.2.2.2.2.2.2.2.2.2.2.2.2.2).mono ?_
  rintro e w7 ⟨rfl, hb⟩
  have B7 := Lib.hid (step0 (step0 K1.out.1 B5.out.1) hb)
  clear hb
  go_wp2
  go_ret2
  exact ⟨rfl, B7.out⟩

set_option maxHeartbeats 4000000 in
set_option maxRecDepth 100000 in
theorem row_4 (c : Ch) (no : Option Addr) (nc : Nat) (dO : Option Addr) (dc : Nat) (tn : Nm.S) (K : Nat) (tc : List C) (ao : Option Addr) (cap : Nat) (xs : List V) (n : Nat) (hn : xs.length = n) (hlen : xs.length = tc.length) (hc8 : tc.length ≤ 8) (hk0 : 1 ≤ K) (hk1 : K ≤ tc.length) (bo : Option Addr) (bc : Nat) (w : World) (hg : Env w) (hT : At3 w ⟨tn, (K : Int), tc⟩ ao cap) (hx : Sl w bo xs) (hm : xs.length ≤ 30) (ho : ∀ x ∈ xs, x.ok) (hE : (⟨tn, (K : Int), tc⟩ : T).fit xs = 0) (hs : tn ∈ (⟨4, c.table, c.other, c.to, c.also, c.name, c.type, c.names, c.col, c.df⟩ : Ch).src) (hG : Km.Env w) (I : Nat) (hf : Nm.fi (tc.map C.name) c.name = (I : Int)) (hKI : (K : Int) ≤ (I : Int)) (hI : I < xs.length) (x : V) (hxI : xs[I] = x) (y : V) (hr : Km.Cv.to x.k x.n x.b x.s c.type = ⟨y.k, y.n, y.b, y.s, 0⟩) :
    Calls Tryz.prog 10 #[.agg #[.string ⟨tn.toArray⟩, .int .i64 (K : Int), .slice ao tc.length cap], .agg #[.int .i64 4, .string ⟨c.table.toArray⟩, .string ⟨c.other.toArray⟩, .string ⟨c.to.toArray⟩, .string ⟨c.also.toArray⟩, .string ⟨c.name.toArray⟩, .int .i64 c.type, .slice no c.names.length nc, .string ⟨c.col.name.toArray⟩, .int .i64 c.col.kind, .bool c.col.null, .int .i64 c.col.d.k, .int .i64 c.col.d.n, .int .u64 c.col.d.b, .string ⟨c.col.d.s.toArray⟩, .string ⟨c.df.name.toArray⟩, .int .i64 c.df.keys, .slice dO c.df.cs.length dc], .slice bo n bc] w fun e w' => RR w w' e ([xs.set I y], 0) ∧ Below w.heap.size w w' := by
  have hmx : Tryz.prog.follows .mixedOrders = true := by kernel_rfl
  subst hn
  have Hk := Lib.hid (And.intro hlen (And.intro hc8 (And.intro hk0 hk1)))
  clear hlen hc8 hk0 hk1
  have H := Lib.hid (And.intro hT (And.intro hx (And.intro hm (And.intro ho (And.intro hg (And.intro hE (And.intro (decide_eq_true hs) (And.intro hf (And.intro hKI (And.intro hI (And.intro hG (And.intro hxI (And.intro (ho _ (hxI ▸ List.getElem_mem hI)) hr)))))))))))))
  clear hT hx hm ho hg
  go_enter Tryz.func10, Tryz.ntmps10
  go_wp2_with fail
  refine (fits_t ⟨tn, (K : Int), tc⟩ xs ao bo cap bc _ (H.out.1.keep (below2s _ _ _)) (H.out.2.1.below (below2s _ _ _)) H.out.2.2.1 H.out.2.2.2.1 (H.out.2.2.2.2.1.keep (below2s _ _ _)) 0 H.out.2.2.2.2.2.1).mono ?_
  rintro e w1 ⟨rfl, hb⟩
  clear hE hs
  have q0 := ((Blk.new w #[.string ⟨tn.toArray⟩, .int .i64 (K : Int), .slice ao tc.length cap] 24).alloc (.cells #[.int .i64 4, .string ⟨c.table.toArray⟩, .string ⟨c.other.toArray⟩, .string ⟨c.to.toArray⟩, .string ⟨c.also.toArray⟩, .string ⟨c.name.toArray⟩, .int .i64 c.type, .slice no c.names.length nc, .string ⟨c.col.name.toArray⟩, .int .i64 c.col.kind, .bool c.col.null, .int .i64 c.col.d.k, .int .i64 c.col.d.n, .int .u64 c.col.d.b, .string ⟨c.col.d.s.toArray⟩, .string ⟨c.df.name.toArray⟩, .int .i64 c.df.keys, .slice dO c.df.cs.length dc] 32)).below hb
  have q1 := (Blk.new (w.alloc (.cells #[.string ⟨tn.toArray⟩, .int .i64 (K : Int), .slice ao tc.length cap] 24)) #[.int .i64 4, .string ⟨c.table.toArray⟩, .string ⟨c.other.toArray⟩, .string ⟨c.to.toArray⟩, .string ⟨c.also.toArray⟩, .string ⟨c.name.toArray⟩, .int .i64 c.type, .slice no c.names.length nc, .string ⟨c.col.name.toArray⟩, .int .i64 c.col.kind, .bool c.col.null, .int .i64 c.col.d.k, .int .i64 c.col.d.n, .int .u64 c.col.d.b, .string ⟨c.col.d.s.toArray⟩, .string ⟨c.df.name.toArray⟩, .int .i64 c.df.keys, .slice dO c.df.cs.length dc] 32).below hb
  have hsz : (w.alloc (.cells #[.string ⟨tn.toArray⟩, .int .i64 (K : Int), .slice ao tc.length cap] 24)).heap.size = w.heap.size + 1 := by simp
  rw [hsz] at q1
  have K1 := Lib.hid (And.intro (step0 (below2s w _ _) hb) (And.intro q0 q1))
  clear hb q0 q1 hsz
  go_wp2_with fail
  refine wp_region_held_drew (S := fun v => Below w1.heap.size w1 v ∧ v.rangeAt (w.heap.size + 1) 0 [.int .i64 4, .string ⟨c.table.toArray⟩, .string ⟨c.other.toArray⟩, .string ⟨c.to.toArray⟩, .string ⟨c.also.toArray⟩, .string ⟨c.name.toArray⟩, .int .i64 c.type, .slice no c.names.length nc, .string ⟨c.col.name.toArray⟩, .int .i64 c.col.kind, .bool c.col.null, .int .i64 c.col.d.k, .int .i64 c.col.d.n, .int .u64 c.col.d.b, .string ⟨c.col.d.s.toArray⟩, .string ⟨c.df.name.toArray⟩, .int .i64 c.df.keys, .slice dO c.df.cs.length dc] ∧ v.cell? ⟨w.heap.size, 0, none⟩ = some (.string ⟨tn.toArray⟩)) (by kernel_rfl) ⟨(Below.refl _ _).drew, rng K1.out.2.2, K1.out.2.1.cell 0⟩ (fun hH0 => ?_)
  refine wpAnyH_take (i := 0) (oi := _) (v := .agg #[.int .i64 4, .string ⟨c.table.toArray⟩, .string ⟨c.other.toArray⟩, .string ⟨c.to.toArray⟩, .string ⟨c.also.toArray⟩, .string ⟨c.name.toArray⟩, .int .i64 c.type, .slice no c.names.length nc, .string ⟨c.col.name.toArray⟩, .int .i64 c.col.kind, .bool c.col.null, .int .i64 c.col.d.k, .int .i64 c.col.d.n, .int .u64 c.col.d.b, .string ⟨c.col.d.s.toArray⟩, .string ⟨c.df.name.toArray⟩, .int .i64 c.df.keys, .slice dO c.df.cs.length dc]) rfl (by kernel_rfl) (by kernel_rfl) (by kernel_rfl) (fun _ _ _ h => h) (yieldsIf_load_mid (by rfl) _ _ rfl (w.heap.size + 1) 0 rfl [.int .i64 4, .string ⟨c.table.toArray⟩, .string ⟨c.other.toArray⟩, .string ⟨c.to.toArray⟩, .string ⟨c.also.toArray⟩, .string ⟨c.name.toArray⟩, .int .i64 c.type, .slice no c.names.length nc, .string ⟨c.col.name.toArray⟩, .int .i64 c.col.kind, .bool c.col.null, .int .i64 c.col.d.k, .int .i64 c.col.d.n, .int .u64 c.col.d.b, .string ⟨c.col.d.s.toArray⟩, .string ⟨c.df.name.toArray⟩, .int .i64 c.df.keys, .slice dO c.df.cs.length dc] _ (fun v hv => hv.2.1) Tryz.underlying32 rfl infoCh) hH0 ?_
  simp only [Act.put, List.setIfInBounds_toArray, List.set_cons_zero, List.set_cons_succ]
  refine wpAnyH_take (i := 2) (oi := _) (v := .pointer (some ⟨w.heap.size, 0, none⟩)) rfl (by kernel_rfl) (by kernel_rfl) (by kernel_rfl) (fun _ _ _ h => h) (Or.inl ⟨by rfl, by intro v hv; go_simp⟩) hH0 ?_
  simp only [Act.put, List.setIfInBounds_toArray, List.set_cons_zero, List.set_cons_succ]
  refine wpAnyH_take (i := 3) (oi := _) (v := .string ⟨tn.toArray⟩) rfl (by kernel_rfl) (by kernel_rfl) (by kernel_rfl) (fun _ _ _ h => h) (Or.inl ⟨by rfl, by intro v hv; have hc := hv.2.2; clear hv; go_simp⟩) hH0 ?_
  simp only [Act.put, List.setIfInBounds_toArray, List.set_cons_zero, List.set_cons_succ]
  refine wpAnyH_ready (rs := [1]) (by kernel_rfl) (by simp) ?_
  refine AllReadyH.cons (o := _) rfl (fun K hK => ?_) AllReadyH.nil
  go_simp
  refine (sources_is (⟨4, c.table, c.other, c.to, c.also, c.name, c.type, c.names, c.col, c.df⟩ : Ch) no nc dO dc _).mono ?_
  rintro e w5 ⟨v, rfl, hO, hb⟩
  obtain ⟨so, sc, rfl, hSl⟩ := hO.sl
  have B5 := Lib.hid (And.intro (step0 (below_drew1 (Below.refl _ w1)) hb) hSl)
  clear hO hb hSl
  go_wp2_with fail
  refine hK.out _ _ ⟨B5.out.1, rng (K1.out.2.2.below B5.out.1), (K1.out.2.1.below B5.out.1).cell 0⟩ (fun hH1 => ?_)
  clear hK K hH0
  try simp only [Act.put, List.setIfInBounds_toArray, List.set_cons_zero, List.set_cons_succ]
  refine wpAnyH_ready (rs := [4]) (by kernel_rfl) (by simp) ?_
  refine AllReadyH.cons (o := _) rfl (fun K hK => ?_) AllReadyH.nil
  go_simp
  refine (contains_is (⟨4, c.table, c.other, c.to, c.also, c.name, c.type, c.names, c.col, c.df⟩ : Ch).src tn _ true so sc _ rfl B5.out.2 (by have := src_len (⟨4, c.table, c.other, c.to, c.also, c.name, c.type, c.names, c.col, c.df⟩ : Ch); omega) H.out.2.2.2.2.2.2.1).mono ?_
  rintro e w6 ⟨rfl, rfl⟩
  go_wp2_with fail
  refine hK.out _ _ hH1 (fun _ => ?_)
  clear hK K
  try simp only [Act.put, List.setIfInBounds_toArray, List.set_cons_zero, List.set_cons_succ]
  refine wpAnyH_take (i := 5) (oi := _) (v := .bool false) rfl (by kernel_rfl) (by kernel_rfl) (by kernel_rfl) (fun _ _ _ h => h) (Or.inl ⟨by rfl, by intro v hv; go_simp⟩) hH1 ?_
  simp only [Act.put, List.setIfInBounds_toArray, List.set_cons_zero, List.set_cons_succ]
  refine wpAnyH_done (by kernel_rfl) ?_ _
  clear hH1
  have x0 := (K1.out.2.2.below B5.out.1).cell 0
  simp at x0
  clear hf hKI hG hxI hr
  obtain ⟨t0, t1, t2⟩ := (K1.out.2.1.below B5.out.1).t3
  have x5 := (K1.out.2.2.below B5.out.1).cell 5
  simp at x5
  have x6 := (K1.out.2.2.below B5.out.1).cell 6
  simp at x6
  go_wp2_with fail
  refine (retyped_ok tn K tc c.name c.type ao cap xs _ bo bc _ (H.out.2.2.2.2.2.2.2.2.2.2.1.below (step0 K1.out.1 B5.out.1)) rfl (H.out.1.1.below (step0 K1.out.1 B5.out.1)) (by have := Hk.out; omega) (H.out.2.1.below (step0 K1.out.1 B5.out.1)) Hk.out.1 I H.out.2.2.2.2.2.2.2.1 (by have := H.out.2.2.2.2.2.2.2.2.1; omega) H.out.2.2.2.2.2.2.2.2.2.1 x H.out.2.2.2.2.2.2.2.2.2.2.2.1 H.out.2.2.2.2.2.2.2.2.2.2.2.2.1 y H.out.2.2.2.2.2.2.2.2.2.2.2.2.2).mono ?_
  rintro e w7 ⟨hRR, hb⟩
  have B7 := Lib.hid (And.intro (hRR.base (step0 K1.out.1 B5.out.1).size) (step0 (step0 K1.out.1 B5.out.1) hb))
  obtain ⟨ro, rc, ys, rfl, _, _, _⟩ := hRR
  clear hb
  go_wp2
  go_ret2
  exact ⟨B7.out.1, B7.out.2⟩

set_option maxHeartbeats 4000000 in
set_option maxRecDepth 100000 in
theorem row_2 (c : Ch) (no : Option Addr) (nc : Nat) (dO : Option Addr) (dc : Nat) (t : T) (ao : Option Addr) (cap : Nat) (xs : List V) (n : Nat) (hn : xs.length = n) (bo : Option Addr) (bc : Nat) (w : World) (hg : Env w) (hT : At3 w t ao cap) (hx : Sl w bo xs) (hm : xs.length ≤ 30) (ho : ∀ x ∈ xs, x.ok) (hE : t.fit xs = 0) (hs : t.name ∈ (⟨2, c.table, c.other, c.to, c.also, c.name, c.type, c.names, c.col, c.df⟩ : Ch).src) :
    Calls Tryz.prog 10 #[.agg #[.string ⟨t.name.toArray⟩, .int .i64 t.keys, .slice ao t.cs.length cap], .agg #[.int .i64 2, .string ⟨c.table.toArray⟩, .string ⟨c.other.toArray⟩, .string ⟨c.to.toArray⟩, .string ⟨c.also.toArray⟩, .string ⟨c.name.toArray⟩, .int .i64 c.type, .slice no c.names.length nc, .string ⟨c.col.name.toArray⟩, .int .i64 c.col.kind, .bool c.col.null, .int .i64 c.col.d.k, .int .i64 c.col.d.n, .int .u64 c.col.d.b, .string ⟨c.col.d.s.toArray⟩, .string ⟨c.df.name.toArray⟩, .int .i64 c.df.keys, .slice dO c.df.cs.length dc], .slice bo n bc] w fun e w' => RR w w' e ([xs ++ [c.col.d]], 0) ∧ Below w.heap.size w w' := by
  have hmx : Tryz.prog.follows .mixedOrders = true := by kernel_rfl
  subst hn
  have H := Lib.hid (And.intro hT (And.intro hx (And.intro hm (And.intro ho (And.intro hg (And.intro hE (And.intro (decide_eq_true hs) trivial)))))))
  clear hT hx hm ho hg
  go_enter Tryz.func10, Tryz.ntmps10
  go_wp2_with fail
  refine (fits_t t xs ao bo cap bc _ (H.out.1.keep (below2s _ _ _)) (H.out.2.1.below (below2s _ _ _)) H.out.2.2.1 H.out.2.2.2.1 (H.out.2.2.2.2.1.keep (below2s _ _ _)) 0 H.out.2.2.2.2.2.1).mono ?_
  rintro e w1 ⟨rfl, hb⟩
  clear hE hs
  have q0 := ((Blk.new w #[.string ⟨t.name.toArray⟩, .int .i64 t.keys, .slice ao t.cs.length cap] 24).alloc (.cells #[.int .i64 2, .string ⟨c.table.toArray⟩, .string ⟨c.other.toArray⟩, .string ⟨c.to.toArray⟩, .string ⟨c.also.toArray⟩, .string ⟨c.name.toArray⟩, .int .i64 c.type, .slice no c.names.length nc, .string ⟨c.col.name.toArray⟩, .int .i64 c.col.kind, .bool c.col.null, .int .i64 c.col.d.k, .int .i64 c.col.d.n, .int .u64 c.col.d.b, .string ⟨c.col.d.s.toArray⟩, .string ⟨c.df.name.toArray⟩, .int .i64 c.df.keys, .slice dO c.df.cs.length dc] 32)).below hb
  have q1 := (Blk.new (w.alloc (.cells #[.string ⟨t.name.toArray⟩, .int .i64 t.keys, .slice ao t.cs.length cap] 24)) #[.int .i64 2, .string ⟨c.table.toArray⟩, .string ⟨c.other.toArray⟩, .string ⟨c.to.toArray⟩, .string ⟨c.also.toArray⟩, .string ⟨c.name.toArray⟩, .int .i64 c.type, .slice no c.names.length nc, .string ⟨c.col.name.toArray⟩, .int .i64 c.col.kind, .bool c.col.null, .int .i64 c.col.d.k, .int .i64 c.col.d.n, .int .u64 c.col.d.b, .string ⟨c.col.d.s.toArray⟩, .string ⟨c.df.name.toArray⟩, .int .i64 c.df.keys, .slice dO c.df.cs.length dc] 32).below hb
  have hsz : (w.alloc (.cells #[.string ⟨t.name.toArray⟩, .int .i64 t.keys, .slice ao t.cs.length cap] 24)).heap.size = w.heap.size + 1 := by simp
  rw [hsz] at q1
  have K1 := Lib.hid (And.intro (step0 (below2s w _ _) hb) (And.intro q0 q1))
  clear hb q0 q1 hsz
  go_wp2_with fail
  refine wp_region_held_drew (S := fun v => Below w1.heap.size w1 v ∧ v.rangeAt (w.heap.size + 1) 0 [.int .i64 2, .string ⟨c.table.toArray⟩, .string ⟨c.other.toArray⟩, .string ⟨c.to.toArray⟩, .string ⟨c.also.toArray⟩, .string ⟨c.name.toArray⟩, .int .i64 c.type, .slice no c.names.length nc, .string ⟨c.col.name.toArray⟩, .int .i64 c.col.kind, .bool c.col.null, .int .i64 c.col.d.k, .int .i64 c.col.d.n, .int .u64 c.col.d.b, .string ⟨c.col.d.s.toArray⟩, .string ⟨c.df.name.toArray⟩, .int .i64 c.df.keys, .slice dO c.df.cs.length dc] ∧ v.cell? ⟨w.heap.size, 0, none⟩ = some (.string ⟨t.name.toArray⟩)) (by kernel_rfl) ⟨(Below.refl _ _).drew, rng K1.out.2.2, K1.out.2.1.cell 0⟩ (fun hH0 => ?_)
  refine wpAnyH_take (i := 0) (oi := _) (v := .agg #[.int .i64 2, .string ⟨c.table.toArray⟩, .string ⟨c.other.toArray⟩, .string ⟨c.to.toArray⟩, .string ⟨c.also.toArray⟩, .string ⟨c.name.toArray⟩, .int .i64 c.type, .slice no c.names.length nc, .string ⟨c.col.name.toArray⟩, .int .i64 c.col.kind, .bool c.col.null, .int .i64 c.col.d.k, .int .i64 c.col.d.n, .int .u64 c.col.d.b, .string ⟨c.col.d.s.toArray⟩, .string ⟨c.df.name.toArray⟩, .int .i64 c.df.keys, .slice dO c.df.cs.length dc]) rfl (by kernel_rfl) (by kernel_rfl) (by kernel_rfl) (fun _ _ _ h => h) (yieldsIf_load_mid (by rfl) _ _ rfl (w.heap.size + 1) 0 rfl [.int .i64 2, .string ⟨c.table.toArray⟩, .string ⟨c.other.toArray⟩, .string ⟨c.to.toArray⟩, .string ⟨c.also.toArray⟩, .string ⟨c.name.toArray⟩, .int .i64 c.type, .slice no c.names.length nc, .string ⟨c.col.name.toArray⟩, .int .i64 c.col.kind, .bool c.col.null, .int .i64 c.col.d.k, .int .i64 c.col.d.n, .int .u64 c.col.d.b, .string ⟨c.col.d.s.toArray⟩, .string ⟨c.df.name.toArray⟩, .int .i64 c.df.keys, .slice dO c.df.cs.length dc] _ (fun v hv => hv.2.1) Tryz.underlying32 rfl infoCh) hH0 ?_
  simp only [Act.put, List.setIfInBounds_toArray, List.set_cons_zero, List.set_cons_succ]
  refine wpAnyH_take (i := 2) (oi := _) (v := .pointer (some ⟨w.heap.size, 0, none⟩)) rfl (by kernel_rfl) (by kernel_rfl) (by kernel_rfl) (fun _ _ _ h => h) (Or.inl ⟨by rfl, by intro v hv; go_simp⟩) hH0 ?_
  simp only [Act.put, List.setIfInBounds_toArray, List.set_cons_zero, List.set_cons_succ]
  refine wpAnyH_take (i := 3) (oi := _) (v := .string ⟨t.name.toArray⟩) rfl (by kernel_rfl) (by kernel_rfl) (by kernel_rfl) (fun _ _ _ h => h) (Or.inl ⟨by rfl, by intro v hv; have hc := hv.2.2; clear hv; go_simp⟩) hH0 ?_
  simp only [Act.put, List.setIfInBounds_toArray, List.set_cons_zero, List.set_cons_succ]
  refine wpAnyH_ready (rs := [1]) (by kernel_rfl) (by simp) ?_
  refine AllReadyH.cons (o := _) rfl (fun K hK => ?_) AllReadyH.nil
  go_simp
  refine (sources_is (⟨2, c.table, c.other, c.to, c.also, c.name, c.type, c.names, c.col, c.df⟩ : Ch) no nc dO dc _).mono ?_
  rintro e w5 ⟨v, rfl, hO, hb⟩
  obtain ⟨so, sc, rfl, hSl⟩ := hO.sl
  have B5 := Lib.hid (And.intro (step0 (below_drew1 (Below.refl _ w1)) hb) hSl)
  clear hO hb hSl
  go_wp2_with fail
  refine hK.out _ _ ⟨B5.out.1, rng (K1.out.2.2.below B5.out.1), (K1.out.2.1.below B5.out.1).cell 0⟩ (fun hH1 => ?_)
  clear hK K hH0
  try simp only [Act.put, List.setIfInBounds_toArray, List.set_cons_zero, List.set_cons_succ]
  refine wpAnyH_ready (rs := [4]) (by kernel_rfl) (by simp) ?_
  refine AllReadyH.cons (o := _) rfl (fun K hK => ?_) AllReadyH.nil
  go_simp
  refine (contains_is (⟨2, c.table, c.other, c.to, c.also, c.name, c.type, c.names, c.col, c.df⟩ : Ch).src t.name _ true so sc _ rfl B5.out.2 (by have := src_len (⟨2, c.table, c.other, c.to, c.also, c.name, c.type, c.names, c.col, c.df⟩ : Ch); omega) H.out.2.2.2.2.2.2.1).mono ?_
  rintro e w6 ⟨rfl, rfl⟩
  go_wp2_with fail
  refine hK.out _ _ hH1 (fun _ => ?_)
  clear hK K
  try simp only [Act.put, List.setIfInBounds_toArray, List.set_cons_zero, List.set_cons_succ]
  refine wpAnyH_take (i := 5) (oi := _) (v := .bool false) rfl (by kernel_rfl) (by kernel_rfl) (by kernel_rfl) (fun _ _ _ h => h) (Or.inl ⟨by rfl, by intro v hv; go_simp⟩) hH1 ?_
  simp only [Act.put, List.setIfInBounds_toArray, List.set_cons_zero, List.set_cons_succ]
  refine wpAnyH_done (by kernel_rfl) ?_ _
  clear hH1
  have x0 := (K1.out.2.2.below B5.out.1).cell 0
  simp at x0
  have x11 := (K1.out.2.2.below B5.out.1).cell 11
  simp at x11
  have x12 := (K1.out.2.2.below B5.out.1).cell 12
  simp at x12
  have x13 := (K1.out.2.2.below B5.out.1).cell 13
  simp at x13
  have x14 := (K1.out.2.2.below B5.out.1).cell 14
  simp at x14
  go_wp2_with fail
  refine wp_region_held_drew (S := fun v => Below w5.heap.size w5 v) (by kernel_rfl) (Below.refl _ _).drew (fun hH0 => ?_)
  refine wpAnyH_take (i := 0) (oi := _) (v := .slice bo xs.length bc) rfl (by kernel_rfl) (by kernel_rfl) (by kernel_rfl) (fun _ _ _ h => h) (Or.inl ⟨by rfl, by intro v hv; go_simp⟩) hH0 ?_
  try simp only [Act.put, List.getElem_toArray, List.getElem_cons_succ, List.getElem_cons_zero, List.setIfInBounds_toArray, List.set_cons_zero, List.set_cons_succ]
  refine wpAnyH_take (i := 2) (oi := _) (v := .pointer (some ⟨w.heap.size + 1, 8, none⟩)) rfl (by kernel_rfl) (by kernel_rfl) (by kernel_rfl) (fun _ _ _ h => h) (Or.inl ⟨by rfl, by intro v hv; go_simp⟩) hH0 ?_
  try simp only [Act.put, List.getElem_toArray, List.getElem_cons_succ, List.getElem_cons_zero, List.setIfInBounds_toArray, List.set_cons_zero, List.set_cons_succ]
  refine wpAnyH_take (i := 3) (oi := _) (v := .pointer (some ⟨w.heap.size + 1, 11, none⟩)) rfl (by kernel_rfl) (by kernel_rfl) (by kernel_rfl) (fun _ _ _ h => h) (Or.inl ⟨by rfl, by intro v hv; go_simp⟩) hH0 ?_
  try simp only [Act.put, List.getElem_toArray, List.getElem_cons_succ, List.getElem_cons_zero, List.setIfInBounds_toArray, List.set_cons_zero, List.set_cons_succ]
  refine wpAnyH_take (i := 4) (oi := _) (v := .agg #[.int .i64 c.col.d.k, .int .i64 c.col.d.n, .int .u64 c.col.d.b, .string ⟨c.col.d.s.toArray⟩]) rfl (by kernel_rfl) (by kernel_rfl) (by kernel_rfl) (fun _ _ _ h => h) (Or.inl ⟨by rfl, by intro v hv; have y0 := keep0 x11 hv; have y1 := keep0 x12 hv; have y2 := keep0 x13 hv; have y3 := keep0 x14 hv; clear x11 x12 x13 x14; go_simp⟩) hH0 ?_
  try simp only [Act.put, List.getElem_toArray, List.getElem_cons_succ, List.getElem_cons_zero, List.setIfInBounds_toArray, List.set_cons_zero, List.set_cons_succ]
  clear x11 x12 x13 x14
  refine wpAnyH_ready (rs := [1, 5]) (by kernel_rfl) (by simp) ?_
  refine AllReadyH.cons (o := _) rfl (fun K hK => ?_) (AllReadyH.cons (o := _) rfl (fun K hK => ?_) AllReadyH.nil)
  · go_simp
    refine (vcopied_is xs _ bo bc _ rfl (H.out.2.1.below (step0 (step0 K1.out.1 B5.out.1) (below_drew1 (Below.refl _ w5)))) (by have := H.out.2.2.1; omega)).mono ?_
    rintro e w7 ⟨g, rfl, hO, hb⟩
    have B7 := Lib.hid (And.intro hO (And.intro hb (step0 (below_drew1 (Below.refl _ w5)) hb)))
    go_wp2_with fail
    refine hK.out _ _ (step0 (below_drew1 (Below.refl _ w5)) hb) (fun _ => ?_)
    clear hK K hO hb
    try simp only [Act.put, List.getElem_toArray, List.getElem_cons_succ, List.getElem_cons_zero, List.setIfInBounds_toArray, List.set_cons_zero, List.set_cons_succ]
    refine wpAnyH_ready (rs := [5]) (by kernel_rfl) (by simp) ?_
    refine AllReadyH.cons (o := _) rfl (fun K hK => ?_) AllReadyH.nil
    go_simp
    refine hK.out _ _ (B7.out.2.2.alloc B7.out.2.2.size _) (fun _ => ?_)
    clear hK K
    try simp only [Act.put, List.getElem_toArray, List.getElem_cons_succ, List.getElem_cons_zero, List.setIfInBounds_toArray, List.set_cons_zero, List.set_cons_succ]
    have ow : OwV (w7.alloc (.cells #[.int .i64 c.col.d.k, .int .i64 c.col.d.n, .int .u64 c.col.d.b, .string ⟨c.col.d.s.toArray⟩] 28)) w5.heap.size (.slice (some ⟨g, 0, none⟩) xs.length xs.length) xs := ((B7.out.1.base (b' := w5.heap.size) (Nat.le_refl _)).keep (below1 _ _))
    refine wpAnyH_ready (rs := [6]) (by kernel_rfl) (by simp) ?_
    refine AllReadyH.cons (o := _) rfl (fun K hK => ?_) AllReadyH.nil
    refine step_appV rfl (.tmp 28) (.tmp 32) rfl w5.heap.size (.slice (some ⟨g, 0, none⟩) xs.length xs.length) xs c.col.d w7.heap.size (by simp [Act.eval, Act.put]) (by simp [Act.eval, Act.put]) ow (Blk.new w7 #[.int .i64 c.col.d.k, .int .i64 c.col.d.n, .int .u64 c.col.d.b, .string ⟨c.col.d.s.toArray⟩] 28) (by have := H.out.2.2.1; omega) (B7.out.2.2.alloc B7.out.2.2.size (.cells #[.int .i64 c.col.d.k, .int .i64 c.col.d.n, .int .u64 c.col.d.b, .string ⟨c.col.d.s.toArray⟩] 28)).size ?_
    intro v' w8 hO' hgr hbk
    have hB8 : Below w5.heap.size w5 w8 := (B7.out.2.2.alloc B7.out.2.2.size (.cells #[.int .i64 c.col.d.k, .int .i64 c.col.d.n, .int .u64 c.col.d.b, .string ⟨c.col.d.s.toArray⟩] 28)).grown hgr (B7.out.2.2.alloc B7.out.2.2.size (.cells #[.int .i64 c.col.d.k, .int .i64 c.col.d.n, .int .u64 c.col.d.b, .string ⟨c.col.d.s.toArray⟩] 28)).size (fun k hk => by
      obtain rfl := Option.some.inj hk
      exact (World.ownsRow.lt ow _ rfl).1)
    refine hK.out _ _ hB8 (fun _ => ?_)
    clear hK K
    obtain ⟨X, hX⟩ : ∃ X, xs ++ [c.col.d] = X := ⟨_, rfl⟩
    rw [hX] at hO'
    obtain ⟨vo, vc, rfl, _, _⟩ := hO'.sl
    have B8 := Lib.hid (And.intro hO' hB8)
    clear hO' hgr hbk ow
    try simp only [Act.put, List.getElem_toArray, List.getElem_cons_succ, List.getElem_cons_zero, List.setIfInBounds_toArray, List.set_cons_zero, List.set_cons_succ]
    refine wpAnyH_ready (rs := [7]) (by kernel_rfl) (by simp) ?_
    refine AllReadyH.cons (o := _) rfl (fun K hK => ?_) AllReadyH.nil
    go_simp
    refine hK.out _ _ (B8.out.2.alloc B8.out.2.size _) (fun hH9 => ?_)
    clear hK K hB8
    try simp only [Act.put, List.getElem_toArray, List.getElem_cons_succ, List.getElem_cons_zero, List.setIfInBounds_toArray, List.set_cons_zero, List.set_cons_succ]
    refine wpAnyH_take (i := 8) (oi := _) (v := .slice (some ⟨w8.heap.size, 0, none⟩) 1 1) rfl (by kernel_rfl) (by kernel_rfl) (by kernel_rfl) (fun _ _ _ h => h) (Or.inl ⟨by rfl, by intro v hv; go_simp⟩) hH9 ?_
    try simp only [Act.put, List.getElem_toArray, List.getElem_cons_succ, List.getElem_cons_zero, List.setIfInBounds_toArray, List.set_cons_zero, List.set_cons_succ]
    refine wpAnyH_take (i := 9) (oi := _) (v := .int .i64 0) rfl (by kernel_rfl) (by kernel_rfl) (by kernel_rfl) (fun _ _ _ h => h) (Or.inl ⟨by rfl, by intro v hv; go_simp⟩) hH9 ?_
    try simp only [Act.put, List.getElem_toArray, List.getElem_cons_succ, List.getElem_cons_zero, List.setIfInBounds_toArray, List.set_cons_zero, List.set_cons_succ]
    refine wpAnyH_done (by kernel_rfl) ?_ _
    clear hH9
    go_wp2
    go_ret2
    refine ⟨⟨some ⟨w8.heap.size, 0, none⟩, 1, [⟨X, vo, vc⟩], rfl, (show [X] = [xs ++ [c.col.d]] by rw [hX]), slr_one w8 ⟨X, vo, vc⟩, FitR.one ?_, at_new (step0 (step0 K1.out.1 B5.out.1) B8.out.2).size⟩, (step0 (step0 K1.out.1 B5.out.1) B8.out.2).alloc (step0 (step0 K1.out.1 B5.out.1) B8.out.2).size _⟩
    exact (B8.out.1.base (step0 K1.out.1 B5.out.1).size).keep (below1 _ _)
  · go_simp
    refine hK.out _ _ ((below_drew1 (Below.refl _ w5)).alloc (Nat.le_refl _) _) (fun _ => ?_)
    clear hK K
    try simp only [Act.put, List.getElem_toArray, List.getElem_cons_succ, List.getElem_cons_zero, List.setIfInBounds_toArray, List.set_cons_zero, List.set_cons_succ]
    refine wpAnyH_ready (rs := [1]) (by kernel_rfl) (by simp) ?_
    refine AllReadyH.cons (o := _) rfl (fun K hK => ?_) AllReadyH.nil
    go_simp
    refine (vcopied_is xs _ bo bc _ rfl (H.out.2.1.below (step0 (step0 K1.out.1 B5.out.1) (show Below w5.heap.size w5 (w5.drew.alloc (.cells #[.int .i64 c.col.d.k, .int .i64 c.col.d.n, .int .u64 c.col.d.b, .string ⟨c.col.d.s.toArray⟩] 28)) from (below_drew1 (Below.refl _ w5)).alloc (Nat.le_refl _) _))) (by have := H.out.2.2.1; omega)).mono ?_
    rintro e w7 ⟨g, rfl, hO, hb⟩
    have B7 := Lib.hid (And.intro hO (And.intro hb (step0 (show Below w5.heap.size w5 (w5.drew.alloc (.cells #[.int .i64 c.col.d.k, .int .i64 c.col.d.n, .int .u64 c.col.d.b, .string ⟨c.col.d.s.toArray⟩] 28)) from (below_drew1 (Below.refl _ w5)).alloc (Nat.le_refl _) _) hb)))
    go_wp2_with fail
    refine hK.out _ _ (step0 (show Below w5.heap.size w5 (w5.drew.alloc (.cells #[.int .i64 c.col.d.k, .int .i64 c.col.d.n, .int .u64 c.col.d.b, .string ⟨c.col.d.s.toArray⟩] 28)) from (below_drew1 (Below.refl _ w5)).alloc (Nat.le_refl _) _) hb) (fun _ => ?_)
    clear hK K hO hb
    try simp only [Act.put, List.getElem_toArray, List.getElem_cons_succ, List.getElem_cons_zero, List.setIfInBounds_toArray, List.set_cons_zero, List.set_cons_succ]
    have ow : OwV w7 w5.heap.size (.slice (some ⟨g, 0, none⟩) xs.length xs.length) xs := (B7.out.1.base (b' := w5.heap.size) (by simp))
    refine wpAnyH_ready (rs := [6]) (by kernel_rfl) (by simp) ?_
    refine AllReadyH.cons (o := _) rfl (fun K hK => ?_) AllReadyH.nil
    refine step_appV rfl (.tmp 28) (.tmp 32) rfl w5.heap.size (.slice (some ⟨g, 0, none⟩) xs.length xs.length) xs c.col.d w5.heap.size (by simp [Act.eval, Act.put]) (by simp [Act.eval, Act.put]) ow ((Blk.new w5.drew #[.int .i64 c.col.d.k, .int .i64 c.col.d.n, .int .u64 c.col.d.b, .string ⟨c.col.d.s.toArray⟩] 28).below B7.out.2.1) (by have := H.out.2.2.1; omega) B7.out.2.2.size ?_
    intro v' w8 hO' hgr hbk
    have hB8 : Below w5.heap.size w5 w8 := B7.out.2.2.grown hgr B7.out.2.2.size (fun k hk => by
      obtain rfl := Option.some.inj hk
      exact (World.ownsRow.lt ow _ rfl).1)
    refine hK.out _ _ hB8 (fun _ => ?_)
    clear hK K
    obtain ⟨X, hX⟩ : ∃ X, xs ++ [c.col.d] = X := ⟨_, rfl⟩
    rw [hX] at hO'
    obtain ⟨vo, vc, rfl, _, _⟩ := hO'.sl
    have B8 := Lib.hid (And.intro hO' hB8)
    clear hO' hgr hbk ow
    try simp only [Act.put, List.getElem_toArray, List.getElem_cons_succ, List.getElem_cons_zero, List.setIfInBounds_toArray, List.set_cons_zero, List.set_cons_succ]
    refine wpAnyH_ready (rs := [7]) (by kernel_rfl) (by simp) ?_
    refine AllReadyH.cons (o := _) rfl (fun K hK => ?_) AllReadyH.nil
    go_simp
    refine hK.out _ _ (B8.out.2.alloc B8.out.2.size _) (fun hH9 => ?_)
    clear hK K hB8
    try simp only [Act.put, List.getElem_toArray, List.getElem_cons_succ, List.getElem_cons_zero, List.setIfInBounds_toArray, List.set_cons_zero, List.set_cons_succ]
    refine wpAnyH_take (i := 8) (oi := _) (v := .slice (some ⟨w8.heap.size, 0, none⟩) 1 1) rfl (by kernel_rfl) (by kernel_rfl) (by kernel_rfl) (fun _ _ _ h => h) (Or.inl ⟨by rfl, by intro v hv; go_simp⟩) hH9 ?_
    try simp only [Act.put, List.getElem_toArray, List.getElem_cons_succ, List.getElem_cons_zero, List.setIfInBounds_toArray, List.set_cons_zero, List.set_cons_succ]
    refine wpAnyH_take (i := 9) (oi := _) (v := .int .i64 0) rfl (by kernel_rfl) (by kernel_rfl) (by kernel_rfl) (fun _ _ _ h => h) (Or.inl ⟨by rfl, by intro v hv; go_simp⟩) hH9 ?_
    try simp only [Act.put, List.getElem_toArray, List.getElem_cons_succ, List.getElem_cons_zero, List.setIfInBounds_toArray, List.set_cons_zero, List.set_cons_succ]
    refine wpAnyH_done (by kernel_rfl) ?_ _
    clear hH9
    go_wp2
    go_ret2
    refine ⟨⟨some ⟨w8.heap.size, 0, none⟩, 1, [⟨X, vo, vc⟩], rfl, (show [X] = [xs ++ [c.col.d]] by rw [hX]), slr_one w8 ⟨X, vo, vc⟩, FitR.one ?_, at_new (step0 (step0 K1.out.1 B5.out.1) B8.out.2).size⟩, (step0 (step0 K1.out.1 B5.out.1) B8.out.2).alloc (step0 (step0 K1.out.1 B5.out.1) B8.out.2).size _⟩
    exact (B8.out.1.base (step0 K1.out.1 B5.out.1).size).keep (below1 _ _)

/-- What Row tells of any table, change and row. -/
theorem row_is (c : Ch) (no : Option Addr) (nc : Nat) (dO : Option Addr) (dc : Nat) (t : T) (ao : Option Addr) (cap : Nat) (xs : List V) (n : Nat) (hn : xs.length = n) (bo : Option Addr) (bc : Nat) (w : World) (hg : Env w) (hT : At3 w t ao cap) (hx : Sl w bo xs) (hm : xs.length ≤ 30) (ho : ∀ x ∈ xs, x.ok) (hG : Km.Env w) (hns : SlS w no c.names) (hnl : c.names.length ≤ 1000) (hcb : xs.length ≤ bc) (R : List (List V) × Int) (hR : c.row t xs = R) :
    Calls Tryz.prog 10 #[.agg #[.string ⟨t.name.toArray⟩, .int .i64 t.keys, .slice ao t.cs.length cap], .agg #[.int .i64 c.kind, .string ⟨c.table.toArray⟩, .string ⟨c.other.toArray⟩, .string ⟨c.to.toArray⟩, .string ⟨c.also.toArray⟩, .string ⟨c.name.toArray⟩, .int .i64 c.type, .slice no c.names.length nc, .string ⟨c.col.name.toArray⟩, .int .i64 c.col.kind, .bool c.col.null, .int .i64 c.col.d.k, .int .i64 c.col.d.n, .int .u64 c.col.d.b, .string ⟨c.col.d.s.toArray⟩, .string ⟨c.df.name.toArray⟩, .int .i64 c.df.keys, .slice dO c.df.cs.length dc], .slice bo n bc] w fun e w' => RR w w' e R ∧ Below w.heap.size w w' := by
  subst hR
  by_cases hE : t.fit xs = 0
  case neg =>
    refine (row_n1 c no nc dO dc t ao cap xs n hn bo bc w hg hT hx hm ho _ rfl hE).mono ?_
    rintro e w1 ⟨rfl, hb⟩
    exact ⟨RR.bad (row_bad hE), hb⟩
  by_cases hs : t.name ∈ c.src
  case neg =>
    refine (row_n2 c no nc dO dc t ao cap xs n hn bo bc w hg hT hx hm ho hE hs).mono ?_
    rintro e w1 ⟨rfl, hb⟩
    exact ⟨RR.bad (row_none hE hs), hb⟩
  rw [row_bod hE hs]
  have hk := src_kind hs
  obtain ⟨hck, hlen, _⟩ := T.fit_ok hE
  obtain ⟨_, _, hc8, hk0, _, hk1, _⟩ := T.ck_ok hck
  obtain ⟨tn, tk, tc⟩ := t
  simp only at hk0 hk1 hlen hc8 ⊢
  obtain ⟨K, rfl⟩ : ∃ K : Nat, tk = (K : Int) := ⟨tk.toNat, by omega⟩
  obtain ⟨ck, tb, ot, tn', al, nm, ty, ns, col, df⟩ := c
  simp only at hk hns hnl ⊢
  have hK : ck = 2 ∨ ck = 3 ∨ ck = 4 ∨ ck = 5 ∨ ck = 6 := by omega
  have fl := fi_lt (tc.map C.name) nm
  rw [List.length_map] at fl
  have bad3 : ∀ {kd : Int} {R : List (List V) × Int}, R = ([], 10) → (∀ e w', (e = .returned (.tuple #[.slice none 0 0, .int .i64 10]) ∧ Below w.heap.size w w') → RR w w' e R ∧ Below w.heap.size w w') := by
    rintro kd R h e w' ⟨rfl, hb⟩
    exact ⟨RR.bad h, hb⟩
  rcases hK with rfl | rfl | rfl | rfl | rfl
  · exact row_2 ⟨2, tb, ot, tn', al, nm, ty, ns, col, df⟩ no nc dO dc ⟨tn, (K : Int), tc⟩ ao cap xs n hn bo bc w hg hT hx hm ho hE hs
  · show Calls _ _ _ _ fun e w' => RR w w' e (T.rdrp ⟨tn, (K : Int), tc⟩ nm xs) ∧ _
    unfold T.rdrp
    by_cases hf : Nm.fi (T.cns ⟨tn, (K : Int), tc⟩) nm < (K : Int)
    · rw [if_pos hf]
      exact (row_3n ⟨3, tb, ot, tn', al, nm, ty, ns, col, df⟩ no nc dO dc tn K tc ao cap xs n hn hlen (by omega) (by omega) (by omega) bo bc w hg hT hx hm ho hE hs hf).mono fun e w' h => bad3 (kd := 0) rfl e w' h
    · rw [if_neg hf]
      obtain ⟨I, hI⟩ : ∃ I : Nat, Nm.fi (tc.map C.name) nm = (I : Int) := ⟨(Nm.fi (tc.map C.name) nm).toNat, by have : ¬ Nm.fi (tc.map C.name) nm < (K : Int) := hf; omega⟩
      have hKI : ¬ Nm.fi (tc.map C.name) nm < (K : Int) := hf
      rw [hI] at hKI fl
      show Calls _ _ _ _ fun e w' => RR w w' e ([xs.eraseIdx (Nm.fi (tc.map C.name) nm).toNat], 0) ∧ _
      rw [hI, Int.toNat_natCast]
      exact row_3 ⟨3, tb, ot, tn', al, nm, ty, ns, col, df⟩ no nc dO dc tn K tc ao cap xs n hn hlen (by omega) (by omega) (by omega) bo bc w hg hT hx hm ho hE hs I hI (by omega) (by omega)
  · show Calls _ _ _ _ fun e w' => RR w w' e (T.rret ⟨tn, (K : Int), tc⟩ nm ty xs) ∧ _
    unfold T.rret
    by_cases hf : Nm.fi (T.cns ⟨tn, (K : Int), tc⟩) nm < (K : Int)
    · rw [if_pos hf]
      exact (row_4n ⟨4, tb, ot, tn', al, nm, ty, ns, col, df⟩ no nc dO dc tn K tc ao cap xs n hn hlen (by omega) (by omega) (by omega) bo bc w hg hT hx hm ho hE hs hG hf).mono fun e w' h => bad3 (kd := 0) rfl e w' h
    · rw [if_neg hf]
      obtain ⟨I, hI⟩ : ∃ I : Nat, Nm.fi (tc.map C.name) nm = (I : Int) := ⟨(Nm.fi (tc.map C.name) nm).toNat, by have : ¬ Nm.fi (tc.map C.name) nm < (K : Int) := hf; omega⟩
      have hKI : ¬ Nm.fi (tc.map C.name) nm < (K : Int) := hf
      rw [hI] at hKI fl
      have hIx : I < xs.length := by omega
      have hv : T.vat ⟨tn, (K : Int), tc⟩ nm xs = xs[I] := by
        show (xs[(Nm.fi (tc.map C.name) nm).toNat]?).getD _ = _
        rw [hI, Int.toNat_natCast, List.getElem?_eq_getElem hIx]
        rfl
      rw [hv]
      obtain ⟨⟨k1, n1, b1, s1, E⟩, hr⟩ : ∃ r, Km.Cv.to xs[I].k xs[I].n xs[I].b xs[I].s ty = r := ⟨_, rfl⟩
      have hE1 : xs[I].toE ty = E := by unfold V.toE; rw [hr]
      rw [hE1]
      by_cases h0 : E = 0
      · subst h0
        rw [if_neg (by simp)]
        have hy : xs[I].to ty = ⟨k1, n1, b1, s1⟩ := by unfold V.to; rw [hr]
        show Calls _ _ _ _ fun e w' => RR w w' e ([xs.set (Nm.fi (tc.map C.name) nm).toNat (xs[I].to ty)], 0) ∧ _
        rw [hI, Int.toNat_natCast, hy]
        exact row_4 ⟨4, tb, ot, tn', al, nm, ty, ns, col, df⟩ no nc dO dc tn K tc ao cap xs n hn hlen (by omega) (by omega) (by omega) bo bc w hg hT hx hm ho hE hs hG I hI (by omega) hIx xs[I] rfl ⟨k1, n1, b1, s1⟩ hr
      · rw [if_pos h0]
        refine (row_4e ⟨4, tb, ot, tn', al, nm, ty, ns, col, df⟩ no nc dO dc tn K tc ao cap xs n hn hlen (by omega) (by omega) (by omega) bo bc w hg hT hx hm ho hE hs hG I hI (by omega) hIx xs[I] rfl k1 n1 b1 s1 E hr h0).mono ?_
        rintro e w1 ⟨rfl, hb⟩
        exact ⟨RR.bad rfl, hb⟩
  · obtain ⟨ba, rfl⟩ : ∃ a, bo = some a := by
      obtain ⟨a, ha, _⟩ := hx 0 (xs[0]'(by omega)) (List.getElem?_eq_getElem _)
      exact ⟨a, ha⟩
    exact row_5 ⟨5, tb, ot, tn', al, nm, ty, ns, col, df⟩ no nc dO dc tn K tc ao cap xs n hn hlen (by omega) (by omega) (by omega) ba bc w hg hT hx hm ho hE hs hns hnl hcb
  · exact row_6 ⟨6, tb, ot, tn', al, nm, ty, ns, col, df⟩ no nc dO dc ⟨tn, (K : Int), tc⟩ ao cap xs n hn bo bc w hg hT hx hm ho hE hs

end Go.Proofs.YtdonmbmahcjfbaaGreatDoor
