/-
  The document's Row, a column retyped. Conditions: a table and a row of at most 30 values in memory that keep a value's bounds.
-/
import Derived.Test.YtdonmbmahcjfbaaGreatDoorTfRef
import Derived.Test.YtdonmbmahcjfbaaGreatDoorTfMem
namespace Go.Proofs.YtdonmbmahcjfbaaGreatDoor
open Go.RowKit
set_option linter.unusedVariables false
set_option linter.unusedSimpArgs false

set_option maxHeartbeats 4000000 in
set_option maxRecDepth 100000 in
theorem rrow_4n (c : Ch) (no : Option Addr) (nc : Nat) (dO : Option Addr) (dc : Nat) (tn : Nm.S) (K : Nat) (tc : List C) (ao : Option Addr) (cap : Nat) (xs : List V) (n : Nat) (hn : xs.length = n) (bo : Option Addr) (bc : Nat) (w : World) (hT : At3 w (⟨tn, (K : Int), tc⟩ : T) ao cap) (hx : Sl w bo xs) (hm : xs.length ≤ 30) (ho : ∀ x ∈ xs, x.ok) (hE : (⟨tn, (K : Int), tc⟩ : T).fit xs = 0) (hlen : xs.length = tc.length) (hc8 : tc.length ≤ 8) (hns : SlS w no c.names) (hnl : c.names.length ≤ 1000) (hs : tn ∈ (⟨4, c.table, c.other, c.to, c.also, c.name, c.type, c.names, c.col, c.df⟩ : Ch).src) (hf : Nm.fi (tc.map C.name) c.name < (K : Int)) :
    Calls Tryz.prog 11 #[.agg #[.string ⟨tn.toArray⟩, .int .i64 (K : Int), .slice ao tc.length cap], .agg #[.int .i64 4, .string ⟨c.table.toArray⟩, .string ⟨c.other.toArray⟩, .string ⟨c.to.toArray⟩, .string ⟨c.also.toArray⟩, .string ⟨c.name.toArray⟩, .int .i64 c.type, .slice no c.names.length nc, .string ⟨c.col.name.toArray⟩, .int .i64 c.col.kind, .bool c.col.null, .int .i64 c.col.d.k, .int .i64 c.col.d.n, .int .u64 c.col.d.b, .string ⟨c.col.d.s.toArray⟩, .string ⟨c.df.name.toArray⟩, .int .i64 c.df.keys, .slice dO c.df.cs.length dc], .slice bo n bc] w fun e w' => e = .returned (.tuple #[.slice none 0 0, .int .i64 10]) ∧ Below w.heap.size w w' := by
  have hmx : Tryz.prog.follows .mixedOrders = true := by kernel_rfl
  subst hn
  obtain ⟨F, hF⟩ : ∃ F, Nm.fi (⟨4, c.table, c.other, c.to, c.also, c.name, c.type, c.names, c.col, c.df⟩ : Ch).src tn = F := ⟨_, rfl⟩
  have dF : decide (F < 0) = false := by rw [decide_eq_false_iff_not, ← hF, fi_mem hs]; omega
  obtain ⟨X, hX⟩ : ∃ X, Nm.fi (tc.map C.name) c.name = X := ⟨_, rfl⟩
  rw [hX] at hf
  have dX : decide (X < (K : Int)) = true := by rw [decide_eq_true_iff]; exact hf
  have H := Lib.hid (And.intro hT (And.intro hx (And.intro hm (And.intro ho (And.intro hE (And.intro hF (And.intro hX (And.intro hlen (And.intro hc8 (And.intro hns (And.intro hnl trivial)))))))))))
  clear hT hx hm ho hE hs hF hX hlen hc8 hns hnl hf
  go_enter Tryz.func11, Tryz.ntmps11
  go_wp2_with fail
  refine (rfits_t (⟨tn, (K : Int), tc⟩ : T) xs ao bo cap bc _ (H.out.1.keep (below2s _ _ _)) (H.out.2.1.below (below2s _ _ _)) H.out.2.2.1 H.out.2.2.2.1 0 H.out.2.2.2.2.1).mono ?_
  rintro e w1 ⟨rfl, hb⟩
  have q0 := ((Blk.new w #[.string ⟨tn.toArray⟩, .int .i64 (K : Int), .slice ao tc.length cap] 24).alloc (.cells #[.int .i64 4, .string ⟨c.table.toArray⟩, .string ⟨c.other.toArray⟩, .string ⟨c.to.toArray⟩, .string ⟨c.also.toArray⟩, .string ⟨c.name.toArray⟩, .int .i64 c.type, .slice no c.names.length nc, .string ⟨c.col.name.toArray⟩, .int .i64 c.col.kind, .bool c.col.null, .int .i64 c.col.d.k, .int .i64 c.col.d.n, .int .u64 c.col.d.b, .string ⟨c.col.d.s.toArray⟩, .string ⟨c.df.name.toArray⟩, .int .i64 c.df.keys, .slice dO c.df.cs.length dc] 32)).below hb
  have q1 := (Blk.new (w.alloc (.cells #[.string ⟨tn.toArray⟩, .int .i64 (K : Int), .slice ao tc.length cap] 24)) #[.int .i64 4, .string ⟨c.table.toArray⟩, .string ⟨c.other.toArray⟩, .string ⟨c.to.toArray⟩, .string ⟨c.also.toArray⟩, .string ⟨c.name.toArray⟩, .int .i64 c.type, .slice no c.names.length nc, .string ⟨c.col.name.toArray⟩, .int .i64 c.col.kind, .bool c.col.null, .int .i64 c.col.d.k, .int .i64 c.col.d.n, .int .u64 c.col.d.b, .string ⟨c.col.d.s.toArray⟩, .string ⟨c.df.name.toArray⟩, .int .i64 c.df.keys, .slice dO c.df.cs.length dc] 32).below hb
  have hsz : (w.alloc (.cells #[.string ⟨tn.toArray⟩, .int .i64 (K : Int), .slice ao tc.length cap] 24)).heap.size = w.heap.size + 1 := by simp
  rw [hsz] at q1
  have K1 := Lib.hid (And.intro (step0 (below2s w _ _) hb) (And.intro q0 q1))
  clear hb q0 q1 hsz
  go_wp2_with fail
  refine wp_region_held_drew (S := fun v => Below w1.heap.size w1 v ∧ v.rangeAt (w.heap.size + 1) 0 [.int .i64 4, .string ⟨c.table.toArray⟩, .string ⟨c.other.toArray⟩, .string ⟨c.to.toArray⟩, .string ⟨c.also.toArray⟩, .string ⟨c.name.toArray⟩, .int .i64 c.type, .slice no c.names.length nc, .string ⟨c.col.name.toArray⟩, .int .i64 c.col.kind, .bool c.col.null, .int .i64 c.col.d.k, .int .i64 c.col.d.n, .int .u64 c.col.d.b, .string ⟨c.col.d.s.toArray⟩, .string ⟨c.df.name.toArray⟩, .int .i64 c.df.keys, .slice dO c.df.cs.length dc] ∧ v.cell? ⟨w.heap.size, 0, none⟩ = some (.string ⟨tn.toArray⟩)) (by kernel_rfl) ⟨(Below.refl _ _).drew, rng K1.out.2.2, K1.out.2.1.cell 0⟩ (fun hH0 => ?_)
  refine wpAnyH_take (i := 0) (oi := _) (v := .agg #[.int .i64 4, .string ⟨c.table.toArray⟩, .string ⟨c.other.toArray⟩, .string ⟨c.to.toArray⟩, .string ⟨c.also.toArray⟩, .string ⟨c.name.toArray⟩, .int .i64 c.type, .slice no c.names.length nc, .string ⟨c.col.name.toArray⟩, .int .i64 c.col.kind, .bool c.col.null, .int .i64 c.col.d.k, .int .i64 c.col.d.n, .int .u64 c.col.d.b, .string ⟨c.col.d.s.toArray⟩, .string ⟨c.df.name.toArray⟩, .int .i64 c.df.keys, .slice dO c.df.cs.length dc]) rfl (by kernel_rfl) (by kernel_rfl) (by kernel_rfl) (fun _ _ _ h => h) (yieldsIf_load_mid (by rfl) _ _ rfl (w.heap.size + 1) 0 rfl [.int .i64 4, .string ⟨c.table.toArray⟩, .string ⟨c.other.toArray⟩, .string ⟨c.to.toArray⟩, .string ⟨c.also.toArray⟩, .string ⟨c.name.toArray⟩, .int .i64 c.type, .slice no c.names.length nc, .string ⟨c.col.name.toArray⟩, .int .i64 c.col.kind, .bool c.col.null, .int .i64 c.col.d.k, .int .i64 c.col.d.n, .int .u64 c.col.d.b, .string ⟨c.col.d.s.toArray⟩, .string ⟨c.df.name.toArray⟩, .int .i64 c.df.keys, .slice dO c.df.cs.length dc] _ (fun v hv => hv.2.1) Tryz.underlying32 rfl infoCh) hH0 ?_
  try simp only [Act.put, List.getElem_toArray, List.getElem_cons_succ, List.getElem_cons_zero, List.setIfInBounds_toArray, List.set_cons_zero, List.set_cons_succ]
  refine wpAnyH_take (i := 2) (oi := _) (v := .pointer (some ⟨w.heap.size, 0, none⟩)) rfl (by kernel_rfl) (by kernel_rfl) (by kernel_rfl) (fun _ _ _ h => h) (Or.inl ⟨by rfl, by intro v hv; go_simp⟩) hH0 ?_
  try simp only [Act.put, List.getElem_toArray, List.getElem_cons_succ, List.getElem_cons_zero, List.setIfInBounds_toArray, List.set_cons_zero, List.set_cons_succ]
  refine wpAnyH_take (i := 3) (oi := _) (v := .string ⟨tn.toArray⟩) rfl (by kernel_rfl) (by kernel_rfl) (by kernel_rfl) (fun _ _ _ h => h) (Or.inl ⟨by rfl, by intro v hv; have hc := hv.2.2; clear hv; go_simp⟩) hH0 ?_
  try simp only [Act.put, List.getElem_toArray, List.getElem_cons_succ, List.getElem_cons_zero, List.setIfInBounds_toArray, List.set_cons_zero, List.set_cons_succ]
  refine wpAnyH_ready (rs := [1]) (by kernel_rfl) (by simp) ?_
  refine AllReadyH.cons (o := _) rfl (fun K' hK => ?_) AllReadyH.nil
  go_simp
  refine (rsources_is (⟨4, c.table, c.other, c.to, c.also, c.name, c.type, c.names, c.col, c.df⟩ : Ch) no nc dO dc _).mono ?_
  rintro e w5 ⟨so, sc, rfl, hSl, hb⟩
  have B5 := Lib.hid (And.intro (step0 (below_drew1 (Below.refl _ w1)) hb) hSl)
  clear hb hSl
  go_wp2_with fail
  refine hK.out _ _ ⟨B5.out.1, rng (K1.out.2.2.below B5.out.1), (K1.out.2.1.below B5.out.1).cell 0⟩ (fun hH1 => ?_)
  clear hK K' hH0
  try simp only [Act.put, List.getElem_toArray, List.getElem_cons_succ, List.getElem_cons_zero, List.setIfInBounds_toArray, List.set_cons_zero, List.set_cons_succ]
  refine wpAnyH_ready (rs := [4]) (by kernel_rfl) (by simp) ?_
  refine AllReadyH.cons (o := _) rfl (fun K' hK => ?_) AllReadyH.nil
  go_simp
  refine (rfind_is (⟨4, c.table, c.other, c.to, c.also, c.name, c.type, c.names, c.col, c.df⟩ : Ch).src tn _ F so sc _ rfl B5.out.2 (by have := rsrc_len (⟨4, c.table, c.other, c.to, c.also, c.name, c.type, c.names, c.col, c.df⟩ : Ch); omega) H.out.2.2.2.2.2.1).mono ?_
  rintro e w6 ⟨rfl, rfl⟩
  go_wp2_with fail
  refine hK.out _ _ hH1 (fun _ => ?_)
  clear hK K'
  try simp only [Act.put, List.getElem_toArray, List.getElem_cons_succ, List.getElem_cons_zero, List.setIfInBounds_toArray, List.set_cons_zero, List.set_cons_succ]
  refine wpAnyH_take (i := 5) (oi := _) (v := .bool false) rfl (by kernel_rfl) (by kernel_rfl) (by kernel_rfl) (fun _ _ _ h => h) (Or.inl ⟨by rfl, by intro v hv; go_simp⟩) hH1 ?_
  try simp only [Act.put, List.getElem_toArray, List.getElem_cons_succ, List.getElem_cons_zero, List.setIfInBounds_toArray, List.set_cons_zero, List.set_cons_succ]
  refine wpAnyH_done (by kernel_rfl) ?_ _
  clear hH1
  have T5 := Lib.hid (And.intro (K1.out.2.1.below B5.out.1) (K1.out.2.2.below B5.out.1))
  obtain ⟨t0, t1, t2⟩ := T5.out.1.t3
  obtain ⟨x0, x5, x6, x7, x11, x12, x13, x14⟩ := T5.out.2.c07
  go_wp2_with fail
  refine (rfind_t tn (K : Int) tc c.name ao cap _ (H.out.1.1.below (step0 K1.out.1 B5.out.1)) (by have := H.out.2.2.2.2.2.2.2.2.1; omega) _ H.out.2.2.2.2.2.2.1).mono ?_
  rintro e w7 ⟨rfl, hb⟩
  clear t0 t1 t2 x0 x5 x6 x7 x11 x12 x13 x14
  have T7 := Lib.hid (And.intro (T5.out.1.below hb) (And.intro (T5.out.2.below hb) (step0 (step0 K1.out.1 B5.out.1) hb)))
  clear hb
  obtain ⟨t0, t1, t2⟩ := T7.out.1.t3
  obtain ⟨x0, x5, x6, x7, x11, x12, x13, x14⟩ := T7.out.2.1.c07
  go_wp2
  go_ret2
  exact ⟨rfl, T7.out.2.2⟩

set_option maxHeartbeats 4000000 in
set_option maxRecDepth 100000 in
theorem rrow_4e (c : Ch) (no : Option Addr) (nc : Nat) (dO : Option Addr) (dc : Nat) (tn : Nm.S) (K : Nat) (tc : List C) (ao : Option Addr) (cap : Nat) (xs : List V) (n : Nat) (hn : xs.length = n) (bo : Option Addr) (bc : Nat) (w : World) (hT : At3 w (⟨tn, (K : Int), tc⟩ : T) ao cap) (hx : Sl w bo xs) (hm : xs.length ≤ 30) (ho : ∀ x ∈ xs, x.ok) (hE : (⟨tn, (K : Int), tc⟩ : T).fit xs = 0) (hlen : xs.length = tc.length) (hc8 : tc.length ≤ 8) (hns : SlS w no c.names) (hnl : c.names.length ≤ 1000) (hs : tn ∈ (⟨4, c.table, c.other, c.to, c.also, c.name, c.type, c.names, c.col, c.df⟩ : Ch).src) (I : Nat) (hf : Nm.fi (tc.map C.name) c.name = (I : Int)) (hKI : K ≤ I) (hI : I < xs.length) (x1 : V) (hx1 : xs[I] = x1) (k1 n1 b1 : Int) (s1 : List UInt8) (E : Int) (hr : Km.Cv.to x1.k x1.n x1.b x1.s c.type = ⟨k1, n1, b1, s1, E⟩) (hE0 : ¬ E = 0) :
    Calls Tryz.prog 11 #[.agg #[.string ⟨tn.toArray⟩, .int .i64 (K : Int), .slice ao tc.length cap], .agg #[.int .i64 4, .string ⟨c.table.toArray⟩, .string ⟨c.other.toArray⟩, .string ⟨c.to.toArray⟩, .string ⟨c.also.toArray⟩, .string ⟨c.name.toArray⟩, .int .i64 c.type, .slice no c.names.length nc, .string ⟨c.col.name.toArray⟩, .int .i64 c.col.kind, .bool c.col.null, .int .i64 c.col.d.k, .int .i64 c.col.d.n, .int .u64 c.col.d.b, .string ⟨c.col.d.s.toArray⟩, .string ⟨c.df.name.toArray⟩, .int .i64 c.df.keys, .slice dO c.df.cs.length dc], .slice bo n bc] w fun e w' => e = .returned (.tuple #[.slice none 0 0, .int .i64 E]) ∧ Below w.heap.size w w' := by
  have e0 := bne_t hE0
  clear hE0
  have hmx : Tryz.prog.follows .mixedOrders = true := by kernel_rfl
  subst hn
  obtain ⟨F, hF⟩ : ∃ F, Nm.fi (⟨4, c.table, c.other, c.to, c.also, c.name, c.type, c.names, c.col, c.df⟩ : Ch).src tn = F := ⟨_, rfl⟩
  have dF : decide (F < 0) = false := by rw [decide_eq_false_iff_not, ← hF, fi_mem hs]; omega
  obtain ⟨X, hX⟩ : ∃ X, Nm.fi (tc.map C.name) c.name = X := ⟨_, rfl⟩
  obtain rfl : X = (I : Int) := by rw [← hX, hf]
  have dX : decide ((I : Int) < (K : Int)) = false := by rw [decide_eq_false_iff_not]; omega
  have dX2 : decide (I < K) = false := by rw [decide_eq_false_iff_not]; omega
  have H := Lib.hid (And.intro hT (And.intro hx (And.intro hm (And.intro ho (And.intro hE (And.intro hF (And.intro hX (And.intro hlen (And.intro hc8 (And.intro hns (And.intro hnl (And.intro hKI (And.intro hx1 (And.intro hr hI))))))))))))))
  clear hT hx hm ho hE hs hF hX hlen hc8 hns hnl hf hKI hx1 hr
  go_enter Tryz.func11, Tryz.ntmps11
  go_wp2_with fail
  refine (rfits_t (⟨tn, (K : Int), tc⟩ : T) xs ao bo cap bc _ (H.out.1.keep (below2s _ _ _)) (H.out.2.1.below (below2s _ _ _)) H.out.2.2.1 H.out.2.2.2.1 0 H.out.2.2.2.2.1).mono ?_
  rintro e w1 ⟨rfl, hb⟩
  have q0 := ((Blk.new w #[.string ⟨tn.toArray⟩, .int .i64 (K : Int), .slice ao tc.length cap] 24).alloc (.cells #[.int .i64 4, .string ⟨c.table.toArray⟩, .string ⟨c.other.toArray⟩, .string ⟨c.to.toArray⟩, .string ⟨c.also.toArray⟩, .string ⟨c.name.toArray⟩, .int .i64 c.type, .slice no c.names.length nc, .string ⟨c.col.name.toArray⟩, .int .i64 c.col.kind, .bool c.col.null, .int .i64 c.col.d.k, .int .i64 c.col.d.n, .int .u64 c.col.d.b, .string ⟨c.col.d.s.toArray⟩, .string ⟨c.df.name.toArray⟩, .int .i64 c.df.keys, .slice dO c.df.cs.length dc] 32)).below hb
  have q1 := (Blk.new (w.alloc (.cells #[.string ⟨tn.toArray⟩, .int .i64 (K : Int), .slice ao tc.length cap] 24)) #[.int .i64 4, .string ⟨c.table.toArray⟩, .string ⟨c.other.toArray⟩, .string ⟨c.to.toArray⟩, .string ⟨c.also.toArray⟩, .string ⟨c.name.toArray⟩, .int .i64 c.type, .slice no c.names.length nc, .string ⟨c.col.name.toArray⟩, .int .i64 c.col.kind, .bool c.col.null, .int .i64 c.col.d.k, .int .i64 c.col.d.n, .int .u64 c.col.d.b, .string ⟨c.col.d.s.toArray⟩, .string ⟨c.df.name.toArray⟩, .int .i64 c.df.keys, .slice dO c.df.cs.length dc] 32).below hb
  have hsz : (w.alloc (.cells #[.string ⟨tn.toArray⟩, .int .i64 (K : Int), .slice ao tc.length cap] 24)).heap.size = w.heap.size + 1 := by simp
  rw [hsz] at q1
  have K1 := Lib.hid (And.intro (step0 (below2s w _ _) hb) (And.intro q0 q1))
  clear hb q0 q1 hsz
  go_wp2_with fail
  refine wp_region_held_drew (S := fun v => Below w1.heap.size w1 v ∧ v.rangeAt (w.heap.size + 1) 0 [.int .i64 4, .string ⟨c.table.toArray⟩, .string ⟨c.other.toArray⟩, .string ⟨c.to.toArray⟩, .string ⟨c.also.toArray⟩, .string ⟨c.name.toArray⟩, .int .i64 c.type, .slice no c.names.length nc, .string ⟨c.col.name.toArray⟩, .int .i64 c.col.kind, .bool c.col.null, .int .i64 c.col.d.k, .int .i64 c.col.d.n, .int .u64 c.col.d.b, .string ⟨c.col.d.s.toArray⟩, .string ⟨c.df.name.toArray⟩, .int .i64 c.df.keys, .slice dO c.df.cs.length dc] ∧ v.cell? ⟨w.heap.size, 0, none⟩ = some (.string ⟨tn.toArray⟩)) (by kernel_rfl) ⟨(Below.refl _ _).drew, rng K1.out.2.2, K1.out.2.1.cell 0⟩ (fun hH0 => ?_)
  refine wpAnyH_take (i := 0) (oi := _) (v := .agg #[.int .i64 4, .string ⟨c.table.toArray⟩, .string ⟨c.other.toArray⟩, .string ⟨c.to.toArray⟩, .string ⟨c.also.toArray⟩, .string ⟨c.name.toArray⟩, .int .i64 c.type, .slice no c.names.length nc, .string ⟨c.col.name.toArray⟩, .int .i64 c.col.kind, .bool c.col.null, .int .i64 c.col.d.k, .int .i64 c.col.d.n, .int .u64 c.col.d.b, .string ⟨c.col.d.s.toArray⟩, .string ⟨c.df.name.toArray⟩, .int .i64 c.df.keys, .slice dO c.df.cs.length dc]) rfl (by kernel_rfl) (by kernel_rfl) (by kernel_rfl) (fun _ _ _ h => h) (yieldsIf_load_mid (by rfl) _ _ rfl (w.heap.size + 1) 0 rfl [.int .i64 4, .string ⟨c.table.toArray⟩, .string ⟨c.other.toArray⟩, .string ⟨c.to.toArray⟩, .string ⟨c.also.toArray⟩, .string ⟨c.name.toArray⟩, .int .i64 c.type, .slice no c.names.length nc, .string ⟨c.col.name.toArray⟩, .int .i64 c.col.kind, .bool c.col.null, .int .i64 c.col.d.k, .int .i64 c.col.d.n, .int .u64 c.col.d.b, .string ⟨c.col.d.s.toArray⟩, .string ⟨c.df.name.toArray⟩, .int .i64 c.df.keys, .slice dO c.df.cs.length dc] _ (fun v hv => hv.2.1) Tryz.underlying32 rfl infoCh) hH0 ?_
  try simp only [Act.put, List.getElem_toArray, List.getElem_cons_succ, List.getElem_cons_zero, List.setIfInBounds_toArray, List.set_cons_zero, List.set_cons_succ]
  refine wpAnyH_take (i := 2) (oi := _) (v := .pointer (some ⟨w.heap.size, 0, none⟩)) rfl (by kernel_rfl) (by kernel_rfl) (by kernel_rfl) (fun _ _ _ h => h) (Or.inl ⟨by rfl, by intro v hv; go_simp⟩) hH0 ?_
  try simp only [Act.put, List.getElem_toArray, List.getElem_cons_succ, List.getElem_cons_zero, List.setIfInBounds_toArray, List.set_cons_zero, List.set_cons_succ]
  refine wpAnyH_take (i := 3) (oi := _) (v := .string ⟨tn.toArray⟩) rfl (by kernel_rfl) (by kernel_rfl) (by kernel_rfl) (fun _ _ _ h => h) (Or.inl ⟨by rfl, by intro v hv; have hc := hv.2.2; clear hv; go_simp⟩) hH0 ?_
  try simp only [Act.put, List.getElem_toArray, List.getElem_cons_succ, List.getElem_cons_zero, List.setIfInBounds_toArray, List.set_cons_zero, List.set_cons_succ]
  refine wpAnyH_ready (rs := [1]) (by kernel_rfl) (by simp) ?_
  refine AllReadyH.cons (o := _) rfl (fun K' hK => ?_) AllReadyH.nil
  go_simp
  refine (rsources_is (⟨4, c.table, c.other, c.to, c.also, c.name, c.type, c.names, c.col, c.df⟩ : Ch) no nc dO dc _).mono ?_
  rintro e w5 ⟨so, sc, rfl, hSl, hb⟩
  have B5 := Lib.hid (And.intro (step0 (below_drew1 (Below.refl _ w1)) hb) hSl)
  clear hb hSl
  go_wp2_with fail
  refine hK.out _ _ ⟨B5.out.1, rng (K1.out.2.2.below B5.out.1), (K1.out.2.1.below B5.out.1).cell 0⟩ (fun hH1 => ?_)
  clear hK K' hH0
  try simp only [Act.put, List.getElem_toArray, List.getElem_cons_succ, List.getElem_cons_zero, List.setIfInBounds_toArray, List.set_cons_zero, List.set_cons_succ]
  refine wpAnyH_ready (rs := [4]) (by kernel_rfl) (by simp) ?_
  refine AllReadyH.cons (o := _) rfl (fun K' hK => ?_) AllReadyH.nil
  go_simp
  refine (rfind_is (⟨4, c.table, c.other, c.to, c.also, c.name, c.type, c.names, c.col, c.df⟩ : Ch).src tn _ F so sc _ rfl B5.out.2 (by have := rsrc_len (⟨4, c.table, c.other, c.to, c.also, c.name, c.type, c.names, c.col, c.df⟩ : Ch); omega) H.out.2.2.2.2.2.1).mono ?_
  rintro e w6 ⟨rfl, rfl⟩
  go_wp2_with fail
  refine hK.out _ _ hH1 (fun _ => ?_)
  clear hK K'
  try simp only [Act.put, List.getElem_toArray, List.getElem_cons_succ, List.getElem_cons_zero, List.setIfInBounds_toArray, List.set_cons_zero, List.set_cons_succ]
  refine wpAnyH_take (i := 5) (oi := _) (v := .bool false) rfl (by kernel_rfl) (by kernel_rfl) (by kernel_rfl) (fun _ _ _ h => h) (Or.inl ⟨by rfl, by intro v hv; go_simp⟩) hH1 ?_
  try simp only [Act.put, List.getElem_toArray, List.getElem_cons_succ, List.getElem_cons_zero, List.setIfInBounds_toArray, List.set_cons_zero, List.set_cons_succ]
  refine wpAnyH_done (by kernel_rfl) ?_ _
  clear hH1
  have T5 := Lib.hid (And.intro (K1.out.2.1.below B5.out.1) (K1.out.2.2.below B5.out.1))
  obtain ⟨t0, t1, t2⟩ := T5.out.1.t3
  obtain ⟨x0, x5, x6, x7, x11, x12, x13, x14⟩ := T5.out.2.c07
  go_wp2_with fail
  refine (rfind_t tn (K : Int) tc c.name ao cap _ (H.out.1.1.below (step0 K1.out.1 B5.out.1)) (by have := H.out.2.2.2.2.2.2.2.2.1; omega) _ H.out.2.2.2.2.2.2.1).mono ?_
  rintro e w7 ⟨rfl, hb⟩
  clear t0 t1 t2 x0 x5 x6 x7 x11 x12 x13 x14
  have T7 := Lib.hid (And.intro (T5.out.1.below hb) (And.intro (T5.out.2.below hb) (step0 (step0 K1.out.1 B5.out.1) hb)))
  clear hb
  obtain ⟨t0, t1, t2⟩ := T7.out.1.t3
  obtain ⟨x0, x5, x6, x7, x11, x12, x13, x14⟩ := T7.out.2.1.c07
  go_wp2
  go_loopw [10, 11, 12] (fun p q i wr => ∃ j : Nat, i = .int .i64 j ∧ j ≤ I ∧ Below w7.heap.size w7 wr ∧ OwV wr w7.heap.size p (xs.take j) ∧ OwV wr w7.heap.size q ([]) ∧ ∀ k, p.ownBlock = some k → q.ownBlock ≠ some k) (fun _ _ i _ => xs.length - (intOf i).toNat)
  case atStart => exact ⟨0, rfl, Nat.zero_le _, Below.refl _ _, owv_nil _ _, owv_nil _ _, fun k hk => by simp [Value.ownBlock] at hk⟩
  case round =>
    clear t0 t1 t2 x0 x5 x6 x7 x11 x12 x13 x14
    obtain ⟨j, rfl, hj, hb, r1, r2, hd⟩ := hrel
    have J := Lib.hid (And.intro hj (And.intro hb (And.intro r1 (And.intro r2 hd))))
    have qT := T7.out.1.below hb
    have qC := T7.out.2.1.below hb
    clear hb r1 r2 hd
    by_cases hlt : j < xs.length
    · have hlc : j < tc.length := by have := H.out.2.2.2.2.2.2.2.1; omega
      have hw : wrap64 ((j : Int) + 1) = (j : Int) + 1 := by have := H.out.2.2.1; exact wrap_in _ (by omega) (by omega)
      obtain ⟨a, rfl, y0, y1, y2, y3⟩ := (H.out.2.1.below (step0 T7.out.2.2 J.out.2.1)) j xs[j] (List.getElem?_eq_getElem hlt)
      obtain ⟨x, hxj⟩ : ∃ x, xs[j] = x := ⟨_, rfl⟩
      rw [hxj] at y0 y1 y2 y3
      obtain ⟨W1, hW1⟩ : ∃ W1, wr.alloc (.cells #[.int .i64 x.k, .int .i64 x.n, .int .u64 x.b, .string ⟨x.s.toArray⟩] 28) = W1 := ⟨_, rfl⟩
      have pT : Blk W1 w.heap.size #[.string ⟨tn.toArray⟩, .int .i64 (K : Int), .slice ao tc.length cap] 24 := hW1 ▸ qT.alloc _
      have pC : Blk W1 (w.heap.size + 1) #[.int .i64 4, .string ⟨c.table.toArray⟩, .string ⟨c.other.toArray⟩, .string ⟨c.to.toArray⟩, .string ⟨c.also.toArray⟩, .string ⟨c.name.toArray⟩, .int .i64 c.type, .slice no c.names.length nc, .string ⟨c.col.name.toArray⟩, .int .i64 c.col.kind, .bool c.col.null, .int .i64 c.col.d.k, .int .i64 c.col.d.n, .int .u64 c.col.d.b, .string ⟨c.col.d.s.toArray⟩, .string ⟨c.df.name.toArray⟩, .int .i64 c.df.keys, .slice dO c.df.cs.length dc] 32 := hW1 ▸ qC.alloc _
      have pV : Blk W1 wr.heap.size #[.int .i64 x.k, .int .i64 x.n, .int .u64 x.b, .string ⟨x.s.toArray⟩] 28 := hW1 ▸ Blk.new wr _ _
      have b1 : Below wr.heap.size wr W1 := hW1 ▸ below1 wr _
      obtain ⟨b, rfl, n0, _⟩ := (H.out.1.1.below (step0 (step0 T7.out.2.2 J.out.2.1) b1)) j tc[j] (List.getElem?_eq_getElem hlc)
      obtain ⟨nj, hnj⟩ : ∃ s, tc[j].name = s := ⟨_, rfl⟩
      rw [hnj] at n0
      have P1 := Lib.hid (And.intro pT (And.intro pC (And.intro pV (And.intro b1 (And.intro hxj hnj)))))
      clear qT qC b1
      obtain ⟨t0, t1, t2⟩ := pT.t3
      obtain ⟨x0, x5, x6, x7, x11, x12, x13, x14⟩ := pC.c07
      obtain ⟨v0, v1, v2, v3⟩ := pV.v4
      clear pT pC pV x11 x12 x13 x14 hxj hnj
      have g0 : (0 : Int) ≤ (j : Int) := by omega
      have g2 : (j : Int) < (tc.length : Int) := by omega
      have g3 : (j : Int) < (xs.length : Int) := by omega
      obtain ⟨G, hG⟩ : ∃ G, Nm.fi c.names nj = G := ⟨_, rfl⟩
      by_cases hjI : j = I
      · have e1 : ((j : Int) == (I : Int)) = true := beq_t (by omega)
        have e2 : (j == I) = true := by simp [hjI]
        have hx2 : x = x1 := by rw [← P1.out.2.2.2.2.1, ← H.out.2.2.2.2.2.2.2.2.2.2.2.2.1]; subst hjI; rfl
        subst hx2
        have HR := Lib.hid H.out.2.2.2.2.2.2.2.2.2.2.2.2.2.1
        clear hjI hG
        go_wp2_with fail
        refine (Km.rto_l x.k x.n x.b x.s c.type k1 n1 b1 E s1 _ (H.out.2.2.2.1 x (P1.out.2.2.2.2.1 ▸ List.getElem_mem hlt)).1 (H.out.2.2.2.1 x (P1.out.2.2.2.2.1 ▸ List.getElem_mem hlt)).2 HR.out).mono ?_
        rintro e w8 ⟨rfl, hb8⟩
        have B8 := Lib.hid (step0 (step0 (step0 T7.out.2.2 J.out.2.1) P1.out.2.2.2.1) hb8)
        clear hb8
        go_wp2
        go_ret2
        exact ⟨rfl, B8.out.alloc B8.out.size _⟩
      · have e1 : ((j : Int) == (I : Int)) = false := beq_f (by omega)
        have e2 : (j == I) = false := by simp [hjI]
        have hjl : j + 1 ≤ I := by omega
        have XA := Lib.hid (show xs.take (j + 1) = xs.take j ++ [x] by rw [List.take_succ_eq_append_getElem hlt, P1.out.2.2.2.2.1])
        clear hjI
        by_cases hz : (0 : Int) ≤ G
        · have dG : decide ((0 : Int) ≤ G) = true := by rw [decide_eq_true_iff]; exact hz
          have HG := Lib.hid hG
          clear hG hz
          go_wp2_with fail
          go_region_held3 (fun v => Below W1.heap.size W1 v ∧ v.cell? ⟨w.heap.size + 1, 7, none⟩ = some (.slice no c.names.length nc) ∧ v.cell? ⟨w.heap.size, 2, none⟩ = some (.slice (some b) tc.length cap) ∧ v.cell? (b.add (j * 7)) = some (.string ⟨nj.toArray⟩))
            (first | exact ⟨(Below.refl _ _).drew, x7, t2, n0⟩ | assumption)
            (first | (go_at_call 32; refine (rfind_is c.names nj _ G no nc _ rfl (H.out.2.2.2.2.2.2.2.2.2.1.below (step0 (step0 (step0 T7.out.2.2 J.out.2.1) P1.out.2.2.2.1) ‹Below W1.heap.size W1 _ ∧ _›.1)) (by have := H.out.2.2.2.2.2.2.2.2.2.2.1; omega) HG.out).mono ?_; rintro e w8 ⟨rfl, rfl⟩))
          obtain ⟨W2, hW2⟩ : ∃ W2, W1.drew = W2 := ⟨_, rfl⟩
          have P2 := Lib.hid (And.intro (Blk.drw P1.out.1 hW2) (And.intro (Blk.drw P1.out.2.1 hW2) (And.intro (Blk.drw P1.out.2.2.1 hW2) (below_drw P1.out.2.2.2.1 hW2))))
          clear t0 t1 t2 x0 x5 x6 x7 v0 v1 v2 v3 n0 y0 y1 y2 y3
          obtain ⟨t0, t1, t2⟩ := P2.out.1.t3
          obtain ⟨x0, x5, x6, x7, _, _, _, _⟩ := P2.out.2.1.c07
          obtain ⟨v0, v1, v2, v3⟩ := P2.out.2.2.1.v4
          have LA10 := Lib.hid (show (xs.take j).length ≤ 1000000000 by have := H.out.2.2.1; simp; omega)
          go_wp2_with (at_builtin; refine appVg rfl _ _ rfl w7.heap.size u10 (xs.take j) x W2 rfl (J.out.2.2.1.keep P2.out.2.2.2) W2.heap.size rfl rfl LA10.out (Nat.le_trans J.out.2.1.size P2.out.2.2.2.size) ?_; intro v' w9 hown' hgr hbk hb'; have Z := Lib.hid (And.intro hown' (And.intro ((J.out.2.1.trans (P2.out.2.2.2.mono J.out.2.1.size)).trans hb') (And.intro ((J.out.2.2.2.1.keep P2.out.2.2.2).apart hgr (fun k hk e => J.out.2.2.2.2 k e hk)) (And.intro hbk hgr)))); clear hown' hb' hgr hbk; go_frame)
          go_roundw
          case rel =>
            refine ⟨j + 1, by go_num, hjl, Z.out.2.1, ?_, ?_, ?_⟩
            · rw [XA.out]; exact Z.out.1
            · exact Z.out.2.2.1
            · intro k hk hq
              rcases Z.out.2.2.2.1 with e | ⟨k', e, hk'⟩
              · exact J.out.2.2.2.2 k (e ▸ hk) hq
              · rw [e] at hk
                obtain rfl := Option.some.inj hk
                have := vap J.out.2.2.2.1 k' hq
                have := P2.out.2.2.2.size
                omega
          case measure => rw [hw]; simp [intOf]; omega
        · have dG : decide ((0 : Int) ≤ G) = false := by rw [decide_eq_false_iff_not]; exact hz
          have HG := Lib.hid hG
          clear hG hz
          go_wp2_with fail
          go_region_held3 (fun v => Below W1.heap.size W1 v ∧ v.cell? ⟨w.heap.size + 1, 7, none⟩ = some (.slice no c.names.length nc) ∧ v.cell? ⟨w.heap.size, 2, none⟩ = some (.slice (some b) tc.length cap) ∧ v.cell? (b.add (j * 7)) = some (.string ⟨nj.toArray⟩))
            (first | exact ⟨(Below.refl _ _).drew, x7, t2, n0⟩ | assumption)
            (first | (go_at_call 32; refine (rfind_is c.names nj _ G no nc _ rfl (H.out.2.2.2.2.2.2.2.2.2.1.below (step0 (step0 (step0 T7.out.2.2 J.out.2.1) P1.out.2.2.2.1) ‹Below W1.heap.size W1 _ ∧ _›.1)) (by have := H.out.2.2.2.2.2.2.2.2.2.2.1; omega) HG.out).mono ?_; rintro e w8 ⟨rfl, rfl⟩))
          obtain ⟨W2, hW2⟩ : ∃ W2, W1.drew = W2 := ⟨_, rfl⟩
          have P2 := Lib.hid (And.intro (Blk.drw P1.out.1 hW2) (And.intro (Blk.drw P1.out.2.1 hW2) (And.intro (Blk.drw P1.out.2.2.1 hW2) (below_drw P1.out.2.2.2.1 hW2))))
          clear t0 t1 t2 x0 x5 x6 x7 v0 v1 v2 v3 n0 y0 y1 y2 y3
          obtain ⟨t0, t1, t2⟩ := P2.out.1.t3
          obtain ⟨x0, x5, x6, x7, _, _, _, _⟩ := P2.out.2.1.c07
          obtain ⟨v0, v1, v2, v3⟩ := P2.out.2.2.1.v4
          have LA10 := Lib.hid (show (xs.take j).length ≤ 1000000000 by have := H.out.2.2.1; simp; omega)
          go_wp2_with (at_builtin; refine appVg rfl _ _ rfl w7.heap.size u10 (xs.take j) x W2 rfl (J.out.2.2.1.keep P2.out.2.2.2) W2.heap.size rfl rfl LA10.out (Nat.le_trans J.out.2.1.size P2.out.2.2.2.size) ?_; intro v' w9 hown' hgr hbk hb'; have Z := Lib.hid (And.intro hown' (And.intro ((J.out.2.1.trans (P2.out.2.2.2.mono J.out.2.1.size)).trans hb') (And.intro ((J.out.2.2.2.1.keep P2.out.2.2.2).apart hgr (fun k hk e => J.out.2.2.2.2 k e hk)) (And.intro hbk hgr)))); clear hown' hb' hgr hbk; go_frame)
          go_roundw
          case rel =>
            refine ⟨j + 1, by go_num, hjl, Z.out.2.1, ?_, ?_, ?_⟩
            · rw [XA.out]; exact Z.out.1
            · exact Z.out.2.2.1
            · intro k hk hq
              rcases Z.out.2.2.2.1 with e | ⟨k', e, hk'⟩
              · exact J.out.2.2.2.2 k (e ▸ hk) hq
              · rw [e] at hk
                obtain rfl := Option.some.inj hk
                have := vap J.out.2.2.2.1 k' hq
                have := P2.out.2.2.2.size
                omega
          case measure => rw [hw]; simp [intOf]; omega
    · exact absurd hlt (by have := H.out.2.2.2.2.2.2.2.2.2.2.2.2.2.2; omega)

set_option maxHeartbeats 4000000 in
set_option maxRecDepth 100000 in
theorem rrow_4 (c : Ch) (no : Option Addr) (nc : Nat) (dO : Option Addr) (dc : Nat) (tn : Nm.S) (K : Nat) (tc : List C) (ao : Option Addr) (cap : Nat) (xs : List V) (n : Nat) (hn : xs.length = n) (bo : Option Addr) (bc : Nat) (w : World) (hT : At3 w (⟨tn, (K : Int), tc⟩ : T) ao cap) (hx : Sl w bo xs) (hm : xs.length ≤ 30) (ho : ∀ x ∈ xs, x.ok) (hE : (⟨tn, (K : Int), tc⟩ : T).fit xs = 0) (hlen : xs.length = tc.length) (hc8 : tc.length ≤ 8) (hns : SlS w no c.names) (hnl : c.names.length ≤ 1000) (hs : tn ∈ (⟨4, c.table, c.other, c.to, c.also, c.name, c.type, c.names, c.col, c.df⟩ : Ch).src) (I : Nat) (hf : Nm.fi (tc.map C.name) c.name = (I : Int)) (hKI : K ≤ I) (hI : I < xs.length) (x1 : V) (hx1 : xs[I] = x1) (y : V) (hr : Km.Cv.to x1.k x1.n x1.b x1.s c.type = ⟨y.k, y.n, y.b, y.s, 0⟩) :
    Calls Tryz.prog 11 #[.agg #[.string ⟨tn.toArray⟩, .int .i64 (K : Int), .slice ao tc.length cap], .agg #[.int .i64 4, .string ⟨c.table.toArray⟩, .string ⟨c.other.toArray⟩, .string ⟨c.to.toArray⟩, .string ⟨c.also.toArray⟩, .string ⟨c.name.toArray⟩, .int .i64 c.type, .slice no c.names.length nc, .string ⟨c.col.name.toArray⟩, .int .i64 c.col.kind, .bool c.col.null, .int .i64 c.col.d.k, .int .i64 c.col.d.n, .int .u64 c.col.d.b, .string ⟨c.col.d.s.toArray⟩, .string ⟨c.df.name.toArray⟩, .int .i64 c.df.keys, .slice dO c.df.cs.length dc], .slice bo n bc] w fun e w' => RR w w' e ([xs.set I y], 0) ∧ Below w.heap.size w w' := by
  have hmx : Tryz.prog.follows .mixedOrders = true := by kernel_rfl
  subst hn
  obtain ⟨F, hF⟩ : ∃ F, Nm.fi (⟨4, c.table, c.other, c.to, c.also, c.name, c.type, c.names, c.col, c.df⟩ : Ch).src tn = F := ⟨_, rfl⟩
  have dF : decide (F < 0) = false := by rw [decide_eq_false_iff_not, ← hF, fi_mem hs]; omega
  obtain ⟨X, hX⟩ : ∃ X, Nm.fi (tc.map C.name) c.name = X := ⟨_, rfl⟩
  obtain rfl : X = (I : Int) := by rw [← hX, hf]
  have dX : decide ((I : Int) < (K : Int)) = false := by rw [decide_eq_false_iff_not]; omega
  have dX2 : decide (I < K) = false := by rw [decide_eq_false_iff_not]; omega
  have H := Lib.hid (And.intro hT (And.intro hx (And.intro hm (And.intro ho (And.intro hE (And.intro hF (And.intro hX (And.intro hlen (And.intro hc8 (And.intro hns (And.intro hnl (And.intro hKI (And.intro hx1 (And.intro hr hI))))))))))))))
  clear hT hx hm ho hE hs hF hX hlen hc8 hns hnl hf hKI hx1 hr
  go_enter Tryz.func11, Tryz.ntmps11
  go_wp2_with fail
  refine (rfits_t (⟨tn, (K : Int), tc⟩ : T) xs ao bo cap bc _ (H.out.1.keep (below2s _ _ _)) (H.out.2.1.below (below2s _ _ _)) H.out.2.2.1 H.out.2.2.2.1 0 H.out.2.2.2.2.1).mono ?_
  rintro e w1 ⟨rfl, hb⟩
  have q0 := ((Blk.new w #[.string ⟨tn.toArray⟩, .int .i64 (K : Int), .slice ao tc.length cap] 24).alloc (.cells #[.int .i64 4, .string ⟨c.table.toArray⟩, .string ⟨c.other.toArray⟩, .string ⟨c.to.toArray⟩, .string ⟨c.also.toArray⟩, .string ⟨c.name.toArray⟩, .int .i64 c.type, .slice no c.names.length nc, .string ⟨c.col.name.toArray⟩, .int .i64 c.col.kind, .bool c.col.null, .int .i64 c.col.d.k, .int .i64 c.col.d.n, .int .u64 c.col.d.b, .string ⟨c.col.d.s.toArray⟩, .string ⟨c.df.name.toArray⟩, .int .i64 c.df.keys, .slice dO c.df.cs.length dc] 32)).below hb
  have q1 := (Blk.new (w.alloc (.cells #[.string ⟨tn.toArray⟩, .int .i64 (K : Int), .slice ao tc.length cap] 24)) #[.int .i64 4, .string ⟨c.table.toArray⟩, .string ⟨c.other.toArray⟩, .string ⟨c.to.toArray⟩, .string ⟨c.also.toArray⟩, .string ⟨c.name.toArray⟩, .int .i64 c.type, .slice no c.names.length nc, .string ⟨c.col.name.toArray⟩, .int .i64 c.col.kind, .bool c.col.null, .int .i64 c.col.d.k, .int .i64 c.col.d.n, .int .u64 c.col.d.b, .string ⟨c.col.d.s.toArray⟩, .string ⟨c.df.name.toArray⟩, .int .i64 c.df.keys, .slice dO c.df.cs.length dc] 32).below hb
  have hsz : (w.alloc (.cells #[.string ⟨tn.toArray⟩, .int .i64 (K : Int), .slice ao tc.length cap] 24)).heap.size = w.heap.size + 1 := by simp
  rw [hsz] at q1
  have K1 := Lib.hid (And.intro (step0 (below2s w _ _) hb) (And.intro q0 q1))
  clear hb q0 q1 hsz
  go_wp2_with fail
  refine wp_region_held_drew (S := fun v => Below w1.heap.size w1 v ∧ v.rangeAt (w.heap.size + 1) 0 [.int .i64 4, .string ⟨c.table.toArray⟩, .string ⟨c.other.toArray⟩, .string ⟨c.to.toArray⟩, .string ⟨c.also.toArray⟩, .string ⟨c.name.toArray⟩, .int .i64 c.type, .slice no c.names.length nc, .string ⟨c.col.name.toArray⟩, .int .i64 c.col.kind, .bool c.col.null, .int .i64 c.col.d.k, .int .i64 c.col.d.n, .int .u64 c.col.d.b, .string ⟨c.col.d.s.toArray⟩, .string ⟨c.df.name.toArray⟩, .int .i64 c.df.keys, .slice dO c.df.cs.length dc] ∧ v.cell? ⟨w.heap.size, 0, none⟩ = some (.string ⟨tn.toArray⟩)) (by kernel_rfl) ⟨(Below.refl _ _).drew, rng K1.out.2.2, K1.out.2.1.cell 0⟩ (fun hH0 => ?_)
  refine wpAnyH_take (i := 0) (oi := _) (v := .agg #[.int .i64 4, .string ⟨c.table.toArray⟩, .string ⟨c.other.toArray⟩, .string ⟨c.to.toArray⟩, .string ⟨c.also.toArray⟩, .string ⟨c.name.toArray⟩, .int .i64 c.type, .slice no c.names.length nc, .string ⟨c.col.name.toArray⟩, .int .i64 c.col.kind, .bool c.col.null, .int .i64 c.col.d.k, .int .i64 c.col.d.n, .int .u64 c.col.d.b, .string ⟨c.col.d.s.toArray⟩, .string ⟨c.df.name.toArray⟩, .int .i64 c.df.keys, .slice dO c.df.cs.length dc]) rfl (by kernel_rfl) (by kernel_rfl) (by kernel_rfl) (fun _ _ _ h => h) (yieldsIf_load_mid (by rfl) _ _ rfl (w.heap.size + 1) 0 rfl [.int .i64 4, .string ⟨c.table.toArray⟩, .string ⟨c.other.toArray⟩, .string ⟨c.to.toArray⟩, .string ⟨c.also.toArray⟩, .string ⟨c.name.toArray⟩, .int .i64 c.type, .slice no c.names.length nc, .string ⟨c.col.name.toArray⟩, .int .i64 c.col.kind, .bool c.col.null, .int .i64 c.col.d.k, .int .i64 c.col.d.n, .int .u64 c.col.d.b, .string ⟨c.col.d.s.toArray⟩, .string ⟨c.df.name.toArray⟩, .int .i64 c.df.keys, .slice dO c.df.cs.length dc] _ (fun v hv => hv.2.1) Tryz.underlying32 rfl infoCh) hH0 ?_
  try simp only [Act.put, List.getElem_toArray, List.getElem_cons_succ, List.getElem_cons_zero, List.setIfInBounds_toArray, List.set_cons_zero, List.set_cons_succ]
  refine wpAnyH_take (i := 2) (oi := _) (v := .pointer (some ⟨w.heap.size, 0, none⟩)) rfl (by kernel_rfl) (by kernel_rfl) (by kernel_rfl) (fun _ _ _ h => h) (Or.inl ⟨by rfl, by intro v hv; go_simp⟩) hH0 ?_
  try simp only [Act.put, List.getElem_toArray, List.getElem_cons_succ, List.getElem_cons_zero, List.setIfInBounds_toArray, List.set_cons_zero, List.set_cons_succ]
  refine wpAnyH_take (i := 3) (oi := _) (v := .string ⟨tn.toArray⟩) rfl (by kernel_rfl) (by kernel_rfl) (by kernel_rfl) (fun _ _ _ h => h) (Or.inl ⟨by rfl, by intro v hv; have hc := hv.2.2; clear hv; go_simp⟩) hH0 ?_
  try simp only [Act.put, List.getElem_toArray, List.getElem_cons_succ, List.getElem_cons_zero, List.setIfInBounds_toArray, List.set_cons_zero, List.set_cons_succ]
  refine wpAnyH_ready (rs := [1]) (by kernel_rfl) (by simp) ?_
  refine AllReadyH.cons (o := _) rfl (fun K' hK => ?_) AllReadyH.nil
  go_simp
  refine (rsources_is (⟨4, c.table, c.other, c.to, c.also, c.name, c.type, c.names, c.col, c.df⟩ : Ch) no nc dO dc _).mono ?_
  rintro e w5 ⟨so, sc, rfl, hSl, hb⟩
  have B5 := Lib.hid (And.intro (step0 (below_drew1 (Below.refl _ w1)) hb) hSl)
  clear hb hSl
  go_wp2_with fail
  refine hK.out _ _ ⟨B5.out.1, rng (K1.out.2.2.below B5.out.1), (K1.out.2.1.below B5.out.1).cell 0⟩ (fun hH1 => ?_)
  clear hK K' hH0
  try simp only [Act.put, List.getElem_toArray, List.getElem_cons_succ, List.getElem_cons_zero, List.setIfInBounds_toArray, List.set_cons_zero, List.set_cons_succ]
  refine wpAnyH_ready (rs := [4]) (by kernel_rfl) (by simp) ?_
  refine AllReadyH.cons (o := _) rfl (fun K' hK => ?_) AllReadyH.nil
  go_simp
  refine (rfind_is (⟨4, c.table, c.other, c.to, c.also, c.name, c.type, c.names, c.col, c.df⟩ : Ch).src tn _ F so sc _ rfl B5.out.2 (by have := rsrc_len (⟨4, c.table, c.other, c.to, c.also, c.name, c.type, c.names, c.col, c.df⟩ : Ch); omega) H.out.2.2.2.2.2.1).mono ?_
  rintro e w6 ⟨rfl, rfl⟩
  go_wp2_with fail
  refine hK.out _ _ hH1 (fun _ => ?_)
  clear hK K'
  try simp only [Act.put, List.getElem_toArray, List.getElem_cons_succ, List.getElem_cons_zero, List.setIfInBounds_toArray, List.set_cons_zero, List.set_cons_succ]
  refine wpAnyH_take (i := 5) (oi := _) (v := .bool false) rfl (by kernel_rfl) (by kernel_rfl) (by kernel_rfl) (fun _ _ _ h => h) (Or.inl ⟨by rfl, by intro v hv; go_simp⟩) hH1 ?_
  try simp only [Act.put, List.getElem_toArray, List.getElem_cons_succ, List.getElem_cons_zero, List.setIfInBounds_toArray, List.set_cons_zero, List.set_cons_succ]
  refine wpAnyH_done (by kernel_rfl) ?_ _
  clear hH1
  have T5 := Lib.hid (And.intro (K1.out.2.1.below B5.out.1) (K1.out.2.2.below B5.out.1))
  obtain ⟨t0, t1, t2⟩ := T5.out.1.t3
  obtain ⟨x0, x5, x6, x7, x11, x12, x13, x14⟩ := T5.out.2.c07
  go_wp2_with fail
  refine (rfind_t tn (K : Int) tc c.name ao cap _ (H.out.1.1.below (step0 K1.out.1 B5.out.1)) (by have := H.out.2.2.2.2.2.2.2.2.1; omega) _ H.out.2.2.2.2.2.2.1).mono ?_
  rintro e w7 ⟨rfl, hb⟩
  clear t0 t1 t2 x0 x5 x6 x7 x11 x12 x13 x14
  have T7 := Lib.hid (And.intro (T5.out.1.below hb) (And.intro (T5.out.2.below hb) (step0 (step0 K1.out.1 B5.out.1) hb)))
  clear hb
  obtain ⟨t0, t1, t2⟩ := T7.out.1.t3
  obtain ⟨x0, x5, x6, x7, x11, x12, x13, x14⟩ := T7.out.2.1.c07
  go_wp2
  go_loopw [10, 11, 12] (fun p q i wr => ∃ j : Nat, i = .int .i64 j ∧ j ≤ xs.length ∧ Below w7.heap.size w7 wr ∧ OwV wr w7.heap.size p ((xs.take j).set I y) ∧ OwV wr w7.heap.size q ([]) ∧ ∀ k, p.ownBlock = some k → q.ownBlock ≠ some k) (fun _ _ i _ => xs.length - (intOf i).toNat)
  case atStart => exact ⟨0, rfl, Nat.zero_le _, Below.refl _ _, owv_nil _ _, owv_nil _ _, fun k hk => by simp [Value.ownBlock] at hk⟩
  case round =>
    clear t0 t1 t2 x0 x5 x6 x7 x11 x12 x13 x14
    obtain ⟨j, rfl, hj, hb, r1, r2, hd⟩ := hrel
    have J := Lib.hid (And.intro hj (And.intro hb (And.intro r1 (And.intro r2 hd))))
    have qT := T7.out.1.below hb
    have qC := T7.out.2.1.below hb
    clear hb r1 r2 hd
    by_cases hlt : j < xs.length
    · have hlc : j < tc.length := by have := H.out.2.2.2.2.2.2.2.1; omega
      have hw : wrap64 ((j : Int) + 1) = (j : Int) + 1 := by have := H.out.2.2.1; exact wrap_in _ (by omega) (by omega)
      obtain ⟨a, rfl, y0, y1, y2, y3⟩ := (H.out.2.1.below (step0 T7.out.2.2 J.out.2.1)) j xs[j] (List.getElem?_eq_getElem hlt)
      obtain ⟨x, hxj⟩ : ∃ x, xs[j] = x := ⟨_, rfl⟩
      rw [hxj] at y0 y1 y2 y3
      obtain ⟨W1, hW1⟩ : ∃ W1, wr.alloc (.cells #[.int .i64 x.k, .int .i64 x.n, .int .u64 x.b, .string ⟨x.s.toArray⟩] 28) = W1 := ⟨_, rfl⟩
      have pT : Blk W1 w.heap.size #[.string ⟨tn.toArray⟩, .int .i64 (K : Int), .slice ao tc.length cap] 24 := hW1 ▸ qT.alloc _
      have pC : Blk W1 (w.heap.size + 1) #[.int .i64 4, .string ⟨c.table.toArray⟩, .string ⟨c.other.toArray⟩, .string ⟨c.to.toArray⟩, .string ⟨c.also.toArray⟩, .string ⟨c.name.toArray⟩, .int .i64 c.type, .slice no c.names.length nc, .string ⟨c.col.name.toArray⟩, .int .i64 c.col.kind, .bool c.col.null, .int .i64 c.col.d.k, .int .i64 c.col.d.n, .int .u64 c.col.d.b, .string ⟨c.col.d.s.toArray⟩, .string ⟨c.df.name.toArray⟩, .int .i64 c.df.keys, .slice dO c.df.cs.length dc] 32 := hW1 ▸ qC.alloc _
      have pV : Blk W1 wr.heap.size #[.int .i64 x.k, .int .i64 x.n, .int .u64 x.b, .string ⟨x.s.toArray⟩] 28 := hW1 ▸ Blk.new wr _ _
      have b1 : Below wr.heap.size wr W1 := hW1 ▸ below1 wr _
      obtain ⟨b, rfl, n0, _⟩ := (H.out.1.1.below (step0 (step0 T7.out.2.2 J.out.2.1) b1)) j tc[j] (List.getElem?_eq_getElem hlc)
      obtain ⟨nj, hnj⟩ : ∃ s, tc[j].name = s := ⟨_, rfl⟩
      rw [hnj] at n0
      have P1 := Lib.hid (And.intro pT (And.intro pC (And.intro pV (And.intro b1 (And.intro hxj hnj)))))
      clear qT qC b1
      obtain ⟨t0, t1, t2⟩ := pT.t3
      obtain ⟨x0, x5, x6, x7, x11, x12, x13, x14⟩ := pC.c07
      obtain ⟨v0, v1, v2, v3⟩ := pV.v4
      clear pT pC pV x11 x12 x13 x14 hxj hnj
      have g0 : (0 : Int) ≤ (j : Int) := by omega
      have g2 : (j : Int) < (tc.length : Int) := by omega
      have g3 : (j : Int) < (xs.length : Int) := by omega
      obtain ⟨G, hG⟩ : ∃ G, Nm.fi c.names nj = G := ⟨_, rfl⟩
      by_cases hjI : j = I
      · have e1 : ((j : Int) == (I : Int)) = true := beq_t (by omega)
        have e2 : (j == I) = true := by simp [hjI]
        have hx2 : x = x1 := by rw [← P1.out.2.2.2.2.1, ← H.out.2.2.2.2.2.2.2.2.2.2.2.2.1]; subst hjI; rfl
        subst hx2
        have HR := Lib.hid H.out.2.2.2.2.2.2.2.2.2.2.2.2.2.1
        have XA := Lib.hid (show (xs.take (j + 1)).set I y = (xs.take j).set I y ++ [y] by rw [← hjI]; exact se_at y hlt)
        clear hjI
        go_wp2_with fail
        refine (Km.rto_l x.k x.n x.b x.s c.type y.k y.n y.b 0 y.s _ (H.out.2.2.2.1 x (P1.out.2.2.2.2.1 ▸ List.getElem_mem hlt)).1 (H.out.2.2.2.1 x (P1.out.2.2.2.2.1 ▸ List.getElem_mem hlt)).2 HR.out).mono ?_
        rintro e w8 ⟨rfl, hb8⟩
        have q0 := (P1.out.1.below hb8).alloc (.cells #[.int .i64 y.k, .int .i64 y.n, .int .u64 y.b, .string ⟨y.s.toArray⟩] 28)
        have q1 := (P1.out.2.1.below hb8).alloc (.cells #[.int .i64 y.k, .int .i64 y.n, .int .u64 y.b, .string ⟨y.s.toArray⟩] 28)
        have q2 := (P1.out.2.2.1.below hb8).alloc (.cells #[.int .i64 y.k, .int .i64 y.n, .int .u64 y.b, .string ⟨y.s.toArray⟩] 28)
        have f0 := q2.frozen 0
        have f1 := q2.frozen 1
        have f2 := q2.frozen 2
        have f3 := q2.frozen 3
        obtain ⟨d0, d1, d2, d3⟩ := q2.v4
        have ne0 : w.heap.size ≠ wr.heap.size := by have := T7.out.1.lt; have := J.out.2.1.size; omega
        have ne1 : w.heap.size + 1 ≠ wr.heap.size := by have := T7.out.2.1.lt; have := J.out.2.1.size; omega
        have r0 := (((q0.otherAt ne0 0 (.int .i64 y.k)).otherAt ne0 1 (.int .i64 y.n)).otherAt ne0 2 (.int .u64 y.b)).otherAt ne0 3 (.string ⟨y.s.toArray⟩)
        have r1 := (((q1.otherAt ne1 0 (.int .i64 y.k)).otherAt ne1 1 (.int .i64 y.n)).otherAt ne1 2 (.int .u64 y.b)).otherAt ne1 3 (.string ⟨y.s.toArray⟩)
        have r2 := (((q2.setAt 0 (.int .i64 y.k)).setAt 1 (.int .i64 y.n)).setAt 2 (.int .u64 y.b)).setAt 3 (.string ⟨y.s.toArray⟩)
        have hbw := (step0 P1.out.2.2.2.1 hb8).alloc (step0 P1.out.2.2.2.1 hb8).size (.cells #[.int .i64 y.k, .int .i64 y.n, .int .u64 y.b, .string ⟨y.s.toArray⟩] 28)
        have r3 := Km.put4 hbw (Nat.le_refl _) (.int .i64 y.k) (.int .i64 y.n) (.int .u64 y.b) (.string ⟨y.s.toArray⟩)
        obtain ⟨W3, hW3⟩ : ∃ W3, ((((w8.alloc (.cells #[.int .i64 y.k, .int .i64 y.n, .int .u64 y.b, .string ⟨y.s.toArray⟩] 28)).setCell ⟨wr.heap.size, 0, none⟩ (.int .i64 y.k)).setCell ⟨wr.heap.size, 1, none⟩ (.int .i64 y.n)).setCell ⟨wr.heap.size, 2, none⟩ (.int .u64 y.b)).setCell ⟨wr.heap.size, 3, none⟩ (.string ⟨y.s.toArray⟩) = W3 := ⟨_, rfl⟩
        rw [hW3] at r0 r1 r2 r3
        have r2' : Blk W3 wr.heap.size #[.int .i64 y.k, .int .i64 y.n, .int .u64 y.b, .string ⟨y.s.toArray⟩] 28 := r2
        have n1 := ((H.out.1.1.below (step0 (step0 T7.out.2.2 J.out.2.1) r3)) j tc[j] (List.getElem?_eq_getElem hlc))
        obtain ⟨b', hb', n2, _⟩ := n1
        cases hb'
        have P0 := P1
        clear P1
        have P1 := Lib.hid (And.intro r0 (And.intro r1 (And.intro r2' (And.intro r3 (And.intro P0.out.2.2.2.2.1 P0.out.2.2.2.2.2)))))
        rw [P1.out.2.2.2.2.2] at n2
        clear t0 t1 t2 x0 x5 x6 x7 v0 v1 v2 v3 n0 y0 y1 y2 y3
        have n0 := n2
        obtain ⟨t0, t1, t2⟩ := P1.out.1.t3
        obtain ⟨x0, x5, x6, x7, _, _, _, _⟩ := P1.out.2.1.c07
        obtain ⟨v0, v1, v2, v3⟩ := P1.out.2.2.1.v4
        have y0 := v0
        have y1 := v1
        have y2 := v2
        have y3 := v3
        clear q0 q1 q2 r0 r1 r2 r2' r3 hbw hb8 n2 ne0 ne1
        by_cases hz : (0 : Int) ≤ G
        · have dG : decide ((0 : Int) ≤ G) = true := by rw [decide_eq_true_iff]; exact hz
          have HG := Lib.hid hG
          clear hG hz
          go_wp2_with fail
          go_region_held3 (fun v => Below W3.heap.size W3 v ∧ v.cell? ⟨w.heap.size + 1, 7, none⟩ = some (.slice no c.names.length nc) ∧ v.cell? ⟨w.heap.size, 2, none⟩ = some (.slice (some b) tc.length cap) ∧ v.cell? (b.add (j * 7)) = some (.string ⟨nj.toArray⟩))
            (first | exact ⟨(Below.refl _ _).drew, x7, t2, n0⟩ | assumption)
            (first | (go_at_call 32; refine (rfind_is c.names nj _ G no nc _ rfl (H.out.2.2.2.2.2.2.2.2.2.1.below (step0 (step0 (step0 T7.out.2.2 J.out.2.1) P1.out.2.2.2.1) ‹Below W3.heap.size W3 _ ∧ _›.1)) (by have := H.out.2.2.2.2.2.2.2.2.2.2.1; omega) HG.out).mono ?_; rintro e w8 ⟨rfl, rfl⟩))
          obtain ⟨W2, hW2⟩ : ∃ W2, W3.drew = W2 := ⟨_, rfl⟩
          have P2 := Lib.hid (And.intro (Blk.drw P1.out.1 hW2) (And.intro (Blk.drw P1.out.2.1 hW2) (And.intro (Blk.drw P1.out.2.2.1 hW2) (below_drw P1.out.2.2.2.1 hW2))))
          clear t0 t1 t2 x0 x5 x6 x7 v0 v1 v2 v3 n0 y0 y1 y2 y3
          obtain ⟨t0, t1, t2⟩ := P2.out.1.t3
          obtain ⟨x0, x5, x6, x7, _, _, _, _⟩ := P2.out.2.1.c07
          obtain ⟨v0, v1, v2, v3⟩ := P2.out.2.2.1.v4
          have LA10 := Lib.hid (show ((xs.take j).set I y).length ≤ 1000000000 by have := H.out.2.2.1; simp; omega)
          go_wp2_with (at_builtin; refine appVg rfl _ _ rfl w7.heap.size u10 ((xs.take j).set I y) y W2 rfl (J.out.2.2.1.keep P2.out.2.2.2) W2.heap.size rfl rfl LA10.out (Nat.le_trans J.out.2.1.size P2.out.2.2.2.size) ?_; intro v' w9 hown' hgr hbk hb'; have Z := Lib.hid (And.intro hown' (And.intro ((J.out.2.1.trans (P2.out.2.2.2.mono J.out.2.1.size)).trans hb') (And.intro ((J.out.2.2.2.1.keep P2.out.2.2.2).apart hgr (fun k hk e => J.out.2.2.2.2 k e hk)) (And.intro hbk hgr)))); clear hown' hb' hgr hbk; go_frame)
          go_roundw
          case rel =>
            refine ⟨j + 1, by go_num, hlt, Z.out.2.1, ?_, ?_, ?_⟩
            · rw [XA.out]; exact Z.out.1
            · exact Z.out.2.2.1
            · intro k hk hq
              rcases Z.out.2.2.2.1 with e | ⟨k', e, hk'⟩
              · exact J.out.2.2.2.2 k (e ▸ hk) hq
              · rw [e] at hk
                obtain rfl := Option.some.inj hk
                have := vap J.out.2.2.2.1 k' hq
                have := P2.out.2.2.2.size
                omega
          case measure => rw [hw]; simp [intOf]; omega
        · have dG : decide ((0 : Int) ≤ G) = false := by rw [decide_eq_false_iff_not]; exact hz
          have HG := Lib.hid hG
          clear hG hz
          go_wp2_with fail
          go_region_held3 (fun v => Below W3.heap.size W3 v ∧ v.cell? ⟨w.heap.size + 1, 7, none⟩ = some (.slice no c.names.length nc) ∧ v.cell? ⟨w.heap.size, 2, none⟩ = some (.slice (some b) tc.length cap) ∧ v.cell? (b.add (j * 7)) = some (.string ⟨nj.toArray⟩))
            (first | exact ⟨(Below.refl _ _).drew, x7, t2, n0⟩ | assumption)
            (first | (go_at_call 32; refine (rfind_is c.names nj _ G no nc _ rfl (H.out.2.2.2.2.2.2.2.2.2.1.below (step0 (step0 (step0 T7.out.2.2 J.out.2.1) P1.out.2.2.2.1) ‹Below W3.heap.size W3 _ ∧ _›.1)) (by have := H.out.2.2.2.2.2.2.2.2.2.2.1; omega) HG.out).mono ?_; rintro e w8 ⟨rfl, rfl⟩))
          obtain ⟨W2, hW2⟩ : ∃ W2, W3.drew = W2 := ⟨_, rfl⟩
          have P2 := Lib.hid (And.intro (Blk.drw P1.out.1 hW2) (And.intro (Blk.drw P1.out.2.1 hW2) (And.intro (Blk.drw P1.out.2.2.1 hW2) (below_drw P1.out.2.2.2.1 hW2))))
          clear t0 t1 t2 x0 x5 x6 x7 v0 v1 v2 v3 n0 y0 y1 y2 y3
          obtain ⟨t0, t1, t2⟩ := P2.out.1.t3
          obtain ⟨x0, x5, x6, x7, _, _, _, _⟩ := P2.out.2.1.c07
          obtain ⟨v0, v1, v2, v3⟩ := P2.out.2.2.1.v4
          have LA10 := Lib.hid (show ((xs.take j).set I y).length ≤ 1000000000 by have := H.out.2.2.1; simp; omega)
          go_wp2_with (at_builtin; refine appVg rfl _ _ rfl w7.heap.size u10 ((xs.take j).set I y) y W2 rfl (J.out.2.2.1.keep P2.out.2.2.2) W2.heap.size rfl rfl LA10.out (Nat.le_trans J.out.2.1.size P2.out.2.2.2.size) ?_; intro v' w9 hown' hgr hbk hb'; have Z := Lib.hid (And.intro hown' (And.intro ((J.out.2.1.trans (P2.out.2.2.2.mono J.out.2.1.size)).trans hb') (And.intro ((J.out.2.2.2.1.keep P2.out.2.2.2).apart hgr (fun k hk e => J.out.2.2.2.2 k e hk)) (And.intro hbk hgr)))); clear hown' hb' hgr hbk; go_frame)
          go_roundw
          case rel =>
            refine ⟨j + 1, by go_num, hlt, Z.out.2.1, ?_, ?_, ?_⟩
            · rw [XA.out]; exact Z.out.1
            · exact Z.out.2.2.1
            · intro k hk hq
              rcases Z.out.2.2.2.1 with e | ⟨k', e, hk'⟩
              · exact J.out.2.2.2.2 k (e ▸ hk) hq
              · rw [e] at hk
                obtain rfl := Option.some.inj hk
                have := vap J.out.2.2.2.1 k' hq
                have := P2.out.2.2.2.size
                omega
          case measure => rw [hw]; simp [intOf]; omega
      · have e1 : ((j : Int) == (I : Int)) = false := beq_f (by omega)
        have e2 : (j == I) = false := by simp [hjI]
        have XA := Lib.hid (show (xs.take (j + 1)).set I y = (xs.take j).set I y ++ [x] by rw [se_ne y hlt hjI, P1.out.2.2.2.2.1])
        clear hjI
        by_cases hz : (0 : Int) ≤ G
        · have dG : decide ((0 : Int) ≤ G) = true := by rw [decide_eq_true_iff]; exact hz
          have HG := Lib.hid hG
          clear hG hz
          go_wp2_with fail
          go_region_held3 (fun v => Below W1.heap.size W1 v ∧ v.cell? ⟨w.heap.size + 1, 7, none⟩ = some (.slice no c.names.length nc) ∧ v.cell? ⟨w.heap.size, 2, none⟩ = some (.slice (some b) tc.length cap) ∧ v.cell? (b.add (j * 7)) = some (.string ⟨nj.toArray⟩))
            (first | exact ⟨(Below.refl _ _).drew, x7, t2, n0⟩ | assumption)
            (first | (go_at_call 32; refine (rfind_is c.names nj _ G no nc _ rfl (H.out.2.2.2.2.2.2.2.2.2.1.below (step0 (step0 (step0 T7.out.2.2 J.out.2.1) P1.out.2.2.2.1) ‹Below W1.heap.size W1 _ ∧ _›.1)) (by have := H.out.2.2.2.2.2.2.2.2.2.2.1; omega) HG.out).mono ?_; rintro e w8 ⟨rfl, rfl⟩))
          obtain ⟨W2, hW2⟩ : ∃ W2, W1.drew = W2 := ⟨_, rfl⟩
          have P2 := Lib.hid (And.intro (Blk.drw P1.out.1 hW2) (And.intro (Blk.drw P1.out.2.1 hW2) (And.intro (Blk.drw P1.out.2.2.1 hW2) (below_drw P1.out.2.2.2.1 hW2))))
          clear t0 t1 t2 x0 x5 x6 x7 v0 v1 v2 v3 n0 y0 y1 y2 y3
          obtain ⟨t0, t1, t2⟩ := P2.out.1.t3
          obtain ⟨x0, x5, x6, x7, _, _, _, _⟩ := P2.out.2.1.c07
          obtain ⟨v0, v1, v2, v3⟩ := P2.out.2.2.1.v4
          have LA10 := Lib.hid (show ((xs.take j).set I y).length ≤ 1000000000 by have := H.out.2.2.1; simp; omega)
          go_wp2_with (at_builtin; refine appVg rfl _ _ rfl w7.heap.size u10 ((xs.take j).set I y) x W2 rfl (J.out.2.2.1.keep P2.out.2.2.2) W2.heap.size rfl rfl LA10.out (Nat.le_trans J.out.2.1.size P2.out.2.2.2.size) ?_; intro v' w9 hown' hgr hbk hb'; have Z := Lib.hid (And.intro hown' (And.intro ((J.out.2.1.trans (P2.out.2.2.2.mono J.out.2.1.size)).trans hb') (And.intro ((J.out.2.2.2.1.keep P2.out.2.2.2).apart hgr (fun k hk e => J.out.2.2.2.2 k e hk)) (And.intro hbk hgr)))); clear hown' hb' hgr hbk; go_frame)
          go_roundw
          case rel =>
            refine ⟨j + 1, by go_num, hlt, Z.out.2.1, ?_, ?_, ?_⟩
            · rw [XA.out]; exact Z.out.1
            · exact Z.out.2.2.1
            · intro k hk hq
              rcases Z.out.2.2.2.1 with e | ⟨k', e, hk'⟩
              · exact J.out.2.2.2.2 k (e ▸ hk) hq
              · rw [e] at hk
                obtain rfl := Option.some.inj hk
                have := vap J.out.2.2.2.1 k' hq
                have := P2.out.2.2.2.size
                omega
          case measure => rw [hw]; simp [intOf]; omega
        · have dG : decide ((0 : Int) ≤ G) = false := by rw [decide_eq_false_iff_not]; exact hz
          have HG := Lib.hid hG
          clear hG hz
          go_wp2_with fail
          go_region_held3 (fun v => Below W1.heap.size W1 v ∧ v.cell? ⟨w.heap.size + 1, 7, none⟩ = some (.slice no c.names.length nc) ∧ v.cell? ⟨w.heap.size, 2, none⟩ = some (.slice (some b) tc.length cap) ∧ v.cell? (b.add (j * 7)) = some (.string ⟨nj.toArray⟩))
            (first | exact ⟨(Below.refl _ _).drew, x7, t2, n0⟩ | assumption)
            (first | (go_at_call 32; refine (rfind_is c.names nj _ G no nc _ rfl (H.out.2.2.2.2.2.2.2.2.2.1.below (step0 (step0 (step0 T7.out.2.2 J.out.2.1) P1.out.2.2.2.1) ‹Below W1.heap.size W1 _ ∧ _›.1)) (by have := H.out.2.2.2.2.2.2.2.2.2.2.1; omega) HG.out).mono ?_; rintro e w8 ⟨rfl, rfl⟩))
          obtain ⟨W2, hW2⟩ : ∃ W2, W1.drew = W2 := ⟨_, rfl⟩
          have P2 := Lib.hid (And.intro (Blk.drw P1.out.1 hW2) (And.intro (Blk.drw P1.out.2.1 hW2) (And.intro (Blk.drw P1.out.2.2.1 hW2) (below_drw P1.out.2.2.2.1 hW2))))
          clear t0 t1 t2 x0 x5 x6 x7 v0 v1 v2 v3 n0 y0 y1 y2 y3
          obtain ⟨t0, t1, t2⟩ := P2.out.1.t3
          obtain ⟨x0, x5, x6, x7, _, _, _, _⟩ := P2.out.2.1.c07
          obtain ⟨v0, v1, v2, v3⟩ := P2.out.2.2.1.v4
          have LA10 := Lib.hid (show ((xs.take j).set I y).length ≤ 1000000000 by have := H.out.2.2.1; simp; omega)
          go_wp2_with (at_builtin; refine appVg rfl _ _ rfl w7.heap.size u10 ((xs.take j).set I y) x W2 rfl (J.out.2.2.1.keep P2.out.2.2.2) W2.heap.size rfl rfl LA10.out (Nat.le_trans J.out.2.1.size P2.out.2.2.2.size) ?_; intro v' w9 hown' hgr hbk hb'; have Z := Lib.hid (And.intro hown' (And.intro ((J.out.2.1.trans (P2.out.2.2.2.mono J.out.2.1.size)).trans hb') (And.intro ((J.out.2.2.2.1.keep P2.out.2.2.2).apart hgr (fun k hk e => J.out.2.2.2.2 k e hk)) (And.intro hbk hgr)))); clear hown' hb' hgr hbk; go_frame)
          go_roundw
          case rel =>
            refine ⟨j + 1, by go_num, hlt, Z.out.2.1, ?_, ?_, ?_⟩
            · rw [XA.out]; exact Z.out.1
            · exact Z.out.2.2.1
            · intro k hk hq
              rcases Z.out.2.2.2.1 with e | ⟨k', e, hk'⟩
              · exact J.out.2.2.2.2 k (e ▸ hk) hq
              · rw [e] at hk
                obtain rfl := Option.some.inj hk
                have := vap J.out.2.2.2.1 k' hq
                have := P2.out.2.2.2.size
                omega
          case measure => rw [hw]; simp [intOf]; omega
    · obtain rfl : j = xs.length := by omega
      have q1 := J.out.2.2.1
      rw [List.take_length] at q1
      obtain ⟨Y, hY⟩ : ∃ Y, xs.set I y = Y := ⟨_, rfl⟩
      rw [hY] at q1
      obtain ⟨o1, c1, rfl, _, _⟩ := q1.sl
      obtain ⟨x0, x5, x6, x7, x11, x12, x13, x14⟩ := qC.c07
      have ST := Lib.hid (And.intro q1 (And.intro (step0 T7.out.2.2 J.out.2.1) hY))
      clear q1 qT qC hY
      go_wp2
      go_ret2
      refine ⟨⟨_, _, [⟨Y, o1, c1⟩], rfl, (show [Y] = [xs.set I y] by rw [ST.out.2.2]), slr_one wr ⟨Y, o1, c1⟩, FitR.one ?_, at_new ST.out.2.1.size⟩, ST.out.2.1.alloc ST.out.2.1.size _⟩
      exact (ST.out.1.base T7.out.2.2.size).keep (below1 _ _)

end Go.Proofs.YtdonmbmahcjfbaaGreatDoor
