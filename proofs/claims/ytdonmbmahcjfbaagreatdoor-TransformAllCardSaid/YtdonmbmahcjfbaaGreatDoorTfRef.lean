/-
  The document's Sources and Row, kind by kind. Conditions: a table and a row of at most 30 values in memory that keep a value's bounds.
-/
import Derived.Test.YtdonmbmahcjfbaaGreatDoorTfRet
import Derived.Test.YtdonmbmahcjfbaaGreatDoorChSrcs
import Derived.Test.YtdonmbmahcjfbaaGreatDoorCvRefTo
import Derived.Deep.MidRow
import Derived.Deep.RegionHeld3
namespace Go.Proofs.YtdonmbmahcjfbaaGreatDoor
open Go.RowKit
set_option linter.unusedVariables false
set_option linter.unusedSimpArgs false

theorem rsrc_len (c : Ch) : c.src.length ≤ 2 := by
  unfold Ch.src
  split
  · simp
  · split <;> simp
theorem sls_one (w : World) (s : Nm.S) : SlS (w.alloc (.cells #[.string ⟨s.toArray⟩] 9)) (some ⟨w.heap.size, 0, none⟩) [s] := by
  intro i x hi
  have : i = 0 := by
    have := (List.getElem?_eq_some_iff.1 hi).1
    simp at this; omega
  subst this
  obtain rfl : s = x := by simpa using hi
  exact ⟨_, rfl, by simp [Addr.add]⟩
theorem sls_two (w : World) (s u : Nm.S) : SlS (w.alloc (.cells #[.string ⟨s.toArray⟩, .string ⟨u.toArray⟩] 9)) (some ⟨w.heap.size, 0, none⟩) [s, u] := by
  intro i x hi
  have : i = 0 ∨ i = 1 := by
    have := (List.getElem?_eq_some_iff.1 hi).1
    simp at this; omega
  rcases this with rfl | rfl
  · obtain rfl : s = x := by simpa using hi
    exact ⟨_, rfl, by simp [Addr.add]⟩
  · obtain rfl : u = x := by simpa using hi
    exact ⟨_, rfl, by simp [Addr.add]⟩
theorem sls_one' (w : World) (B : Nat) (hB : w.heap.size = B) (s : Nm.S) : SlS (w.alloc (.cells #[.string ⟨s.toArray⟩] 9)) (some ⟨B, 0, none⟩) [s] := hB ▸ sls_one w s
theorem sls_two' (w : World) (B : Nat) (hB : w.heap.size = B) (s u : Nm.S) : SlS (w.alloc (.cells #[.string ⟨s.toArray⟩, .string ⟨u.toArray⟩] 9)) (some ⟨B, 0, none⟩) [s, u] := hB ▸ sls_two w s u
theorem vsm_lo (cs : List C) (row : List V) (ns : List Nm.S) (K j : Nat) (hj : j ≤ K) : vsm (cs.take j) ns K (row.take j) = row.take j ∧ vrs (cs.take j) ns K (row.take j) = row.take j := by
  have e : ((cs.take j).zip (row.take j)).drop K = [] := List.drop_eq_nil_of_le (by simp; omega)
  unfold vsm vrs
  rw [e, List.take_take, Nat.min_eq_right hj]
  simp
theorem Blk.drw {W W2 : World} {B : Nat} {cs : Array Value} {t : TypeId} (h : Blk W B cs t) (e : W.drew = W2) : Blk W2 B cs t := e ▸ h
theorem Blk.v4 {W : World} {B : Nat} {u0 u1 u2 u3 : Value} {t : TypeId} (h : Blk W B #[u0, u1, u2, u3] t) : W.cell? ⟨B, 0, none⟩ = some u0 ∧ W.cell? ⟨B, 1, none⟩ = some u1 ∧ W.cell? ⟨B, 2, none⟩ = some u2 ∧ W.cell? ⟨B, 3, none⟩ = some u3 := ⟨h.cell 0, h.cell 1, h.cell 2, h.cell 3⟩
theorem Blk.c07 {W : World} {B : Nat} {u0 u1 u2 u3 u4 u5 u6 u7 u8 u9 u10 u11 u12 u13 u14 u15 u16 u17 : Value} {t : TypeId} (h : Blk W B #[u0, u1, u2, u3, u4, u5, u6, u7, u8, u9, u10, u11, u12, u13, u14, u15, u16, u17] t) : W.cell? ⟨B, 0, none⟩ = some u0 ∧ W.cell? ⟨B, 5, none⟩ = some u5 ∧ W.cell? ⟨B, 6, none⟩ = some u6 ∧ W.cell? ⟨B, 7, none⟩ = some u7 ∧ W.cell? ⟨B, 11, none⟩ = some u11 ∧ W.cell? ⟨B, 12, none⟩ = some u12 ∧ W.cell? ⟨B, 13, none⟩ = some u13 ∧ W.cell? ⟨B, 14, none⟩ = some u14 := ⟨h.cell 0, h.cell 5, h.cell 6, h.cell 7, h.cell 11, h.cell 12, h.cell 13, h.cell 14⟩
theorem below_drw {b : Nat} {w W W2 : World} (h : Below b w W) (e : W.drew = W2) : Below b w W2 := e ▸ below_drew1 h

set_option maxHeartbeats 1000000 in
theorem rsources_0 (c : Ch) (K : Int) (no : Option Addr) (nc : Nat) (dO : Option Addr) (dc : Nat) (w : World) (h2 : (K == 2) = false) (h3 : (K == 3) = false) (h4 : (K == 4) = false) (h5 : (K == 5) = false) (h6 : (K == 6) = false) :
    Calls Tryz.prog 33 #[.agg #[.int .i64 K, .string ⟨c.table.toArray⟩, .string ⟨c.other.toArray⟩, .string ⟨c.to.toArray⟩, .string ⟨c.also.toArray⟩, .string ⟨c.name.toArray⟩, .int .i64 c.type, .slice no c.names.length nc, .string ⟨c.col.name.toArray⟩, .int .i64 c.col.kind, .bool c.col.null, .int .i64 c.col.d.k, .int .i64 c.col.d.n, .int .u64 c.col.d.b, .string ⟨c.col.d.s.toArray⟩, .string ⟨c.df.name.toArray⟩, .int .i64 c.df.keys, .slice dO c.df.cs.length dc]] w fun e w' => ∃ so sc, e = .returned (.slice so 0 sc) ∧ SlS w' so [] ∧ Below w.heap.size w w' := by
  go_enter Tryz.func33, Tryz.ntmps33
  go_wp2
  go_ret
  exact ⟨none, 0, rfl, SlS.nil _ _, below1 _ _⟩

set_option maxHeartbeats 1000000 in
theorem rsources_2 (c : Ch) (no : Option Addr) (nc : Nat) (dO : Option Addr) (dc : Nat) (w : World) :
    Calls Tryz.prog 33 #[.agg #[.int .i64 2, .string ⟨c.table.toArray⟩, .string ⟨c.other.toArray⟩, .string ⟨c.to.toArray⟩, .string ⟨c.also.toArray⟩, .string ⟨c.name.toArray⟩, .int .i64 c.type, .slice no c.names.length nc, .string ⟨c.col.name.toArray⟩, .int .i64 c.col.kind, .bool c.col.null, .int .i64 c.col.d.k, .int .i64 c.col.d.n, .int .u64 c.col.d.b, .string ⟨c.col.d.s.toArray⟩, .string ⟨c.df.name.toArray⟩, .int .i64 c.df.keys, .slice dO c.df.cs.length dc]] w fun e w' => ∃ so sc, e = .returned (.slice so 1 sc) ∧ SlS w' so [c.table] ∧ Below w.heap.size w w' := by
  go_enter Tryz.func33, Tryz.ntmps33
  go_wp2
  go_ret
  exact ⟨_, _, rfl, sls_one' _ _ (by simp) _, below2s _ _ _⟩

set_option maxHeartbeats 1000000 in
theorem rsources_3 (c : Ch) (no : Option Addr) (nc : Nat) (dO : Option Addr) (dc : Nat) (w : World) :
    Calls Tryz.prog 33 #[.agg #[.int .i64 3, .string ⟨c.table.toArray⟩, .string ⟨c.other.toArray⟩, .string ⟨c.to.toArray⟩, .string ⟨c.also.toArray⟩, .string ⟨c.name.toArray⟩, .int .i64 c.type, .slice no c.names.length nc, .string ⟨c.col.name.toArray⟩, .int .i64 c.col.kind, .bool c.col.null, .int .i64 c.col.d.k, .int .i64 c.col.d.n, .int .u64 c.col.d.b, .string ⟨c.col.d.s.toArray⟩, .string ⟨c.df.name.toArray⟩, .int .i64 c.df.keys, .slice dO c.df.cs.length dc]] w fun e w' => ∃ so sc, e = .returned (.slice so 1 sc) ∧ SlS w' so [c.table] ∧ Below w.heap.size w w' := by
  go_enter Tryz.func33, Tryz.ntmps33
  go_wp2
  go_ret
  exact ⟨_, _, rfl, sls_one' _ _ (by simp) _, below2s _ _ _⟩

set_option maxHeartbeats 1000000 in
theorem rsources_4 (c : Ch) (no : Option Addr) (nc : Nat) (dO : Option Addr) (dc : Nat) (w : World) :
    Calls Tryz.prog 33 #[.agg #[.int .i64 4, .string ⟨c.table.toArray⟩, .string ⟨c.other.toArray⟩, .string ⟨c.to.toArray⟩, .string ⟨c.also.toArray⟩, .string ⟨c.name.toArray⟩, .int .i64 c.type, .slice no c.names.length nc, .string ⟨c.col.name.toArray⟩, .int .i64 c.col.kind, .bool c.col.null, .int .i64 c.col.d.k, .int .i64 c.col.d.n, .int .u64 c.col.d.b, .string ⟨c.col.d.s.toArray⟩, .string ⟨c.df.name.toArray⟩, .int .i64 c.df.keys, .slice dO c.df.cs.length dc]] w fun e w' => ∃ so sc, e = .returned (.slice so 1 sc) ∧ SlS w' so [c.table] ∧ Below w.heap.size w w' := by
  go_enter Tryz.func33, Tryz.ntmps33
  go_wp2
  go_ret
  exact ⟨_, _, rfl, sls_one' _ _ (by simp) _, below2s _ _ _⟩

set_option maxHeartbeats 1000000 in
theorem rsources_5 (c : Ch) (no : Option Addr) (nc : Nat) (dO : Option Addr) (dc : Nat) (w : World) :
    Calls Tryz.prog 33 #[.agg #[.int .i64 5, .string ⟨c.table.toArray⟩, .string ⟨c.other.toArray⟩, .string ⟨c.to.toArray⟩, .string ⟨c.also.toArray⟩, .string ⟨c.name.toArray⟩, .int .i64 c.type, .slice no c.names.length nc, .string ⟨c.col.name.toArray⟩, .int .i64 c.col.kind, .bool c.col.null, .int .i64 c.col.d.k, .int .i64 c.col.d.n, .int .u64 c.col.d.b, .string ⟨c.col.d.s.toArray⟩, .string ⟨c.df.name.toArray⟩, .int .i64 c.df.keys, .slice dO c.df.cs.length dc]] w fun e w' => ∃ so sc, e = .returned (.slice so 1 sc) ∧ SlS w' so [c.table] ∧ Below w.heap.size w w' := by
  go_enter Tryz.func33, Tryz.ntmps33
  go_wp2
  go_ret
  exact ⟨_, _, rfl, sls_one' _ _ (by simp) _, below2s _ _ _⟩

set_option maxHeartbeats 1000000 in
theorem rsources_6 (c : Ch) (no : Option Addr) (nc : Nat) (dO : Option Addr) (dc : Nat) (w : World) :
    Calls Tryz.prog 33 #[.agg #[.int .i64 6, .string ⟨c.table.toArray⟩, .string ⟨c.other.toArray⟩, .string ⟨c.to.toArray⟩, .string ⟨c.also.toArray⟩, .string ⟨c.name.toArray⟩, .int .i64 c.type, .slice no c.names.length nc, .string ⟨c.col.name.toArray⟩, .int .i64 c.col.kind, .bool c.col.null, .int .i64 c.col.d.k, .int .i64 c.col.d.n, .int .u64 c.col.d.b, .string ⟨c.col.d.s.toArray⟩, .string ⟨c.df.name.toArray⟩, .int .i64 c.df.keys, .slice dO c.df.cs.length dc]] w fun e w' => ∃ so sc, e = .returned (.slice so 2 sc) ∧ SlS w' so [c.table, c.other] ∧ Below w.heap.size w w' := by
  go_enter Tryz.func33, Tryz.ntmps33
  go_wp2
  go_ret
  exact ⟨_, _, rfl, sls_two' _ _ (by simp) _ _, below2s _ _ _⟩

theorem rsources_is (c : Ch) (no : Option Addr) (nc : Nat) (dO : Option Addr) (dc : Nat) (w : World) :
    Calls Tryz.prog 33 #[.agg #[.int .i64 c.kind, .string ⟨c.table.toArray⟩, .string ⟨c.other.toArray⟩, .string ⟨c.to.toArray⟩, .string ⟨c.also.toArray⟩, .string ⟨c.name.toArray⟩, .int .i64 c.type, .slice no c.names.length nc, .string ⟨c.col.name.toArray⟩, .int .i64 c.col.kind, .bool c.col.null, .int .i64 c.col.d.k, .int .i64 c.col.d.n, .int .u64 c.col.d.b, .string ⟨c.col.d.s.toArray⟩, .string ⟨c.df.name.toArray⟩, .int .i64 c.df.keys, .slice dO c.df.cs.length dc]] w fun e w' => ∃ so sc, e = .returned (.slice so c.src.length sc) ∧ SlS w' so c.src ∧ Below w.heap.size w w' := by
  obtain ⟨K, tb, ot, to, al, nm, ty, ns, col, df⟩ := c
  have s0 := rsources_0 ⟨K, tb, ot, to, al, nm, ty, ns, col, df⟩ K no nc dO dc w
  by_cases h2 : K = 2
  · subst h2; exact rsources_2 ⟨2, tb, ot, to, al, nm, ty, ns, col, df⟩ no nc dO dc w
  by_cases h3 : K = 3
  · subst h3; exact rsources_3 ⟨3, tb, ot, to, al, nm, ty, ns, col, df⟩ no nc dO dc w
  by_cases h4 : K = 4
  · subst h4; exact rsources_4 ⟨4, tb, ot, to, al, nm, ty, ns, col, df⟩ no nc dO dc w
  by_cases h5 : K = 5
  · subst h5; exact rsources_5 ⟨5, tb, ot, to, al, nm, ty, ns, col, df⟩ no nc dO dc w
  by_cases h6 : K = 6
  · subst h6; exact rsources_6 ⟨6, tb, ot, to, al, nm, ty, ns, col, df⟩ no nc dO dc w
  have e : (⟨K, tb, ot, to, al, nm, ty, ns, col, df⟩ : Ch).src = [] := by
    unfold Ch.src
    rw [if_neg (show ¬ K = 6 from h6), if_neg (show ¬ (2 ≤ K ∧ K ≤ 5) by omega)]
  rw [e]
  exact s0 (beq_f h2) (beq_f h3) (beq_f h4) (beq_f h5) (beq_f h6)

set_option maxHeartbeats 4000000 in
set_option maxRecDepth 100000 in
theorem rrow_n2 (c : Ch) (no : Option Addr) (nc : Nat) (dO : Option Addr) (dc : Nat) (tn : Nm.S) (K : Nat) (tc : List C) (ao : Option Addr) (cap : Nat) (xs : List V) (n : Nat) (hn : xs.length = n) (bo : Option Addr) (bc : Nat) (w : World) (hT : At3 w (⟨tn, (K : Int), tc⟩ : T) ao cap) (hx : Sl w bo xs) (hm : xs.length ≤ 30) (ho : ∀ x ∈ xs, x.ok) (hE : (⟨tn, (K : Int), tc⟩ : T).fit xs = 0) (hs : tn ∉ c.src) :
    Calls Tryz.prog 11 #[.agg #[.string ⟨tn.toArray⟩, .int .i64 (K : Int), .slice ao tc.length cap], .agg #[.int .i64 c.kind, .string ⟨c.table.toArray⟩, .string ⟨c.other.toArray⟩, .string ⟨c.to.toArray⟩, .string ⟨c.also.toArray⟩, .string ⟨c.name.toArray⟩, .int .i64 c.type, .slice no c.names.length nc, .string ⟨c.col.name.toArray⟩, .int .i64 c.col.kind, .bool c.col.null, .int .i64 c.col.d.k, .int .i64 c.col.d.n, .int .u64 c.col.d.b, .string ⟨c.col.d.s.toArray⟩, .string ⟨c.df.name.toArray⟩, .int .i64 c.df.keys, .slice dO c.df.cs.length dc], .slice bo n bc] w fun e w' => e = .returned (.tuple #[.slice none 0 0, .int .i64 1]) ∧ Below w.heap.size w w' := by
  have hmx : Tryz.prog.follows .mixedOrders = true := by kernel_rfl
  subst hn
  obtain ⟨F, hF⟩ : ∃ F, Nm.fi c.src tn = F := ⟨_, rfl⟩
  have dF : decide (F < 0) = true := by rw [decide_eq_true_iff, ← hF, Nm.fi_none _ _ hs]; omega
  have H := Lib.hid (And.intro hT (And.intro hx (And.intro hm (And.intro ho (And.intro hE hF)))))
  clear hT hx hm ho
  go_enter Tryz.func11, Tryz.ntmps11
  go_wp2_with fail
  refine (rfits_t (⟨tn, (K : Int), tc⟩ : T) xs ao bo cap bc _ (H.out.1.keep (below2s _ _ _)) (H.out.2.1.below (below2s _ _ _)) H.out.2.2.1 H.out.2.2.2.1 0 H.out.2.2.2.2.1).mono ?_
  rintro e w1 ⟨rfl, hb⟩
  clear hE hs hF
  have q0 := ((Blk.new w #[.string ⟨tn.toArray⟩, .int .i64 (K : Int), .slice ao tc.length cap] 24).alloc (.cells #[.int .i64 c.kind, .string ⟨c.table.toArray⟩, .string ⟨c.other.toArray⟩, .string ⟨c.to.toArray⟩, .string ⟨c.also.toArray⟩, .string ⟨c.name.toArray⟩, .int .i64 c.type, .slice no c.names.length nc, .string ⟨c.col.name.toArray⟩, .int .i64 c.col.kind, .bool c.col.null, .int .i64 c.col.d.k, .int .i64 c.col.d.n, .int .u64 c.col.d.b, .string ⟨c.col.d.s.toArray⟩, .string ⟨c.df.name.toArray⟩, .int .i64 c.df.keys, .slice dO c.df.cs.length dc] 32)).below hb
  have q1 := (Blk.new (w.alloc (.cells #[.string ⟨tn.toArray⟩, .int .i64 (K : Int), .slice ao tc.length cap] 24)) #[.int .i64 c.kind, .string ⟨c.table.toArray⟩, .string ⟨c.other.toArray⟩, .string ⟨c.to.toArray⟩, .string ⟨c.also.toArray⟩, .string ⟨c.name.toArray⟩, .int .i64 c.type, .slice no c.names.length nc, .string ⟨c.col.name.toArray⟩, .int .i64 c.col.kind, .bool c.col.null, .int .i64 c.col.d.k, .int .i64 c.col.d.n, .int .u64 c.col.d.b, .string ⟨c.col.d.s.toArray⟩, .string ⟨c.df.name.toArray⟩, .int .i64 c.df.keys, .slice dO c.df.cs.length dc] 32).below hb
  have hsz : (w.alloc (.cells #[.string ⟨tn.toArray⟩, .int .i64 (K : Int), .slice ao tc.length cap] 24)).heap.size = w.heap.size + 1 := by simp
  rw [hsz] at q1
  have K1 := Lib.hid (And.intro (step0 (below2s w _ _) hb) (And.intro q0 q1))
  clear hb q0 q1 hsz
  go_wp2_with fail
  refine wp_region_held_drew (S := fun v => Below w1.heap.size w1 v ∧ v.rangeAt (w.heap.size + 1) 0 [.int .i64 c.kind, .string ⟨c.table.toArray⟩, .string ⟨c.other.toArray⟩, .string ⟨c.to.toArray⟩, .string ⟨c.also.toArray⟩, .string ⟨c.name.toArray⟩, .int .i64 c.type, .slice no c.names.length nc, .string ⟨c.col.name.toArray⟩, .int .i64 c.col.kind, .bool c.col.null, .int .i64 c.col.d.k, .int .i64 c.col.d.n, .int .u64 c.col.d.b, .string ⟨c.col.d.s.toArray⟩, .string ⟨c.df.name.toArray⟩, .int .i64 c.df.keys, .slice dO c.df.cs.length dc] ∧ v.cell? ⟨w.heap.size, 0, none⟩ = some (.string ⟨tn.toArray⟩)) (by kernel_rfl) ⟨(Below.refl _ _).drew, rng K1.out.2.2, K1.out.2.1.cell 0⟩ (fun hH0 => ?_)
  refine wpAnyH_take (i := 0) (oi := _) (v := .agg #[.int .i64 c.kind, .string ⟨c.table.toArray⟩, .string ⟨c.other.toArray⟩, .string ⟨c.to.toArray⟩, .string ⟨c.also.toArray⟩, .string ⟨c.name.toArray⟩, .int .i64 c.type, .slice no c.names.length nc, .string ⟨c.col.name.toArray⟩, .int .i64 c.col.kind, .bool c.col.null, .int .i64 c.col.d.k, .int .i64 c.col.d.n, .int .u64 c.col.d.b, .string ⟨c.col.d.s.toArray⟩, .string ⟨c.df.name.toArray⟩, .int .i64 c.df.keys, .slice dO c.df.cs.length dc]) rfl (by kernel_rfl) (by kernel_rfl) (by kernel_rfl) (fun _ _ _ h => h) (yieldsIf_load_mid (by rfl) _ _ rfl (w.heap.size + 1) 0 rfl [.int .i64 c.kind, .string ⟨c.table.toArray⟩, .string ⟨c.other.toArray⟩, .string ⟨c.to.toArray⟩, .string ⟨c.also.toArray⟩, .string ⟨c.name.toArray⟩, .int .i64 c.type, .slice no c.names.length nc, .string ⟨c.col.name.toArray⟩, .int .i64 c.col.kind, .bool c.col.null, .int .i64 c.col.d.k, .int .i64 c.col.d.n, .int .u64 c.col.d.b, .string ⟨c.col.d.s.toArray⟩, .string ⟨c.df.name.toArray⟩, .int .i64 c.df.keys, .slice dO c.df.cs.length dc] _ (fun v hv => hv.2.1) Tryz.underlying32 rfl infoCh) hH0 ?_
  try simp only [Act.put, List.getElem_toArray, List.getElem_cons_succ, List.getElem_cons_zero, List.setIfInBounds_toArray, List.set_cons_zero, List.set_cons_succ]
  refine wpAnyH_take (i := 2) (oi := _) (v := .pointer (some ⟨w.heap.size, 0, none⟩)) rfl (by kernel_rfl) (by kernel_rfl) (by kernel_rfl) (fun _ _ _ h => h) (Or.inl ⟨by rfl, by intro v hv; go_simp⟩) hH0 ?_
  try simp only [Act.put, List.getElem_toArray, List.getElem_cons_succ, List.getElem_cons_zero, List.setIfInBounds_toArray, List.set_cons_zero, List.set_cons_succ]
  refine wpAnyH_take (i := 3) (oi := _) (v := .string ⟨tn.toArray⟩) rfl (by kernel_rfl) (by kernel_rfl) (by kernel_rfl) (fun _ _ _ h => h) (Or.inl ⟨by rfl, by intro v hv; have hc := hv.2.2; clear hv; go_simp⟩) hH0 ?_
  try simp only [Act.put, List.getElem_toArray, List.getElem_cons_succ, List.getElem_cons_zero, List.setIfInBounds_toArray, List.set_cons_zero, List.set_cons_succ]
  refine wpAnyH_ready (rs := [1]) (by kernel_rfl) (by simp) ?_
  refine AllReadyH.cons (o := _) rfl (fun K' hK => ?_) AllReadyH.nil
  go_simp
  refine (rsources_is c no nc dO dc _).mono ?_
  rintro e w5 ⟨so, sc, rfl, hSl, hb⟩
  have B5 := Lib.hid (And.intro (step0 (below_drew1 (Below.refl _ w1)) hb) hSl)
  clear hb hSl
  go_wp2_with fail
  refine hK.out _ _ ⟨B5.out.1, rng (K1.out.2.2.below B5.out.1), (K1.out.2.1.below B5.out.1).cell 0⟩ (fun hH1 => ?_)
  clear hK K' hH0
  try simp only [Act.put, List.getElem_toArray, List.getElem_cons_succ, List.getElem_cons_zero, List.setIfInBounds_toArray, List.set_cons_zero, List.set_cons_succ]
  refine wpAnyH_ready (rs := [4]) (by kernel_rfl) (by simp) ?_
  refine AllReadyH.cons (o := _) rfl (fun K' hK => ?_) AllReadyH.nil
  go_simp
  refine (rfind_is c.src tn _ F so sc _ rfl B5.out.2 (by have := rsrc_len c; omega) H.out.2.2.2.2.2).mono ?_
  rintro e w6 ⟨rfl, rfl⟩
  go_wp2_with fail
  refine hK.out _ _ hH1 (fun _ => ?_)
  clear hK K'
  try simp only [Act.put, List.getElem_toArray, List.getElem_cons_succ, List.getElem_cons_zero, List.setIfInBounds_toArray, List.set_cons_zero, List.set_cons_succ]
  refine wpAnyH_take (i := 5) (oi := _) (v := .bool true) rfl (by kernel_rfl) (by kernel_rfl) (by kernel_rfl) (fun _ _ _ h => h) (Or.inl ⟨by rfl, by intro v hv; go_simp⟩) hH1 ?_
  try simp only [Act.put, List.getElem_toArray, List.getElem_cons_succ, List.getElem_cons_zero, List.setIfInBounds_toArray, List.set_cons_zero, List.set_cons_succ]
  refine wpAnyH_done (by kernel_rfl) ?_ _
  clear hH1
  go_wp2
  go_ret2
  exact ⟨rfl, step0 K1.out.1 B5.out.1⟩

end Go.Proofs.YtdonmbmahcjfbaaGreatDoor
