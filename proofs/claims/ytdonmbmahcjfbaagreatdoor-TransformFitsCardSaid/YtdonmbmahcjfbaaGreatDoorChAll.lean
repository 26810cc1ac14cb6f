/-
  What is there instead of a change's sources, kind by kind: create, add, merge. Conditions: tables in memory whose Defaults keep a value's bounds; the library's variable errors.errorType as it is laid.
  A column less: slices.Delete of one column of a row that a call has made. Conditions: the bounds named in each theorem.
  A table without a column: drop. Conditions: a table in memory whose Defaults keep a value's bounds; its Keys are no less than 0.
  A table with a column of another kind: retype. Conditions: a table in memory whose Defaults keep a value's bounds; its Keys are no less than 0; what convert.Can and convert.To answer there.
  What is there instead of a change's sources: Targets, kind by kind, over what the kind's own answers. Conditions: at most 1000 tables in memory whose Defaults keep a value's bounds; the library's variable errors.errorType as it is laid.
  Targets of any change, over what split's and merge's own targets answer, and convert.Can and convert.To. Conditions: at most 1000 tables in memory whose Defaults keep a value's bounds; the library's variable errors.errorType as it is laid.
-/
import Derived.Test.YtdonmbmahcjfbaaGreatDoorFAll
import Derived.Test.YtdonmbmahcjfbaaGreatDoorChSrcs
import Derived.Deep.RegionLaw
import Derived.Shelf.RegionOpenPlain
import Derived.OwnWalk
import Derived.Deep.RegionHeld3
namespace Go.Proofs.YtdonmbmahcjfbaaGreatDoor
open Go.RowKit

/-- What is told: nothing beside an error; else tables that the call has made. -/
def TR (w w' : World) (e : Ending) (r : List T × Int) : Prop :=
  (r.2 ≠ 0 ∧ e = .returned (.tuple #[.slice none 0 0, .int .i64 r.2])) ∨
  (r.2 = 0 ∧ ∃ v xs, e = .returned (.tuple #[v, .int .i64 0]) ∧ OwT w' w.heap.size v xs ∧ tvs xs = r.1 ∧ FitO w' w.heap.size xs)
theorem TR.bad {w w' : World} {r : List T × Int} {E : Int} (h : r = ([], E)) (hE : E ≠ 0) : TR w w' (.returned (.tuple #[.slice none 0 0, .int .i64 E])) r := by
  subst h
  exact .inl ⟨hE, rfl⟩
theorem TR.one {w W : World} {r : List T × Int} (x : TV) (h : r = ([x.t], 0)) (hb : w.heap.size ≤ W.heap.size) (hO : OwC W w.heap.size (.slice x.ao x.t.cs.length x.cap) x.t.cs) (ho : ∀ c ∈ x.t.cs, c.d.ok) :
    TR w (W.alloc (.cells #[.string ⟨x.t.name.toArray⟩, .int .i64 x.t.keys, .slice x.ao x.t.cs.length x.cap] 24)) (.returned (.tuple #[.slice (some ⟨W.heap.size, 0, none⟩) 1 1, .int .i64 0])) r := by
  subst h
  exact .inr ⟨rfl, _, [x], rfl, (owt_one W x).base hb, rfl, FitO.one (hO.keep (below1 _ _)) ho⟩

/-! ### create -/
set_option maxHeartbeats 2000000 in
theorem create_bad (df : T) (dO : Option Addr) (dc : Nat) (fr : Value) (w : World) (hg : Env w) (h : At3 w df dO dc) (E : Int) (hE : df.ck = E) (hE0 : ¬ E = 0) :
    Calls Tryz.prog 194 #[.agg #[.string ⟨df.name.toArray⟩, .int .i64 df.keys, .slice dO df.cs.length dc], fr] w fun e w' => e = .returned (.tuple #[.slice none 0 0, .int .i64 E]) ∧ Below w.heap.size w w' := by
  have H := Lib.hid (And.intro hg (And.intro h hE))
  have e0 := bne_t hE0
  clear hg h hE
  go_enter Tryz.func194, Tryz.ntmps194
  go_wp2_with fail
  refine (check_t df dO dc E _ (H.out.1.keep (below1 _ _)) (H.out.2.1.keep (below1 _ _)) H.out.2.2).mono ?_
  rintro e w1 ⟨rfl, hb⟩
  have B := Lib.hid (step1 (Below.refl _ w) hb)
  clear hb
  go_wp2
  go_ret2
  exact ⟨rfl, B.out⟩

set_option maxHeartbeats 2000000 in
theorem create_ok (df : T) (dO : Option Addr) (dc : Nat) (fr : Value) (w : World) (hg : Env w) (h : At3 w df dO dc) (hE : df.ck = 0) :
    Calls Tryz.prog 194 #[.agg #[.string ⟨df.name.toArray⟩, .int .i64 df.keys, .slice dO df.cs.length dc], fr] w fun e w' => TR w w' e ([df], 0) ∧ Below w.heap.size w w' := by
  have H := Lib.hid (And.intro hg (And.intro h hE))
  clear hg h hE
  go_enter Tryz.func194, Tryz.ntmps194
  go_wp2_with fail
  refine (check_t df dO dc 0 _ (H.out.1.keep (below1 _ _)) (H.out.2.1.keep (below1 _ _)) H.out.2.2).mono ?_
  rintro e w1 ⟨rfl, hb⟩
  have q := (Blk.new w #[.string ⟨df.name.toArray⟩, .int .i64 df.keys, .slice dO df.cs.length dc] 101).below hb
  have c0 := q.cell 0
  have c1 := q.cell 1
  have c2 := q.cell 2
  simp at c0 c1 c2
  have B := Lib.hid (step1 (Below.refl _ w) hb)
  clear hb q
  go_wp2_with fail
  refine (copied_is df.name df.keys df.cs dO dc _ (H.out.2.1.1.below B.out) (by have := T.ck_ok H.out.2.2; omega)).mono ?_
  rintro e w2 ⟨vo, vc, rfl, hO, hb⟩
  have K := Lib.hid (And.intro (hO.base (show w.heap.size ≤ w1.heap.size + 2 by have := B.out.size; omega)) (step0 B.out hb))
  clear hO hb
  go_wp2
  go_ret2
  exact ⟨TR.one ⟨df, vo, vc⟩ rfl K.out.2.size K.out.1 H.out.2.1.2.2, K.out.2.alloc K.out.2.size _⟩

theorem create_is (df : T) (dO : Option Addr) (dc : Nat) (fr : Value) (w : World) (hg : Env w) (h : At3 w df dO dc) :
    Calls Tryz.prog 194 #[.agg #[.string ⟨df.name.toArray⟩, .int .i64 df.keys, .slice dO df.cs.length dc], fr] w fun e w' => TR w w' e df.new ∧ Below w.heap.size w w' := by
  by_cases hE : df.ck = 0
  · have e : df.new = ([df], 0) := by unfold T.new; rw [if_neg (by simpa using hE)]
    rw [e]
    exact create_ok df dO dc fr w hg h hE
  · have e : df.new = ([], df.ck) := by unfold T.new; rw [if_pos hE]
    refine (create_bad df dO dc fr w hg h _ rfl hE).mono ?_
    rintro e1 w1 ⟨rfl, hb⟩
    exact ⟨TR.bad e hE, hb⟩

/-! ### add -/
set_option maxHeartbeats 2000000 in
theorem add_bad (tb : Nm.S) (col : C) (fr : Value) (w : World) (hg : Env w) (ho : col.d.ok) (E : Int) (hE : col.ck = E) (hE0 : ¬ E = 0) :
    Calls Tryz.prog 198 #[.agg #[.string ⟨tb.toArray⟩, .string ⟨col.name.toArray⟩, .int .i64 col.kind, .bool col.null, .int .i64 col.d.k, .int .i64 col.d.n, .int .u64 col.d.b, .string ⟨col.d.s.toArray⟩], fr] w fun e w' => e = .returned (.tuple #[.slice none 0 0, .int .i64 E]) ∧ Below w.heap.size w w' := by
  have H := Lib.hid (And.intro hg (And.intro ho hE))
  have e0 := bne_t hE0
  clear hg ho hE
  go_enter Tryz.func198, Tryz.ntmps198
  go_wp2_with fail
  refine (checkCol_is col E _ (H.out.1.keep (below1 _ _)) H.out.2.1 H.out.2.2).mono ?_
  rintro e w1 ⟨rfl, hb⟩
  have B := Lib.hid (step1 (Below.refl _ w) hb)
  clear hb
  go_wp2
  go_ret2
  exact ⟨rfl, B.out⟩

/-- A slice of one table. -/
theorem SlV.first {W : World} {a : Addr} {x : TV} {xs : List TV} (h : SlV W (some a) (x :: xs)) : W.cell? a = some (.string ⟨x.t.name.toArray⟩) ∧ W.cell? ⟨a.block, a.off + 1, none⟩ = some (.int .i64 x.t.keys) ∧ W.cell? ⟨a.block, a.off + 2, none⟩ = some (.slice x.ao x.t.cs.length x.cap) := by
  obtain ⟨a', ha, h0, h1, h2⟩ := h 0 x rfl
  obtain rfl := Option.some.inj ha
  have e : a.add (0 * 3) = a := by simp [Addr.add]
  rw [e] at h0 h1 h2
  exact ⟨h0, h1, h2⟩
theorem SlV.second {W : World} {a : Addr} {x y : TV} {xs : List TV} (h : SlV W (some a) (x :: y :: xs)) : W.cell? ⟨a.block, a.off + 3, none⟩ = some (.string ⟨y.t.name.toArray⟩) ∧ W.cell? ⟨a.block, a.off + 3 + 1, none⟩ = some (.int .i64 y.t.keys) ∧ W.cell? ⟨a.block, a.off + 3 + 2, none⟩ = some (.slice y.ao y.t.cs.length y.cap) := by
  obtain ⟨a', ha, h0, h1, h2⟩ := h 1 y rfl
  obtain rfl := Option.some.inj ha
  have e : a.add (1 * 3) = ⟨a.block, a.off + 3, none⟩ := by simp [Addr.add]
  rw [e] at h0 h1 h2
  exact ⟨h0, h1, h2⟩
theorem Blk.c8 {W : World} {B : Nat} {u0 u1 u2 u3 u4 u5 u6 u7 : Value} {t : TypeId} (h : Blk W B #[u0, u1, u2, u3, u4, u5, u6, u7] t) :
    W.cell? ⟨B, 1, none⟩ = some u1 ∧ W.cell? ⟨B, 2, none⟩ = some u2 ∧ W.cell? ⟨B, 3, none⟩ = some u3 ∧ W.cell? ⟨B, 4, none⟩ = some u4 ∧ W.cell? ⟨B, 5, none⟩ = some u5 ∧ W.cell? ⟨B, 6, none⟩ = some u6 ∧ W.cell? ⟨B, 7, none⟩ = some u7 :=
  ⟨h.cell 1, h.cell 2, h.cell 3, h.cell 4, h.cell 5, h.cell 6, h.cell 7⟩

set_option maxHeartbeats 4000000 in
theorem add_twice (tb cn : Nm.S) (kd : Int) (nu : Bool) (k : Int) (n b : Int) (s : List UInt8) (x : TV) (fo : Option Addr) (fc : Nat) (w : World) (hg : Env w) (ho : (⟨cn, kd, nu, ⟨k, n, b, s⟩⟩ : C).d.ok) (hE : (⟨cn, kd, nu, ⟨k, n, b, s⟩⟩ : C).ck = 0) (hs : SlV w fo [x]) (hx : At3 w x.t x.ao x.cap) (hl : x.t.cs.length ≤ 8) (F : Int) (hf : Nm.fi (x.t.cs.map C.name) cn = F) (hF : 0 ≤ F) :
    Calls Tryz.prog 198 #[.agg #[.string ⟨tb.toArray⟩, .string ⟨cn.toArray⟩, .int .i64 kd, .bool nu, .int .i64 k, .int .i64 n, .int .u64 b, .string ⟨s.toArray⟩], .slice fo 1 fc] w fun e w' => e = .returned (.tuple #[.slice none 0 0, .int .i64 12]) ∧ Below w.heap.size w w' := by
  obtain ⟨a, rfl, _⟩ := hs 0 x rfl
  have H := Lib.hid (And.intro hg (And.intro ho (And.intro hE (And.intro hs (And.intro hx (And.intro hl hf))))))
  have f0 : decide (0 ≤ F) = true := by rw [decide_eq_true_iff]; exact hF
  clear hg ho hE hs hx hl hf
  go_enter Tryz.func198, Tryz.ntmps198
  go_wp2_with fail
  refine (checkCol_is (⟨cn, kd, nu, ⟨k, n, b, s⟩⟩ : C) 0 _ (H.out.1.keep (below1 _ _)) H.out.2.1 H.out.2.2.1).mono ?_
  rintro e w1 ⟨rfl, hb⟩
  have q := (Blk.new w #[.string ⟨tb.toArray⟩, .string ⟨cn.toArray⟩, .int .i64 kd, .bool nu, .int .i64 k, .int .i64 n, .int .u64 b, .string ⟨s.toArray⟩] 105).below hb
  obtain ⟨y0, y1, y2⟩ := (H.out.2.2.2.1.below (step1 (Below.refl _ w) hb)).first
  have B1 := Lib.hid (And.intro (step1 (Below.refl _ w) hb) q)
  obtain ⟨b1, b2, b3, b4, b5, b6, b7⟩ := (q.alloc (.cells #[.string ⟨x.t.name.toArray⟩, .int .i64 x.t.keys, .slice x.ao x.t.cs.length x.cap] 24)).c8
  clear hb q
  go_wp2_with fail
  refine (find_t x.t.name x.t.keys x.t.cs cn x.ao x.cap _ ((H.out.2.2.2.2.1.keep B1.out.1).1.below (below1 _ _)) (by have := H.out.2.2.2.2.2.1; omega) F H.out.2.2.2.2.2.2).mono ?_
  rintro e w2 ⟨rfl, hb⟩
  have q0 := (B1.out.2.alloc (.cells #[.string ⟨x.t.name.toArray⟩, .int .i64 x.t.keys, .slice x.ao x.t.cs.length x.cap] 24)).below hb
  have q1 := (Blk.new w1 #[.string ⟨x.t.name.toArray⟩, .int .i64 x.t.keys, .slice x.ao x.t.cs.length x.cap] 24).below hb
  obtain ⟨t0, t1, t2⟩ := q1.t3
  obtain ⟨d1, d2, d3, d4, d5, d6, d7⟩ := q0.c8
  have B2 := Lib.hid (And.intro (step1 B1.out.1 hb) (And.intro q0 (And.intro q1 (show w1.heap.size < w2.heap.size from q1.lt))))
  clear hb q0 q1 y0 y1 y2 b1 b2 b3 b4 b5 b6 b7
  go_wp2
  go_ret2
  exact ⟨rfl, B2.out.1⟩

set_option maxHeartbeats 4000000 in
theorem add_full (tb cn : Nm.S) (kd : Int) (nu : Bool) (k : Int) (n b : Int) (s : List UInt8) (x : TV) (fo : Option Addr) (fc : Nat) (w : World) (hg : Env w) (ho : (⟨cn, kd, nu, ⟨k, n, b, s⟩⟩ : C).d.ok) (hE : (⟨cn, kd, nu, ⟨k, n, b, s⟩⟩ : C).ck = 0) (hs : SlV w fo [x]) (hx : At3 w x.t x.ao x.cap) (hl : x.t.cs.length ≤ 8) (hf : Nm.fi (x.t.cs.map C.name) cn = -1) (h8 : x.t.cs.length = 8) :
    Calls Tryz.prog 198 #[.agg #[.string ⟨tb.toArray⟩, .string ⟨cn.toArray⟩, .int .i64 kd, .bool nu, .int .i64 k, .int .i64 n, .int .u64 b, .string ⟨s.toArray⟩], .slice fo 1 fc] w fun e w' => e = .returned (.tuple #[.slice none 0 0, .int .i64 2]) ∧ Below w.heap.size w w' := by
  obtain ⟨a, rfl, _⟩ := hs 0 x rfl
  have H := Lib.hid (And.intro hg (And.intro ho (And.intro hE (And.intro hs (And.intro hx (And.intro hl hf))))))
  have e8 : (((x.t.cs.length : Nat) : Int) == 8) = true := by rw [h8]; rfl
  clear h8
  clear hg ho hE hs hx hl hf
  go_enter Tryz.func198, Tryz.ntmps198
  go_wp2_with fail
  refine (checkCol_is (⟨cn, kd, nu, ⟨k, n, b, s⟩⟩ : C) 0 _ (H.out.1.keep (below1 _ _)) H.out.2.1 H.out.2.2.1).mono ?_
  rintro e w1 ⟨rfl, hb⟩
  have q := (Blk.new w #[.string ⟨tb.toArray⟩, .string ⟨cn.toArray⟩, .int .i64 kd, .bool nu, .int .i64 k, .int .i64 n, .int .u64 b, .string ⟨s.toArray⟩] 105).below hb
  obtain ⟨y0, y1, y2⟩ := (H.out.2.2.2.1.below (step1 (Below.refl _ w) hb)).first
  have B1 := Lib.hid (And.intro (step1 (Below.refl _ w) hb) q)
  obtain ⟨b1, b2, b3, b4, b5, b6, b7⟩ := (q.alloc (.cells #[.string ⟨x.t.name.toArray⟩, .int .i64 x.t.keys, .slice x.ao x.t.cs.length x.cap] 24)).c8
  clear hb q
  go_wp2_with fail
  refine (find_t x.t.name x.t.keys x.t.cs cn x.ao x.cap _ ((H.out.2.2.2.2.1.keep B1.out.1).1.below (below1 _ _)) (by have := H.out.2.2.2.2.2.1; omega) (-1) H.out.2.2.2.2.2.2).mono ?_
  rintro e w2 ⟨rfl, hb⟩
  have q0 := (B1.out.2.alloc (.cells #[.string ⟨x.t.name.toArray⟩, .int .i64 x.t.keys, .slice x.ao x.t.cs.length x.cap] 24)).below hb
  have q1 := (Blk.new w1 #[.string ⟨x.t.name.toArray⟩, .int .i64 x.t.keys, .slice x.ao x.t.cs.length x.cap] 24).below hb
  obtain ⟨t0, t1, t2⟩ := q1.t3
  obtain ⟨d1, d2, d3, d4, d5, d6, d7⟩ := q0.c8
  have B2 := Lib.hid (And.intro (step1 B1.out.1 hb) (And.intro q0 (And.intro q1 (show w1.heap.size < w2.heap.size from q1.lt))))
  clear hb q0 q1 y0 y1 y2 b1 b2 b3 b4 b5 b6 b7
  go_wp2
  go_ret2
  exact ⟨rfl, B2.out.1⟩

set_option maxHeartbeats 4000000 in
theorem add_null (tb cn : Nm.S) (kd : Int) (n b : Int) (s : List UInt8) (x : TV) (fo : Option Addr) (fc : Nat) (w : World) (hg : Env w) (ho : (⟨cn, kd, false, ⟨0, n, b, s⟩⟩ : C).d.ok) (hE : (⟨cn, kd, false, ⟨0, n, b, s⟩⟩ : C).ck = 0) (hs : SlV w fo [x]) (hx : At3 w x.t x.ao x.cap) (hl : x.t.cs.length ≤ 8) (hf : Nm.fi (x.t.cs.map C.name) cn = -1) (h8 : ¬ x.t.cs.length = 8) :
    Calls Tryz.prog 198 #[.agg #[.string ⟨tb.toArray⟩, .string ⟨cn.toArray⟩, .int .i64 kd, .bool false, .int .i64 0, .int .i64 n, .int .u64 b, .string ⟨s.toArray⟩], .slice fo 1 fc] w fun e w' => e = .returned (.tuple #[.slice none 0 0, .int .i64 11]) ∧ Below w.heap.size w w' := by
  obtain ⟨a, rfl, _⟩ := hs 0 x rfl
  have H := Lib.hid (And.intro hg (And.intro ho (And.intro hE (And.intro hs (And.intro hx (And.intro hl hf))))))
  have e8 : (((x.t.cs.length : Nat) : Int) == 8) = false := by rw [beq_eq_false_iff_ne]; omega
  clear h8
  clear hg ho hE hs hx hl hf
  go_enter Tryz.func198, Tryz.ntmps198
  go_wp2_with fail
  refine (checkCol_is (⟨cn, kd, false, ⟨0, n, b, s⟩⟩ : C) 0 _ (H.out.1.keep (below1 _ _)) H.out.2.1 H.out.2.2.1).mono ?_
  rintro e w1 ⟨rfl, hb⟩
  have q := (Blk.new w #[.string ⟨tb.toArray⟩, .string ⟨cn.toArray⟩, .int .i64 kd, .bool false, .int .i64 0, .int .i64 n, .int .u64 b, .string ⟨s.toArray⟩] 105).below hb
  obtain ⟨y0, y1, y2⟩ := (H.out.2.2.2.1.below (step1 (Below.refl _ w) hb)).first
  have B1 := Lib.hid (And.intro (step1 (Below.refl _ w) hb) q)
  obtain ⟨b1, b2, b3, b4, b5, b6, b7⟩ := (q.alloc (.cells #[.string ⟨x.t.name.toArray⟩, .int .i64 x.t.keys, .slice x.ao x.t.cs.length x.cap] 24)).c8
  clear hb q
  go_wp2_with fail
  refine (find_t x.t.name x.t.keys x.t.cs cn x.ao x.cap _ ((H.out.2.2.2.2.1.keep B1.out.1).1.below (below1 _ _)) (by have := H.out.2.2.2.2.2.1; omega) (-1) H.out.2.2.2.2.2.2).mono ?_
  rintro e w2 ⟨rfl, hb⟩
  have q0 := (B1.out.2.alloc (.cells #[.string ⟨x.t.name.toArray⟩, .int .i64 x.t.keys, .slice x.ao x.t.cs.length x.cap] 24)).below hb
  have q1 := (Blk.new w1 #[.string ⟨x.t.name.toArray⟩, .int .i64 x.t.keys, .slice x.ao x.t.cs.length x.cap] 24).below hb
  obtain ⟨t0, t1, t2⟩ := q1.t3
  obtain ⟨d1, d2, d3, d4, d5, d6, d7⟩ := q0.c8
  have B2 := Lib.hid (And.intro (step1 B1.out.1 hb) (And.intro q0 (And.intro q1 (show w1.heap.size < w2.heap.size from q1.lt))))
  clear hb q0 q1 y0 y1 y2 b1 b2 b3 b4 b5 b6 b7
  go_wp2
  go_ret2
  exact ⟨rfl, B2.out.1⟩

set_option maxHeartbeats 4000000 in
theorem add_okn (tb cn : Nm.S) (kd : Int) (k : Int) (n b : Int) (s : List UInt8) (x : TV) (fo : Option Addr) (fc : Nat) (w : World) (hg : Env w) (ho : (⟨cn, kd, true, ⟨k, n, b, s⟩⟩ : C).d.ok) (hE : (⟨cn, kd, true, ⟨k, n, b, s⟩⟩ : C).ck = 0) (hs : SlV w fo [x]) (hx : At3 w x.t x.ao x.cap) (hl : x.t.cs.length ≤ 8) (hf : Nm.fi (x.t.cs.map C.name) cn = -1) (h8 : ¬ x.t.cs.length = 8) :
    Calls Tryz.prog 198 #[.agg #[.string ⟨tb.toArray⟩, .string ⟨cn.toArray⟩, .int .i64 kd, .bool true, .int .i64 k, .int .i64 n, .int .u64 b, .string ⟨s.toArray⟩], .slice fo 1 fc] w fun e w' => TR w w' e ([⟨x.t.name, x.t.keys, x.t.cs ++ [(⟨cn, kd, true, ⟨k, n, b, s⟩⟩ : C)]⟩], 0) ∧ Below w.heap.size w w' := by
  obtain ⟨a, rfl, _⟩ := hs 0 x rfl
  have H := Lib.hid (And.intro hg (And.intro ho (And.intro hE (And.intro hs (And.intro hx (And.intro hl hf))))))
  have e8 : (((x.t.cs.length : Nat) : Int) == 8) = false := by rw [beq_eq_false_iff_ne]; omega
  clear h8
  clear hg ho hE hs hx hl hf
  go_enter Tryz.func198, Tryz.ntmps198
  go_wp2_with fail
  refine (checkCol_is (⟨cn, kd, true, ⟨k, n, b, s⟩⟩ : C) 0 _ (H.out.1.keep (below1 _ _)) H.out.2.1 H.out.2.2.1).mono ?_
  rintro e w1 ⟨rfl, hb⟩
  have q := (Blk.new w #[.string ⟨tb.toArray⟩, .string ⟨cn.toArray⟩, .int .i64 kd, .bool true, .int .i64 k, .int .i64 n, .int .u64 b, .string ⟨s.toArray⟩] 105).below hb
  obtain ⟨y0, y1, y2⟩ := (H.out.2.2.2.1.below (step1 (Below.refl _ w) hb)).first
  have B1 := Lib.hid (And.intro (step1 (Below.refl _ w) hb) q)
  obtain ⟨b1, b2, b3, b4, b5, b6, b7⟩ := (q.alloc (.cells #[.string ⟨x.t.name.toArray⟩, .int .i64 x.t.keys, .slice x.ao x.t.cs.length x.cap] 24)).c8
  clear hb q
  go_wp2_with fail
  refine (find_t x.t.name x.t.keys x.t.cs cn x.ao x.cap _ ((H.out.2.2.2.2.1.keep B1.out.1).1.below (below1 _ _)) (by have := H.out.2.2.2.2.2.1; omega) (-1) H.out.2.2.2.2.2.2).mono ?_
  rintro e w2 ⟨rfl, hb⟩
  have q0 := (B1.out.2.alloc (.cells #[.string ⟨x.t.name.toArray⟩, .int .i64 x.t.keys, .slice x.ao x.t.cs.length x.cap] 24)).below hb
  have q1 := (Blk.new w1 #[.string ⟨x.t.name.toArray⟩, .int .i64 x.t.keys, .slice x.ao x.t.cs.length x.cap] 24).below hb
  obtain ⟨t0, t1, t2⟩ := q1.t3
  obtain ⟨d1, d2, d3, d4, d5, d6, d7⟩ := q0.c8
  have B2 := Lib.hid (And.intro (step1 B1.out.1 hb) (And.intro q0 (And.intro q1 (show w1.heap.size < w2.heap.size from q1.lt))))
  clear hb q0 q1 y0 y1 y2 b1 b2 b3 b4 b5 b6 b7
  go_wp2_with fail
  refine (copied_is x.t.name x.t.keys x.t.cs x.ao x.cap _ (H.out.2.2.2.2.1.keep B2.out.1).1 (by have := H.out.2.2.2.2.2.1; omega)).mono ?_
  rintro e w3 ⟨vo, vc, rfl, hO, hb⟩
  have p0 := B2.out.2.1.below hb
  have p1 := B2.out.2.2.1.below hb
  have hB3 := step0 B2.out.1 hb
  have hO0 := hO.base (show w1.heap.size + 1 ≤ w2.heap.size + 2 by have := B2.out.2.2.2; omega)
  have hO3 := ((hO0.off 0 (.string ⟨x.t.name.toArray⟩) (Nat.lt_succ_self w1.heap.size)).off 1 (.int .i64 x.t.keys) (Nat.lt_succ_self w1.heap.size)).off 2 (.slice vo x.t.cs.length vc) (Nat.lt_succ_self w1.heap.size)
  have s0 := p1.frozen 0
  have s1 := p1.frozen 1
  have s2 := p1.frozen 2
  have hne : w.heap.size ≠ w1.heap.size := by have := B1.out.2.lt; omega
  have r1 := ((p1.setAt 0 (.string ⟨x.t.name.toArray⟩)).setAt 1 (.int .i64 x.t.keys)).setAt 2 (.slice vo x.t.cs.length vc)
  have r0 := ((p0.otherAt hne 0 (.string ⟨x.t.name.toArray⟩)).otherAt hne 1 (.int .i64 x.t.keys)).otherAt hne 2 (.slice vo x.t.cs.length vc)
  have hB4 := set3 (o0 := 0) (o1 := 1) (o2 := 2) (u0 := .string ⟨x.t.name.toArray⟩) (u1 := .int .i64 x.t.keys) (u2 := .slice vo x.t.cs.length vc) hB3 (show w.heap.size ≤ w1.heap.size from B1.out.1.size)
  obtain ⟨p0', p1', p2'⟩ := p1.t3
  obtain ⟨W4, hW4⟩ : ∃ W4, ((w3.setCell ⟨w1.heap.size, 0, none⟩ (.string ⟨x.t.name.toArray⟩)).setCell ⟨w1.heap.size, 1, none⟩ (.int .i64 x.t.keys)).setCell ⟨w1.heap.size, 2, none⟩ (.slice vo x.t.cs.length vc) = W4 := ⟨_, rfl⟩
  rw [hW4] at r0 r1 hB4 hO3
  have r1' : Blk W4 w1.heap.size #[.string ⟨x.t.name.toArray⟩, .int .i64 x.t.keys, .slice vo x.t.cs.length vc] 24 := r1
  obtain ⟨t0', t1', t2'⟩ := r1'.t3
  obtain ⟨g1, g2, g3, g4, g5, g6, g7⟩ := r0.c8
  have K4 := Lib.hid (And.intro hO3 (And.intro hB4 (And.intro r1' r1'.lt)))
  clear hb hO hO0 hO3 p0 p1 r0 r1 r1' hB3 hB4 hne t0 t1 t2 d1 d2 d3 d4 d5 d6 d7
  go_wp2_with (at_builtin; refine appC rfl _ _ rfl (w1.heap.size + 1) (.slice vo x.t.cs.length vc) x.t.cs (⟨cn, kd, true, ⟨k, n, b, s⟩⟩ : C) W4 rfl K4.out.1 _ rfl rfl (by have := H.out.2.2.2.2.2.1; omega) (by have := K4.out.2.2.2; omega) ?_; intro v' w5 hown' hb'; obtain ⟨vo', vc', rfl, hcap, _⟩ := hown'.sl; obtain ⟨L, hL⟩ : ∃ L, (x.t.cs ++ [(⟨cn, kd, true, ⟨k, n, b, s⟩⟩ : C)]).length = L := ⟨_, rfl⟩; rw [hL] at hown'; rw [hL]; have p5 := K4.out.2.2.1.below' hb' (Nat.lt_succ_self _); have z2 := p5.frozen 2; obtain ⟨c0, c1, c2⟩ := p5.t3; have p6 := p5.setAt 2 (.slice vo' L vc'); have o6 := hown'.off 2 (.slice vo' L vc') (Nat.lt_succ_self w1.heap.size); have b6 := below_set (K4.out.2.1.trans (hb'.mono (show w.heap.size ≤ w1.heap.size + 1 by have := B1.out.1.size; omega))) B1.out.1.size 2 (.slice vo' L vc'); obtain ⟨W6, hW6⟩ : ∃ W6, w5.setCell ⟨w1.heap.size, 2, none⟩ (.slice vo' L vc') = W6 := ⟨_, rfl⟩; rw [hW6] at p6 o6 b6; obtain ⟨m0, m1, m2⟩ := (show Blk W6 w1.heap.size #[.string ⟨x.t.name.toArray⟩, .int .i64 x.t.keys, .slice vo' L vc'] 24 from p6).t3; have K6 := Lib.hid (And.intro hL (And.intro o6 b6)); clear hown' hb' hcap p5 p6 o6 b6 hL; go_frame)
  go_wp2
  go_ret2
  have hL := K6.out.1
  subst hL
  refine ⟨TR.one ⟨⟨x.t.name, x.t.keys, x.t.cs ++ [(⟨cn, kd, true, ⟨k, n, b, s⟩⟩ : C)]⟩, vo', vc'⟩ rfl K6.out.2.2.size (K6.out.2.1.base (show w.heap.size ≤ w1.heap.size + 1 by have := B1.out.1.size; omega)) ?_, K6.out.2.2.alloc K6.out.2.2.size _⟩
  intro c hc
  rcases List.mem_append.1 hc with hc | hc
  · exact H.out.2.2.2.2.1.2.2 c hc
  · obtain rfl := List.mem_singleton.1 hc
    exact H.out.2.1

set_option maxHeartbeats 4000000 in
theorem add_okv (tb cn : Nm.S) (kd : Int) (k : Int) (n b : Int) (s : List UInt8) (x : TV) (fo : Option Addr) (fc : Nat) (w : World) (hg : Env w) (ho : (⟨cn, kd, false, ⟨k, n, b, s⟩⟩ : C).d.ok) (hE : (⟨cn, kd, false, ⟨k, n, b, s⟩⟩ : C).ck = 0) (hs : SlV w fo [x]) (hx : At3 w x.t x.ao x.cap) (hl : x.t.cs.length ≤ 8) (hf : Nm.fi (x.t.cs.map C.name) cn = -1) (h8 : ¬ x.t.cs.length = 8) (hk : ¬ k = 0) :
    Calls Tryz.prog 198 #[.agg #[.string ⟨tb.toArray⟩, .string ⟨cn.toArray⟩, .int .i64 kd, .bool false, .int .i64 k, .int .i64 n, .int .u64 b, .string ⟨s.toArray⟩], .slice fo 1 fc] w fun e w' => TR w w' e ([⟨x.t.name, x.t.keys, x.t.cs ++ [(⟨cn, kd, false, ⟨k, n, b, s⟩⟩ : C)]⟩], 0) ∧ Below w.heap.size w w' := by
  obtain ⟨a, rfl, _⟩ := hs 0 x rfl
  have H := Lib.hid (And.intro hg (And.intro ho (And.intro hE (And.intro hs (And.intro hx (And.intro hl hf))))))
  have e8 : (((x.t.cs.length : Nat) : Int) == 8) = false := by rw [beq_eq_false_iff_ne]; omega
  clear h8
  have k0 := beq_f hk
  clear hg ho hE hs hx hl hf
  go_enter Tryz.func198, Tryz.ntmps198
  go_wp2_with fail
  refine (checkCol_is (⟨cn, kd, false, ⟨k, n, b, s⟩⟩ : C) 0 _ (H.out.1.keep (below1 _ _)) H.out.2.1 H.out.2.2.1).mono ?_
  rintro e w1 ⟨rfl, hb⟩
  have q := (Blk.new w #[.string ⟨tb.toArray⟩, .string ⟨cn.toArray⟩, .int .i64 kd, .bool false, .int .i64 k, .int .i64 n, .int .u64 b, .string ⟨s.toArray⟩] 105).below hb
  obtain ⟨y0, y1, y2⟩ := (H.out.2.2.2.1.below (step1 (Below.refl _ w) hb)).first
  have B1 := Lib.hid (And.intro (step1 (Below.refl _ w) hb) q)
  obtain ⟨b1, b2, b3, b4, b5, b6, b7⟩ := (q.alloc (.cells #[.string ⟨x.t.name.toArray⟩, .int .i64 x.t.keys, .slice x.ao x.t.cs.length x.cap] 24)).c8
  clear hb q
  go_wp2_with fail
  refine (find_t x.t.name x.t.keys x.t.cs cn x.ao x.cap _ ((H.out.2.2.2.2.1.keep B1.out.1).1.below (below1 _ _)) (by have := H.out.2.2.2.2.2.1; omega) (-1) H.out.2.2.2.2.2.2).mono ?_
  rintro e w2 ⟨rfl, hb⟩
  have q0 := (B1.out.2.alloc (.cells #[.string ⟨x.t.name.toArray⟩, .int .i64 x.t.keys, .slice x.ao x.t.cs.length x.cap] 24)).below hb
  have q1 := (Blk.new w1 #[.string ⟨x.t.name.toArray⟩, .int .i64 x.t.keys, .slice x.ao x.t.cs.length x.cap] 24).below hb
  obtain ⟨t0, t1, t2⟩ := q1.t3
  obtain ⟨d1, d2, d3, d4, d5, d6, d7⟩ := q0.c8
  have B2 := Lib.hid (And.intro (step1 B1.out.1 hb) (And.intro q0 (And.intro q1 (show w1.heap.size < w2.heap.size from q1.lt))))
  clear hb q0 q1 y0 y1 y2 b1 b2 b3 b4 b5 b6 b7
  go_wp2_with fail
  refine (copied_is x.t.name x.t.keys x.t.cs x.ao x.cap _ (H.out.2.2.2.2.1.keep B2.out.1).1 (by have := H.out.2.2.2.2.2.1; omega)).mono ?_
  rintro e w3 ⟨vo, vc, rfl, hO, hb⟩
  have p0 := B2.out.2.1.below hb
  have p1 := B2.out.2.2.1.below hb
  have hB3 := step0 B2.out.1 hb
  have hO0 := hO.base (show w1.heap.size + 1 ≤ w2.heap.size + 2 by have := B2.out.2.2.2; omega)
  have hO3 := ((hO0.off 0 (.string ⟨x.t.name.toArray⟩) (Nat.lt_succ_self w1.heap.size)).off 1 (.int .i64 x.t.keys) (Nat.lt_succ_self w1.heap.size)).off 2 (.slice vo x.t.cs.length vc) (Nat.lt_succ_self w1.heap.size)
  have s0 := p1.frozen 0
  have s1 := p1.frozen 1
  have s2 := p1.frozen 2
  have hne : w.heap.size ≠ w1.heap.size := by have := B1.out.2.lt; omega
  have r1 := ((p1.setAt 0 (.string ⟨x.t.name.toArray⟩)).setAt 1 (.int .i64 x.t.keys)).setAt 2 (.slice vo x.t.cs.length vc)
  have r0 := ((p0.otherAt hne 0 (.string ⟨x.t.name.toArray⟩)).otherAt hne 1 (.int .i64 x.t.keys)).otherAt hne 2 (.slice vo x.t.cs.length vc)
  have hB4 := set3 (o0 := 0) (o1 := 1) (o2 := 2) (u0 := .string ⟨x.t.name.toArray⟩) (u1 := .int .i64 x.t.keys) (u2 := .slice vo x.t.cs.length vc) hB3 (show w.heap.size ≤ w1.heap.size from B1.out.1.size)
  obtain ⟨p0', p1', p2'⟩ := p1.t3
  obtain ⟨W4, hW4⟩ : ∃ W4, ((w3.setCell ⟨w1.heap.size, 0, none⟩ (.string ⟨x.t.name.toArray⟩)).setCell ⟨w1.heap.size, 1, none⟩ (.int .i64 x.t.keys)).setCell ⟨w1.heap.size, 2, none⟩ (.slice vo x.t.cs.length vc) = W4 := ⟨_, rfl⟩
  rw [hW4] at r0 r1 hB4 hO3
  have r1' : Blk W4 w1.heap.size #[.string ⟨x.t.name.toArray⟩, .int .i64 x.t.keys, .slice vo x.t.cs.length vc] 24 := r1
  obtain ⟨t0', t1', t2'⟩ := r1'.t3
  obtain ⟨g1, g2, g3, g4, g5, g6, g7⟩ := r0.c8
  have K4 := Lib.hid (And.intro hO3 (And.intro hB4 (And.intro r1' r1'.lt)))
  clear hb hO hO0 hO3 p0 p1 r0 r1 r1' hB3 hB4 hne t0 t1 t2 d1 d2 d3 d4 d5 d6 d7
  go_wp2_with (at_builtin; refine appC rfl _ _ rfl (w1.heap.size + 1) (.slice vo x.t.cs.length vc) x.t.cs (⟨cn, kd, false, ⟨k, n, b, s⟩⟩ : C) W4 rfl K4.out.1 _ rfl rfl (by have := H.out.2.2.2.2.2.1; omega) (by have := K4.out.2.2.2; omega) ?_; intro v' w5 hown' hb'; obtain ⟨vo', vc', rfl, hcap, _⟩ := hown'.sl; obtain ⟨L, hL⟩ : ∃ L, (x.t.cs ++ [(⟨cn, kd, false, ⟨k, n, b, s⟩⟩ : C)]).length = L := ⟨_, rfl⟩; rw [hL] at hown'; rw [hL]; have p5 := K4.out.2.2.1.below' hb' (Nat.lt_succ_self _); have z2 := p5.frozen 2; obtain ⟨c0, c1, c2⟩ := p5.t3; have p6 := p5.setAt 2 (.slice vo' L vc'); have o6 := hown'.off 2 (.slice vo' L vc') (Nat.lt_succ_self w1.heap.size); have b6 := below_set (K4.out.2.1.trans (hb'.mono (show w.heap.size ≤ w1.heap.size + 1 by have := B1.out.1.size; omega))) B1.out.1.size 2 (.slice vo' L vc'); obtain ⟨W6, hW6⟩ : ∃ W6, w5.setCell ⟨w1.heap.size, 2, none⟩ (.slice vo' L vc') = W6 := ⟨_, rfl⟩; rw [hW6] at p6 o6 b6; obtain ⟨m0, m1, m2⟩ := (show Blk W6 w1.heap.size #[.string ⟨x.t.name.toArray⟩, .int .i64 x.t.keys, .slice vo' L vc'] 24 from p6).t3; have K6 := Lib.hid (And.intro hL (And.intro o6 b6)); clear hown' hb' hcap p5 p6 o6 b6 hL; go_frame)
  go_wp2
  go_ret2
  have hL := K6.out.1
  subst hL
  refine ⟨TR.one ⟨⟨x.t.name, x.t.keys, x.t.cs ++ [(⟨cn, kd, false, ⟨k, n, b, s⟩⟩ : C)]⟩, vo', vc'⟩ rfl K6.out.2.2.size (K6.out.2.1.base (show w.heap.size ≤ w1.heap.size + 1 by have := B1.out.1.size; omega)) ?_, K6.out.2.2.alloc K6.out.2.2.size _⟩
  intro c hc
  rcases List.mem_append.1 hc with hc | hc
  · exact H.out.2.2.2.2.1.2.2 c hc
  · obtain rfl := List.mem_singleton.1 hc
    exact H.out.2.1

/-- A column more. -/
theorem add_is (tb : Nm.S) (col : C) (x : TV) (fo : Option Addr) (fc : Nat) (w : World) (hg : Env w) (ho : col.d.ok) (hs : SlV w fo [x]) (hx : At3 w x.t x.ao x.cap) (hl : x.t.cs.length ≤ 8) :
    Calls Tryz.prog 198 #[.agg #[.string ⟨tb.toArray⟩, .string ⟨col.name.toArray⟩, .int .i64 col.kind, .bool col.null, .int .i64 col.d.k, .int .i64 col.d.n, .int .u64 col.d.b, .string ⟨col.d.s.toArray⟩], .slice fo 1 fc] w fun e w' => TR w w' e (x.t.add col) ∧ Below w.heap.size w w' := by
  by_cases hE : col.ck = 0
  · have hfm : col.name ∈ x.t.cns ∨ col.name ∉ x.t.cns := Classical.em _
    obtain ⟨cn, kd, nu, ⟨k, n, b, s⟩⟩ := col
    rcases hfm with hm | hm
    · have e : x.t.add ⟨cn, kd, nu, ⟨k, n, b, s⟩⟩ = ([], 12) := by unfold T.add; rw [if_neg (by simpa using hE), if_pos hm]
      refine (add_twice tb cn kd nu k n b s x fo fc w hg ho hE hs hx hl _ rfl (by have := fi_mem hm; unfold T.cns at this; rw [this]; omega)).mono ?_
      rintro e1 w1 ⟨rfl, hb⟩
      exact ⟨TR.bad e (by decide), hb⟩
    · have hf : Nm.fi (x.t.cs.map C.name) cn = -1 := Nm.fi_none _ _ hm
      by_cases h8 : x.t.cs.length = 8
      · have e : x.t.add ⟨cn, kd, nu, ⟨k, n, b, s⟩⟩ = ([], 2) := by unfold T.add; rw [if_neg (by simpa using hE), if_neg hm, if_pos (by omega)]
        refine (add_full tb cn kd nu k n b s x fo fc w hg ho hE hs hx hl hf h8).mono ?_
        rintro e1 w1 ⟨rfl, hb⟩
        exact ⟨TR.bad e (by decide), hb⟩
      · have e : x.t.add ⟨cn, kd, nu, ⟨k, n, b, s⟩⟩ = if nu = false ∧ k = 0 then ([], 11) else ([⟨x.t.name, x.t.keys, x.t.cs ++ [⟨cn, kd, nu, ⟨k, n, b, s⟩⟩]⟩], 0) := by unfold T.add; rw [if_neg (by simpa using hE), if_neg hm, if_neg (by omega)]
        cases nu with
        | true =>
          rw [if_neg (by simp)] at e
          rw [e]
          exact add_okn tb cn kd k n b s x fo fc w hg ho hE hs hx hl hf h8
        | false =>
          by_cases hk : k = 0
          · subst hk
            rw [if_pos (by simp)] at e
            refine (add_null tb cn kd n b s x fo fc w hg ho hE hs hx hl hf h8).mono ?_
            rintro e1 w1 ⟨rfl, hb⟩
            exact ⟨TR.bad e (by decide), hb⟩
          · rw [if_neg (by simp [hk])] at e
            rw [e]
            exact add_okv tb cn kd k n b s x fo fc w hg ho hE hs hx hl hf h8 hk
  · have e : x.t.add col = ([], col.ck) := by unfold T.add; rw [if_pos hE]
    refine (add_bad tb col _ w hg ho _ rfl hE).mono ?_
    rintro e1 w1 ⟨rfl, hb⟩
    exact ⟨TR.bad e hE, hb⟩

end Go.Proofs.YtdonmbmahcjfbaaGreatDoor

namespace Go.Proofs.YtdonmbmahcjfbaaGreatDoor
open Go.RowKit

/-- An append within a row's own room, in a region that draws its order. -/
theorem step_append_fits {P : Program} {ops : Array Oper} {o : Oper} {a : Act} {w : World} {K : Act → World → Prop} {Q : Exit → Act → World → Prop} {E : Prop}
    (hg : o.guard = none) (s x : Operand) (t : TypeId) (hop : o.op = Op.call { callee := Callee.builtin Builtin.append, args := #[s, x], argTypes := #[t, t] })
    (base : Nat) (e : TypeId) (i : TypeInfo) (size : Nat) (h1 : P.underlying t = some (.slice e)) (h2 : P.info? e = some i) (h4 : i.size = size)
    (g k cap : Nat) (xs : List Value) (hs : a.eval s = .slice (some ⟨g, 0, none⟩) k cap) (hown : w.ownsRow base e size (.slice (some ⟨g, 0, none⟩) k cap) k xs) (ad : Addr) (m c : Nat) (news : List Value) (hx : a.eval x = .slice (some ad) m c) (hn : news.length = m * size)
    (hc : ∀ j u, news[j]? = some u → w.cell? (ad.add j) = some u) (h1c : ∀ u ∈ news, u.oneCell' = true) (b1 : k + m ≤ cap)
    (hK : ∀ w', w'.ownsRow base e size (.slice (some ⟨g, 0, none⟩) (k + m) cap) (k + m) (xs ++ news) → w.grownBy w' (some g) → K (a.put o.dst (.slice (some ⟨g, 0, none⟩) (k + m) cap)) w') :
    if Region.wanted o (yielded ops a.tmps) = true then Oper.wp P o a w K Q else E := by
  have hw : Region.wanted o (yielded ops a.tmps) = true := by simp [Region.wanted, hg]
  rw [if_pos hw]
  obtain ⟨w', hrun, r1, r2⟩ := run_append_fits (P := P) w base t o.type e i size h1 h2 h4 g k cap xs hown ad m c news hn hc h1c b1
  unfold Oper.wp
  simp [execOp, hop, resolve, invoke, builtin, hs, hx, hrun, Result.andThen]
  exact hK w' r1 r2

/-- A row's own room: its cells are there; a store there leaves the row. -/
theorem OwC.room {w : World} {b g n cap : Nat} {l : List C} (h : OwC w b (.slice (some ⟨g, 0, none⟩) n cap) l) (k : Nat) (hk : k < cap * 7) : (w.cell? ⟨g, k, none⟩).isSome = true := by
  rcases h.2 with ⟨h', _⟩ | ⟨g', cap', cur, h', _, hg, _, _, hcs, _⟩
  · simp at h'
  · simp only [Value.slice.injEq, Option.some.injEq, Addr.mk.injEq, and_true] at h'
    obtain ⟨rfl, _, rfl⟩ := h'
    rw [cell_of_row w g k cur _ _ hg, Array.getElem?_eq_getElem (by omega)]
    rfl
theorem OwC.spare {w : World} {b g n cap : Nat} {l : List C} (h : OwC w b (.slice (some ⟨g, 0, none⟩) n cap) l) (hn : n = l.length) (k : Nat) (hk : n * 7 ≤ k) (u : Value) : OwC (w.setCell ⟨g, k, none⟩ u) b (.slice (some ⟨g, 0, none⟩) n cap) l ∧ w.grownBy (w.setCell ⟨g, k, none⟩ u) (some g) := by
  subst hn
  have h1 := World.ownsRow.stored h k u
  rw [List.set_eq_of_length_le (by rw [ccs_len]; exact hk)] at h1
  exact h1
theorem grown_trans {a b c : World} {row : Option Nat} (h : a.grownBy b row) (k : b.grownBy c row) : a.grownBy c row :=
  ⟨k.os.trans h.os, k.tape.trans h.tape, k.output.trans h.output, Nat.le_trans h.size k.size, fun i hi hne => (k.block i (Nat.lt_of_lt_of_le hi h.size) hne).trans (h.block i hi hne)⟩
/-- A beginning of such a row. -/
theorem OwC.pre {w : World} {b g n cap : Nat} {A R : List C} (h : OwC w b (.slice (some ⟨g, 0, none⟩) n cap) (A ++ R)) : OwC w b (.slice (some ⟨g, 0, none⟩) A.length cap) A := by
  refine ⟨ccs_len A, ?_⟩
  rcases h.2 with ⟨h', _⟩ | ⟨g', cap', cur, h', hb, hg, h1, h2, h3, h4⟩
  · simp at h'
  · simp only [Value.slice.injEq, Option.some.injEq, Addr.mk.injEq, and_true] at h'
    obtain ⟨rfl, _, rfl⟩ := h'
    rw [List.length_append] at h1 h4
    refine .inr ⟨g, cap, cur, rfl, hb, hg, by omega, h2, h3, ?_⟩
    have : (cur.toList.take ((A.length + R.length) * 7)).take (A.length * 7) = (ccs (A ++ R)).take (A.length * 7) := by rw [h4]
    rw [List.take_take, Nat.min_eq_left (by omega), ccs_append, List.take_append_of_le_length (by rw [ccs_len]; exact Nat.le_refl _)] at this
    rw [this, List.take_of_length_le (by rw [ccs_len]; exact Nat.le_refl _)]

theorem zeroC (w : World) : (zeroValue 30).run Tryz.prog w = .ok (.agg #[.string ⟨#[]⟩, .int .i64 0, .bool false, .int .i64 0, .int .i64 0, .int .u64 0, .string ⟨#[]⟩]) w := by kernel_rfl
set_option linter.unusedSimpArgs false in
/-- 'clear' of one column. -/
theorem run_clear_col (w : World) (ty : TypeId) (g o c : Nat) (hc : ∀ j, j < 7 → (w.cell? ⟨g, o + j, none⟩).isSome = true) (hf : ∀ j, j < 7 → w.frozen? ⟨g, o + j, none⟩ = false) :
    (Builtin.clear_ #[22] ty #[.slice (some ⟨g, o, none⟩) 1 c]).run Tryz.prog w = .ok (.tuple #[]) (w.setCells g o [.string ⟨#[]⟩, .int .i64 0, .bool false, .int .i64 0, .int .i64 0, .int .u64 0, .string ⟨#[]⟩]) := by
  have hst := run_storeCells_cells (P := Tryz.prog) g o [.string ⟨#[]⟩, .int .i64 0, .bool false, .int .i64 0, .int .i64 0, .int .u64 0, .string ⟨#[]⟩] 0 w (by simpa using hc) (by simpa using hf) (by decide)
  simp only [Nat.add_zero] at hst
  have hzc : (Builtin.zeroCells (Value.agg #[.string ⟨#[]⟩, .int .i64 0, .bool false, .int .i64 0, .int .i64 0, .int .u64 0, .string ⟨#[]⟩]).cells 1).toList = [.string ⟨#[]⟩, .int .i64 0, .bool false, .int .i64 0, .int .i64 0, .int .u64 0, .string ⟨#[]⟩] := by
    simp [Builtin.zeroCells, Value.cells]
    rfl
  simp [Builtin.clear_, run_underlying Tryz.underlying22, zeroC, hzc, hst]

theorem OwC.wiped {w : World} {b g n cap : Nat} {l : List C} (h : OwC w b (.slice (some ⟨g, 0, none⟩) n cap) l) (hn : n = l.length) : OwC (w.setCells g (n * 7) [.string ⟨#[]⟩, .int .i64 0, .bool false, .int .i64 0, .int .i64 0, .int .u64 0, .string ⟨#[]⟩]) b (.slice (some ⟨g, 0, none⟩) n cap) l ∧ w.grownBy (w.setCells g (n * 7) [.string ⟨#[]⟩, .int .i64 0, .bool false, .int .i64 0, .int .i64 0, .int .u64 0, .string ⟨#[]⟩]) (some g) := by
  have h0 := h.spare hn (n * 7) (by omega) (.string ⟨#[]⟩)
  have h1 := h0.1.spare hn (n * 7 + 1) (by omega) (.int .i64 0)
  have h2 := h1.1.spare hn (n * 7 + 1 + 1) (by omega) (.bool false)
  have h3 := h2.1.spare hn (n * 7 + 1 + 1 + 1) (by omega) (.int .i64 0)
  have h4 := h3.1.spare hn (n * 7 + 1 + 1 + 1 + 1) (by omega) (.int .i64 0)
  have h5 := h4.1.spare hn (n * 7 + 1 + 1 + 1 + 1 + 1) (by omega) (.int .u64 0)
  have h6 := h5.1.spare hn (n * 7 + 1 + 1 + 1 + 1 + 1 + 1) (by omega) (.string ⟨#[]⟩)
  exact ⟨h6.1, grown_trans h0.2 (grown_trans h1.2 (grown_trans h2.2 (grown_trans h3.2 (grown_trans h4.2 (grown_trans h5.2 h6.2)))))⟩

set_option maxHeartbeats 4000000 in
set_option maxRecDepth 1000000 in
theorem delete_is (A R : List C) (c : C) (b g n cap : Nat) (w : World) (hn : n = A.length + R.length + 1) (hO : OwC w b (.slice (some ⟨g, 0, none⟩) n cap) (A ++ c :: R)) (hl : n ≤ 1000) :
    Calls Tryz.prog 202 #[.slice (some ⟨g, 0, none⟩) n cap, .int .i64 (A.length : Int), .int .i64 ((A.length : Int) + 1)] w fun e w' => e = .returned (.slice (some ⟨g, 0, none⟩) (A.length + R.length) cap) ∧ OwC w' b (.slice (some ⟨g, 0, none⟩) (A.length + R.length) cap) (A ++ R) ∧ w.grownBy w' (some g) := by
  have hmx : Tryz.prog.follows .mixedOrders = true := by kernel_rfl
  obtain ⟨i0, hi, hz0, hz1, hz2⟩ := info_parts Tryz.infoC
  have hcap : n ≤ cap := by
    obtain ⟨_, _, e, h1, _⟩ := hO.sl
    injection e with _ e2 e3
    rw [List.length_append, List.length_cons] at h1
    omega
  obtain ⟨k, hk⟩ : ∃ k, A.length = k := ⟨_, rfl⟩
  obtain ⟨m, hm⟩ : ∃ m, R.length = m := ⟨_, rfl⟩
  rw [hk, hm] at hn ⊢
  have e1 : ((k : Int) == (k : Int) + 1) = false := by rw [beq_eq_false_iff_ne]; omega
  have i0' : (0 : Int) ≤ (k : Int) := by omega
  have i1 : (k : Int) ≤ (k : Int) + 1 := by omega
  have i2 : (k : Int) + 1 ≤ (n : Int) := by omega
  have i3 : (n : Int) ≤ (cap : Int) := by omega
  have i4 : (0 : Int) ≤ (k : Int) + 1 := by omega
  have i5 : ((k : Int) + 1).toNat = k + 1 := by omega
  have i6 : (k : Int) ≤ (cap : Int) := by omega
  have hpre : w.drew.ownsRow b 30 7 (.slice (some ⟨g, 0, none⟩) k cap) k (ccs A) := by
    have := hO.pre
    unfold OwC at this
    rw [hk] at this
    exact this
  obtain ⟨AD, hA, hsrc⟩ : ∃ AD : Addr, (if cap = k + 1 then some (⟨g, 0, none⟩ : Addr) else some ⟨g, (k + 1) * 7, none⟩) = some AD ∧ (∀ t u, (ccs R)[t]? = some u → w.drew.cell? (AD.add t) = some u) := by
    by_cases h : cap = k + 1
    · refine ⟨⟨g, 0, none⟩, by simp [h], fun t u hu => ?_⟩
      have hm0 : R = [] := List.eq_nil_of_length_eq_zero (by omega)
      rw [hm0] at hu
      simp [ccs] at hu
    · refine ⟨⟨g, (k + 1) * 7, none⟩, by simp [h], fun t u hu => ?_⟩
      have h1 : (ccs (A ++ c :: R))[(k + 1) * 7 + t]? = some u := by
        have e : A ++ c :: R = (A ++ [c]) ++ R := by simp
        rw [e, ccs_append, List.getElem?_append_right (by rw [ccs_len]; simp; omega), ccs_len]
        have : (k + 1) * 7 + t - (A ++ [c]).length * 7 = t := by simp; omega
        rw [this]; exact hu
      have h2 := World.ownsRow.cells hO (g := g) rfl _ _ h1
      rw [add_none] at h2
      have e2 : (⟨g, (k + 1) * 7, none⟩ : Addr).add t = ⟨g, (k + 1) * 7 + t, none⟩ := by unfold Addr.add; split <;> simp_all
      rw [e2]
      exact h2
  have hnl : n - (k + 1) = m := by omega
  have hrl : (ccs R).length = m * 7 := by rw [ccs_len, hm]
  have H := Lib.hid (And.intro hO (And.intro hk (And.intro hm (And.intro hn (And.intro hl hcap)))))
  have S := Lib.hid (And.intro hpre (And.intro hsrc (And.intro hrl (ccs_one R))))
  clear hO hk hm hl hn hcap hpre hsrc hrl
  go_enter Tryz.func202, Tryz.ntmps202
  go_wp2_with fail
  go_region_law_o (refine step_append_fits rfl (.tmp 22) (.tmp 25) 22 rfl b 30 i0 7 Tryz.underlying22 hi hz1 g k cap (ccs A) (by simp [Act.eval, Act.put]) S.out.1 AD m (cap - (k + 1)) (ccs R) (by simp [Act.eval, Act.put]) S.out.2.2.1 S.out.2.1 S.out.2.2.2 (by have := H.out.2.2.2; omega) ?_; intro w1 hown hgrow)
  have hO1 : OwC w1 b (.slice (some ⟨g, 0, none⟩) (k + m) cap) (A ++ R) := by
    unfold OwC
    rw [List.length_append, ccs_append, H.out.2.1, H.out.2.2.1]
    exact hown
  have hkm : k + m = (A ++ R).length := by rw [List.length_append, H.out.2.1, H.out.2.2.1]
  have hw2 := hO1.wiped hkm
  have hcl : ∀ ty, (Builtin.clear_ #[22] ty #[.slice (some ⟨g, (k + m) * 7, none⟩) 1 (cap - (k + m))]).run Tryz.prog w1 = .ok (.tuple #[]) (w1.setCells g ((k + m) * 7) [.string ⟨#[]⟩, .int .i64 0, .bool false, .int .i64 0, .int .i64 0, .int .u64 0, .string ⟨#[]⟩]) :=
    fun ty => run_clear_col w1 ty g _ _ (fun j hj => hO1.room _ (by have := H.out.2.2.2; omega)) (fun j _ => World.ownsRow.frozenAt hown _)
  obtain ⟨W2, hW2⟩ : ∃ W2, w1.setCells g ((k + m) * 7) [.string ⟨#[]⟩, .int .i64 0, .bool false, .int .i64 0, .int .i64 0, .int .u64 0, .string ⟨#[]⟩] = W2 := ⟨_, rfl⟩
  rw [hW2] at hw2 hcl
  have j0 : (0 : Int) ≤ (k : Int) + (m : Int) := by omega
  have j1 : (k : Int) + (m : Int) ≤ (n : Int) := by have := H.out.2.2.2.1; omega
  have j2 : n - (k + m) = 1 := by have := H.out.2.2.2.1; omega
  have j3 : ¬ cap = k + m := by have := H.out.2.2.2; omega
  have j4 : ((k : Int) + (m : Int)).toNat = k + m := by omega
  have K := Lib.hid (And.intro hw2.1 (grown_trans hgrow hw2.2))
  clear hown hgrow hw2 hO1 hkm hW2
  go_wp2
  go_ret
  exact ⟨rfl, K.out.1, ⟨K.out.2.os, K.out.2.tape, K.out.2.output, K.out.2.size, K.out.2.block⟩⟩

end Go.Proofs.YtdonmbmahcjfbaaGreatDoor

namespace Go.Proofs.YtdonmbmahcjfbaaGreatDoor
open Go.RowKit

theorem grown_set (W : World) (B i : Nat) (u : Value) : W.grownBy (W.setCell ⟨B, i, none⟩ u) (some B) :=
  ⟨rfl, rfl, rfl, by simp [World.setCell], fun k _ hne => Below.heap_setCell W ⟨B, i, none⟩ u k (fun e => hne (by rw [e]))⟩
/-- A row of columns beside a store into a table's box. -/
theorem OwC.beside {w : World} {b B : Nat} {v : Value} {l : List C} {cs : Array Value} (h : OwC w b v l) (hB : Blk w B cs 24) (i : Nat) (u : Value) : OwC (w.setCell ⟨B, i, none⟩ u) b v l := by
  refine h.kept (grown_set w B i u) ?_
  intro g cur fz hg he
  obtain rfl := Option.some.inj hg
  have h1 : w.heap[B]? = _ := hB
  rw [h1] at he
  have := Option.some.inj he
  injection this with _ e _
  exact absurd e (by decide)
theorem OwC.slc {w : World} {b n cap : Nat} {ao : Option Addr} {l : List C} (h : OwC w b (.slice ao n cap) l) : SlC w ao l := by
  obtain ⟨_, _, e, _, hsl⟩ := h.sl
  injection e with e1 _ _
  rw [e1]
  exact hsl
/-- Such a row, opened where it holds a column. -/
theorem OwC.open {w : World} {b n cap : Nat} {ao : Option Addr} {l : List C} (h : OwC w b (.slice ao n cap) l) (hl : 0 < l.length) : ∃ g, ao = some ⟨g, 0, none⟩ ∧ b ≤ g ∧ g < w.heap.size := by
  rcases h.2 with ⟨h', e⟩ | ⟨g, cap', cur, h', hb, hg, _⟩
  · have := h.1; rw [ccs_len] at this; omega
  · injection h' with e1 _ _
    exact ⟨g, e1, hb, (Array.getElem?_eq_some_iff.1 hg).1⟩

set_option maxHeartbeats 4000000 in
theorem drop_bad (tb nm : Nm.S) (x : TV) (K : Nat) (hK : x.t.keys = (K : Int)) (fo : Option Addr) (fc : Nat) (w : World) (hs : SlV w fo [x]) (hx : At3 w x.t x.ao x.cap) (hl : x.t.cs.length ≤ 8) (hf : Nm.fi (x.t.cs.map C.name) nm < (K : Int)) :
    Calls Tryz.prog 200 #[.agg #[.string ⟨tb.toArray⟩, .string ⟨nm.toArray⟩], .slice fo 1 fc] w fun e w' => e = .returned (.tuple #[.slice none 0 0, .int .i64 10]) ∧ Below w.heap.size w w' := by
  obtain ⟨a, rfl, _⟩ := hs 0 x rfl
  obtain ⟨⟨xn, xk, xc⟩, ao, cap⟩ := x
  simp only at hK hx hl hf
  subst hK
  obtain ⟨y0, y1, y2⟩ := (hs.below (below1 w (.cells #[.string ⟨tb.toArray⟩, .string ⟨nm.toArray⟩] 107))).first
  simp only at y0 y1 y2
  have H := Lib.hid (And.intro hx (And.intro hl hf))
  clear hs hx hl hf
  go_enter Tryz.func200, Tryz.ntmps200
  go_wp2_with fail
  refine (copied_is xn (K : Int) xc ao cap _ (H.out.1.1.below (below1 _ _)) (by have := H.out.2.1; omega)).mono ?_
  rintro e w1 ⟨vo, vc, rfl, hO, hb⟩
  have q0 := (Blk.new w #[.string ⟨tb.toArray⟩, .string ⟨nm.toArray⟩] 107).below hb
  have c1 := (q0.alloc (.cells #[.string ⟨xn.toArray⟩, .int .i64 (K : Int), .slice vo xc.length vc] 24)).cell 1
  simp at c1
  have B1 := Lib.hid (And.intro (step1 (Below.refl _ w) hb) hO)
  clear hb hO q0 y0 y1 y2
  go_wp2_with fail
  refine (behind_is xn K xc nm vo vc _ (B1.out.2.keep (below1 _ _)).slc (by have := H.out.2.1; omega) (-1) (by rw [if_pos H.out.2.2])).mono ?_
  rintro e w2 ⟨rfl, hb⟩
  have B2 := Lib.hid (step1 B1.out.1 hb)
  clear hb
  go_wp2
  go_ret2
  exact ⟨rfl, B2.out⟩

set_option maxHeartbeats 4000000 in
theorem drop_ok (tb nm : Nm.S) (x : TV) (K : Nat) (hK : x.t.keys = (K : Int)) (fo : Option Addr) (fc : Nat) (w : World) (hs : SlV w fo [x]) (hx : At3 w x.t x.ao x.cap) (hl : x.t.cs.length ≤ 8) (I : Nat) (hf : Nm.fi (x.t.cs.map C.name) nm = (I : Int)) (hKI : K ≤ I) (hI : I < x.t.cs.length) :
    Calls Tryz.prog 200 #[.agg #[.string ⟨tb.toArray⟩, .string ⟨nm.toArray⟩], .slice fo 1 fc] w fun e w' => TR w w' e ([⟨x.t.name, x.t.keys, x.t.cs.eraseIdx I⟩], 0) ∧ Below w.heap.size w w' := by
  obtain ⟨a, rfl, _⟩ := hs 0 x rfl
  obtain ⟨⟨xn, xk, xc⟩, ao, cap⟩ := x
  simp only at hK hx hl hf hI ⊢
  subst hK
  obtain ⟨y0, y1, y2⟩ := (hs.below (below1 w (.cells #[.string ⟨tb.toArray⟩, .string ⟨nm.toArray⟩] 107))).first
  simp only at y0 y1 y2
  obtain ⟨A, c, R, hA, hcs, her⟩ : ∃ A c R, A.length = I ∧ xc = A ++ c :: R ∧ xc.eraseIdx I = A ++ R := by
    refine ⟨xc.take I, xc[I], xc.drop (I + 1), by simp; omega, ?_, ?_⟩
    · rw [List.getElem_cons_drop, List.take_append_drop]
    · exact List.eraseIdx_eq_take_drop_succ ..
  have hlen : xc.length = A.length + R.length + 1 := by rw [hcs, List.length_append, List.length_cons]; omega
  have hw : wrap64 ((A.length : Int) + 1) = (A.length : Int) + 1 := wrap_in _ (by omega) (by omega)
  have d0 : decide ((A.length : Int) < 0) = false := by rw [decide_eq_false_iff_not]; omega
  have H := Lib.hid (And.intro hx (And.intro hl (And.intro hf (And.intro hKI (And.intro hA (And.intro hcs (And.intro her hlen)))))))
  clear hs hx hl hf hKI hI hA hcs her hlen
  go_enter Tryz.func200, Tryz.ntmps200
  go_wp2_with fail
  refine (copied_is xn (K : Int) xc ao cap _ (H.out.1.1.below (below1 _ _)) (by have := H.out.2.1; omega)).mono ?_
  rintro e w1 ⟨vo, vc, rfl, hO, hb⟩
  obtain ⟨g, rfl, hbg, hg1⟩ := hO.open (by have := H.out.2.2.2.2.2.2.2; omega)
  have q0 := (Blk.new w #[.string ⟨tb.toArray⟩, .string ⟨nm.toArray⟩] 107).below hb
  have c1 := (q0.alloc (.cells #[.string ⟨xn.toArray⟩, .int .i64 (K : Int), .slice (some ⟨g, 0, none⟩) xc.length vc] 24)).cell 1
  simp at c1
  have B1 := Lib.hid (And.intro (step1 (Below.refl _ w) hb) (And.intro hO (And.intro (show w.heap.size ≤ g from by simp at hbg; omega) hg1)))
  clear hb hO q0 y0 y1 y2 hbg hg1
  go_wp2_with fail
  refine (behind_is xn K xc nm (some ⟨g, 0, none⟩) vc _ (B1.out.2.1.keep (below1 _ _)).slc (by have := H.out.2.1; omega) (A.length : Int) (by rw [H.out.2.2.1, H.out.2.2.2.2.1, if_neg (by have := H.out.2.2.2.1; omega)])).mono ?_
  rintro e w2 ⟨rfl, hb⟩
  have q1 := (Blk.new w1 #[.string ⟨xn.toArray⟩, .int .i64 (K : Int), .slice (some ⟨g, 0, none⟩) xc.length vc] 24).below hb
  obtain ⟨t0, t1, t2⟩ := q1.t3
  have B2 := Lib.hid (And.intro (step1 B1.out.1 hb) (And.intro ((B1.out.2.1.keep (below1 _ _)).keep hb) q1))
  clear hb q1
  go_wp2_with fail
  refine (delete_is A R c (w.heap.size + 1 + 2) g xc.length vc _ H.out.2.2.2.2.2.2.2 (by have := B2.out.2.1; rw [← H.out.2.2.2.2.2.1]; simpa using this) (by have := H.out.2.1; omega)).mono ?_
  rintro e w3 ⟨rfl, hO, hgr⟩
  have p1 := B2.out.2.2.kept hgr (fun e => by have := Option.some.inj e; have := B1.out.2.2.2; omega)
  have z2 := p1.frozen 2
  obtain ⟨r0, r1, r2⟩ := p1.t3
  have hB3 := B2.out.1.grown hgr B2.out.1.size (fun k hk => by have := Option.some.inj hk; have := B1.out.2.2.1; omega)
  have p2 := p1.setAt 2 (.slice (some ⟨g, 0, none⟩) (A.length + R.length) vc)
  have o2 := hO.beside p1 2 (.slice (some ⟨g, 0, none⟩) (A.length + R.length) vc)
  have b2 := below_set hB3 (show w.heap.size ≤ w1.heap.size from B1.out.1.size) 2 (.slice (some ⟨g, 0, none⟩) (A.length + R.length) vc)
  obtain ⟨W4, hW4⟩ : ∃ W4, w3.setCell ⟨w1.heap.size, 2, none⟩ (.slice (some ⟨g, 0, none⟩) (A.length + R.length) vc) = W4 := ⟨_, rfl⟩
  rw [hW4] at p2 o2 b2
  obtain ⟨m0, m1, m2⟩ := (show Blk W4 w1.heap.size #[.string ⟨xn.toArray⟩, .int .i64 (K : Int), .slice (some ⟨g, 0, none⟩) (A.length + R.length) vc] 24 from p2).t3
  have K4 := Lib.hid (And.intro o2 b2)
  clear hO hgr p1 p2 o2 b2 hB3
  go_wp2
  go_ret2
  have hl : A.length + R.length = (A ++ R).length := by rw [List.length_append]
  have ko := K4.out.1
  rw [hl] at ko ⊢
  rw [H.out.2.2.2.2.2.2.1]
  refine ⟨TR.one ⟨⟨xn, K, A ++ R⟩, some ⟨g, 0, none⟩, vc⟩ rfl K4.out.2.size (ko.base (by omega)) ?_, K4.out.2.alloc K4.out.2.size _⟩
  intro d hd
  refine H.out.1.2.2 d ?_
  show d ∈ xc
  rw [H.out.2.2.2.2.2.1]
  rcases List.mem_append.1 hd with h | h
  · exact List.mem_append.2 (.inl h)
  · exact List.mem_append.2 (.inr (List.mem_cons_of_mem _ h))

/-- A column less. -/
theorem drop_is (tb nm : Nm.S) (x : TV) (hk : 0 ≤ x.t.keys) (fo : Option Addr) (fc : Nat) (w : World) (hs : SlV w fo [x]) (hx : At3 w x.t x.ao x.cap) (hl : x.t.cs.length ≤ 8) :
    Calls Tryz.prog 200 #[.agg #[.string ⟨tb.toArray⟩, .string ⟨nm.toArray⟩], .slice fo 1 fc] w fun e w' => TR w w' e (x.t.drp nm) ∧ Below w.heap.size w w' := by
  obtain ⟨K, hK⟩ : ∃ K : Nat, x.t.keys = (K : Int) := ⟨x.t.keys.toNat, by omega⟩
  by_cases hf : Nm.fi (x.t.cs.map C.name) nm < (K : Int)
  · have e : x.t.drp nm = ([], 10) := by unfold T.drp T.cns; rw [if_pos (by rw [hK]; exact hf)]
    refine (drop_bad tb nm x K hK fo fc w hs hx hl hf).mono ?_
    rintro e1 w1 ⟨rfl, hb⟩
    exact ⟨TR.bad e (by decide), hb⟩
  · obtain ⟨I, hI⟩ : ∃ I : Nat, Nm.fi (x.t.cs.map C.name) nm = (I : Int) := ⟨(Nm.fi (x.t.cs.map C.name) nm).toNat, by omega⟩
    have hlt := fi_lt (x.t.cs.map C.name) nm
    rw [hI, List.length_map] at hlt
    have e : x.t.drp nm = ([⟨x.t.name, x.t.keys, x.t.cs.eraseIdx I⟩], 0) := by
      unfold T.drp T.cns
      rw [if_neg (by rw [hK]; exact hf), hI]
      rfl
    rw [e]
    exact drop_ok tb nm x K hK fo fc w hs hx hl I hI (by omega) (by omega)

end Go.Proofs.YtdonmbmahcjfbaaGreatDoor

namespace Go.Proofs.YtdonmbmahcjfbaaGreatDoor
open Go.RowKit

theorem own_keep {w w' : World} {b n : Nat} {v : Value} {l : List Value} (h : w.ownsRow b 30 7 v n l) (hb : Below w.heap.size w w') : w'.ownsRow b 30 7 v n l := by
  refine ⟨h.1, ?_⟩
  rcases h.2 with hn | ⟨g, cap, cur, hv, hbg, hg, rest⟩
  · exact .inl hn
  · exact .inr ⟨g, cap, cur, hv, hbg, (hb.block g (Array.getElem?_eq_some_iff.1 hg).1).trans hg, rest⟩
theorem World.ownsRow_base {w : World} {b b' n : Nat} {v : Value} {l : List C} (h : w.ownsRow b 30 7 v n (ccs l)) (hb : b' ≤ b) (hn : n = l.length := by rfl) : OwC w b' v l := by
  subst hn
  exact OwC.base h hb
theorem set_self {l : List Value} {i : Nat} {u : Value} (h : l[i]? = some u) : l.set i u = l := by
  apply List.ext_getElem?
  intro j
  rw [List.getElem?_set]
  split
  · rename_i e
    subst e
    split
    · exact h.symm
    · rename_i g; rw [List.getElem?_eq_none (by omega)] at h; cases h
  · rfl
/-- Five cells of a column turned. -/
theorem ccs_five (cs : List C) (I : Nat) (c : C) (hI : cs[I]? = some c) (ty : Int) (v : V) :
    ((((((ccs cs).set (I * 7 + 1) (.int .i64 ty)).set (I * 7 + 3) (.int .i64 v.k)).set (I * 7 + 4) (.int .i64 v.n)).set (I * 7 + 5) (.int .u64 v.b)).set (I * 7 + 6) (.string ⟨v.s.toArray⟩)) = ccs (cs.set I ⟨c.name, ty, c.null, v⟩) := by
  have hl : I < cs.length := (List.getElem?_eq_some_iff.1 hI).1
  have h := ccs_set cs I ⟨c.name, ty, c.null, v⟩ hl
  simp only at h
  have e0 : (ccs cs).set (I * 7) (.string ⟨c.name.toArray⟩) = ccs cs := set_self (by have := ccs_at cs I c 0 hI (by decide); rw [Nat.add_zero] at this; rw [this]; rfl)
  rw [e0] at h
  have e2 : ((ccs cs).set (I * 7 + 1) (.int .i64 ty)).set (I * 7 + 2) (.bool c.null) = (ccs cs).set (I * 7 + 1) (.int .i64 ty) := set_self (by rw [List.getElem?_set_ne (by omega), ccs_at cs I c 2 hI (by decide)]; rfl)
  rw [e2] at h
  exact h
theorem Blk.c3 {W : World} {B : Nat} {u0 u1 u2 : Value} {t : TypeId} (h : Blk W B #[u0, u1, u2] t) : W.cell? ⟨B, 1, none⟩ = some u1 ∧ W.cell? ⟨B, 2, none⟩ = some u2 := ⟨h.cell 1, h.cell 2⟩

set_option maxHeartbeats 4000000 in
theorem retype_bad (tb nm : Nm.S) (ty : Int) (x : TV) (K : Nat) (hK : x.t.keys = (K : Int)) (fo : Option Addr) (fc : Nat) (w : World) (hs : SlV w fo [x]) (hx : At3 w x.t x.ao x.cap) (hl : x.t.cs.length ≤ 8) (hf : Nm.fi (x.t.cs.map C.name) nm < (K : Int)) :
    Calls Tryz.prog 203 #[.agg #[.string ⟨tb.toArray⟩, .string ⟨nm.toArray⟩, .int .i64 ty], .slice fo 1 fc] w fun e w' => e = .returned (.tuple #[.slice none 0 0, .int .i64 10]) ∧ Below w.heap.size w w' := by
  obtain ⟨a, rfl, _⟩ := hs 0 x rfl
  obtain ⟨⟨xn, xk, xc⟩, ao, cap⟩ := x
  simp only at hK hx hl hf
  subst hK
  obtain ⟨y0, y1, y2⟩ := (hs.below (below1 w (.cells #[.string ⟨tb.toArray⟩, .string ⟨nm.toArray⟩, .int .i64 ty] 109))).first
  simp only at y0 y1 y2
  have H := Lib.hid (And.intro hx (And.intro hl hf))
  clear hs hx hl hf
  go_enter Tryz.func203, Tryz.ntmps203
  go_wp2_with fail
  refine (copied_is xn (K : Int) xc ao cap _ (H.out.1.1.below (below1 _ _)) (by have := H.out.2.1; omega)).mono ?_
  rintro e w1 ⟨vo, vc, rfl, hO, hb⟩
  have q0 := (Blk.new w #[.string ⟨tb.toArray⟩, .string ⟨nm.toArray⟩, .int .i64 ty] 109).below hb
  obtain ⟨c1, _⟩ := (q0.alloc (.cells #[.string ⟨xn.toArray⟩, .int .i64 (K : Int), .slice vo xc.length vc] 24)).c3
  have B1 := Lib.hid (And.intro (step1 (Below.refl _ w) hb) hO)
  clear hb hO q0 y0 y1 y2
  go_wp2_with fail
  refine (behind_is xn K xc nm vo vc _ (B1.out.2.keep (below1 _ _)).slc (by have := H.out.2.1; omega) (-1) (by rw [if_pos H.out.2.2])).mono ?_
  rintro e w2 ⟨rfl, hb⟩
  have B2 := Lib.hid (step1 B1.out.1 hb)
  clear hb
  go_wp2
  go_ret2
  exact ⟨rfl, B2.out⟩

set_option maxHeartbeats 8000000 in
theorem retype_go (tb nm : Nm.S) (ty : Int) (x : TV) (K : Nat) (hK : x.t.keys = (K : Int)) (fo : Option Addr) (fc : Nat) (w : World) (hs : SlV w fo [x]) (hx : At3 w x.t x.ao x.cap) (hl : x.t.cs.length ≤ 8) (I : Nat) (hf : Nm.fi (x.t.cs.map C.name) nm = (I : Int)) (hKI : K ≤ I) (c : C) (hI : x.t.cs[I]? = some c) (r : Bool)
    (hCan : ∀ W, Calls Tryz.prog 204 #[.int .i64 c.kind, .int .i64 ty] W fun e w' => e = .returned (.bool r) ∧ Below W.heap.size W w')
    (Pv : V → Prop) (hPv : ∀ v, Pv v → v.ok)
    (hTo : ∀ W, Below w.heap.size w W → Calls Tryz.prog 51 #[.agg #[.int .i64 c.d.k, .int .i64 c.d.n, .int .u64 c.d.b, .string ⟨c.d.s.toArray⟩], .int .i64 ty] W fun e w' => ∃ (v : V) (E : Int), Pv v ∧ e = .returned (.tuple #[.agg #[.int .i64 v.k, .int .i64 v.n, .int .u64 v.b, .string ⟨v.s.toArray⟩], .int .i64 E]) ∧ Below W.heap.size W w') :
    Calls Tryz.prog 203 #[.agg #[.string ⟨tb.toArray⟩, .string ⟨nm.toArray⟩, .int .i64 ty], .slice fo 1 fc] w fun e w' => ((r = false ∧ e = .returned (.tuple #[.slice none 0 0, .int .i64 5])) ∨ (r = true ∧ ∃ v, Pv v ∧ TR w w' e ([⟨x.t.name, x.t.keys, x.t.cs.set I ⟨c.name, ty, c.null, v⟩⟩], 0))) ∧ Below w.heap.size w w' := by
  have hmx : Tryz.prog.follows .mixedOrders = true := by kernel_rfl
  obtain ⟨a, rfl, _⟩ := hs 0 x rfl
  obtain ⟨⟨xn, xk, xc⟩, ao, cap⟩ := x
  simp only at hK hx hl hf hI ⊢
  subst hK
  have hIl : I < xc.length := (List.getElem?_eq_some_iff.1 hI).1
  obtain ⟨y0, y1, y2⟩ := (hs.below (below1 w (.cells #[.string ⟨tb.toArray⟩, .string ⟨nm.toArray⟩, .int .i64 ty] 109))).first
  simp only at y0 y1 y2
  have d0 : decide ((I : Int) < 0) = false := by rw [decide_eq_false_iff_not]; omega
  have i0 : (0 : Int) ≤ (I : Int) := by omega
  have i1 : (I : Int) < (xc.length : Int) := by omega
  have H := Lib.hid (And.intro hx (And.intro hl (And.intro hf (And.intro hKI (And.intro hI (And.intro hIl (And.intro hCan (And.intro hPv hTo))))))))
  clear hs hx hl hf hKI hI hIl hCan hPv hTo
  go_enter Tryz.func203, Tryz.ntmps203
  go_wp2_with fail
  refine (copied_is xn (K : Int) xc ao cap _ (H.out.1.1.below (below1 _ _)) (by have := H.out.2.1; omega)).mono ?_
  rintro e w1 ⟨vo, vc, rfl, hO, hb⟩
  obtain ⟨g, rfl, hbg, hg1⟩ := hO.open (by have := H.out.2.2.2.2.2.1; omega)
  have q0 := (Blk.new w #[.string ⟨tb.toArray⟩, .string ⟨nm.toArray⟩, .int .i64 ty] 109).below hb
  obtain ⟨c1, _⟩ := (q0.alloc (.cells #[.string ⟨xn.toArray⟩, .int .i64 (K : Int), .slice (some ⟨g, 0, none⟩) xc.length vc] 24)).c3
  have B1 := Lib.hid (And.intro (step1 (Below.refl _ w) hb) (And.intro hO (And.intro (show w.heap.size + 1 ≤ g from by simp at hbg; omega) (And.intro hg1 q0))))
  clear hb hO q0 y0 y1 y2 hbg hg1
  go_wp2_with fail
  refine (behind_is xn K xc nm (some ⟨g, 0, none⟩) vc _ (B1.out.2.1.keep (below1 _ _)).slc (by have := H.out.2.1; omega) (I : Int) (by rw [H.out.2.2.1, if_neg (by have := H.out.2.2.2.1; omega)])).mono ?_
  rintro e w2 ⟨rfl, hb⟩
  have q1 := (Blk.new w1 #[.string ⟨xn.toArray⟩, .int .i64 (K : Int), .slice (some ⟨g, 0, none⟩) xc.length vc] 24).below hb
  have q0 := (B1.out.2.2.2.2.alloc (.cells #[.string ⟨xn.toArray⟩, .int .i64 (K : Int), .slice (some ⟨g, 0, none⟩) xc.length vc] 24)).below hb
  have hO2 := (B1.out.2.1.keep (below1 _ _)).keep hb
  obtain ⟨t0, t1, t2⟩ := q1.t3
  obtain ⟨_, s2⟩ := q0.c3
  obtain ⟨n0, n1, n2, n3, n4, n5, n6⟩ := hO2.at I c H.out.2.2.2.2.1
  have B2 := Lib.hid (And.intro (step1 B1.out.1 hb) (And.intro hO2 (And.intro q1 q0)))
  clear hb q1 q0 hO2 c1
  go_wp2
  go_region_held3 (fun v => Below w2.heap.size w2 v ∧ v.cell? ⟨g, I * 7 + 1, none⟩ = some (.int .i64 c.kind) ∧ v.cell? ⟨w.heap.size, 2, none⟩ = some (.int .i64 ty))
    (first | exact ⟨(Below.refl _ _).drew, keep0 n1 (Below.refl _ _).drew, keep0 s2 (Below.refl _ _).drew⟩ | exact ⟨step0 ‹Below w2.heap.size w2 _ ∧ _›.1 hb, keep0 n1 (step0 ‹Below w2.heap.size w2 _ ∧ _›.1 hb), keep0 s2 (step0 ‹Below w2.heap.size w2 _ ∧ _›.1 hb)⟩)
    (first | (go_at_call 204; refine (H.out.2.2.2.2.2.2.1 _).mono ?_; rintro e w3 ⟨rfl, hb⟩))
  have B3 := Lib.hid (show Below w2.heap.size w2 w3 from ‹Below w2.heap.size w2 w3 ∧ _›.1)
  cases r with
  | false =>
    go_wp2
    go_ret2
    first | exact ⟨rfl, step0 B2.out.1 B3.out⟩ | exact ⟨.inl ⟨rfl, rfl⟩, step0 B2.out.1 B3.out⟩
  | true =>
    have hO3 := B2.out.2.1.keep B3.out
    have q1 := B2.out.2.2.1.below B3.out
    have q0 := B2.out.2.2.2.below B3.out
    have m1 := keep0 n1 B3.out
    have f1 : w3.frozen? ⟨g, I * 7 + 1, none⟩ = false := World.ownsRow.frozenAt hO3 _
    obtain ⟨_, s3⟩ := q0.c3
    have own4 := World.ownsRow.stored hO3 (I * 7 + 1) (.int .i64 ty)
    have hgB : w1.heap.size ≠ g := by have := B1.out.2.2.2.1; omega
    have hgC : w.heap.size ≠ g := by have := B1.out.2.2.1; omega
    have r1 := q1.otherAt hgB (I * 7 + 1) (.int .i64 ty)
    have r0 := q0.otherAt hgC (I * 7 + 1) (.int .i64 ty)
    have hB4 := below_set (step0 B2.out.1 B3.out) (show w.heap.size ≤ g by have := B1.out.2.2.1; omega) (I * 7 + 1) (.int .i64 ty)
    obtain ⟨W4, hW4⟩ : ∃ W4, w3.setCell ⟨g, I * 7 + 1, none⟩ (.int .i64 ty) = W4 := ⟨_, rfl⟩
    rw [hW4] at own4 r1 r0 hB4
    have ce : ∀ j u, 2 ≤ j → j < 7 → c.cells[j]? = some u → W4.cell? ⟨g, I * 7 + j, none⟩ = some u := fun j u h2 h7 hu => by
      have := World.ownsRow.cells own4.1 (g := g) rfl (I * 7 + j) u (by rw [List.getElem?_set_ne (by omega), ccs_at xc I c j H.out.2.2.2.2.1 h7]; exact hu)
      rwa [add_none] at this
    have e3 := ce 3 _ (by decide) (by decide) rfl
    have e4 := ce 4 _ (by decide) (by decide) rfl
    have e5 := ce 5 _ (by decide) (by decide) rfl
    have e6 := ce 6 _ (by decide) (by decide) rfl
    obtain ⟨_, s4⟩ := r0.c3
    have K4 := Lib.hid (And.intro own4.1 (And.intro r1 hB4))
    clear own4 r1 r0 hB4 ce hO3 q1 q0 n0 n1 n2 n3 n4 n5 n6
    go_wp2
    go_region_with (first | (go_at_call 51; refine (H.out.2.2.2.2.2.2.2.2 _ (below_drew1 K4.out.2.2)).mono ?_; rintro e w5 ⟨tv, E, hP, rfl, hb⟩; have own5 := own_keep (World.ownsRow.drew K4.out.1) hb; have k5 := World.ownsRow.frozenAt own5; have y3 := k5 (I * 7 + 3); have y4 := k5 (I * 7 + 4); have y5 := k5 (I * 7 + 5); have y6 := k5 (I * 7 + 6); have z3 := keep0 (a := W4.drew) e3 hb; have z4 := keep0 (a := W4.drew) e4 hb; have z5 := keep0 (a := W4.drew) e5 hb; have z6 := keep0 (a := W4.drew) e6 hb; have K5 := Lib.hid (And.intro hP (And.intro own5 (And.intro (Blk.below (show Blk W4.drew _ _ _ from K4.out.2.1) hb) (step0 (below_drew1 K4.out.2.2) hb)))); clear hP own5 k5 hb))
    all_goals
      have o3 := World.ownsRow.stored K5.out.2.1 (I * 7 + 3) (.int .i64 tv.k)
      have o4 := World.ownsRow.stored o3.1 (I * 7 + 4) (.int .i64 tv.n)
      have o5 := World.ownsRow.stored o4.1 (I * 7 + 5) (.int .u64 tv.b)
      have o6 := (World.ownsRow.stored o5.1 (I * 7 + 6) (.string ⟨tv.s.toArray⟩)).1
      have p6 := (((K5.out.2.2.1.otherAt hgB (I * 7 + 3) (.int .i64 tv.k)).otherAt hgB (I * 7 + 4) (.int .i64 tv.n)).otherAt hgB (I * 7 + 5) (.int .u64 tv.b)).otherAt hgB (I * 7 + 6) (.string ⟨tv.s.toArray⟩)
      have hgw : w.heap.size ≤ g := by have := B1.out.2.2.1; omega
      have b6 := below_set (below_set (below_set (below_set K5.out.2.2.2 hgw (I * 7 + 3) (.int .i64 tv.k)) hgw (I * 7 + 4) (.int .i64 tv.n)) hgw (I * 7 + 5) (.int .u64 tv.b)) hgw (I * 7 + 6) (.string ⟨tv.s.toArray⟩)
      obtain ⟨W6, hW6⟩ : ∃ W6, (((w5.setCell ⟨g, I * 7 + 3, none⟩ (.int .i64 tv.k)).setCell ⟨g, I * 7 + 4, none⟩ (.int .i64 tv.n)).setCell ⟨g, I * 7 + 5, none⟩ (.int .u64 tv.b)).setCell ⟨g, I * 7 + 6, none⟩ (.string ⟨tv.s.toArray⟩) = W6 := ⟨_, rfl⟩
      rw [hW6] at o6 p6 b6
      rw [ccs_five xc I c H.out.2.2.2.2.1 ty tv] at o6
      obtain ⟨v0, v1, v2⟩ := p6.t3
      have K6 := Lib.hid (And.intro o6 b6)
      clear o3 o4 o5 o6 p6 b6
      go_wp2
      go_ret2
      have hle : xc.length = (xc.set I ⟨c.name, ty, c.null, tv⟩).length := by rw [List.length_set]
      have ko := K6.out.1
      rw [hle] at ko ⊢
      have tr : TR w _ (.returned (.tuple #[.slice (some ⟨W6.heap.size, 0, none⟩) 1 1, .int .i64 0])) ([⟨xn, (K : Int), xc.set I ⟨c.name, ty, c.null, tv⟩⟩], 0) :=
        TR.one ⟨⟨xn, K, xc.set I ⟨c.name, ty, c.null, tv⟩⟩, some ⟨g, 0, none⟩, vc⟩ rfl K6.out.2.size (World.ownsRow_base ko (by simp; omega)) (fun d hd => by
          rcases List.mem_or_eq_of_mem_set hd with h | h
          · exact H.out.1.2.2 d h
          · rw [h]; exact H.out.2.2.2.2.2.2.2.1 tv K5.out.1)
      first | exact ⟨⟨tv, K5.out.1, tr⟩, K6.out.2.alloc K6.out.2.size _⟩ | exact ⟨.inr ⟨rfl, tv, K5.out.1, tr⟩, K6.out.2.alloc K6.out.2.size _⟩

/-- A column of another kind. -/
theorem retype_is (tb nm : Nm.S) (ty : Int) (x : TV) (hk : 0 ≤ x.t.keys) (fo : Option Addr) (fc : Nat) (w : World) (hs : SlV w fo [x]) (hx : At3 w x.t x.ao x.cap) (hl : x.t.cs.length ≤ 8)
    (hCan : ∀ (k : Int) (W : World), Calls Tryz.prog 204 #[.int .i64 k, .int .i64 ty] W fun e w' => e = .returned (.bool (Km.Cv.can k ty)) ∧ Below W.heap.size W w')
    (Pv : V → Prop) (hPv : ∀ v, Pv v → v.ok) (hP0 : ∃ v, Pv v)
    (hTo : ∀ W, Below w.heap.size w W → Calls Tryz.prog 51 #[.agg #[.int .i64 (x.t.col nm).d.k, .int .i64 (x.t.col nm).d.n, .int .u64 (x.t.col nm).d.b, .string ⟨(x.t.col nm).d.s.toArray⟩], .int .i64 ty] W fun e w' => ∃ (v : V) (E : Int), Pv v ∧ e = .returned (.tuple #[.agg #[.int .i64 v.k, .int .i64 v.n, .int .u64 v.b, .string ⟨v.s.toArray⟩], .int .i64 E]) ∧ Below W.heap.size W w') :
    Calls Tryz.prog 203 #[.agg #[.string ⟨tb.toArray⟩, .string ⟨nm.toArray⟩, .int .i64 ty], .slice fo 1 fc] w fun e w' => (∃ v, Pv v ∧ TR w w' e (x.t.ret nm ty v)) ∧ Below w.heap.size w w' := by
  obtain ⟨K, hK⟩ : ∃ K : Nat, x.t.keys = (K : Int) := ⟨x.t.keys.toNat, by omega⟩
  obtain ⟨v0, hv0⟩ := hP0
  by_cases hf : Nm.fi (x.t.cs.map C.name) nm < (K : Int)
  · have e : x.t.ret nm ty v0 = ([], 10) := by unfold T.ret T.cns; rw [if_pos (by rw [hK]; exact hf)]
    refine (retype_bad tb nm ty x K hK fo fc w hs hx hl hf).mono ?_
    rintro e1 w1 ⟨rfl, hb⟩
    exact ⟨⟨v0, hv0, TR.bad e (by decide)⟩, hb⟩
  · obtain ⟨I, hI⟩ : ∃ I : Nat, Nm.fi (x.t.cs.map C.name) nm = (I : Int) := ⟨(Nm.fi (x.t.cs.map C.name) nm).toNat, by omega⟩
    have hlt := fi_lt (x.t.cs.map C.name) nm
    rw [hI, List.length_map] at hlt
    have hlt' : I < x.t.cs.length := by omega
    have hcol : x.t.cs[I]? = some (x.t.col nm) := by
      unfold T.col T.cns
      rw [hI, Int.toNat_natCast, List.getElem?_eq_getElem hlt']
      rfl
    have e : ∀ v, x.t.ret nm ty v = if Km.Cv.can (x.t.col nm).kind ty = false then ([], 5) else ([⟨x.t.name, x.t.keys, x.t.cs.set I ((x.t.col nm).re ty v)⟩], 0) := by
      intro v
      unfold T.ret T.cns
      rw [if_neg (by rw [hK]; exact hf), hI, Int.toNat_natCast]
    refine (retype_go tb nm ty x K hK fo fc w hs hx hl I hI (by omega) (x.t.col nm) hcol _ (hCan _) Pv hPv hTo).mono ?_
    rintro e1 w1 ⟨h | ⟨hr, v, hv, htr⟩, hb⟩
    · obtain ⟨hr, rfl⟩ := h
      exact ⟨⟨v0, hv0, TR.bad (by rw [e, if_pos hr]) (by decide)⟩, hb⟩
    · refine ⟨⟨v, hv, ?_⟩, hb⟩
      rw [e, if_neg (by simp [hr])]
      exact htr

end Go.Proofs.YtdonmbmahcjfbaaGreatDoor

namespace Go.Proofs.YtdonmbmahcjfbaaGreatDoor
open Go.RowKit
set_option linter.unusedVariables false

theorem TR.base {w W w' : World} {e : Ending} {r : List T × Int} (h : TR W w' e r) (hb : w.heap.size ≤ W.heap.size) : TR w w' e r := by
  rcases h with h | ⟨h0, v, xs, h1, h2, h3, h4⟩
  · exact .inl h
  · exact .inr ⟨h0, v, xs, h1, h2.base hb, h3, h4.base hb⟩
theorem OwT.len {w : World} {b : Nat} {v : Value} {xs : List TV} (h : OwT w b v xs) : (xs.length : Int) ≤ 9223372036854775807 := by
  rcases h.2 with ⟨_, hn⟩ | ⟨_, _, _, _, _, _, h1, h2, _⟩
  · omega
  · unfold maxLen at h2; omega
/-- With the question whether a target's name is there. -/
def fin (l : List T) (g : List Nm.S) (r : List T × Int) : List T × Int := if r.2 ≠ 0 then ([], r.2) else if twice l g r.1 = true then ([], 12) else r
theorem twice_stop {l : List T} {g : List Nm.S} {to' : List T} {j : Nat} (hj : j < to'.length) (h : to'[j].name ∈ nms (lft l g)) : twice l g to' = true := by
  unfold twice
  rw [List.any_eq_true]
  exact ⟨to'[j], List.getElem_mem hj, by simpa using h⟩
theorem twice_none {l : List T} {g : List Nm.S} {to' : List T} (h : ∀ t ∈ to', t.name ∉ nms (lft l g)) : twice l g to' = false := by
  unfold twice
  rw [List.any_eq_false]
  intro t ht; simpa using h t ht

set_option maxHeartbeats 2000000 in
theorem targets_bad (K : Int) (tb ot to al nm : Nm.S) (ty : Int) (no : Option Addr) (nn nc : Nat) (col : C) (df : T) (dO : Option Addr) (dc : Nat) (w : World) (xs : List TV) (ao : Option Addr) (cap : Nat) (hg : Env w) (h : SlV w ao xs) (hf : Fit w xs) (hl : xs.length ≤ 1000) (E : Int) (hE : cka (tvs xs) = E) (hE0 : ¬ E = 0) :
    Calls Tryz.prog 18 #[.slice ao xs.length cap, .agg #[.int .i64 K, .string ⟨tb.toArray⟩, .string ⟨ot.toArray⟩, .string ⟨to.toArray⟩, .string ⟨al.toArray⟩, .string ⟨nm.toArray⟩, .int .i64 ty, .slice no nn nc, .string ⟨col.name.toArray⟩, .int .i64 col.kind, .bool col.null, .int .i64 col.d.k, .int .i64 col.d.n, .int .u64 col.d.b, .string ⟨col.d.s.toArray⟩, .string ⟨df.name.toArray⟩, .int .i64 df.keys, .slice dO df.cs.length dc]] w fun e w' => e = .returned (.tuple #[.slice none 0 0, .int .i64 E]) ∧ Below w.heap.size w w' := by
  have e0 := bne_t hE0
  have H := Lib.hid (And.intro hg (And.intro h (And.intro hf (And.intro hl hE))))
  clear hg h hf hl hE
  go_enter Tryz.func18, Tryz.ntmps18
  go_wp2_with fail
  refine (checkAll_is xs ao cap _ (H.out.1.keep (below1 _ _)) (H.out.2.1.below (below1 _ _)) (H.out.2.2.1.below (below1 _ _)) H.out.2.2.2.1 E H.out.2.2.2.2).mono ?_
  rintro e w1 ⟨rfl, hb⟩
  have B := Lib.hid (step1 (Below.refl _ w) hb)
  clear hb
  go_wp2
  go_ret2
  exact ⟨rfl, B.out⟩

set_option maxHeartbeats 2000000 in
theorem targets_0 (K : Int) (tb ot to al nm : Nm.S) (ty : Int) (no : Option Addr) (nn nc : Nat) (col : C) (df : T) (dO : Option Addr) (dc : Nat) (w : World) (xs : List TV) (ao : Option Addr) (cap : Nat) (hg : Env w) (h : SlV w ao xs) (hf : Fit w xs) (hl : xs.length ≤ 1000) (hE : cka (tvs xs) = 0) (h1 : (K == 1) = false) (h2 : (K == 2) = false) (h3 : (K == 3) = false) (h4 : (K == 4) = false) (h5 : (K == 5) = false) (h6 : (K == 6) = false) :
    Calls Tryz.prog 18 #[.slice ao xs.length cap, .agg #[.int .i64 K, .string ⟨tb.toArray⟩, .string ⟨ot.toArray⟩, .string ⟨to.toArray⟩, .string ⟨al.toArray⟩, .string ⟨nm.toArray⟩, .int .i64 ty, .slice no nn nc, .string ⟨col.name.toArray⟩, .int .i64 col.kind, .bool col.null, .int .i64 col.d.k, .int .i64 col.d.n, .int .u64 col.d.b, .string ⟨col.d.s.toArray⟩, .string ⟨df.name.toArray⟩, .int .i64 df.keys, .slice dO df.cs.length dc]] w fun e w' => e = .returned (.tuple #[.slice none 0 0, .int .i64 1]) ∧ Below w.heap.size w w' := by
  have H := Lib.hid (And.intro hg (And.intro h (And.intro hf (And.intro hl hE))))
  clear hg h hf hl hE
  go_enter Tryz.func18, Tryz.ntmps18
  go_wp2_with fail
  refine (checkAll_is xs ao cap _ (H.out.1.keep (below1 _ _)) (H.out.2.1.below (below1 _ _)) (H.out.2.2.1.below (below1 _ _)) H.out.2.2.2.1 0 H.out.2.2.2.2).mono ?_
  rintro e w1 ⟨rfl, hb⟩
  have q := (Blk.new w #[.int .i64 K, .string ⟨tb.toArray⟩, .string ⟨ot.toArray⟩, .string ⟨to.toArray⟩, .string ⟨al.toArray⟩, .string ⟨nm.toArray⟩, .int .i64 ty, .slice no nn nc, .string ⟨col.name.toArray⟩, .int .i64 col.kind, .bool col.null, .int .i64 col.d.k, .int .i64 col.d.n, .int .u64 col.d.b, .string ⟨col.d.s.toArray⟩, .string ⟨df.name.toArray⟩, .int .i64 df.keys, .slice dO df.cs.length dc] 32).below hb
  have B := Lib.hid (And.intro (step1 (Below.refl _ w) hb) q)
  clear hb q
  go_wp2_with ((refine (?_ : wpList _ _ _ (Oper.mk _ (Op.load 32 _) _ _ _ _ :: _) _ _)); refine wpList_load_mid rfl 32 _ rfl w.heap.size 0 rfl [.int .i64 K, .string ⟨tb.toArray⟩, .string ⟨ot.toArray⟩, .string ⟨to.toArray⟩, .string ⟨al.toArray⟩, .string ⟨nm.toArray⟩, .int .i64 ty, .slice no nn nc, .string ⟨col.name.toArray⟩, .int .i64 col.kind, .bool col.null, .int .i64 col.d.k, .int .i64 col.d.n, .int .u64 col.d.b, .string ⟨col.d.s.toArray⟩, .string ⟨df.name.toArray⟩, .int .i64 df.keys, .slice dO df.cs.length dc] _ (rng (B.out.2)) Tryz.underlying32 rfl infoCh ?_; go_frame)
  refine (changer_0 K tb ot to al nm ty no nn nc col df dO dc _ h1 h2 h3 h4 h5 h6).mono ?_
  rintro e w2 ⟨rfl, hb⟩
  have B2 := Lib.hid (step0 B.out.1 hb)
  clear hb
  go_wp2
  go_ret2
  exact ⟨rfl, B2.out⟩

theorem mg_create (x0 x1 x2 : Value) (w : World) : (Go.method 385 101 (.agg #[x0, x1, x2]) "transom/change.targets").run Tryz.prog w = .ok (194, .agg #[x0, x1, x2]) w := by kernel_rfl

set_option maxHeartbeats 8000000 in
theorem targets_1 (tb ot to al nm : Nm.S) (ty : Int) (no : Option Addr) (nn nc : Nat) (col : C) (df : T) (dO : Option Addr) (dc : Nat) (w : World) (xs : List TV) (ao : Option Addr) (cap : Nat) (hg : Env w) (h : SlV w ao xs) (hf : Fit w xs) (hl : xs.length ≤ 1000) (hE : cka (tvs xs) = 0) (hla : lack (tvs xs) [] = false) (Pr : List T × Int → Prop)
    (hcal : ∀ (W : World) (fo : Option Addr) (fc : Nat), Below w.heap.size w W → SlV W fo ([].map (tvat xs)) → Calls Tryz.prog 194 #[.agg #[.string ⟨df.name.toArray⟩, .int .i64 df.keys, .slice dO df.cs.length dc], .slice fo 0 fc] W fun e w' => (∃ r, Pr r ∧ TR W w' e r) ∧ Below W.heap.size W w') :
    Calls Tryz.prog 18 #[.slice ao xs.length cap, .agg #[.int .i64 1, .string ⟨tb.toArray⟩, .string ⟨ot.toArray⟩, .string ⟨to.toArray⟩, .string ⟨al.toArray⟩, .string ⟨nm.toArray⟩, .int .i64 ty, .slice no nn nc, .string ⟨col.name.toArray⟩, .int .i64 col.kind, .bool col.null, .int .i64 col.d.k, .int .i64 col.d.n, .int .u64 col.d.b, .string ⟨col.d.s.toArray⟩, .string ⟨df.name.toArray⟩, .int .i64 df.keys, .slice dO df.cs.length dc]] w fun e w' => (∃ r, Pr r ∧ TR w w' e (fin (tvs xs) [] r)) ∧ Below w.heap.size w w' := by
  have HC := Lib.hid hcal
  clear hcal
  have k1 := mg_create
  have H := Lib.hid (And.intro hg (And.intro h (And.intro hf (And.intro hl hE))))
  clear hg h hf hl hE
  go_enter Tryz.func18, Tryz.ntmps18
  go_wp2_with fail
  refine (checkAll_is xs ao cap _ (H.out.1.keep (below1 _ _)) (H.out.2.1.below (below1 _ _)) (H.out.2.2.1.below (below1 _ _)) H.out.2.2.2.1 0 H.out.2.2.2.2).mono ?_
  rintro e w1 ⟨rfl, hb⟩
  have q := (Blk.new w #[.int .i64 1, .string ⟨tb.toArray⟩, .string ⟨ot.toArray⟩, .string ⟨to.toArray⟩, .string ⟨al.toArray⟩, .string ⟨nm.toArray⟩, .int .i64 ty, .slice no nn nc, .string ⟨col.name.toArray⟩, .int .i64 col.kind, .bool col.null, .int .i64 col.d.k, .int .i64 col.d.n, .int .u64 col.d.b, .string ⟨col.d.s.toArray⟩, .string ⟨df.name.toArray⟩, .int .i64 df.keys, .slice dO df.cs.length dc] 32).below hb
  have B := Lib.hid (And.intro (step1 (Below.refl _ w) hb) q)
  clear hb q
  go_wp2_with ((refine (?_ : wpList _ _ _ (Oper.mk _ (Op.load 32 _) _ _ _ _ :: _) _ _)); refine wpList_load_mid rfl 32 _ rfl w.heap.size 0 rfl [.int .i64 1, .string ⟨tb.toArray⟩, .string ⟨ot.toArray⟩, .string ⟨to.toArray⟩, .string ⟨al.toArray⟩, .string ⟨nm.toArray⟩, .int .i64 ty, .slice no nn nc, .string ⟨col.name.toArray⟩, .int .i64 col.kind, .bool col.null, .int .i64 col.d.k, .int .i64 col.d.n, .int .u64 col.d.b, .string ⟨col.d.s.toArray⟩, .string ⟨df.name.toArray⟩, .int .i64 df.keys, .slice dO df.cs.length dc] _ (rng (B.out.2)) Tryz.underlying32 rfl infoCh ?_; go_frame)
  refine (changer_1 tb ot to al nm ty no nn nc col df dO dc _).mono ?_
  rintro e w2 ⟨rfl, hb⟩
  have B2 := Lib.hid (step0 B.out.1 hb)
  clear hb
  go_wp2_with fail
  refine (taken_1 tb ot to al nm ty no nn nc col df dO dc _).mono ?_
  rintro e w3 ⟨v, rfl, hO, hb⟩
  obtain ⟨bo, bc, rfl, hS⟩ := hO.sl
  have B3 := Lib.hid (And.intro (step0 B2.out hb) hS)
  clear hb hO hS
  go_wp2_with fail
  refine (ofNames_is xs [] _ _ ao bo cap bc _ rfl rfl (H.out.2.1.below B3.out.1) B3.out.2 H.out.2.2.2.1 (by simp)).mono ?_
  rintro e w4 ⟨⟨h1, _⟩ | ⟨_, v4, rfl, hO4⟩, hb⟩
  · rw [hla] at h1; cases h1
  · obtain ⟨fo, fc, rfl, _, hS4⟩ := hO4.sl
    have B4 := Lib.hid (And.intro (step0 B3.out.1 hb) (And.intro hS4 (B3.out.2.below hb)))
    clear hb hO4 hS4 hla
    go_wp2_with fail
    refine (HC.out _ fo fc B4.out.1 B4.out.2.1).mono ?_
    rintro e w5 ⟨⟨r, hPr, ⟨hr, rfl⟩ | ⟨hr, v5, ys, rfl, hO5, hy5, hf5⟩⟩, hb⟩
    · have e0 := bne_t hr
      obtain ⟨l5, E5⟩ := r
      simp only at hr e0
      have B5 := Lib.hid (And.intro (step0 B4.out.1 hb) hPr)
      clear hb hPr
      go_wp2
      go_ret2
      exact ⟨⟨_, B5.out.2, TR.bad (by unfold fin; rw [if_pos hr]) hr⟩, B5.out.1⟩
    · obtain ⟨vo, vc, rfl, _, hS5⟩ := hO5.sl
      have B5 := Lib.hid (And.intro (step0 B4.out.1 hb) (And.intro hPr (And.intro hr (And.intro (hO5.base B4.out.1.size) (And.intro hy5 (And.intro (hf5.base B4.out.1.size) (And.intro hS5 (B4.out.2.2.below hb))))))))
      clear hb hPr hr hO5 hy5 hf5 hS5
      go_wp2_with fail
      refine (cwithout_is xs [] _ _ ao bo cap bc _ rfl rfl (H.out.2.1.below B5.out.1) B5.out.2.2.2.2.2.2.2 H.out.2.2.2.1 (by simp)).mono ?_
      rintro e w6 ⟨v6, rfl, hO6, hb⟩
      obtain ⟨lo, lc, rfl, _, hS6⟩ := hO6.sl
      have B6 := Lib.hid (And.intro (step0 B5.out.1 hb) (And.intro (B5.out.2.2.2.1.keep hb) (And.intro (B5.out.2.2.2.2.2.1.keep hb) (And.intro (B5.out.2.2.2.2.2.2.1.below hb) hS6))))
      clear hb hO6 hS6
      go_wp2
      go_loopw [49] (fun i wr => ∃ j : Nat, i = .int .i64 j ∧ j ≤ ys.length ∧ Below w6.heap.size w6 wr ∧ ∀ t ∈ (tvs ys).take j, t.name ∉ nms (lft (tvs xs) [])) (fun i _ => ys.length - (intOf i).toNat)
      case atStart => exact ⟨0, rfl, Nat.zero_le _, Below.refl _ _, by simp⟩
      case round =>
        obtain ⟨j, rfl, hj, hb, hn⟩ := hrel
        have J := Lib.hid (And.intro hb hn)
        clear hb hn
        by_cases hlt : j < ys.length
        · obtain ⟨a, rfl, y0, y1, y2⟩ := B6.out.2.2.2.1.below J.out.1 j ys[j] (List.getElem?_eq_getElem hlt)
          have hw : wrap64 ((j : Int) + 1) = (j : Int) + 1 := by have := B5.out.2.2.2.1.len; exact wrap_in _ (by omega) (by omega)
          obtain ⟨F, hF⟩ : ∃ F, Nm.fi (nms (tvs (lftv xs []))) ys[j].t.name = F := ⟨_, rfl⟩
          by_cases hin : ys[j].t.name ∈ nms (lft (tvs xs) [])
          · have d0 : decide (0 ≤ F) = true := by rw [decide_eq_true_iff, ← hF, lftv_tvs, fi_mem hin]; omega
            have X := Lib.hid (And.intro hF (twice_stop (l := tvs xs) (g := []) (to' := tvs ys) (j := j) (by rw [tvs_len]; exact hlt) (by rw [tvs_at hlt]; exact hin)))
            clear hF hin
            go_wp2_with fail
            refine (cfind_is (lftv xs []) ys[j].t.name lo lc _ F ((B6.out.2.2.2.2.below J.out.1).below (below1 _ _)) (Nat.le_trans (List.length_filter_le _ _) H.out.2.2.2.1) X.out.1).mono ?_
            rintro e w7 ⟨rfl, hb⟩
            have B7 := Lib.hid (step1 (step0 B6.out.1 J.out.1) hb)
            clear hb
            go_wp2
            go_ret2
            refine ⟨⟨r, B5.out.2.1, TR.bad ?_ (by decide)⟩, B7.out⟩
            unfold fin
            rw [if_neg (by simpa using B5.out.2.2.1), if_pos (by rw [← B5.out.2.2.2.2.1]; exact X.out.2)]
          · have d0 : decide (0 ≤ F) = false := by rw [decide_eq_false_iff_not, ← hF, lftv_tvs, Nm.fi_none _ _ hin]; omega
            have X := Lib.hid (And.intro hF hin)
            clear hF hin
            go_wp2_with fail
            refine (cfind_is (lftv xs []) ys[j].t.name lo lc _ F ((B6.out.2.2.2.2.below J.out.1).below (below1 _ _)) (Nat.le_trans (List.length_filter_le _ _) H.out.2.2.2.1) X.out.1).mono ?_
            rintro e w7 ⟨rfl, hb⟩
            have B7 := Lib.hid (step1 J.out.1 hb)
            clear hb
            go_wp2
            go_roundw
            case rel => exact ⟨j + 1, by go_num, hlt, B7.out, ttake_all (l := tvs ys) (p := fun t => t.name ∉ nms (lft (tvs xs) [])) (by rw [tvs_len]; exact hlt) J.out.2 (by rw [tvs_at hlt]; exact X.out.2)⟩
            case measure => rw [hw]; simp [intOf]; omega
        · obtain rfl : j = ys.length := by omega
          have hall := J.out.2
          rw [← tvs_len ys, List.take_length] at hall
          have HA := Lib.hid (twice_none hall)
          clear hall
          go_wp2
          go_ret2
          refine ⟨⟨r, B5.out.2.1, ?_⟩, step0 B6.out.1 J.out.1⟩
          have e : fin (tvs xs) [] r = r := by
            unfold fin
            rw [if_neg (by simpa using B5.out.2.2.1), if_neg (by rw [← B5.out.2.2.2.2.1]; simp [HA.out])]
          rw [e]
          exact .inr ⟨B5.out.2.2.1, _, ys, rfl, B6.out.2.1.keep J.out.1, B5.out.2.2.2.2.1, B6.out.2.2.1.keep J.out.1⟩

theorem mg_add (x0 x1 x2 x3 x4 x5 x6 x7 : Value) (w : World) : (Go.method 385 105 (.agg #[x0, x1, x2, x3, x4, x5, x6, x7]) "transom/change.targets").run Tryz.prog w = .ok (198, .agg #[x0, x1, x2, x3, x4, x5, x6, x7]) w := by kernel_rfl

set_option maxHeartbeats 4000000 in
theorem targets_lack2 (tb ot to al nm : Nm.S) (ty : Int) (no : Option Addr) (nn nc : Nat) (col : C) (df : T) (dO : Option Addr) (dc : Nat) (w : World) (xs : List TV) (ao : Option Addr) (cap : Nat) (hg : Env w) (h : SlV w ao xs) (hf : Fit w xs) (hl : xs.length ≤ 1000) (hE : cka (tvs xs) = 0) (hla : lack (tvs xs) [tb] = true) :
    Calls Tryz.prog 18 #[.slice ao xs.length cap, .agg #[.int .i64 2, .string ⟨tb.toArray⟩, .string ⟨ot.toArray⟩, .string ⟨to.toArray⟩, .string ⟨al.toArray⟩, .string ⟨nm.toArray⟩, .int .i64 ty, .slice no nn nc, .string ⟨col.name.toArray⟩, .int .i64 col.kind, .bool col.null, .int .i64 col.d.k, .int .i64 col.d.n, .int .u64 col.d.b, .string ⟨col.d.s.toArray⟩, .string ⟨df.name.toArray⟩, .int .i64 df.keys, .slice dO df.cs.length dc]] w fun e w' => e = .returned (.tuple #[.slice none 0 0, .int .i64 9]) ∧ Below w.heap.size w w' := by
  have k1 := mg_add
  have H := Lib.hid (And.intro hg (And.intro h (And.intro hf (And.intro hl hE))))
  clear hg h hf hl hE
  go_enter Tryz.func18, Tryz.ntmps18
  go_wp2_with fail
  refine (checkAll_is xs ao cap _ (H.out.1.keep (below1 _ _)) (H.out.2.1.below (below1 _ _)) (H.out.2.2.1.below (below1 _ _)) H.out.2.2.2.1 0 H.out.2.2.2.2).mono ?_
  rintro e w1 ⟨rfl, hb⟩
  have q := (Blk.new w #[.int .i64 2, .string ⟨tb.toArray⟩, .string ⟨ot.toArray⟩, .string ⟨to.toArray⟩, .string ⟨al.toArray⟩, .string ⟨nm.toArray⟩, .int .i64 ty, .slice no nn nc, .string ⟨col.name.toArray⟩, .int .i64 col.kind, .bool col.null, .int .i64 col.d.k, .int .i64 col.d.n, .int .u64 col.d.b, .string ⟨col.d.s.toArray⟩, .string ⟨df.name.toArray⟩, .int .i64 df.keys, .slice dO df.cs.length dc] 32).below hb
  have B := Lib.hid (And.intro (step1 (Below.refl _ w) hb) q)
  clear hb q
  go_wp2_with ((refine (?_ : wpList _ _ _ (Oper.mk _ (Op.load 32 _) _ _ _ _ :: _) _ _)); refine wpList_load_mid rfl 32 _ rfl w.heap.size 0 rfl [.int .i64 2, .string ⟨tb.toArray⟩, .string ⟨ot.toArray⟩, .string ⟨to.toArray⟩, .string ⟨al.toArray⟩, .string ⟨nm.toArray⟩, .int .i64 ty, .slice no nn nc, .string ⟨col.name.toArray⟩, .int .i64 col.kind, .bool col.null, .int .i64 col.d.k, .int .i64 col.d.n, .int .u64 col.d.b, .string ⟨col.d.s.toArray⟩, .string ⟨df.name.toArray⟩, .int .i64 df.keys, .slice dO df.cs.length dc] _ (rng (B.out.2)) Tryz.underlying32 rfl infoCh ?_; go_frame)
  refine (changer_2 tb ot to al nm ty no nn nc col df dO dc _).mono ?_
  rintro e w2 ⟨rfl, hb⟩
  have B2 := Lib.hid (step0 B.out.1 hb)
  clear hb
  go_wp2_with fail
  refine (taken_2 tb ot to al nm ty no nn nc col df dO dc _).mono ?_
  rintro e w3 ⟨v, rfl, hO, hb⟩
  obtain ⟨bo, bc, rfl, hS⟩ := hO.sl
  have B3 := Lib.hid (And.intro (step0 B2.out hb) hS)
  clear hb hO hS
  go_wp2_with fail
  refine (ofNames_is xs [tb] _ _ ao bo cap bc _ rfl rfl (H.out.2.1.below B3.out.1) B3.out.2 H.out.2.2.2.1 (by simp)).mono ?_
  rintro e w4 ⟨⟨_, rfl⟩ | ⟨h1, _⟩, hb⟩
  · have B4 := Lib.hid (step0 B3.out.1 hb)
    clear hb
    go_wp2
    go_ret2
    exact ⟨rfl, B4.out⟩
  · rw [hla] at h1; cases h1

set_option maxHeartbeats 8000000 in
theorem targets_2 (tb ot to al nm : Nm.S) (ty : Int) (no : Option Addr) (nn nc : Nat) (col : C) (df : T) (dO : Option Addr) (dc : Nat) (w : World) (xs : List TV) (ao : Option Addr) (cap : Nat) (hg : Env w) (h : SlV w ao xs) (hf : Fit w xs) (hl : xs.length ≤ 1000) (hE : cka (tvs xs) = 0) (hla : lack (tvs xs) [tb] = false) (Pr : List T × Int → Prop)
    (hcal : ∀ (W : World) (fo : Option Addr) (fc : Nat), Below w.heap.size w W → SlV W fo ([tb].map (tvat xs)) → Calls Tryz.prog 198 #[.agg #[.string ⟨tb.toArray⟩, .string ⟨col.name.toArray⟩, .int .i64 col.kind, .bool col.null, .int .i64 col.d.k, .int .i64 col.d.n, .int .u64 col.d.b, .string ⟨col.d.s.toArray⟩], .slice fo 1 fc] W fun e w' => (∃ r, Pr r ∧ TR W w' e r) ∧ Below W.heap.size W w') :
    Calls Tryz.prog 18 #[.slice ao xs.length cap, .agg #[.int .i64 2, .string ⟨tb.toArray⟩, .string ⟨ot.toArray⟩, .string ⟨to.toArray⟩, .string ⟨al.toArray⟩, .string ⟨nm.toArray⟩, .int .i64 ty, .slice no nn nc, .string ⟨col.name.toArray⟩, .int .i64 col.kind, .bool col.null, .int .i64 col.d.k, .int .i64 col.d.n, .int .u64 col.d.b, .string ⟨col.d.s.toArray⟩, .string ⟨df.name.toArray⟩, .int .i64 df.keys, .slice dO df.cs.length dc]] w fun e w' => (∃ r, Pr r ∧ TR w w' e (fin (tvs xs) [tb] r)) ∧ Below w.heap.size w w' := by
  have HC := Lib.hid hcal
  clear hcal
  have k1 := mg_add
  have H := Lib.hid (And.intro hg (And.intro h (And.intro hf (And.intro hl hE))))
  clear hg h hf hl hE
  go_enter Tryz.func18, Tryz.ntmps18
  go_wp2_with fail
  refine (checkAll_is xs ao cap _ (H.out.1.keep (below1 _ _)) (H.out.2.1.below (below1 _ _)) (H.out.2.2.1.below (below1 _ _)) H.out.2.2.2.1 0 H.out.2.2.2.2).mono ?_
  rintro e w1 ⟨rfl, hb⟩
  have q := (Blk.new w #[.int .i64 2, .string ⟨tb.toArray⟩, .string ⟨ot.toArray⟩, .string ⟨to.toArray⟩, .string ⟨al.toArray⟩, .string ⟨nm.toArray⟩, .int .i64 ty, .slice no nn nc, .string ⟨col.name.toArray⟩, .int .i64 col.kind, .bool col.null, .int .i64 col.d.k, .int .i64 col.d.n, .int .u64 col.d.b, .string ⟨col.d.s.toArray⟩, .string ⟨df.name.toArray⟩, .int .i64 df.keys, .slice dO df.cs.length dc] 32).below hb
  have B := Lib.hid (And.intro (step1 (Below.refl _ w) hb) q)
  clear hb q
  go_wp2_with ((refine (?_ : wpList _ _ _ (Oper.mk _ (Op.load 32 _) _ _ _ _ :: _) _ _)); refine wpList_load_mid rfl 32 _ rfl w.heap.size 0 rfl [.int .i64 2, .string ⟨tb.toArray⟩, .string ⟨ot.toArray⟩, .string ⟨to.toArray⟩, .string ⟨al.toArray⟩, .string ⟨nm.toArray⟩, .int .i64 ty, .slice no nn nc, .string ⟨col.name.toArray⟩, .int .i64 col.kind, .bool col.null, .int .i64 col.d.k, .int .i64 col.d.n, .int .u64 col.d.b, .string ⟨col.d.s.toArray⟩, .string ⟨df.name.toArray⟩, .int .i64 df.keys, .slice dO df.cs.length dc] _ (rng (B.out.2)) Tryz.underlying32 rfl infoCh ?_; go_frame)
  refine (changer_2 tb ot to al nm ty no nn nc col df dO dc _).mono ?_
  rintro e w2 ⟨rfl, hb⟩
  have B2 := Lib.hid (step0 B.out.1 hb)
  clear hb
  go_wp2_with fail
  refine (taken_2 tb ot to al nm ty no nn nc col df dO dc _).mono ?_
  rintro e w3 ⟨v, rfl, hO, hb⟩
  obtain ⟨bo, bc, rfl, hS⟩ := hO.sl
  have B3 := Lib.hid (And.intro (step0 B2.out hb) hS)
  clear hb hO hS
  go_wp2_with fail
  refine (ofNames_is xs [tb] _ _ ao bo cap bc _ rfl rfl (H.out.2.1.below B3.out.1) B3.out.2 H.out.2.2.2.1 (by simp)).mono ?_
  rintro e w4 ⟨⟨h1, _⟩ | ⟨_, v4, rfl, hO4⟩, hb⟩
  · rw [hla] at h1; cases h1
  · obtain ⟨fo, fc, rfl, _, hS4⟩ := hO4.sl
    have B4 := Lib.hid (And.intro (step0 B3.out.1 hb) (And.intro hS4 (B3.out.2.below hb)))
    clear hb hO4 hS4 hla
    go_wp2_with fail
    refine (HC.out _ fo fc B4.out.1 B4.out.2.1).mono ?_
    rintro e w5 ⟨⟨r, hPr, ⟨hr, rfl⟩ | ⟨hr, v5, ys, rfl, hO5, hy5, hf5⟩⟩, hb⟩
    · have e0 := bne_t hr
      obtain ⟨l5, E5⟩ := r
      simp only at hr e0
      have B5 := Lib.hid (And.intro (step0 B4.out.1 hb) hPr)
      clear hb hPr
      go_wp2
      go_ret2
      exact ⟨⟨_, B5.out.2, TR.bad (by unfold fin; rw [if_pos hr]) hr⟩, B5.out.1⟩
    · obtain ⟨vo, vc, rfl, _, hS5⟩ := hO5.sl
      have B5 := Lib.hid (And.intro (step0 B4.out.1 hb) (And.intro hPr (And.intro hr (And.intro (hO5.base B4.out.1.size) (And.intro hy5 (And.intro (hf5.base B4.out.1.size) (And.intro hS5 (B4.out.2.2.below hb))))))))
      clear hb hPr hr hO5 hy5 hf5 hS5
      go_wp2_with fail
      refine (cwithout_is xs [tb] _ _ ao bo cap bc _ rfl rfl (H.out.2.1.below B5.out.1) B5.out.2.2.2.2.2.2.2 H.out.2.2.2.1 (by simp)).mono ?_
      rintro e w6 ⟨v6, rfl, hO6, hb⟩
      obtain ⟨lo, lc, rfl, _, hS6⟩ := hO6.sl
      have B6 := Lib.hid (And.intro (step0 B5.out.1 hb) (And.intro (B5.out.2.2.2.1.keep hb) (And.intro (B5.out.2.2.2.2.2.1.keep hb) (And.intro (B5.out.2.2.2.2.2.2.1.below hb) hS6))))
      clear hb hO6 hS6
      go_wp2
      go_loopw [49] (fun i wr => ∃ j : Nat, i = .int .i64 j ∧ j ≤ ys.length ∧ Below w6.heap.size w6 wr ∧ ∀ t ∈ (tvs ys).take j, t.name ∉ nms (lft (tvs xs) [tb])) (fun i _ => ys.length - (intOf i).toNat)
      case atStart => exact ⟨0, rfl, Nat.zero_le _, Below.refl _ _, by simp⟩
      case round =>
        obtain ⟨j, rfl, hj, hb, hn⟩ := hrel
        have J := Lib.hid (And.intro hb hn)
        clear hb hn
        by_cases hlt : j < ys.length
        · obtain ⟨a, rfl, y0, y1, y2⟩ := B6.out.2.2.2.1.below J.out.1 j ys[j] (List.getElem?_eq_getElem hlt)
          have hw : wrap64 ((j : Int) + 1) = (j : Int) + 1 := by have := B5.out.2.2.2.1.len; exact wrap_in _ (by omega) (by omega)
          obtain ⟨F, hF⟩ : ∃ F, Nm.fi (nms (tvs (lftv xs [tb]))) ys[j].t.name = F := ⟨_, rfl⟩
          by_cases hin : ys[j].t.name ∈ nms (lft (tvs xs) [tb])
          · have d0 : decide (0 ≤ F) = true := by rw [decide_eq_true_iff, ← hF, lftv_tvs, fi_mem hin]; omega
            have X := Lib.hid (And.intro hF (twice_stop (l := tvs xs) (g := [tb]) (to' := tvs ys) (j := j) (by rw [tvs_len]; exact hlt) (by rw [tvs_at hlt]; exact hin)))
            clear hF hin
            go_wp2_with fail
            refine (cfind_is (lftv xs [tb]) ys[j].t.name lo lc _ F ((B6.out.2.2.2.2.below J.out.1).below (below1 _ _)) (Nat.le_trans (List.length_filter_le _ _) H.out.2.2.2.1) X.out.1).mono ?_
            rintro e w7 ⟨rfl, hb⟩
            have B7 := Lib.hid (step1 (step0 B6.out.1 J.out.1) hb)
            clear hb
            go_wp2
            go_ret2
            refine ⟨⟨r, B5.out.2.1, TR.bad ?_ (by decide)⟩, B7.out⟩
            unfold fin
            rw [if_neg (by simpa using B5.out.2.2.1), if_pos (by rw [← B5.out.2.2.2.2.1]; exact X.out.2)]
          · have d0 : decide (0 ≤ F) = false := by rw [decide_eq_false_iff_not, ← hF, lftv_tvs, Nm.fi_none _ _ hin]; omega
            have X := Lib.hid (And.intro hF hin)
            clear hF hin
            go_wp2_with fail
            refine (cfind_is (lftv xs [tb]) ys[j].t.name lo lc _ F ((B6.out.2.2.2.2.below J.out.1).below (below1 _ _)) (Nat.le_trans (List.length_filter_le _ _) H.out.2.2.2.1) X.out.1).mono ?_
            rintro e w7 ⟨rfl, hb⟩
            have B7 := Lib.hid (step1 J.out.1 hb)
            clear hb
            go_wp2
            go_roundw
            case rel => exact ⟨j + 1, by go_num, hlt, B7.out, ttake_all (l := tvs ys) (p := fun t => t.name ∉ nms (lft (tvs xs) [tb])) (by rw [tvs_len]; exact hlt) J.out.2 (by rw [tvs_at hlt]; exact X.out.2)⟩
            case measure => rw [hw]; simp [intOf]; omega
        · obtain rfl : j = ys.length := by omega
          have hall := J.out.2
          rw [← tvs_len ys, List.take_length] at hall
          have HA := Lib.hid (twice_none hall)
          clear hall
          go_wp2
          go_ret2
          refine ⟨⟨r, B5.out.2.1, ?_⟩, step0 B6.out.1 J.out.1⟩
          have e : fin (tvs xs) [tb] r = r := by
            unfold fin
            rw [if_neg (by simpa using B5.out.2.2.1), if_neg (by rw [← B5.out.2.2.2.2.1]; simp [HA.out])]
          rw [e]
          exact .inr ⟨B5.out.2.2.1, _, ys, rfl, B6.out.2.1.keep J.out.1, B5.out.2.2.2.2.1, B6.out.2.2.1.keep J.out.1⟩

theorem mg_drop (x0 x1 : Value) (w : World) : (Go.method 385 107 (.agg #[x0, x1]) "transom/change.targets").run Tryz.prog w = .ok (200, .agg #[x0, x1]) w := by kernel_rfl

set_option maxHeartbeats 4000000 in
theorem targets_lack3 (tb ot to al nm : Nm.S) (ty : Int) (no : Option Addr) (nn nc : Nat) (col : C) (df : T) (dO : Option Addr) (dc : Nat) (w : World) (xs : List TV) (ao : Option Addr) (cap : Nat) (hg : Env w) (h : SlV w ao xs) (hf : Fit w xs) (hl : xs.length ≤ 1000) (hE : cka (tvs xs) = 0) (hla : lack (tvs xs) [tb] = true) :
    Calls Tryz.prog 18 #[.slice ao xs.length cap, .agg #[.int .i64 3, .string ⟨tb.toArray⟩, .string ⟨ot.toArray⟩, .string ⟨to.toArray⟩, .string ⟨al.toArray⟩, .string ⟨nm.toArray⟩, .int .i64 ty, .slice no nn nc, .string ⟨col.name.toArray⟩, .int .i64 col.kind, .bool col.null, .int .i64 col.d.k, .int .i64 col.d.n, .int .u64 col.d.b, .string ⟨col.d.s.toArray⟩, .string ⟨df.name.toArray⟩, .int .i64 df.keys, .slice dO df.cs.length dc]] w fun e w' => e = .returned (.tuple #[.slice none 0 0, .int .i64 9]) ∧ Below w.heap.size w w' := by
  have k1 := mg_drop
  have H := Lib.hid (And.intro hg (And.intro h (And.intro hf (And.intro hl hE))))
  clear hg h hf hl hE
  go_enter Tryz.func18, Tryz.ntmps18
  go_wp2_with fail
  refine (checkAll_is xs ao cap _ (H.out.1.keep (below1 _ _)) (H.out.2.1.below (below1 _ _)) (H.out.2.2.1.below (below1 _ _)) H.out.2.2.2.1 0 H.out.2.2.2.2).mono ?_
  rintro e w1 ⟨rfl, hb⟩
  have q := (Blk.new w #[.int .i64 3, .string ⟨tb.toArray⟩, .string ⟨ot.toArray⟩, .string ⟨to.toArray⟩, .string ⟨al.toArray⟩, .string ⟨nm.toArray⟩, .int .i64 ty, .slice no nn nc, .string ⟨col.name.toArray⟩, .int .i64 col.kind, .bool col.null, .int .i64 col.d.k, .int .i64 col.d.n, .int .u64 col.d.b, .string ⟨col.d.s.toArray⟩, .string ⟨df.name.toArray⟩, .int .i64 df.keys, .slice dO df.cs.length dc] 32).below hb
  have B := Lib.hid (And.intro (step1 (Below.refl _ w) hb) q)
  clear hb q
  go_wp2_with ((refine (?_ : wpList _ _ _ (Oper.mk _ (Op.load 32 _) _ _ _ _ :: _) _ _)); refine wpList_load_mid rfl 32 _ rfl w.heap.size 0 rfl [.int .i64 3, .string ⟨tb.toArray⟩, .string ⟨ot.toArray⟩, .string ⟨to.toArray⟩, .string ⟨al.toArray⟩, .string ⟨nm.toArray⟩, .int .i64 ty, .slice no nn nc, .string ⟨col.name.toArray⟩, .int .i64 col.kind, .bool col.null, .int .i64 col.d.k, .int .i64 col.d.n, .int .u64 col.d.b, .string ⟨col.d.s.toArray⟩, .string ⟨df.name.toArray⟩, .int .i64 df.keys, .slice dO df.cs.length dc] _ (rng (B.out.2)) Tryz.underlying32 rfl infoCh ?_; go_frame)
  refine (changer_3 tb ot to al nm ty no nn nc col df dO dc _).mono ?_
  rintro e w2 ⟨rfl, hb⟩
  have B2 := Lib.hid (step0 B.out.1 hb)
  clear hb
  go_wp2_with fail
  refine (taken_3 tb ot to al nm ty no nn nc col df dO dc _).mono ?_
  rintro e w3 ⟨v, rfl, hO, hb⟩
  obtain ⟨bo, bc, rfl, hS⟩ := hO.sl
  have B3 := Lib.hid (And.intro (step0 B2.out hb) hS)
  clear hb hO hS
  go_wp2_with fail
  refine (ofNames_is xs [tb] _ _ ao bo cap bc _ rfl rfl (H.out.2.1.below B3.out.1) B3.out.2 H.out.2.2.2.1 (by simp)).mono ?_
  rintro e w4 ⟨⟨_, rfl⟩ | ⟨h1, _⟩, hb⟩
  · have B4 := Lib.hid (step0 B3.out.1 hb)
    clear hb
    go_wp2
    go_ret2
    exact ⟨rfl, B4.out⟩
  · rw [hla] at h1; cases h1

set_option maxHeartbeats 8000000 in
theorem targets_3 (tb ot to al nm : Nm.S) (ty : Int) (no : Option Addr) (nn nc : Nat) (col : C) (df : T) (dO : Option Addr) (dc : Nat) (w : World) (xs : List TV) (ao : Option Addr) (cap : Nat) (hg : Env w) (h : SlV w ao xs) (hf : Fit w xs) (hl : xs.length ≤ 1000) (hE : cka (tvs xs) = 0) (hla : lack (tvs xs) [tb] = false) (Pr : List T × Int → Prop)
    (hcal : ∀ (W : World) (fo : Option Addr) (fc : Nat), Below w.heap.size w W → SlV W fo ([tb].map (tvat xs)) → Calls Tryz.prog 200 #[.agg #[.string ⟨tb.toArray⟩, .string ⟨nm.toArray⟩], .slice fo 1 fc] W fun e w' => (∃ r, Pr r ∧ TR W w' e r) ∧ Below W.heap.size W w') :
    Calls Tryz.prog 18 #[.slice ao xs.length cap, .agg #[.int .i64 3, .string ⟨tb.toArray⟩, .string ⟨ot.toArray⟩, .string ⟨to.toArray⟩, .string ⟨al.toArray⟩, .string ⟨nm.toArray⟩, .int .i64 ty, .slice no nn nc, .string ⟨col.name.toArray⟩, .int .i64 col.kind, .bool col.null, .int .i64 col.d.k, .int .i64 col.d.n, .int .u64 col.d.b, .string ⟨col.d.s.toArray⟩, .string ⟨df.name.toArray⟩, .int .i64 df.keys, .slice dO df.cs.length dc]] w fun e w' => (∃ r, Pr r ∧ TR w w' e (fin (tvs xs) [tb] r)) ∧ Below w.heap.size w w' := by
  have HC := Lib.hid hcal
  clear hcal
  have k1 := mg_drop
  have H := Lib.hid (And.intro hg (And.intro h (And.intro hf (And.intro hl hE))))
  clear hg h hf hl hE
  go_enter Tryz.func18, Tryz.ntmps18
  go_wp2_with fail
  refine (checkAll_is xs ao cap _ (H.out.1.keep (below1 _ _)) (H.out.2.1.below (below1 _ _)) (H.out.2.2.1.below (below1 _ _)) H.out.2.2.2.1 0 H.out.2.2.2.2).mono ?_
  rintro e w1 ⟨rfl, hb⟩
  have q := (Blk.new w #[.int .i64 3, .string ⟨tb.toArray⟩, .string ⟨ot.toArray⟩, .string ⟨to.toArray⟩, .string ⟨al.toArray⟩, .string ⟨nm.toArray⟩, .int .i64 ty, .slice no nn nc, .string ⟨col.name.toArray⟩, .int .i64 col.kind, .bool col.null, .int .i64 col.d.k, .int .i64 col.d.n, .int .u64 col.d.b, .string ⟨col.d.s.toArray⟩, .string ⟨df.name.toArray⟩, .int .i64 df.keys, .slice dO df.cs.length dc] 32).below hb
  have B := Lib.hid (And.intro (step1 (Below.refl _ w) hb) q)
  clear hb q
  go_wp2_with ((refine (?_ : wpList _ _ _ (Oper.mk _ (Op.load 32 _) _ _ _ _ :: _) _ _)); refine wpList_load_mid rfl 32 _ rfl w.heap.size 0 rfl [.int .i64 3, .string ⟨tb.toArray⟩, .string ⟨ot.toArray⟩, .string ⟨to.toArray⟩, .string ⟨al.toArray⟩, .string ⟨nm.toArray⟩, .int .i64 ty, .slice no nn nc, .string ⟨col.name.toArray⟩, .int .i64 col.kind, .bool col.null, .int .i64 col.d.k, .int .i64 col.d.n, .int .u64 col.d.b, .string ⟨col.d.s.toArray⟩, .string ⟨df.name.toArray⟩, .int .i64 df.keys, .slice dO df.cs.length dc] _ (rng (B.out.2)) Tryz.underlying32 rfl infoCh ?_; go_frame)
  refine (changer_3 tb ot to al nm ty no nn nc col df dO dc _).mono ?_
  rintro e w2 ⟨rfl, hb⟩
  have B2 := Lib.hid (step0 B.out.1 hb)
  clear hb
  go_wp2_with fail
  refine (taken_3 tb ot to al nm ty no nn nc col df dO dc _).mono ?_
  rintro e w3 ⟨v, rfl, hO, hb⟩
  obtain ⟨bo, bc, rfl, hS⟩ := hO.sl
  have B3 := Lib.hid (And.intro (step0 B2.out hb) hS)
  clear hb hO hS
  go_wp2_with fail
  refine (ofNames_is xs [tb] _ _ ao bo cap bc _ rfl rfl (H.out.2.1.below B3.out.1) B3.out.2 H.out.2.2.2.1 (by simp)).mono ?_
  rintro e w4 ⟨⟨h1, _⟩ | ⟨_, v4, rfl, hO4⟩, hb⟩
  · rw [hla] at h1; cases h1
  · obtain ⟨fo, fc, rfl, _, hS4⟩ := hO4.sl
    have B4 := Lib.hid (And.intro (step0 B3.out.1 hb) (And.intro hS4 (B3.out.2.below hb)))
    clear hb hO4 hS4 hla
    go_wp2_with fail
    refine (HC.out _ fo fc B4.out.1 B4.out.2.1).mono ?_
    rintro e w5 ⟨⟨r, hPr, ⟨hr, rfl⟩ | ⟨hr, v5, ys, rfl, hO5, hy5, hf5⟩⟩, hb⟩
    · have e0 := bne_t hr
      obtain ⟨l5, E5⟩ := r
      simp only at hr e0
      have B5 := Lib.hid (And.intro (step0 B4.out.1 hb) hPr)
      clear hb hPr
      go_wp2
      go_ret2
      exact ⟨⟨_, B5.out.2, TR.bad (by unfold fin; rw [if_pos hr]) hr⟩, B5.out.1⟩
    · obtain ⟨vo, vc, rfl, _, hS5⟩ := hO5.sl
      have B5 := Lib.hid (And.intro (step0 B4.out.1 hb) (And.intro hPr (And.intro hr (And.intro (hO5.base B4.out.1.size) (And.intro hy5 (And.intro (hf5.base B4.out.1.size) (And.intro hS5 (B4.out.2.2.below hb))))))))
      clear hb hPr hr hO5 hy5 hf5 hS5
      go_wp2_with fail
      refine (cwithout_is xs [tb] _ _ ao bo cap bc _ rfl rfl (H.out.2.1.below B5.out.1) B5.out.2.2.2.2.2.2.2 H.out.2.2.2.1 (by simp)).mono ?_
      rintro e w6 ⟨v6, rfl, hO6, hb⟩
      obtain ⟨lo, lc, rfl, _, hS6⟩ := hO6.sl
      have B6 := Lib.hid (And.intro (step0 B5.out.1 hb) (And.intro (B5.out.2.2.2.1.keep hb) (And.intro (B5.out.2.2.2.2.2.1.keep hb) (And.intro (B5.out.2.2.2.2.2.2.1.below hb) hS6))))
      clear hb hO6 hS6
      go_wp2
      go_loopw [49] (fun i wr => ∃ j : Nat, i = .int .i64 j ∧ j ≤ ys.length ∧ Below w6.heap.size w6 wr ∧ ∀ t ∈ (tvs ys).take j, t.name ∉ nms (lft (tvs xs) [tb])) (fun i _ => ys.length - (intOf i).toNat)
      case atStart => exact ⟨0, rfl, Nat.zero_le _, Below.refl _ _, by simp⟩
      case round =>
        obtain ⟨j, rfl, hj, hb, hn⟩ := hrel
        have J := Lib.hid (And.intro hb hn)
        clear hb hn
        by_cases hlt : j < ys.length
        · obtain ⟨a, rfl, y0, y1, y2⟩ := B6.out.2.2.2.1.below J.out.1 j ys[j] (List.getElem?_eq_getElem hlt)
          have hw : wrap64 ((j : Int) + 1) = (j : Int) + 1 := by have := B5.out.2.2.2.1.len; exact wrap_in _ (by omega) (by omega)
          obtain ⟨F, hF⟩ : ∃ F, Nm.fi (nms (tvs (lftv xs [tb]))) ys[j].t.name = F := ⟨_, rfl⟩
          by_cases hin : ys[j].t.name ∈ nms (lft (tvs xs) [tb])
          · have d0 : decide (0 ≤ F) = true := by rw [decide_eq_true_iff, ← hF, lftv_tvs, fi_mem hin]; omega
            have X := Lib.hid (And.intro hF (twice_stop (l := tvs xs) (g := [tb]) (to' := tvs ys) (j := j) (by rw [tvs_len]; exact hlt) (by rw [tvs_at hlt]; exact hin)))
            clear hF hin
            go_wp2_with fail
            refine (cfind_is (lftv xs [tb]) ys[j].t.name lo lc _ F ((B6.out.2.2.2.2.below J.out.1).below (below1 _ _)) (Nat.le_trans (List.length_filter_le _ _) H.out.2.2.2.1) X.out.1).mono ?_
            rintro e w7 ⟨rfl, hb⟩
            have B7 := Lib.hid (step1 (step0 B6.out.1 J.out.1) hb)
            clear hb
            go_wp2
            go_ret2
            refine ⟨⟨r, B5.out.2.1, TR.bad ?_ (by decide)⟩, B7.out⟩
            unfold fin
            rw [if_neg (by simpa using B5.out.2.2.1), if_pos (by rw [← B5.out.2.2.2.2.1]; exact X.out.2)]
          · have d0 : decide (0 ≤ F) = false := by rw [decide_eq_false_iff_not, ← hF, lftv_tvs, Nm.fi_none _ _ hin]; omega
            have X := Lib.hid (And.intro hF hin)
            clear hF hin
            go_wp2_with fail
            refine (cfind_is (lftv xs [tb]) ys[j].t.name lo lc _ F ((B6.out.2.2.2.2.below J.out.1).below (below1 _ _)) (Nat.le_trans (List.length_filter_le _ _) H.out.2.2.2.1) X.out.1).mono ?_
            rintro e w7 ⟨rfl, hb⟩
            have B7 := Lib.hid (step1 J.out.1 hb)
            clear hb
            go_wp2
            go_roundw
            case rel => exact ⟨j + 1, by go_num, hlt, B7.out, ttake_all (l := tvs ys) (p := fun t => t.name ∉ nms (lft (tvs xs) [tb])) (by rw [tvs_len]; exact hlt) J.out.2 (by rw [tvs_at hlt]; exact X.out.2)⟩
            case measure => rw [hw]; simp [intOf]; omega
        · obtain rfl : j = ys.length := by omega
          have hall := J.out.2
          rw [← tvs_len ys, List.take_length] at hall
          have HA := Lib.hid (twice_none hall)
          clear hall
          go_wp2
          go_ret2
          refine ⟨⟨r, B5.out.2.1, ?_⟩, step0 B6.out.1 J.out.1⟩
          have e : fin (tvs xs) [tb] r = r := by
            unfold fin
            rw [if_neg (by simpa using B5.out.2.2.1), if_neg (by rw [← B5.out.2.2.2.2.1]; simp [HA.out])]
          rw [e]
          exact .inr ⟨B5.out.2.2.1, _, ys, rfl, B6.out.2.1.keep J.out.1, B5.out.2.2.2.2.1, B6.out.2.2.1.keep J.out.1⟩

theorem mg_retype (x0 x1 x2 : Value) (w : World) : (Go.method 385 109 (.agg #[x0, x1, x2]) "transom/change.targets").run Tryz.prog w = .ok (203, .agg #[x0, x1, x2]) w := by kernel_rfl

set_option maxHeartbeats 4000000 in
theorem targets_lack4 (tb ot to al nm : Nm.S) (ty : Int) (no : Option Addr) (nn nc : Nat) (col : C) (df : T) (dO : Option Addr) (dc : Nat) (w : World) (xs : List TV) (ao : Option Addr) (cap : Nat) (hg : Env w) (h : SlV w ao xs) (hf : Fit w xs) (hl : xs.length ≤ 1000) (hE : cka (tvs xs) = 0) (hla : lack (tvs xs) [tb] = true) :
    Calls Tryz.prog 18 #[.slice ao xs.length cap, .agg #[.int .i64 4, .string ⟨tb.toArray⟩, .string ⟨ot.toArray⟩, .string ⟨to.toArray⟩, .string ⟨al.toArray⟩, .string ⟨nm.toArray⟩, .int .i64 ty, .slice no nn nc, .string ⟨col.name.toArray⟩, .int .i64 col.kind, .bool col.null, .int .i64 col.d.k, .int .i64 col.d.n, .int .u64 col.d.b, .string ⟨col.d.s.toArray⟩, .string ⟨df.name.toArray⟩, .int .i64 df.keys, .slice dO df.cs.length dc]] w fun e w' => e = .returned (.tuple #[.slice none 0 0, .int .i64 9]) ∧ Below w.heap.size w w' := by
  have k1 := mg_retype
  have H := Lib.hid (And.intro hg (And.intro h (And.intro hf (And.intro hl hE))))
  clear hg h hf hl hE
  go_enter Tryz.func18, Tryz.ntmps18
  go_wp2_with fail
  refine (checkAll_is xs ao cap _ (H.out.1.keep (below1 _ _)) (H.out.2.1.below (below1 _ _)) (H.out.2.2.1.below (below1 _ _)) H.out.2.2.2.1 0 H.out.2.2.2.2).mono ?_
  rintro e w1 ⟨rfl, hb⟩
  have q := (Blk.new w #[.int .i64 4, .string ⟨tb.toArray⟩, .string ⟨ot.toArray⟩, .string ⟨to.toArray⟩, .string ⟨al.toArray⟩, .string ⟨nm.toArray⟩, .int .i64 ty, .slice no nn nc, .string ⟨col.name.toArray⟩, .int .i64 col.kind, .bool col.null, .int .i64 col.d.k, .int .i64 col.d.n, .int .u64 col.d.b, .string ⟨col.d.s.toArray⟩, .string ⟨df.name.toArray⟩, .int .i64 df.keys, .slice dO df.cs.length dc] 32).below hb
  have B := Lib.hid (And.intro (step1 (Below.refl _ w) hb) q)
  clear hb q
  go_wp2_with ((refine (?_ : wpList _ _ _ (Oper.mk _ (Op.load 32 _) _ _ _ _ :: _) _ _)); refine wpList_load_mid rfl 32 _ rfl w.heap.size 0 rfl [.int .i64 4, .string ⟨tb.toArray⟩, .string ⟨ot.toArray⟩, .string ⟨to.toArray⟩, .string ⟨al.toArray⟩, .string ⟨nm.toArray⟩, .int .i64 ty, .slice no nn nc, .string ⟨col.name.toArray⟩, .int .i64 col.kind, .bool col.null, .int .i64 col.d.k, .int .i64 col.d.n, .int .u64 col.d.b, .string ⟨col.d.s.toArray⟩, .string ⟨df.name.toArray⟩, .int .i64 df.keys, .slice dO df.cs.length dc] _ (rng (B.out.2)) Tryz.underlying32 rfl infoCh ?_; go_frame)
  refine (changer_4 tb ot to al nm ty no nn nc col df dO dc _).mono ?_
  rintro e w2 ⟨rfl, hb⟩
  have B2 := Lib.hid (step0 B.out.1 hb)
  clear hb
  go_wp2_with fail
  refine (taken_4 tb ot to al nm ty no nn nc col df dO dc _).mono ?_
  rintro e w3 ⟨v, rfl, hO, hb⟩
  obtain ⟨bo, bc, rfl, hS⟩ := hO.sl
  have B3 := Lib.hid (And.intro (step0 B2.out hb) hS)
  clear hb hO hS
  go_wp2_with fail
  refine (ofNames_is xs [tb] _ _ ao bo cap bc _ rfl rfl (H.out.2.1.below B3.out.1) B3.out.2 H.out.2.2.2.1 (by simp)).mono ?_
  rintro e w4 ⟨⟨_, rfl⟩ | ⟨h1, _⟩, hb⟩
  · have B4 := Lib.hid (step0 B3.out.1 hb)
    clear hb
    go_wp2
    go_ret2
    exact ⟨rfl, B4.out⟩
  · rw [hla] at h1; cases h1

set_option maxHeartbeats 8000000 in
theorem targets_4 (tb ot to al nm : Nm.S) (ty : Int) (no : Option Addr) (nn nc : Nat) (col : C) (df : T) (dO : Option Addr) (dc : Nat) (w : World) (xs : List TV) (ao : Option Addr) (cap : Nat) (hg : Env w) (h : SlV w ao xs) (hf : Fit w xs) (hl : xs.length ≤ 1000) (hE : cka (tvs xs) = 0) (hla : lack (tvs xs) [tb] = false) (Pr : List T × Int → Prop)
    (hcal : ∀ (W : World) (fo : Option Addr) (fc : Nat), Below w.heap.size w W → SlV W fo ([tb].map (tvat xs)) → Calls Tryz.prog 203 #[.agg #[.string ⟨tb.toArray⟩, .string ⟨nm.toArray⟩, .int .i64 ty], .slice fo 1 fc] W fun e w' => (∃ r, Pr r ∧ TR W w' e r) ∧ Below W.heap.size W w') :
    Calls Tryz.prog 18 #[.slice ao xs.length cap, .agg #[.int .i64 4, .string ⟨tb.toArray⟩, .string ⟨ot.toArray⟩, .string ⟨to.toArray⟩, .string ⟨al.toArray⟩, .string ⟨nm.toArray⟩, .int .i64 ty, .slice no nn nc, .string ⟨col.name.toArray⟩, .int .i64 col.kind, .bool col.null, .int .i64 col.d.k, .int .i64 col.d.n, .int .u64 col.d.b, .string ⟨col.d.s.toArray⟩, .string ⟨df.name.toArray⟩, .int .i64 df.keys, .slice dO df.cs.length dc]] w fun e w' => (∃ r, Pr r ∧ TR w w' e (fin (tvs xs) [tb] r)) ∧ Below w.heap.size w w' := by
  have HC := Lib.hid hcal
  clear hcal
  have k1 := mg_retype
  have H := Lib.hid (And.intro hg (And.intro h (And.intro hf (And.intro hl hE))))
  clear hg h hf hl hE
  go_enter Tryz.func18, Tryz.ntmps18
  go_wp2_with fail
  refine (checkAll_is xs ao cap _ (H.out.1.keep (below1 _ _)) (H.out.2.1.below (below1 _ _)) (H.out.2.2.1.below (below1 _ _)) H.out.2.2.2.1 0 H.out.2.2.2.2).mono ?_
  rintro e w1 ⟨rfl, hb⟩
  have q := (Blk.new w #[.int .i64 4, .string ⟨tb.toArray⟩, .string ⟨ot.toArray⟩, .string ⟨to.toArray⟩, .string ⟨al.toArray⟩, .string ⟨nm.toArray⟩, .int .i64 ty, .slice no nn nc, .string ⟨col.name.toArray⟩, .int .i64 col.kind, .bool col.null, .int .i64 col.d.k, .int .i64 col.d.n, .int .u64 col.d.b, .string ⟨col.d.s.toArray⟩, .string ⟨df.name.toArray⟩, .int .i64 df.keys, .slice dO df.cs.length dc] 32).below hb
  have B := Lib.hid (And.intro (step1 (Below.refl _ w) hb) q)
  clear hb q
  go_wp2_with ((refine (?_ : wpList _ _ _ (Oper.mk _ (Op.load 32 _) _ _ _ _ :: _) _ _)); refine wpList_load_mid rfl 32 _ rfl w.heap.size 0 rfl [.int .i64 4, .string ⟨tb.toArray⟩, .string ⟨ot.toArray⟩, .string ⟨to.toArray⟩, .string ⟨al.toArray⟩, .string ⟨nm.toArray⟩, .int .i64 ty, .slice no nn nc, .string ⟨col.name.toArray⟩, .int .i64 col.kind, .bool col.null, .int .i64 col.d.k, .int .i64 col.d.n, .int .u64 col.d.b, .string ⟨col.d.s.toArray⟩, .string ⟨df.name.toArray⟩, .int .i64 df.keys, .slice dO df.cs.length dc] _ (rng (B.out.2)) Tryz.underlying32 rfl infoCh ?_; go_frame)
  refine (changer_4 tb ot to al nm ty no nn nc col df dO dc _).mono ?_
  rintro e w2 ⟨rfl, hb⟩
  have B2 := Lib.hid (step0 B.out.1 hb)
  clear hb
  go_wp2_with fail
  refine (taken_4 tb ot to al nm ty no nn nc col df dO dc _).mono ?_
  rintro e w3 ⟨v, rfl, hO, hb⟩
  obtain ⟨bo, bc, rfl, hS⟩ := hO.sl
  have B3 := Lib.hid (And.intro (step0 B2.out hb) hS)
  clear hb hO hS
  go_wp2_with fail
  refine (ofNames_is xs [tb] _ _ ao bo cap bc _ rfl rfl (H.out.2.1.below B3.out.1) B3.out.2 H.out.2.2.2.1 (by simp)).mono ?_
  rintro e w4 ⟨⟨h1, _⟩ | ⟨_, v4, rfl, hO4⟩, hb⟩
  · rw [hla] at h1; cases h1
  · obtain ⟨fo, fc, rfl, _, hS4⟩ := hO4.sl
    have B4 := Lib.hid (And.intro (step0 B3.out.1 hb) (And.intro hS4 (B3.out.2.below hb)))
    clear hb hO4 hS4 hla
    go_wp2_with fail
    refine (HC.out _ fo fc B4.out.1 B4.out.2.1).mono ?_
    rintro e w5 ⟨⟨r, hPr, ⟨hr, rfl⟩ | ⟨hr, v5, ys, rfl, hO5, hy5, hf5⟩⟩, hb⟩
    · have e0 := bne_t hr
      obtain ⟨l5, E5⟩ := r
      simp only at hr e0
      have B5 := Lib.hid (And.intro (step0 B4.out.1 hb) hPr)
      clear hb hPr
      go_wp2
      go_ret2
      exact ⟨⟨_, B5.out.2, TR.bad (by unfold fin; rw [if_pos hr]) hr⟩, B5.out.1⟩
    · obtain ⟨vo, vc, rfl, _, hS5⟩ := hO5.sl
      have B5 := Lib.hid (And.intro (step0 B4.out.1 hb) (And.intro hPr (And.intro hr (And.intro (hO5.base B4.out.1.size) (And.intro hy5 (And.intro (hf5.base B4.out.1.size) (And.intro hS5 (B4.out.2.2.below hb))))))))
      clear hb hPr hr hO5 hy5 hf5 hS5
      go_wp2_with fail
      refine (cwithout_is xs [tb] _ _ ao bo cap bc _ rfl rfl (H.out.2.1.below B5.out.1) B5.out.2.2.2.2.2.2.2 H.out.2.2.2.1 (by simp)).mono ?_
      rintro e w6 ⟨v6, rfl, hO6, hb⟩
      obtain ⟨lo, lc, rfl, _, hS6⟩ := hO6.sl
      have B6 := Lib.hid (And.intro (step0 B5.out.1 hb) (And.intro (B5.out.2.2.2.1.keep hb) (And.intro (B5.out.2.2.2.2.2.1.keep hb) (And.intro (B5.out.2.2.2.2.2.2.1.below hb) hS6))))
      clear hb hO6 hS6
      go_wp2
      go_loopw [49] (fun i wr => ∃ j : Nat, i = .int .i64 j ∧ j ≤ ys.length ∧ Below w6.heap.size w6 wr ∧ ∀ t ∈ (tvs ys).take j, t.name ∉ nms (lft (tvs xs) [tb])) (fun i _ => ys.length - (intOf i).toNat)
      case atStart => exact ⟨0, rfl, Nat.zero_le _, Below.refl _ _, by simp⟩
      case round =>
        obtain ⟨j, rfl, hj, hb, hn⟩ := hrel
        have J := Lib.hid (And.intro hb hn)
        clear hb hn
        by_cases hlt : j < ys.length
        · obtain ⟨a, rfl, y0, y1, y2⟩ := B6.out.2.2.2.1.below J.out.1 j ys[j] (List.getElem?_eq_getElem hlt)
          have hw : wrap64 ((j : Int) + 1) = (j : Int) + 1 := by have := B5.out.2.2.2.1.len; exact wrap_in _ (by omega) (by omega)
          obtain ⟨F, hF⟩ : ∃ F, Nm.fi (nms (tvs (lftv xs [tb]))) ys[j].t.name = F := ⟨_, rfl⟩
          by_cases hin : ys[j].t.name ∈ nms (lft (tvs xs) [tb])
          · have d0 : decide (0 ≤ F) = true := by rw [decide_eq_true_iff, ← hF, lftv_tvs, fi_mem hin]; omega
            have X := Lib.hid (And.intro hF (twice_stop (l := tvs xs) (g := [tb]) (to' := tvs ys) (j := j) (by rw [tvs_len]; exact hlt) (by rw [tvs_at hlt]; exact hin)))
            clear hF hin
            go_wp2_with fail
            refine (cfind_is (lftv xs [tb]) ys[j].t.name lo lc _ F ((B6.out.2.2.2.2.below J.out.1).below (below1 _ _)) (Nat.le_trans (List.length_filter_le _ _) H.out.2.2.2.1) X.out.1).mono ?_
            rintro e w7 ⟨rfl, hb⟩
            have B7 := Lib.hid (step1 (step0 B6.out.1 J.out.1) hb)
            clear hb
            go_wp2
            go_ret2
            refine ⟨⟨r, B5.out.2.1, TR.bad ?_ (by decide)⟩, B7.out⟩
            unfold fin
            rw [if_neg (by simpa using B5.out.2.2.1), if_pos (by rw [← B5.out.2.2.2.2.1]; exact X.out.2)]
          · have d0 : decide (0 ≤ F) = false := by rw [decide_eq_false_iff_not, ← hF, lftv_tvs, Nm.fi_none _ _ hin]; omega
            have X := Lib.hid (And.intro hF hin)
            clear hF hin
            go_wp2_with fail
            refine (cfind_is (lftv xs [tb]) ys[j].t.name lo lc _ F ((B6.out.2.2.2.2.below J.out.1).below (below1 _ _)) (Nat.le_trans (List.length_filter_le _ _) H.out.2.2.2.1) X.out.1).mono ?_
            rintro e w7 ⟨rfl, hb⟩
            have B7 := Lib.hid (step1 J.out.1 hb)
            clear hb
            go_wp2
            go_roundw
            case rel => exact ⟨j + 1, by go_num, hlt, B7.out, ttake_all (l := tvs ys) (p := fun t => t.name ∉ nms (lft (tvs xs) [tb])) (by rw [tvs_len]; exact hlt) J.out.2 (by rw [tvs_at hlt]; exact X.out.2)⟩
            case measure => rw [hw]; simp [intOf]; omega
        · obtain rfl : j = ys.length := by omega
          have hall := J.out.2
          rw [← tvs_len ys, List.take_length] at hall
          have HA := Lib.hid (twice_none hall)
          clear hall
          go_wp2
          go_ret2
          refine ⟨⟨r, B5.out.2.1, ?_⟩, step0 B6.out.1 J.out.1⟩
          have e : fin (tvs xs) [tb] r = r := by
            unfold fin
            rw [if_neg (by simpa using B5.out.2.2.1), if_neg (by rw [← B5.out.2.2.2.2.1]; simp [HA.out])]
          rw [e]
          exact .inr ⟨B5.out.2.2.1, _, ys, rfl, B6.out.2.1.keep J.out.1, B5.out.2.2.2.2.1, B6.out.2.2.1.keep J.out.1⟩

theorem mg_split (x0 x1 x2 x3 : Value) (w : World) : (Go.method 385 111 (.agg #[x0, x1, x2, x3]) "transom/change.targets").run Tryz.prog w = .ok (205, .agg #[x0, x1, x2, x3]) w := by kernel_rfl

set_option maxHeartbeats 4000000 in
theorem targets_lack5 (tb ot to al nm : Nm.S) (ty : Int) (no : Option Addr) (nn nc : Nat) (col : C) (df : T) (dO : Option Addr) (dc : Nat) (w : World) (xs : List TV) (ao : Option Addr) (cap : Nat) (hg : Env w) (h : SlV w ao xs) (hf : Fit w xs) (hl : xs.length ≤ 1000) (hE : cka (tvs xs) = 0) (hla : lack (tvs xs) [tb] = true) :
    Calls Tryz.prog 18 #[.slice ao xs.length cap, .agg #[.int .i64 5, .string ⟨tb.toArray⟩, .string ⟨ot.toArray⟩, .string ⟨to.toArray⟩, .string ⟨al.toArray⟩, .string ⟨nm.toArray⟩, .int .i64 ty, .slice no nn nc, .string ⟨col.name.toArray⟩, .int .i64 col.kind, .bool col.null, .int .i64 col.d.k, .int .i64 col.d.n, .int .u64 col.d.b, .string ⟨col.d.s.toArray⟩, .string ⟨df.name.toArray⟩, .int .i64 df.keys, .slice dO df.cs.length dc]] w fun e w' => e = .returned (.tuple #[.slice none 0 0, .int .i64 9]) ∧ Below w.heap.size w w' := by
  have k1 := mg_split
  have H := Lib.hid (And.intro hg (And.intro h (And.intro hf (And.intro hl hE))))
  clear hg h hf hl hE
  go_enter Tryz.func18, Tryz.ntmps18
  go_wp2_with fail
  refine (checkAll_is xs ao cap _ (H.out.1.keep (below1 _ _)) (H.out.2.1.below (below1 _ _)) (H.out.2.2.1.below (below1 _ _)) H.out.2.2.2.1 0 H.out.2.2.2.2).mono ?_
  rintro e w1 ⟨rfl, hb⟩
  have q := (Blk.new w #[.int .i64 5, .string ⟨tb.toArray⟩, .string ⟨ot.toArray⟩, .string ⟨to.toArray⟩, .string ⟨al.toArray⟩, .string ⟨nm.toArray⟩, .int .i64 ty, .slice no nn nc, .string ⟨col.name.toArray⟩, .int .i64 col.kind, .bool col.null, .int .i64 col.d.k, .int .i64 col.d.n, .int .u64 col.d.b, .string ⟨col.d.s.toArray⟩, .string ⟨df.name.toArray⟩, .int .i64 df.keys, .slice dO df.cs.length dc] 32).below hb
  have B := Lib.hid (And.intro (step1 (Below.refl _ w) hb) q)
  clear hb q
  go_wp2_with ((refine (?_ : wpList _ _ _ (Oper.mk _ (Op.load 32 _) _ _ _ _ :: _) _ _)); refine wpList_load_mid rfl 32 _ rfl w.heap.size 0 rfl [.int .i64 5, .string ⟨tb.toArray⟩, .string ⟨ot.toArray⟩, .string ⟨to.toArray⟩, .string ⟨al.toArray⟩, .string ⟨nm.toArray⟩, .int .i64 ty, .slice no nn nc, .string ⟨col.name.toArray⟩, .int .i64 col.kind, .bool col.null, .int .i64 col.d.k, .int .i64 col.d.n, .int .u64 col.d.b, .string ⟨col.d.s.toArray⟩, .string ⟨df.name.toArray⟩, .int .i64 df.keys, .slice dO df.cs.length dc] _ (rng (B.out.2)) Tryz.underlying32 rfl infoCh ?_; go_frame)
  refine (changer_5 tb ot to al nm ty no nn nc col df dO dc _).mono ?_
  rintro e w2 ⟨rfl, hb⟩
  have B2 := Lib.hid (step0 B.out.1 hb)
  clear hb
  go_wp2_with fail
  refine (taken_5 tb ot to al nm ty no nn nc col df dO dc _).mono ?_
  rintro e w3 ⟨v, rfl, hO, hb⟩
  obtain ⟨bo, bc, rfl, hS⟩ := hO.sl
  have B3 := Lib.hid (And.intro (step0 B2.out hb) hS)
  clear hb hO hS
  go_wp2_with fail
  refine (ofNames_is xs [tb] _ _ ao bo cap bc _ rfl rfl (H.out.2.1.below B3.out.1) B3.out.2 H.out.2.2.2.1 (by simp)).mono ?_
  rintro e w4 ⟨⟨_, rfl⟩ | ⟨h1, _⟩, hb⟩
  · have B4 := Lib.hid (step0 B3.out.1 hb)
    clear hb
    go_wp2
    go_ret2
    exact ⟨rfl, B4.out⟩
  · rw [hla] at h1; cases h1

set_option maxHeartbeats 8000000 in
theorem targets_5 (tb ot to al nm : Nm.S) (ty : Int) (no : Option Addr) (nn nc : Nat) (col : C) (df : T) (dO : Option Addr) (dc : Nat) (w : World) (xs : List TV) (ao : Option Addr) (cap : Nat) (hg : Env w) (h : SlV w ao xs) (hf : Fit w xs) (hl : xs.length ≤ 1000) (hE : cka (tvs xs) = 0) (hla : lack (tvs xs) [tb] = false) (Pr : List T × Int → Prop)
    (hcal : ∀ (W : World) (fo : Option Addr) (fc : Nat), Below w.heap.size w W → SlV W fo ([tb].map (tvat xs)) → Calls Tryz.prog 205 #[.agg #[.string ⟨tb.toArray⟩, .string ⟨to.toArray⟩, .string ⟨al.toArray⟩, .slice no nn nc], .slice fo 1 fc] W fun e w' => (∃ r, Pr r ∧ TR W w' e r) ∧ Below W.heap.size W w') :
    Calls Tryz.prog 18 #[.slice ao xs.length cap, .agg #[.int .i64 5, .string ⟨tb.toArray⟩, .string ⟨ot.toArray⟩, .string ⟨to.toArray⟩, .string ⟨al.toArray⟩, .string ⟨nm.toArray⟩, .int .i64 ty, .slice no nn nc, .string ⟨col.name.toArray⟩, .int .i64 col.kind, .bool col.null, .int .i64 col.d.k, .int .i64 col.d.n, .int .u64 col.d.b, .string ⟨col.d.s.toArray⟩, .string ⟨df.name.toArray⟩, .int .i64 df.keys, .slice dO df.cs.length dc]] w fun e w' => (∃ r, Pr r ∧ TR w w' e (fin (tvs xs) [tb] r)) ∧ Below w.heap.size w w' := by
  have HC := Lib.hid hcal
  clear hcal
  have k1 := mg_split
  have H := Lib.hid (And.intro hg (And.intro h (And.intro hf (And.intro hl hE))))
  clear hg h hf hl hE
  go_enter Tryz.func18, Tryz.ntmps18
  go_wp2_with fail
  refine (checkAll_is xs ao cap _ (H.out.1.keep (below1 _ _)) (H.out.2.1.below (below1 _ _)) (H.out.2.2.1.below (below1 _ _)) H.out.2.2.2.1 0 H.out.2.2.2.2).mono ?_
  rintro e w1 ⟨rfl, hb⟩
  have q := (Blk.new w #[.int .i64 5, .string ⟨tb.toArray⟩, .string ⟨ot.toArray⟩, .string ⟨to.toArray⟩, .string ⟨al.toArray⟩, .string ⟨nm.toArray⟩, .int .i64 ty, .slice no nn nc, .string ⟨col.name.toArray⟩, .int .i64 col.kind, .bool col.null, .int .i64 col.d.k, .int .i64 col.d.n, .int .u64 col.d.b, .string ⟨col.d.s.toArray⟩, .string ⟨df.name.toArray⟩, .int .i64 df.keys, .slice dO df.cs.length dc] 32).below hb
  have B := Lib.hid (And.intro (step1 (Below.refl _ w) hb) q)
  clear hb q
  go_wp2_with ((refine (?_ : wpList _ _ _ (Oper.mk _ (Op.load 32 _) _ _ _ _ :: _) _ _)); refine wpList_load_mid rfl 32 _ rfl w.heap.size 0 rfl [.int .i64 5, .string ⟨tb.toArray⟩, .string ⟨ot.toArray⟩, .string ⟨to.toArray⟩, .string ⟨al.toArray⟩, .string ⟨nm.toArray⟩, .int .i64 ty, .slice no nn nc, .string ⟨col.name.toArray⟩, .int .i64 col.kind, .bool col.null, .int .i64 col.d.k, .int .i64 col.d.n, .int .u64 col.d.b, .string ⟨col.d.s.toArray⟩, .string ⟨df.name.toArray⟩, .int .i64 df.keys, .slice dO df.cs.length dc] _ (rng (B.out.2)) Tryz.underlying32 rfl infoCh ?_; go_frame)
  refine (changer_5 tb ot to al nm ty no nn nc col df dO dc _).mono ?_
  rintro e w2 ⟨rfl, hb⟩
  have B2 := Lib.hid (step0 B.out.1 hb)
  clear hb
  go_wp2_with fail
  refine (taken_5 tb ot to al nm ty no nn nc col df dO dc _).mono ?_
  rintro e w3 ⟨v, rfl, hO, hb⟩
  obtain ⟨bo, bc, rfl, hS⟩ := hO.sl
  have B3 := Lib.hid (And.intro (step0 B2.out hb) hS)
  clear hb hO hS
  go_wp2_with fail
  refine (ofNames_is xs [tb] _ _ ao bo cap bc _ rfl rfl (H.out.2.1.below B3.out.1) B3.out.2 H.out.2.2.2.1 (by simp)).mono ?_
  rintro e w4 ⟨⟨h1, _⟩ | ⟨_, v4, rfl, hO4⟩, hb⟩
  · rw [hla] at h1; cases h1
  · obtain ⟨fo, fc, rfl, _, hS4⟩ := hO4.sl
    have B4 := Lib.hid (And.intro (step0 B3.out.1 hb) (And.intro hS4 (B3.out.2.below hb)))
    clear hb hO4 hS4 hla
    go_wp2_with fail
    refine (HC.out _ fo fc B4.out.1 B4.out.2.1).mono ?_
    rintro e w5 ⟨⟨r, hPr, ⟨hr, rfl⟩ | ⟨hr, v5, ys, rfl, hO5, hy5, hf5⟩⟩, hb⟩
    · have e0 := bne_t hr
      obtain ⟨l5, E5⟩ := r
      simp only at hr e0
      have B5 := Lib.hid (And.intro (step0 B4.out.1 hb) hPr)
      clear hb hPr
      go_wp2
      go_ret2
      exact ⟨⟨_, B5.out.2, TR.bad (by unfold fin; rw [if_pos hr]) hr⟩, B5.out.1⟩
    · obtain ⟨vo, vc, rfl, _, hS5⟩ := hO5.sl
      have B5 := Lib.hid (And.intro (step0 B4.out.1 hb) (And.intro hPr (And.intro hr (And.intro (hO5.base B4.out.1.size) (And.intro hy5 (And.intro (hf5.base B4.out.1.size) (And.intro hS5 (B4.out.2.2.below hb))))))))
      clear hb hPr hr hO5 hy5 hf5 hS5
      go_wp2_with fail
      refine (cwithout_is xs [tb] _ _ ao bo cap bc _ rfl rfl (H.out.2.1.below B5.out.1) B5.out.2.2.2.2.2.2.2 H.out.2.2.2.1 (by simp)).mono ?_
      rintro e w6 ⟨v6, rfl, hO6, hb⟩
      obtain ⟨lo, lc, rfl, _, hS6⟩ := hO6.sl
      have B6 := Lib.hid (And.intro (step0 B5.out.1 hb) (And.intro (B5.out.2.2.2.1.keep hb) (And.intro (B5.out.2.2.2.2.2.1.keep hb) (And.intro (B5.out.2.2.2.2.2.2.1.below hb) hS6))))
      clear hb hO6 hS6
      go_wp2
      go_loopw [49] (fun i wr => ∃ j : Nat, i = .int .i64 j ∧ j ≤ ys.length ∧ Below w6.heap.size w6 wr ∧ ∀ t ∈ (tvs ys).take j, t.name ∉ nms (lft (tvs xs) [tb])) (fun i _ => ys.length - (intOf i).toNat)
      case atStart => exact ⟨0, rfl, Nat.zero_le _, Below.refl _ _, by simp⟩
      case round =>
        obtain ⟨j, rfl, hj, hb, hn⟩ := hrel
        have J := Lib.hid (And.intro hb hn)
        clear hb hn
        by_cases hlt : j < ys.length
        · obtain ⟨a, rfl, y0, y1, y2⟩ := B6.out.2.2.2.1.below J.out.1 j ys[j] (List.getElem?_eq_getElem hlt)
          have hw : wrap64 ((j : Int) + 1) = (j : Int) + 1 := by have := B5.out.2.2.2.1.len; exact wrap_in _ (by omega) (by omega)
          obtain ⟨F, hF⟩ : ∃ F, Nm.fi (nms (tvs (lftv xs [tb]))) ys[j].t.name = F := ⟨_, rfl⟩
          by_cases hin : ys[j].t.name ∈ nms (lft (tvs xs) [tb])
          · have d0 : decide (0 ≤ F) = true := by rw [decide_eq_true_iff, ← hF, lftv_tvs, fi_mem hin]; omega
            have X := Lib.hid (And.intro hF (twice_stop (l := tvs xs) (g := [tb]) (to' := tvs ys) (j := j) (by rw [tvs_len]; exact hlt) (by rw [tvs_at hlt]; exact hin)))
            clear hF hin
            go_wp2_with fail
            refine (cfind_is (lftv xs [tb]) ys[j].t.name lo lc _ F ((B6.out.2.2.2.2.below J.out.1).below (below1 _ _)) (Nat.le_trans (List.length_filter_le _ _) H.out.2.2.2.1) X.out.1).mono ?_
            rintro e w7 ⟨rfl, hb⟩
            have B7 := Lib.hid (step1 (step0 B6.out.1 J.out.1) hb)
            clear hb
            go_wp2
            go_ret2
            refine ⟨⟨r, B5.out.2.1, TR.bad ?_ (by decide)⟩, B7.out⟩
            unfold fin
            rw [if_neg (by simpa using B5.out.2.2.1), if_pos (by rw [← B5.out.2.2.2.2.1]; exact X.out.2)]
          · have d0 : decide (0 ≤ F) = false := by rw [decide_eq_false_iff_not, ← hF, lftv_tvs, Nm.fi_none _ _ hin]; omega
            have X := Lib.hid (And.intro hF hin)
            clear hF hin
            go_wp2_with fail
            refine (cfind_is (lftv xs [tb]) ys[j].t.name lo lc _ F ((B6.out.2.2.2.2.below J.out.1).below (below1 _ _)) (Nat.le_trans (List.length_filter_le _ _) H.out.2.2.2.1) X.out.1).mono ?_
            rintro e w7 ⟨rfl, hb⟩
            have B7 := Lib.hid (step1 J.out.1 hb)
            clear hb
            go_wp2
            go_roundw
            case rel => exact ⟨j + 1, by go_num, hlt, B7.out, ttake_all (l := tvs ys) (p := fun t => t.name ∉ nms (lft (tvs xs) [tb])) (by rw [tvs_len]; exact hlt) J.out.2 (by rw [tvs_at hlt]; exact X.out.2)⟩
            case measure => rw [hw]; simp [intOf]; omega
        · obtain rfl : j = ys.length := by omega
          have hall := J.out.2
          rw [← tvs_len ys, List.take_length] at hall
          have HA := Lib.hid (twice_none hall)
          clear hall
          go_wp2
          go_ret2
          refine ⟨⟨r, B5.out.2.1, ?_⟩, step0 B6.out.1 J.out.1⟩
          have e : fin (tvs xs) [tb] r = r := by
            unfold fin
            rw [if_neg (by simpa using B5.out.2.2.1), if_neg (by rw [← B5.out.2.2.2.2.1]; simp [HA.out])]
          rw [e]
          exact .inr ⟨B5.out.2.2.1, _, ys, rfl, B6.out.2.1.keep J.out.1, B5.out.2.2.2.2.1, B6.out.2.2.1.keep J.out.1⟩

theorem mg_merge (x0 x1 x2 : Value) (w : World) : (Go.method 385 113 (.agg #[x0, x1, x2]) "transom/change.targets").run Tryz.prog w = .ok (208, .agg #[x0, x1, x2]) w := by kernel_rfl

set_option maxHeartbeats 4000000 in
theorem targets_lack6 (tb ot to al nm : Nm.S) (ty : Int) (no : Option Addr) (nn nc : Nat) (col : C) (df : T) (dO : Option Addr) (dc : Nat) (w : World) (xs : List TV) (ao : Option Addr) (cap : Nat) (hg : Env w) (h : SlV w ao xs) (hf : Fit w xs) (hl : xs.length ≤ 1000) (hE : cka (tvs xs) = 0) (hla : lack (tvs xs) [tb, ot] = true) :
    Calls Tryz.prog 18 #[.slice ao xs.length cap, .agg #[.int .i64 6, .string ⟨tb.toArray⟩, .string ⟨ot.toArray⟩, .string ⟨to.toArray⟩, .string ⟨al.toArray⟩, .string ⟨nm.toArray⟩, .int .i64 ty, .slice no nn nc, .string ⟨col.name.toArray⟩, .int .i64 col.kind, .bool col.null, .int .i64 col.d.k, .int .i64 col.d.n, .int .u64 col.d.b, .string ⟨col.d.s.toArray⟩, .string ⟨df.name.toArray⟩, .int .i64 df.keys, .slice dO df.cs.length dc]] w fun e w' => e = .returned (.tuple #[.slice none 0 0, .int .i64 9]) ∧ Below w.heap.size w w' := by
  have k1 := mg_merge
  have H := Lib.hid (And.intro hg (And.intro h (And.intro hf (And.intro hl hE))))
  clear hg h hf hl hE
  go_enter Tryz.func18, Tryz.ntmps18
  go_wp2_with fail
  refine (checkAll_is xs ao cap _ (H.out.1.keep (below1 _ _)) (H.out.2.1.below (below1 _ _)) (H.out.2.2.1.below (below1 _ _)) H.out.2.2.2.1 0 H.out.2.2.2.2).mono ?_
  rintro e w1 ⟨rfl, hb⟩
  have q := (Blk.new w #[.int .i64 6, .string ⟨tb.toArray⟩, .string ⟨ot.toArray⟩, .string ⟨to.toArray⟩, .string ⟨al.toArray⟩, .string ⟨nm.toArray⟩, .int .i64 ty, .slice no nn nc, .string ⟨col.name.toArray⟩, .int .i64 col.kind, .bool col.null, .int .i64 col.d.k, .int .i64 col.d.n, .int .u64 col.d.b, .string ⟨col.d.s.toArray⟩, .string ⟨df.name.toArray⟩, .int .i64 df.keys, .slice dO df.cs.length dc] 32).below hb
  have B := Lib.hid (And.intro (step1 (Below.refl _ w) hb) q)
  clear hb q
  go_wp2_with ((refine (?_ : wpList _ _ _ (Oper.mk _ (Op.load 32 _) _ _ _ _ :: _) _ _)); refine wpList_load_mid rfl 32 _ rfl w.heap.size 0 rfl [.int .i64 6, .string ⟨tb.toArray⟩, .string ⟨ot.toArray⟩, .string ⟨to.toArray⟩, .string ⟨al.toArray⟩, .string ⟨nm.toArray⟩, .int .i64 ty, .slice no nn nc, .string ⟨col.name.toArray⟩, .int .i64 col.kind, .bool col.null, .int .i64 col.d.k, .int .i64 col.d.n, .int .u64 col.d.b, .string ⟨col.d.s.toArray⟩, .string ⟨df.name.toArray⟩, .int .i64 df.keys, .slice dO df.cs.length dc] _ (rng (B.out.2)) Tryz.underlying32 rfl infoCh ?_; go_frame)
  refine (changer_6 tb ot to al nm ty no nn nc col df dO dc _).mono ?_
  rintro e w2 ⟨rfl, hb⟩
  have B2 := Lib.hid (step0 B.out.1 hb)
  clear hb
  go_wp2_with fail
  refine (taken_6 tb ot to al nm ty no nn nc col df dO dc _).mono ?_
  rintro e w3 ⟨v, rfl, hO, hb⟩
  obtain ⟨bo, bc, rfl, hS⟩ := hO.sl
  have B3 := Lib.hid (And.intro (step0 B2.out hb) hS)
  clear hb hO hS
  go_wp2_with fail
  refine (ofNames_is xs [tb, ot] _ _ ao bo cap bc _ rfl rfl (H.out.2.1.below B3.out.1) B3.out.2 H.out.2.2.2.1 (by simp)).mono ?_
  rintro e w4 ⟨⟨_, rfl⟩ | ⟨h1, _⟩, hb⟩
  · have B4 := Lib.hid (step0 B3.out.1 hb)
    clear hb
    go_wp2
    go_ret2
    exact ⟨rfl, B4.out⟩
  · rw [hla] at h1; cases h1

set_option maxHeartbeats 8000000 in
theorem targets_6 (tb ot to al nm : Nm.S) (ty : Int) (no : Option Addr) (nn nc : Nat) (col : C) (df : T) (dO : Option Addr) (dc : Nat) (w : World) (xs : List TV) (ao : Option Addr) (cap : Nat) (hg : Env w) (h : SlV w ao xs) (hf : Fit w xs) (hl : xs.length ≤ 1000) (hE : cka (tvs xs) = 0) (hla : lack (tvs xs) [tb, ot] = false) (Pr : List T × Int → Prop)
    (hcal : ∀ (W : World) (fo : Option Addr) (fc : Nat), Below w.heap.size w W → SlV W fo ([tb, ot].map (tvat xs)) → Calls Tryz.prog 208 #[.agg #[.string ⟨tb.toArray⟩, .string ⟨ot.toArray⟩, .string ⟨to.toArray⟩], .slice fo 2 fc] W fun e w' => (∃ r, Pr r ∧ TR W w' e r) ∧ Below W.heap.size W w') :
    Calls Tryz.prog 18 #[.slice ao xs.length cap, .agg #[.int .i64 6, .string ⟨tb.toArray⟩, .string ⟨ot.toArray⟩, .string ⟨to.toArray⟩, .string ⟨al.toArray⟩, .string ⟨nm.toArray⟩, .int .i64 ty, .slice no nn nc, .string ⟨col.name.toArray⟩, .int .i64 col.kind, .bool col.null, .int .i64 col.d.k, .int .i64 col.d.n, .int .u64 col.d.b, .string ⟨col.d.s.toArray⟩, .string ⟨df.name.toArray⟩, .int .i64 df.keys, .slice dO df.cs.length dc]] w fun e w' => (∃ r, Pr r ∧ TR w w' e (fin (tvs xs) [tb, ot] r)) ∧ Below w.heap.size w w' := by
  have HC := Lib.hid hcal
  clear hcal
  have k1 := mg_merge
  have H := Lib.hid (And.intro hg (And.intro h (And.intro hf (And.intro hl hE))))
  clear hg h hf hl hE
  go_enter Tryz.func18, Tryz.ntmps18
  go_wp2_with fail
  refine (checkAll_is xs ao cap _ (H.out.1.keep (below1 _ _)) (H.out.2.1.below (below1 _ _)) (H.out.2.2.1.below (below1 _ _)) H.out.2.2.2.1 0 H.out.2.2.2.2).mono ?_
  rintro e w1 ⟨rfl, hb⟩
  have q := (Blk.new w #[.int .i64 6, .string ⟨tb.toArray⟩, .string ⟨ot.toArray⟩, .string ⟨to.toArray⟩, .string ⟨al.toArray⟩, .string ⟨nm.toArray⟩, .int .i64 ty, .slice no nn nc, .string ⟨col.name.toArray⟩, .int .i64 col.kind, .bool col.null, .int .i64 col.d.k, .int .i64 col.d.n, .int .u64 col.d.b, .string ⟨col.d.s.toArray⟩, .string ⟨df.name.toArray⟩, .int .i64 df.keys, .slice dO df.cs.length dc] 32).below hb
  have B := Lib.hid (And.intro (step1 (Below.refl _ w) hb) q)
  clear hb q
  go_wp2_with ((refine (?_ : wpList _ _ _ (Oper.mk _ (Op.load 32 _) _ _ _ _ :: _) _ _)); refine wpList_load_mid rfl 32 _ rfl w.heap.size 0 rfl [.int .i64 6, .string ⟨tb.toArray⟩, .string ⟨ot.toArray⟩, .string ⟨to.toArray⟩, .string ⟨al.toArray⟩, .string ⟨nm.toArray⟩, .int .i64 ty, .slice no nn nc, .string ⟨col.name.toArray⟩, .int .i64 col.kind, .bool col.null, .int .i64 col.d.k, .int .i64 col.d.n, .int .u64 col.d.b, .string ⟨col.d.s.toArray⟩, .string ⟨df.name.toArray⟩, .int .i64 df.keys, .slice dO df.cs.length dc] _ (rng (B.out.2)) Tryz.underlying32 rfl infoCh ?_; go_frame)
  refine (changer_6 tb ot to al nm ty no nn nc col df dO dc _).mono ?_
  rintro e w2 ⟨rfl, hb⟩
  have B2 := Lib.hid (step0 B.out.1 hb)
  clear hb
  go_wp2_with fail
  refine (taken_6 tb ot to al nm ty no nn nc col df dO dc _).mono ?_
  rintro e w3 ⟨v, rfl, hO, hb⟩
  obtain ⟨bo, bc, rfl, hS⟩ := hO.sl
  have B3 := Lib.hid (And.intro (step0 B2.out hb) hS)
  clear hb hO hS
  go_wp2_with fail
  refine (ofNames_is xs [tb, ot] _ _ ao bo cap bc _ rfl rfl (H.out.2.1.below B3.out.1) B3.out.2 H.out.2.2.2.1 (by simp)).mono ?_
  rintro e w4 ⟨⟨h1, _⟩ | ⟨_, v4, rfl, hO4⟩, hb⟩
  · rw [hla] at h1; cases h1
  · obtain ⟨fo, fc, rfl, _, hS4⟩ := hO4.sl
    have B4 := Lib.hid (And.intro (step0 B3.out.1 hb) (And.intro hS4 (B3.out.2.below hb)))
    clear hb hO4 hS4 hla
    go_wp2_with fail
    refine (HC.out _ fo fc B4.out.1 B4.out.2.1).mono ?_
    rintro e w5 ⟨⟨r, hPr, ⟨hr, rfl⟩ | ⟨hr, v5, ys, rfl, hO5, hy5, hf5⟩⟩, hb⟩
    · have e0 := bne_t hr
      obtain ⟨l5, E5⟩ := r
      simp only at hr e0
      have B5 := Lib.hid (And.intro (step0 B4.out.1 hb) hPr)
      clear hb hPr
      go_wp2
      go_ret2
      exact ⟨⟨_, B5.out.2, TR.bad (by unfold fin; rw [if_pos hr]) hr⟩, B5.out.1⟩
    · obtain ⟨vo, vc, rfl, _, hS5⟩ := hO5.sl
      have B5 := Lib.hid (And.intro (step0 B4.out.1 hb) (And.intro hPr (And.intro hr (And.intro (hO5.base B4.out.1.size) (And.intro hy5 (And.intro (hf5.base B4.out.1.size) (And.intro hS5 (B4.out.2.2.below hb))))))))
      clear hb hPr hr hO5 hy5 hf5 hS5
      go_wp2_with fail
      refine (cwithout_is xs [tb, ot] _ _ ao bo cap bc _ rfl rfl (H.out.2.1.below B5.out.1) B5.out.2.2.2.2.2.2.2 H.out.2.2.2.1 (by simp)).mono ?_
      rintro e w6 ⟨v6, rfl, hO6, hb⟩
      obtain ⟨lo, lc, rfl, _, hS6⟩ := hO6.sl
      have B6 := Lib.hid (And.intro (step0 B5.out.1 hb) (And.intro (B5.out.2.2.2.1.keep hb) (And.intro (B5.out.2.2.2.2.2.1.keep hb) (And.intro (B5.out.2.2.2.2.2.2.1.below hb) hS6))))
      clear hb hO6 hS6
      go_wp2
      go_loopw [49] (fun i wr => ∃ j : Nat, i = .int .i64 j ∧ j ≤ ys.length ∧ Below w6.heap.size w6 wr ∧ ∀ t ∈ (tvs ys).take j, t.name ∉ nms (lft (tvs xs) [tb, ot])) (fun i _ => ys.length - (intOf i).toNat)
      case atStart => exact ⟨0, rfl, Nat.zero_le _, Below.refl _ _, by simp⟩
      case round =>
        obtain ⟨j, rfl, hj, hb, hn⟩ := hrel
        have J := Lib.hid (And.intro hb hn)
        clear hb hn
        by_cases hlt : j < ys.length
        · obtain ⟨a, rfl, y0, y1, y2⟩ := B6.out.2.2.2.1.below J.out.1 j ys[j] (List.getElem?_eq_getElem hlt)
          have hw : wrap64 ((j : Int) + 1) = (j : Int) + 1 := by have := B5.out.2.2.2.1.len; exact wrap_in _ (by omega) (by omega)
          obtain ⟨F, hF⟩ : ∃ F, Nm.fi (nms (tvs (lftv xs [tb, ot]))) ys[j].t.name = F := ⟨_, rfl⟩
          by_cases hin : ys[j].t.name ∈ nms (lft (tvs xs) [tb, ot])
          · have d0 : decide (0 ≤ F) = true := by rw [decide_eq_true_iff, ← hF, lftv_tvs, fi_mem hin]; omega
            have X := Lib.hid (And.intro hF (twice_stop (l := tvs xs) (g := [tb, ot]) (to' := tvs ys) (j := j) (by rw [tvs_len]; exact hlt) (by rw [tvs_at hlt]; exact hin)))
            clear hF hin
            go_wp2_with fail
            refine (cfind_is (lftv xs [tb, ot]) ys[j].t.name lo lc _ F ((B6.out.2.2.2.2.below J.out.1).below (below1 _ _)) (Nat.le_trans (List.length_filter_le _ _) H.out.2.2.2.1) X.out.1).mono ?_
            rintro e w7 ⟨rfl, hb⟩
            have B7 := Lib.hid (step1 (step0 B6.out.1 J.out.1) hb)
            clear hb
            go_wp2
            go_ret2
            refine ⟨⟨r, B5.out.2.1, TR.bad ?_ (by decide)⟩, B7.out⟩
            unfold fin
            rw [if_neg (by simpa using B5.out.2.2.1), if_pos (by rw [← B5.out.2.2.2.2.1]; exact X.out.2)]
          · have d0 : decide (0 ≤ F) = false := by rw [decide_eq_false_iff_not, ← hF, lftv_tvs, Nm.fi_none _ _ hin]; omega
            have X := Lib.hid (And.intro hF hin)
            clear hF hin
            go_wp2_with fail
            refine (cfind_is (lftv xs [tb, ot]) ys[j].t.name lo lc _ F ((B6.out.2.2.2.2.below J.out.1).below (below1 _ _)) (Nat.le_trans (List.length_filter_le _ _) H.out.2.2.2.1) X.out.1).mono ?_
            rintro e w7 ⟨rfl, hb⟩
            have B7 := Lib.hid (step1 J.out.1 hb)
            clear hb
            go_wp2
            go_roundw
            case rel => exact ⟨j + 1, by go_num, hlt, B7.out, ttake_all (l := tvs ys) (p := fun t => t.name ∉ nms (lft (tvs xs) [tb, ot])) (by rw [tvs_len]; exact hlt) J.out.2 (by rw [tvs_at hlt]; exact X.out.2)⟩
            case measure => rw [hw]; simp [intOf]; omega
        · obtain rfl : j = ys.length := by omega
          have hall := J.out.2
          rw [← tvs_len ys, List.take_length] at hall
          have HA := Lib.hid (twice_none hall)
          clear hall
          go_wp2
          go_ret2
          refine ⟨⟨r, B5.out.2.1, ?_⟩, step0 B6.out.1 J.out.1⟩
          have e : fin (tvs xs) [tb, ot] r = r := by
            unfold fin
            rw [if_neg (by simpa using B5.out.2.2.1), if_neg (by rw [← B5.out.2.2.2.2.1]; simp [HA.out])]
          rw [e]
          exact .inr ⟨B5.out.2.2.1, _, ys, rfl, B6.out.2.1.keep J.out.1, B5.out.2.2.2.2.1, B6.out.2.2.1.keep J.out.1⟩

end Go.Proofs.YtdonmbmahcjfbaaGreatDoor

namespace Go.Proofs.YtdonmbmahcjfbaaGreatDoor
open Go.RowKit
set_option linter.unusedVariables false

theorem tgt_bad {c : Ch} {v : V} {l : List T} (h : cka l ≠ 0) : c.tgt v l = ([], cka l) := by unfold Ch.tgt; rw [if_pos h]
theorem tgt_none {c : Ch} {v : V} {l : List T} (h : cka l = 0) (hk : c.kind < 1 ∨ 6 < c.kind) : c.tgt v l = ([], 1) := by unfold Ch.tgt; rw [if_neg (by simpa using h), if_pos hk]
theorem tgt_lack {c : Ch} {v : V} {l : List T} (h : cka l = 0) (hk : ¬ (c.kind < 1 ∨ 6 < c.kind)) (hl : lack l c.src = true) : c.tgt v l = ([], 9) := by unfold Ch.tgt; rw [if_neg (by simpa using h), if_neg hk, if_pos hl]
theorem tgt_fin {c : Ch} {v : V} {l : List T} (h : cka l = 0) (hk : ¬ (c.kind < 1 ∨ 6 < c.kind)) (hl : lack l c.src = false) : c.tgt v l = fin l c.src (c.bod v l) := by unfold Ch.tgt fin; rw [if_neg (by simpa using h), if_neg hk, if_neg (by simp [hl])]

/-- What split's own, and merge's, answers. -/
def SplitC (w : World) (xs : List TV) (c : Ch) (no : Option Addr) (nc : Nat) : Prop :=
  ∀ (W : World) (fo : Option Addr) (fc : Nat), Below w.heap.size w W → SlV W fo [tvat xs c.table] → Calls Tryz.prog 205 #[.agg #[.string ⟨c.table.toArray⟩, .string ⟨c.to.toArray⟩, .string ⟨c.also.toArray⟩, .slice no c.names.length nc], .slice fo 1 fc] W fun e w' => TR W w' e ((tat (tvs xs) c.table).spl c) ∧ Below W.heap.size W w'
def MergeC (w : World) (xs : List TV) (c : Ch) : Prop :=
  ∀ (W : World) (fo : Option Addr) (fc : Nat), Below w.heap.size w W → SlV W fo [tvat xs c.table, tvat xs c.other] → Calls Tryz.prog 208 #[.agg #[.string ⟨c.table.toArray⟩, .string ⟨c.other.toArray⟩, .string ⟨c.to.toArray⟩], .slice fo 2 fc] W fun e w' => TR W w' e (c.mrg (tat (tvs xs) c.table) (tat (tvs xs) c.other)) ∧ Below W.heap.size W w'

set_option maxHeartbeats 2000000 in
theorem targets_is (c : Ch) (no : Option Addr) (nc : Nat) (dO : Option Addr) (dc : Nat) (xs : List TV) (ao : Option Addr) (cap : Nat) (w : World) (hg : Env w) (h : SlV w ao xs) (hf : Fit w xs) (hl : xs.length ≤ 1000) (hdf : At3 w c.df dO dc) (hcol : c.col.d.ok)
    (hCan : ∀ (k : Int) (W : World), Calls Tryz.prog 204 #[.int .i64 k, .int .i64 c.type] W fun e w' => e = .returned (.bool (Km.Cv.can k c.type)) ∧ Below W.heap.size W w')
    (Pv : V → Prop) (hPv : ∀ v, Pv v → v.ok) (hP0 : ∃ v, Pv v)
    (hTo : ∀ W, Below w.heap.size w W → Calls Tryz.prog 51 #[.agg #[.int .i64 ((tat (tvs xs) c.table).col c.name).d.k, .int .i64 ((tat (tvs xs) c.table).col c.name).d.n, .int .u64 ((tat (tvs xs) c.table).col c.name).d.b, .string ⟨((tat (tvs xs) c.table).col c.name).d.s.toArray⟩], .int .i64 c.type] W fun e w' => ∃ (v : V) (E : Int), Pv v ∧ e = .returned (.tuple #[.agg #[.int .i64 v.k, .int .i64 v.n, .int .u64 v.b, .string ⟨v.s.toArray⟩], .int .i64 E]) ∧ Below W.heap.size W w')
    (hSp : c.kind = 5 → lack (tvs xs) c.src = false → cka (tvs xs) = 0 → SplitC w xs c no nc) (hMg : c.kind = 6 → lack (tvs xs) c.src = false → cka (tvs xs) = 0 → MergeC w xs c) :
    Calls Tryz.prog 18 #[.slice ao xs.length cap, .agg #[.int .i64 c.kind, .string ⟨c.table.toArray⟩, .string ⟨c.other.toArray⟩, .string ⟨c.to.toArray⟩, .string ⟨c.also.toArray⟩, .string ⟨c.name.toArray⟩, .int .i64 c.type, .slice no c.names.length nc, .string ⟨c.col.name.toArray⟩, .int .i64 c.col.kind, .bool c.col.null, .int .i64 c.col.d.k, .int .i64 c.col.d.n, .int .u64 c.col.d.b, .string ⟨c.col.d.s.toArray⟩, .string ⟨c.df.name.toArray⟩, .int .i64 c.df.keys, .slice dO c.df.cs.length dc]] w fun e w' => (∃ v, Pv v ∧ TR w w' e (c.tgt v (tvs xs))) ∧ Below w.heap.size w w' := by
  obtain ⟨v0, hv0⟩ := hP0
  by_cases hE : cka (tvs xs) = 0
  case neg =>
    refine (targets_bad c.kind c.table c.other c.to c.also c.name c.type no c.names.length nc c.col c.df dO dc w xs ao cap hg h hf hl _ rfl hE).mono ?_
    rintro e w1 ⟨rfl, hb⟩
    exact ⟨⟨v0, hv0, TR.bad (tgt_bad hE) hE⟩, hb⟩
  have hck := (cka_ok hE).2.1
  by_cases hk : c.kind < 1 ∨ 6 < c.kind
  · refine (targets_0 c.kind c.table c.other c.to c.also c.name c.type no c.names.length nc c.col c.df dO dc w xs ao cap hg h hf hl hE (beq_f (by omega)) (beq_f (by omega)) (beq_f (by omega)) (beq_f (by omega)) (beq_f (by omega)) (beq_f (by omega))).mono ?_
    rintro e w1 ⟨rfl, hb⟩
    exact ⟨⟨v0, hv0, TR.bad (tgt_none hE hk) (by decide)⟩, hb⟩
  have one : ∀ s, s ∈ nms (tvs xs) → At3 w (tvat xs s).t (tvat xs s).ao (tvat xs s).cap ∧ (tvat xs s).t = tat (tvs xs) s ∧ (tvat xs s).t.cs.length ≤ 8 ∧ 0 ≤ (tvat xs s).t.keys := fun s hs => by
    have e := tvat_t hs
    have h1 := T.ck_ok (hck _ (tat_mem hs))
    rw [← e] at h1
    exact ⟨hf _ (tvat_mem hs), e, h1.2.2.1, by omega⟩
  by_cases hla : lack (tvs xs) c.src = true
  · have fin9 : ∀ e w1, (e = .returned (.tuple #[.slice none 0 0, .int .i64 9]) ∧ Below w.heap.size w w1) → (∃ v, Pv v ∧ TR w w1 e (c.tgt v (tvs xs))) ∧ Below w.heap.size w w1 := by
      rintro e w1 ⟨rfl, hb⟩
      exact ⟨⟨v0, hv0, TR.bad (tgt_lack hE hk hla) (by decide)⟩, hb⟩
    obtain ⟨K, tb, ot, tn, al, nm, ty, ns, col, df⟩ := c
    simp only at hk
    have hK : K = 1 ∨ K = 2 ∨ K = 3 ∨ K = 4 ∨ K = 5 ∨ K = 6 := by omega
    rcases hK with rfl | rfl | rfl | rfl | rfl | rfl
    · have : lack (tvs xs) [] = true := hla
      simp [lack] at this
    · exact (targets_lack2 tb ot tn al nm ty no ns.length nc col df dO dc w xs ao cap hg h hf hl hE hla).mono fin9
    · exact (targets_lack3 tb ot tn al nm ty no ns.length nc col df dO dc w xs ao cap hg h hf hl hE hla).mono fin9
    · exact (targets_lack4 tb ot tn al nm ty no ns.length nc col df dO dc w xs ao cap hg h hf hl hE hla).mono fin9
    · exact (targets_lack5 tb ot tn al nm ty no ns.length nc col df dO dc w xs ao cap hg h hf hl hE hla).mono fin9
    · exact (targets_lack6 tb ot tn al nm ty no ns.length nc col df dO dc w xs ao cap hg h hf hl hE hla).mono fin9
  · have hla' : lack (tvs xs) c.src = false := by simpa using hla
    have hin := lack_all hla'
    have fin1 : ∀ e w1, ((∃ r, (∃ v, Pv v ∧ r = c.bod v (tvs xs)) ∧ TR w w1 e (fin (tvs xs) c.src r)) ∧ Below w.heap.size w w1) → (∃ v, Pv v ∧ TR w w1 e (c.tgt v (tvs xs))) ∧ Below w.heap.size w w1 := by
      rintro e w1 ⟨⟨r, ⟨v, hv, rfl⟩, htr⟩, hb⟩
      refine ⟨⟨v, hv, ?_⟩, hb⟩
      rw [tgt_fin hE hk hla']
      exact htr
    obtain ⟨K, tb, ot, tn, al, nm, ty, ns, col, df⟩ := c
    simp only at hk hdf hcol hCan hTo
    have hK : K = 1 ∨ K = 2 ∨ K = 3 ∨ K = 4 ∨ K = 5 ∨ K = 6 := by omega
    rcases hK with rfl | rfl | rfl | rfl | rfl | rfl
    · refine (targets_1 tb ot tn al nm ty no ns.length nc col df dO dc w xs ao cap hg h hf hl hE hla' (fun r => ∃ v, Pv v ∧ r = Ch.bod ⟨1, tb, ot, tn, al, nm, ty, ns, col, df⟩ v (tvs xs)) fun W fo fc hb hs => ?_).mono fin1
      refine (create_is df dO dc _ W (hg.keep hb) (hdf.keep hb)).mono ?_
      rintro e w1 ⟨htr, hb1⟩
      exact ⟨⟨_, ⟨v0, hv0, rfl⟩, htr⟩, hb1⟩
    · obtain ⟨a1, a2, a3, a4⟩ := one tb (hin tb (by simp [Ch.src]))
      refine (targets_2 tb ot tn al nm ty no ns.length nc col df dO dc w xs ao cap hg h hf hl hE hla' (fun r => ∃ v, Pv v ∧ r = Ch.bod ⟨2, tb, ot, tn, al, nm, ty, ns, col, df⟩ v (tvs xs)) fun W fo fc hb hs => ?_).mono fin1
      refine (add_is tb col (tvat xs tb) fo fc W (hg.keep hb) hcol hs (a1.keep hb) a3).mono ?_
      rintro e w1 ⟨htr, hb1⟩
      rw [a2] at htr
      exact ⟨⟨_, ⟨v0, hv0, rfl⟩, htr⟩, hb1⟩
    · obtain ⟨a1, a2, a3, a4⟩ := one tb (hin tb (by simp [Ch.src]))
      refine (targets_3 tb ot tn al nm ty no ns.length nc col df dO dc w xs ao cap hg h hf hl hE hla' (fun r => ∃ v, Pv v ∧ r = Ch.bod ⟨3, tb, ot, tn, al, nm, ty, ns, col, df⟩ v (tvs xs)) fun W fo fc hb hs => ?_).mono fin1
      refine (drop_is tb nm (tvat xs tb) a4 fo fc W hs (a1.keep hb) a3).mono ?_
      rintro e w1 ⟨htr, hb1⟩
      rw [a2] at htr
      exact ⟨⟨_, ⟨v0, hv0, rfl⟩, htr⟩, hb1⟩
    · obtain ⟨a1, a2, a3, a4⟩ := one tb (hin tb (by simp [Ch.src]))
      refine (targets_4 tb ot tn al nm ty no ns.length nc col df dO dc w xs ao cap hg h hf hl hE hla' (fun r => ∃ v, Pv v ∧ r = Ch.bod ⟨4, tb, ot, tn, al, nm, ty, ns, col, df⟩ v (tvs xs)) fun W fo fc hb hs => ?_).mono fin1
      refine (retype_is tb nm ty (tvat xs tb) a4 fo fc W hs (a1.keep hb) a3 hCan Pv hPv ⟨v0, hv0⟩ (fun W' hb' => by rw [a2]; exact hTo W' (step0 hb hb'))).mono ?_
      rintro e w1 ⟨⟨v, hv, htr⟩, hb1⟩
      rw [a2] at htr
      exact ⟨⟨_, ⟨v, hv, rfl⟩, htr⟩, hb1⟩
    · refine (targets_5 tb ot tn al nm ty no ns.length nc col df dO dc w xs ao cap hg h hf hl hE hla' (fun r => ∃ v, Pv v ∧ r = Ch.bod ⟨5, tb, ot, tn, al, nm, ty, ns, col, df⟩ v (tvs xs)) fun W fo fc hb hs => ?_).mono fin1
      refine (hSp rfl hla' hE W fo fc hb hs).mono ?_
      rintro e w1 ⟨htr, hb1⟩
      exact ⟨⟨_, ⟨v0, hv0, rfl⟩, htr⟩, hb1⟩
    · refine (targets_6 tb ot tn al nm ty no ns.length nc col df dO dc w xs ao cap hg h hf hl hE hla' (fun r => ∃ v, Pv v ∧ r = Ch.bod ⟨6, tb, ot, tn, al, nm, ty, ns, col, df⟩ v (tvs xs)) fun W fo fc hb hs => ?_).mono fin1
      refine (hMg rfl hla' hE W fo fc hb hs).mono ?_
      rintro e w1 ⟨htr, hb1⟩
      exact ⟨⟨_, ⟨v0, hv0, rfl⟩, htr⟩, hb1⟩

end Go.Proofs.YtdonmbmahcjfbaaGreatDoor
