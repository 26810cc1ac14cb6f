/-
 A change in memory, as one block; a block loaded and stored whole; what a store leaves alone. No condition.
-/
import Derived.Test.YtmgdciihpjifgaaGreatDoorQrOpPlain
import Derived.Test.YtmgdciihpjifgaaGreatDoorQrScCheck
import Derived.Test.YtmgdciihpjifgaaGreatDoorQrKcReadBytes
import Derived.Test.YtmgdciihpjifgaaGreatDoorQrKcRead
import Derived.Deep.MidRow
namespace Go.Proofs.YtmgdciihpjifgaaGreatDoor
open Go.RowKit
def Ch.a (c : Ch) (no : Option Addr) (nc : Nat) (dO : Option Addr) (dc : Nat) : Array Value :=
 #[.int .i64 c.kind, .string ⟨c.table.toArray⟩, .string ⟨c.other.toArray⟩, .string ⟨c.to.toArray⟩, .string ⟨c.also.toArray⟩, .string ⟨c.name.toArray⟩, .int .i64 c.type, .slice no c.names.length nc, .string ⟨c.col.name.toArray⟩, .int .i64 c.col.kind, .bool c.col.null, .int .i64 c.col.d.k, .int .i64 c.col.d.n, .int .u64 c.col.d.b, .string ⟨c.col.d.s.toArray⟩, .string ⟨c.df.name.toArray⟩, .int .i64 c.df.keys, .slice dO c.df.cs.length dc]
section
variable (c : Ch) (no : Option Addr) (nc : Nat) (dO : Option Addr) (dc : Nat)
@[go_sem] theorem Ch.a_0 : (c.a no nc dO dc)[0]? = some (.int .i64 c.kind) := rfl
@[go_sem] theorem Ch.a_1 : (c.a no nc dO dc)[1]? = some (.string ⟨c.table.toArray⟩) := rfl
@[go_sem] theorem Ch.a_2 : (c.a no nc dO dc)[2]? = some (.string ⟨c.other.toArray⟩) := rfl
@[go_sem] theorem Ch.a_3 : (c.a no nc dO dc)[3]? = some (.string ⟨c.to.toArray⟩) := rfl
@[go_sem] theorem Ch.a_4 : (c.a no nc dO dc)[4]? = some (.string ⟨c.also.toArray⟩) := rfl
@[go_sem] theorem Ch.a_5 : (c.a no nc dO dc)[5]? = some (.string ⟨c.name.toArray⟩) := rfl
@[go_sem] theorem Ch.a_6 : (c.a no nc dO dc)[6]? = some (.int .i64 c.type) := rfl
@[go_sem] theorem Ch.a_7 : (c.a no nc dO dc)[7]? = some (.slice no c.names.length nc) := rfl
@[go_sem] theorem Ch.a_8 : (c.a no nc dO dc)[8]? = some (.string ⟨c.col.name.toArray⟩) := rfl
@[go_sem] theorem Ch.a_9 : (c.a no nc dO dc)[9]? = some (.int .i64 c.col.kind) := rfl
@[go_sem] theorem Ch.a_10 : (c.a no nc dO dc)[10]? = some (.bool c.col.null) := rfl
@[go_sem] theorem Ch.a_11 : (c.a no nc dO dc)[11]? = some (.int .i64 c.col.d.k) := rfl
@[go_sem] theorem Ch.a_12 : (c.a no nc dO dc)[12]? = some (.int .i64 c.col.d.n) := rfl
@[go_sem] theorem Ch.a_13 : (c.a no nc dO dc)[13]? = some (.int .u64 c.col.d.b) := rfl
@[go_sem] theorem Ch.a_14 : (c.a no nc dO dc)[14]? = some (.string ⟨c.col.d.s.toArray⟩) := rfl
@[go_sem] theorem Ch.a_15 : (c.a no nc dO dc)[15]? = some (.string ⟨c.df.name.toArray⟩) := rfl
@[go_sem] theorem Ch.a_16 : (c.a no nc dO dc)[16]? = some (.int .i64 c.df.keys) := rfl
@[go_sem] theorem Ch.a_17 : (c.a no nc dO dc)[17]? = some (.slice dO c.df.cs.length dc) := rfl
end
theorem infoCh : (Tryz.prog.info? 32).map (·.size) = some 18 := by kernel_rfl
def sa (l : List Nm.S) : Array Value := (l.map tv).toArray
theorem sa_at {l : List Nm.S} {j : Nat} (h : j < l.length) : (sa l)[j]? = some (.string ⟨l[j].toArray⟩) := by simp [sa, h, tv]
theorem sa_size (l : List Nm.S) : (sa l).size = l.length := by simp [sa]
theorem sa_set (l : List Nm.S) (j : Nat) (s : Nm.S) : (sa l).setIfInBounds j (.string ⟨s.toArray⟩) = sa (l.set j s) := by
 unfold sa
 rw [List.setIfInBounds_toArray, List.map_set]
 rfl
structure Wr (W W' : World) (b : Nat) : Prop where
 size : W'.heap.size = W.heap.size
 other : ∀ B, B ≠ b → W'.heap[B]? = W.heap[B]?
 below : ∀ n a, n ≤ b → Below n a W → Below n a W'
theorem Wr.one (W : World) (b i : Nat) (v : Value) : Wr W (W.setCell ⟨b, i, none⟩ v) b :=
 ⟨World.size_setCell .., fun B h => Below.heap_setCell W ⟨b, i, none⟩ v B h, fun _ _ h hb => below_set hb h i v⟩
theorem Wr.refl (W : World) (b : Nat) : Wr W W b := ⟨rfl, fun _ _ => rfl, fun _ _ _ h => h⟩
theorem Wr.trans {A B C : World} {b : Nat} (h : Wr A B b) (g : Wr B C b) : Wr A C b :=
 ⟨g.size.trans h.size, fun x hx => (g.other x hx).trans (h.other x hx), fun n a hn hb => g.below n a hn (h.below n a hn hb)⟩
theorem Wr.all (b : Nat) : ∀ (vs : List Value) (o : Nat) (W : World), Wr W (W.setCells b o vs) b
 | [], _, W => Wr.refl W b
 | v :: vs, o, W => (Wr.one W b o v).trans (Wr.all b vs (o + 1) _)
theorem Wr.blk {W W' : World} {b B : Nat} {cs : Array Value} {t : TypeId} (h : Wr W W' b) (q : Blk W B cs t) (hne : B ≠ b) : Blk W' B cs t := (h.other B hne).trans q
theorem Wr.cell {W W' : World} {b : Nat} (h : Wr W W' b) (p : Addr) (hne : p.block ≠ b) : W'.cell? p = W.cell? p := by
 unfold World.cell?
 rw [h.other _ hne]
def Up (n : Nat) (ao : Option Addr) : Prop := ∀ a, ao = some a → n ≤ a.block
theorem Up.mono {n m : Nat} {ao : Option Addr} (h : Up n ao) (hm : m ≤ n) : Up m ao := fun a e => Nat.le_trans hm (h a e)
theorem add_block (a : Addr) (i : Nat) : (a.add i).block = a.block := by unfold Addr.add; split <;> rfl
theorem up_none (n : Nat) : Up n none := fun a e => by cases e
theorem Wr.sls {W W' : World} {b n : Nat} {ao : Option Addr} {l : List Nm.S} (h : Wr W W' b) (q : SlS W ao l) (hu : Up n ao) (hn : b < n) : SlS W' ao l := by
 intro i x hi
 obtain ⟨a, rfl, hc⟩ := q i x hi
 have := hu a rfl
 exact ⟨a, rfl, by rw [h.cell _ (by rw [add_block]; omega)]; exact hc⟩
theorem Wr.slc {W W' : World} {b n : Nat} {ao : Option Addr} {l : List C} (h : Wr W W' b) (q : SlC W ao l) (hu : Up n ao) (hn : b < n) : SlC W' ao l := by
 intro i x hi
 obtain ⟨a, rfl, c0, c1, c2, c3, c4, c5, c6⟩ := q i x hi
 have := hu a rfl
 have e := add_block a (i * 7)
 have k : ∀ (p : Addr) (v : Option Value), W.cell? p = v → p.block = (a.add (i * 7)).block → W'.cell? p = v := fun p v g q => (h.cell p (by omega)).trans g
 exact ⟨a, rfl, k _ _ c0 rfl, k _ _ c1 rfl, k _ _ c2 rfl, k _ _ c3 rfl, k _ _ c4 rfl, k _ _ c5 rfl, k _ _ c6 rfl⟩
theorem Wr.sl {W W' : World} {b n : Nat} {ao : Option Addr} {l : List V} (h : Wr W W' b) (q : Sl W ao l) (hu : Up n ao) (hn : b < n) : Sl W' ao l := by
 intro i x hi
 obtain ⟨a, rfl, c0, c1, c2, c3⟩ := q i x hi
 have := hu a rfl
 have e := add_block a (i * 4)
 have k : ∀ (p : Addr) (v : Option Value), W.cell? p = v → p.block = (a.add (i * 4)).block → W'.cell? p = v := fun p v g q => (h.cell p (by omega)).trans g
 exact ⟨a, rfl, k _ _ c0 rfl, k _ _ c1 rfl, k _ _ c2 rfl, k _ _ c3 rfl⟩
theorem Blk.storedL {b : Nat} {t : TypeId} : ∀ (vs a rest : List Value) (W : World), Blk W b (a ++ rest).toArray t → vs.length = rest.length → Blk (W.setCells b a.length vs) b (a ++ vs).toArray t
 | [], a, [], W, h, _ => h
 | [], _, _ :: _, _, _, hl => by simp at hl
 | _ :: _, _, [], _, _, hl => by simp at hl
 | v :: vs, a, r :: rest, W, h, hl => by
  have h1 := h.setAt a.length v
  rw [List.setIfInBounds_toArray, List.set_append_right _ _ (Nat.le_refl _), Nat.sub_self, List.set_cons_zero] at h1
  have h2 := Blk.storedL vs (a ++ [v]) rest (W.setCell ⟨b, a.length, none⟩ v) (by simpa using h1) (by simpa using hl)
  rw [World.setCells]
  simpa using h2
theorem Blk.stored {W : World} {b : Nat} {cs cells : Array Value} {t : TypeId} (h : Blk W b cs t) (hs : cells.size = cs.size) : Blk (W.setCells b 0 cells.toList) b cells t := by
 have := Blk.storedL cells.toList [] cs.toList W (by simpa using h) (by simpa using hs)
 simpa using this
theorem Blk.wr {W W' : World} {b B : Nat} {cs : Array Value} {t : TypeId} (q : Blk W B cs t) (h : Wr W W' b) (hne : B ≠ b) : Blk W' B cs t := h.blk q hne
theorem Blk.rng {W : World} {b : Nat} {cs : Array Value} {t : TypeId} (h : Blk W b cs t) : W.rangeAt b 0 cs.toList := fun j v hv => by
 have := h.cell j
 rw [Nat.zero_add, this]
 simpa using hv
theorem Blk.there {W : World} {b : Nat} {cs : Array Value} {t : TypeId} (h : Blk W b cs t) : W.there b 0 cs.size := fun j hj => by
 rw [Nat.zero_add]
 exact ⟨by rw [h.cell j, Array.getElem?_eq_getElem hj]; rfl, h.frozen j⟩
theorem Blk.storedM {b : Nat} {t : TypeId} (post : List Value) : ∀ (vs a old : List Value) (W : World), Blk W b (a ++ (old ++ post)).toArray t → vs.length = old.length → Blk (W.setCells b a.length vs) b (a ++ (vs ++ post)).toArray t
 | [], a, [], W, h, _ => h
 | [], _, _ :: _, _, _, hl => by simp at hl
 | _ :: _, _, [], _, _, hl => by simp at hl
 | v :: vs, a, r :: old, W, h, hl => by
  have h1 := h.setAt a.length v
  rw [List.setIfInBounds_toArray, List.set_append_right _ _ (Nat.le_refl _), Nat.sub_self, List.cons_append, List.set_cons_zero] at h1
  have h2 := Blk.storedM post vs (a ++ [v]) old (W.setCell ⟨b, a.length, none⟩ v) (by simpa using h1) (by simpa using hl)
  rw [World.setCells]
  simpa using h2
theorem wpList_store_part {ops : Array Oper} {rest : List Oper} {op : Oper} {a : Act} {w : World} {Q : Exit → Act → World → Prop} (hgd : op.guard = none) (ty T : TypeId) (x y : Operand) (ho : op.op = .store ty x y)
  (b o : Nat) (pre old vs post : List Value) (hx : a.eval x = .pointer (some ⟨b, o, none⟩)) (hy : a.eval y = .agg vs.toArray) (hc : Blk w b (pre ++ (old ++ post)).toArray T) (hpo : pre.length = o) (hs : vs.length = old.length)
  (hi : (Tryz.prog.info? ty).map (·.size) = some vs.length) (h1 : ∀ v ∈ vs, v.oneCell' = true)
  (h : ∀ w', Blk w' b (pre ++ (vs ++ post)).toArray T → Wr w w' b → wpList Tryz.prog ops Q rest (a.put op.dst undef) w') : wpList Tryz.prog ops Q (op :: rest) a w := by
 subst hpo
 refine wpList_store_mid hgd ty x y ho b pre.length vs.toArray hx hy (fun j hj => ?_) (by simpa using hi) (all_oneCell_toArray h1) (h _ ?_ (Wr.all b _ _ w))
 ·have e := hc.cell (pre.length + j)
  have hj' : j < vs.length := by simpa using hj
  refine ⟨?_, hc.frozen _⟩
  rw [e, Array.getElem?_eq_getElem (by simp; omega)]
  rfl
 ·have := Blk.storedM post vs pre old w hc hs
  simpa using this
theorem wpList_load_blk {ops : Array Oper} {rest : List Oper} {op : Oper} {a : Act} {w : World} {Q : Exit → Act → World → Prop} (hgd : op.guard = none) (ty : TypeId) (x : Operand) (ho : op.op = .load ty x)
  (b : Nat) (hx : a.eval x = .pointer (some ⟨b, 0, none⟩)) (cs : Array Value) (d : TypeDesc) (hc : Blk w b cs ty)
  (hu : Tryz.prog.underlying ty = some d) (hd : d.isRow = true) (hi : (Tryz.prog.info? ty).map (·.size) = some cs.size)
  (h : wpList Tryz.prog ops Q rest (a.put op.dst (.agg cs)) w) : wpList Tryz.prog ops Q (op :: rest) a w :=
 wpList_load_mid hgd ty x ho b 0 hx cs.toList d hc.rng hu hd (by simpa using hi) (by simpa using h)
theorem wpList_store_blk {ops : Array Oper} {rest : List Oper} {op : Oper} {a : Act} {w : World} {Q : Exit → Act → World → Prop} (hgd : op.guard = none) (ty : TypeId) (x y : Operand) (ho : op.op = .store ty x y)
  (b : Nat) (cs cells : Array Value) (hx : a.eval x = .pointer (some ⟨b, 0, none⟩)) (hy : a.eval y = .agg cells) (hc : Blk w b cs ty) (hs : cells.size = cs.size)
  (hi : (Tryz.prog.info? ty).map (·.size) = some cells.size) (h1 : cells.all (·.oneCell') = true)
  (h : ∀ w', Blk w' b cells ty → Wr w w' b → wpList Tryz.prog ops Q rest (a.put op.dst undef) w') : wpList Tryz.prog ops Q (op :: rest) a w :=
 wpList_store_mid hgd ty x y ho b 0 cells hx hy (hs ▸ hc.there) hi h1 (h _ (hc.stored hs) (Wr.all b _ 0 w))
theorem run_loadVar_blk {w : World} {b : Nat} {ty : TypeId} {cs : Array Value} {d : TypeDesc} (hc : Blk w b cs ty) (hu : Tryz.prog.underlying ty = some d) (hd : d.isRow = true) (hi : (Tryz.prog.info? ty).map (·.size) = some cs.size) :
  (loadVar ty ⟨b, 0, none⟩).run Tryz.prog w = .ok (.agg cs) w := by
 have := run_loadVar_mid (P := Tryz.prog) w b 0 ty cs.toList d hc.rng hu hd (by simpa using hi)
 simpa using this
theorem Ch.a_one (c : Ch) (no : Option Addr) (nc : Nat) (dO : Option Addr) (dc : Nat) : (c.a no nc dO dc).all (·.oneCell') = true := by simp [Ch.a, Value.oneCell']
theorem loadCh {w : World} {b : Nat} {c : Ch} {no : Option Addr} {nc : Nat} {dO : Option Addr} {dc : Nat} (hc : Blk w b (c.a no nc dO dc) 32) : (loadVar 32 ⟨b, 0, none⟩).run Tryz.prog w = .ok (.agg (c.a no nc dO dc)) w :=
 run_loadVar_blk hc Tryz.underlying32 rfl infoCh
theorem sem_bind {α β : Type} (x : Sem α) (f : α → Sem β) : Sem.bind x f = x >>= f := rfl
theorem sem_pure {α : Type} (x : α) : (Sem.pure x : Sem α) = pure x := rfl
set_option linter.unusedSimpArgs false in
theorem results_1 {fn : Func} {tmps : Array Value} {w : World} {a : Nat} {t : TypeId} {p : Addr} {v : Value} (hf : fn.results = #[.cell a t]) (ha : tmps.getD a undef = .pointer (some p)) (hl : (loadVar t p).run Tryz.prog w = .ok v w) :
  (results fn tmps).run Tryz.prog w = .ok v w := by
 unfold results
 rw [hf]
 simp only [Array.mapM_eq_mapM_toList, List.mapM_cons, List.mapM_nil, Sem.run_bind, Sem.run_pure, ha, asAddr, Result.andThen_ok, Functor.map, sem_bind, Function.comp, sem_pure, hl]
 rfl
set_option linter.unusedSimpArgs false in
theorem results_2 {fn : Func} {tmps : Array Value} {w : World} {a b : Nat} {t : TypeId} {p : Addr} {v u : Value} (hf : fn.results = #[.cell a t, .tmp b]) (ha : tmps.getD a undef = .pointer (some p)) (hb : tmps.getD b undef = u) (hl : (loadVar t p).run Tryz.prog w = .ok v w) :
  (results fn tmps).run Tryz.prog w = .ok (.tuple #[v, u]) w := by
 unfold results
 rw [hf]
 simp only [Array.mapM_eq_mapM_toList, List.mapM_cons, List.mapM_nil, Sem.run_bind, Sem.run_pure, ha, hb, asAddr, Result.andThen_ok, Functor.map, sem_bind, Function.comp, sem_pure, hl]
 rfl
set_option linter.unusedSimpArgs false in
theorem results_3 {fn : Func} {tmps : Array Value} {w : World} {a b c : Nat} {t : TypeId} {p : Addr} {v u x : Value} (hf : fn.results = #[.cell a t, .tmp b, .tmp c]) (ha : tmps.getD a undef = .pointer (some p)) (hb : tmps.getD b undef = u) (hc : tmps.getD c undef = x) (hl : (loadVar t p).run Tryz.prog w = .ok v w) :
  (results fn tmps).run Tryz.prog w = .ok (.tuple #[v, u, x]) w := by
 unfold results
 rw [hf]
 simp only [Array.mapM_eq_mapM_toList, List.mapM_cons, List.mapM_nil, Sem.run_bind, Sem.run_pure, ha, hb, hc, asAddr, Result.andThen_ok, Functor.map, sem_bind, Function.comp, sem_pure, hl]
 rfl
theorem textsOf_is (c : Ch) (no : Option Addr) (nc : Nat) (dO : Option Addr) (dc : Nat) (w : World) :
  Calls Tryz.prog 31 #[.agg (c.a no nc dO dc)] w fun e w' => e = .returned (.agg (sa c.tx)) ∧ Below w.heap.size w w' := by
 go_enter Tryz.func31, Tryz.ntmps31
 go_wp2
 refine bodyPost_ret (v := .agg (sa c.tx)) ?_ rfl ⟨rfl, ?_⟩
 ·simp [results, Tryz.results31, go_sem, sa, Ch.tx, tv]
 ·repeat (first | exact below2s _ _ _ | refine below_set ?_ (Nat.le_succ _) _ _)
end Go.Proofs.YtmgdciihpjifgaaGreatDoor
