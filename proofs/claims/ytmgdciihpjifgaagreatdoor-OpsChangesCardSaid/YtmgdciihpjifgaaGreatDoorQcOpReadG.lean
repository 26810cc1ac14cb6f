/-
  What bytes begin with, of a change: readTable. Conditions: texts of 1000000 bytes at most.
  How long the lists of a change that was read are.
-/
import Derived.Test.YtmgdciihpjifgaaGreatDoorQcOpReadC
import Derived.Test.YtmgdciihpjifgaaGreatDoorQcOpPlain
set_option maxHeartbeats 8000000
namespace Go.Proofs.YtmgdciihpjifgaaGreatDoor
open Go.RowKit
def RB (no : Option Addr) (nc : Nat) (R : Ch × List UInt8 × Int) (w : World) (e : Ending) (w' : World) : Prop :=
  ∃ mo mc dO dc, e = .returned (.tuple #[.agg (R.1.a mo mc dO dc), .string ⟨R.2.1.toArray⟩, .int .i64 R.2.2]) ∧ ((mo = no ∧ mc = nc) ∨ (mo = none ∧ R.1.names = [])) ∧ SlC w' dO R.1.df.cs ∧ R.1.df.cs.length ≤ dc ∧ Up w.heap.size dO ∧ Below w.heap.size w w'
theorem RB.bad {no : Option Addr} {nc : Nat} {w w' : World} {R : Ch × List UInt8 × Int} {E : Int} (h : R = (Ch0, [], E)) (hb : Below w.heap.size w w') : RB no nc R w (.returned (.tuple #[.agg (Ch0.a none 0 none 0), .string ⟨([] : List UInt8).toArray⟩, .int .i64 E])) w' := by
  subst h
  exact ⟨none, 0, none, 0, rfl, .inr ⟨rfl, rfl⟩, (fun i c h => by simp [Ch0, T0] at h), Nat.zero_le _, up_none _, hb⟩
section
variable (c : Ch) (no : Option Addr) (nc : Nat) (dO : Option Addr) (dc : Nat)
theorem Ch.setT (t : T) (ao : Option Addr) (cap : Nat) : ((((c.a no nc dO dc).setIfInBounds 15 (.string ⟨t.name.toArray⟩)).setIfInBounds 16 (.int .i64 t.keys)).setIfInBounds 17 (.slice ao t.cs.length cap)) = (⟨c.kind, c.table, c.other, c.to, c.also, c.name, c.type, c.names, c.col, t⟩ : Ch).a no nc ao cap := by simp [Ch.a]
end
theorem rdt_ck {l r : List UInt8} {t : T} (h : rdt l = (t, r, 0)) : t.ck = 0 := by
  unfold rdt at h
  split at h
  · rename_i g
    have : (rdr l).2.2 = 0 := congrArg (·.2.2) h
    exact absurd this g
  · split at h
    · rename_i g
      have : (rdr l).1.ck = 0 := congrArg (·.2.2) h
      exact absurd this g
    · rename_i g
      rw [h] at g
      simpa using g
theorem last_at {cs : List C} {n : Nat} (h : cs.length = n + 1) : cs.getLastD C0 = cs[n] := by
  have e : cs.length - 1 = n := by omega
  rw [List.getLastD_eq_getLast?, List.getLast?_eq_getElem?, e, List.getElem?_eq_getElem (by omega)]
  rfl
theorem infoCo : (Tryz.prog.info? 27).map (·.size) = some 7 := by kernel_rfl
theorem rtab_0 (c : Ch) (no : Option Addr) (nc : Nat) (l : List UInt8) (w : World) (hd : c.df.cs = []) (h1 : ¬ c.kind = 1) (h2 : ¬ c.kind = 2) :
    Calls Tryz.prog 39 #[.agg (c.a no nc none 0), .string ⟨l.toArray⟩] w (RB no nc (rtb c l) w) := by
  obtain ⟨R, hR⟩ : ∃ R, rtb c l = R := ⟨_, rfl⟩
  rw [hR]
  have HR := Lib.hid (show (c, l, (0 : Int)) = R from by rw [← hR]; unfold rtb; rw [if_neg (by omega)])
  have HD := Lib.hid hd
  have e1 : (c.kind != 1) = true := bne_t h1
  have e2 : (c.kind != 2) = true := bne_t h2
  clear hR hd
  go_enter Tryz.func39, Tryz.ntmps39
  go_wp2_with (first | ((refine (?_ : wpList _ _ _ (Oper.mk _ (Op.load 32 _) _ _ _ _ :: _) _ _)); refine wpList_load_blk rfl 32 _ rfl (w.heap.size) rfl (c.a no nc none 0) _ ((Blk.new w _ _).alloc _) Tryz.underlying32 rfl (infoCh) ?_; go_frame) | ((refine (?_ : wpList _ _ _ (Oper.mk _ (Op.store 32 _ _) _ _ _ _ :: _) _ _)); refine wpList_store_blk rfl 32 _ _ rfl (w.heap.size + 1) (Ch0.a none 0 none 0) (c.a no nc none 0) rfl rfl (Blk.new' _ _ _ _ (by simp)) (by first | rfl | simp [sa_size]) (infoCh) (Ch.a_one _ _ _ _ _) ?_))
  intro w9 q9 r9
  go_wp2
  refine bodyPost_ret (results_3 Tryz.results39 rfl rfl rfl (loadCh q9)) rfl ?_
  rw [← HR.out]
  exact ⟨no, nc, none, 0, rfl, .inl ⟨rfl, rfl⟩, (fun i c h => by simp [HD.out] at h), by simp [HD.out], up_none _, r9.below _ _ (by omega) (below2s w _ _)⟩
theorem rtab_bad1 (c : Ch) (no : Option Addr) (nc : Nat) (l l2 : List UInt8) (t : T) (E : Int) (w : World) (hg : Env w) (hl : l.length ≤ 1000000) (hd : c.df.cs = []) (h1 : c.kind = 1) (h2 : rdt l = (t, l2, E)) (hE : ¬ E = 0) :
    Calls Tryz.prog 39 #[.agg (c.a no nc none 0), .string ⟨l.toArray⟩] w (RB no nc (rtb c l) w) := by
  have Q := Lib.hid (show rtb c l = (Ch0, [], E) from by unfold rtb; rw [if_pos (by omega)]; exact bnd_err h2 hE _ _)
  have e9 := bne_t hE
  clear hE
  have e1 : (c.kind == 1) = true := by simpa using h1
  have e2 : (c.kind != 1) = false := by simpa using h1
  have H := Lib.hid (And.intro hg (And.intro hl (And.intro h2 hd)))
  clear hg hl h2 h1 hd
  go_enter Tryz.func39, Tryz.ntmps39
  go_wp2_with fail
  refine (read_is l l2 t E _ ((H.out.1.keep (below1 w _)).keep (below1 _ _)) H.out.2.1 H.out.2.2.1).mono ?_
  rintro y w1 ⟨ao, cap, rfl, hsl, hcap, hup, hb⟩
  have K := Lib.hid (And.intro (two_new (cs := c.a no nc none 0) (cs' := Ch0.a none 0 none 0) hb) (And.intro hsl (And.intro hcap hup)))
  clear hsl hcap hup hb
  have q1 := K.out.1.1.alloc (.cells #[.string ⟨t.name.toArray⟩, .int .i64 t.keys, .slice ao t.cs.length cap] 30)
  have qc := q1.cell
  have K3 := Lib.hid (And.intro (K.out.1.2.2.alloc K.out.1.2.2.size (.cells #[.string ⟨t.name.toArray⟩, .int .i64 t.keys, .slice ao t.cs.length cap] 30)) (And.intro q1 (And.intro (K.out.1.2.1.alloc (.cells #[.string ⟨t.name.toArray⟩, .int .i64 t.keys, .slice ao t.cs.length cap] 30)) (K.out.2.1.below (below1 w1 (.cells #[.string ⟨t.name.toArray⟩, .int .i64 t.keys, .slice ao t.cs.length cap] 30))))))
  clear q1
  go_wp2_with ((refine (?_ : wpList _ _ _ (Oper.mk _ (Op.store 32 _ _) _ _ _ _ :: _) _ _)); refine wpList_store_blk rfl 32 _ _ rfl (w.heap.size + 1) (Ch0.a none 0 none 0) (Ch0.a none 0 none 0) rfl rfl (K3.out.2.2.1) (by first | rfl | simp [sa_size]) (infoCh) (Ch.a_one _ _ _ _ _) ?_)
  intro w9 q9 r9
  go_wp2
  refine bodyPost_ret (results_3 Tryz.results39 rfl rfl rfl (loadCh q9)) rfl (RB.bad Q.out (r9.below _ _ (by omega) K3.out.1))
theorem rtab_bad2 (c : Ch) (no : Option Addr) (nc : Nat) (l l2 : List UInt8) (t : T) (E : Int) (w : World) (hg : Env w) (hl : l.length ≤ 1000000) (hd : c.df.cs = []) (h1 : c.kind = 2) (h2 : rdt l = (t, l2, E)) (hE : ¬ E = 0) :
    Calls Tryz.prog 39 #[.agg (c.a no nc none 0), .string ⟨l.toArray⟩] w (RB no nc (rtb c l) w) := by
  have Q := Lib.hid (show rtb c l = (Ch0, [], E) from by unfold rtb; rw [if_pos (by omega)]; exact bnd_err h2 hE _ _)
  have e9 := bne_t hE
  clear hE
  have e1 : (c.kind == 1) = false := by simp; omega
  have e2 : (c.kind != 1) = true := by simp; omega
  have e3 : (c.kind != 2) = false := by simpa using h1
  have H := Lib.hid (And.intro hg (And.intro hl (And.intro h2 hd)))
  clear hg hl h2 h1 hd
  go_enter Tryz.func39, Tryz.ntmps39
  go_wp2_with fail
  refine (read_is l l2 t E _ ((H.out.1.keep (below1 w _)).keep (below1 _ _)) H.out.2.1 H.out.2.2.1).mono ?_
  rintro y w1 ⟨ao, cap, rfl, hsl, hcap, hup, hb⟩
  have K := Lib.hid (And.intro (two_new (cs := c.a no nc none 0) (cs' := Ch0.a none 0 none 0) hb) (And.intro hsl (And.intro hcap hup)))
  clear hsl hcap hup hb
  have q1 := K.out.1.1.alloc (.cells #[.string ⟨t.name.toArray⟩, .int .i64 t.keys, .slice ao t.cs.length cap] 30)
  have qc := q1.cell
  have K3 := Lib.hid (And.intro (K.out.1.2.2.alloc K.out.1.2.2.size (.cells #[.string ⟨t.name.toArray⟩, .int .i64 t.keys, .slice ao t.cs.length cap] 30)) (And.intro q1 (And.intro (K.out.1.2.1.alloc (.cells #[.string ⟨t.name.toArray⟩, .int .i64 t.keys, .slice ao t.cs.length cap] 30)) (K.out.2.1.below (below1 w1 (.cells #[.string ⟨t.name.toArray⟩, .int .i64 t.keys, .slice ao t.cs.length cap] 30))))))
  clear q1
  go_wp2_with ((refine (?_ : wpList _ _ _ (Oper.mk _ (Op.store 32 _ _) _ _ _ _ :: _) _ _)); refine wpList_store_blk rfl 32 _ _ rfl (w.heap.size + 1) (Ch0.a none 0 none 0) (Ch0.a none 0 none 0) rfl rfl (K3.out.2.2.1) (by first | rfl | simp [sa_size]) (infoCh) (Ch.a_one _ _ _ _ _) ?_)
  intro w9 q9 r9
  go_wp2
  refine bodyPost_ret (results_3 Tryz.results39 rfl rfl rfl (loadCh q9)) rfl (RB.bad Q.out (r9.below _ _ (by omega) K3.out.1))
theorem rtab_1 (c : Ch) (no : Option Addr) (nc : Nat) (l l2 : List UInt8) (t : T) (w : World) (hg : Env w) (hl : l.length ≤ 1000000) (hd : c.df.cs = []) (h1 : c.kind = 1) (h2 : rdt l = (t, l2, 0)) :
    Calls Tryz.prog 39 #[.agg (c.a no nc none 0), .string ⟨l.toArray⟩] w (RB no nc (rtb c l) w) := by
  have Q := Lib.hid (show rtb c l = ((⟨c.kind, c.table, c.other, c.to, c.also, c.name, c.type, c.names, c.col, t⟩ : Ch), l2, 0) from by unfold rtb; rw [if_pos (by omega), bnd_ok h2]; unfold Ch.wt; rw [if_pos h1])
  have e1 : (c.kind == 1) = true := by simpa using h1
  have e2 : (c.kind != 1) = false := by simpa using h1
  have H := Lib.hid (And.intro hg (And.intro hl (And.intro h2 hd)))
  clear hg hl h2 h1 hd
  go_enter Tryz.func39, Tryz.ntmps39
  go_wp2_with fail
  refine (read_is l l2 t 0 _ ((H.out.1.keep (below1 w _)).keep (below1 _ _)) H.out.2.1 H.out.2.2.1).mono ?_
  rintro y w1 ⟨ao, cap, rfl, hsl, hcap, hup, hb⟩
  have K := Lib.hid (And.intro (two_new (cs := c.a no nc none 0) (cs' := Ch0.a none 0 none 0) hb) (And.intro hsl (And.intro hcap hup)))
  clear hsl hcap hup hb
  have q1 := K.out.1.1.alloc (.cells #[.string ⟨t.name.toArray⟩, .int .i64 t.keys, .slice ao t.cs.length cap] 30)
  have qc := q1.cell
  have K3 := Lib.hid (And.intro (K.out.1.2.2.alloc K.out.1.2.2.size (.cells #[.string ⟨t.name.toArray⟩, .int .i64 t.keys, .slice ao t.cs.length cap] 30)) (And.intro q1 (And.intro (K.out.1.2.1.alloc (.cells #[.string ⟨t.name.toArray⟩, .int .i64 t.keys, .slice ao t.cs.length cap] 30)) (K.out.2.1.below (below1 w1 (.cells #[.string ⟨t.name.toArray⟩, .int .i64 t.keys, .slice ao t.cs.length cap] 30))))))
  clear q1
  have qf := K3.out.2.1.frozen
  have WRT : Wr (w1.alloc (.cells #[.string ⟨t.name.toArray⟩, .int .i64 t.keys, .slice ao t.cs.length cap] 30)) ((((w1.alloc (.cells #[.string ⟨t.name.toArray⟩, .int .i64 t.keys, .slice ao t.cs.length cap] 30)).setCell ⟨w.heap.size, 15, none⟩ (.string ⟨t.name.toArray⟩)).setCell ⟨w.heap.size, 16, none⟩ (.int .i64 t.keys)).setCell ⟨w.heap.size, 17, none⟩ (.slice ao t.cs.length cap)) w.heap.size := ((((Wr.refl _ _).trans (Wr.one _ _ 15 _)).trans (Wr.one _ _ 16 _)).trans (Wr.one _ _ 17 _))
  have BC : Blk ((((w1.alloc (.cells #[.string ⟨t.name.toArray⟩, .int .i64 t.keys, .slice ao t.cs.length cap] 30)).setCell ⟨w.heap.size, 15, none⟩ (.string ⟨t.name.toArray⟩)).setCell ⟨w.heap.size, 16, none⟩ (.int .i64 t.keys)).setCell ⟨w.heap.size, 17, none⟩ (.slice ao t.cs.length cap)) w.heap.size ((⟨c.kind, c.table, c.other, c.to, c.also, c.name, c.type, c.names, c.col, t⟩ : Ch).a no nc ao cap) 32 := by
    have := (((K3.out.2.1.setAt 15 (.string ⟨t.name.toArray⟩)).setAt 16 (.int .i64 t.keys)).setAt 17 (.slice ao t.cs.length cap))
    rwa [Ch.setT] at this
  obtain ⟨w4, hw4⟩ : ∃ w4, ((((w1.alloc (.cells #[.string ⟨t.name.toArray⟩, .int .i64 t.keys, .slice ao t.cs.length cap] 30)).setCell ⟨w.heap.size, 15, none⟩ (.string ⟨t.name.toArray⟩)).setCell ⟨w.heap.size, 16, none⟩ (.int .i64 t.keys)).setCell ⟨w.heap.size, 17, none⟩ (.slice ao t.cs.length cap)) = w4 := ⟨_, rfl⟩
  rw [hw4] at WRT BC
  have K4 := Lib.hid (And.intro (WRT.below _ _ (Nat.le_refl _) K3.out.1) (And.intro BC (And.intro (K3.out.2.2.1.wr WRT (by omega)) (WRT.slc K3.out.2.2.2 K.out.2.2.2 (by rw [World.size_alloc, World.size_alloc]; omega)))))
  clear WRT BC
  go_wp2_with (first | ((refine (?_ : wpList _ _ _ (Oper.mk _ (Op.load 32 _) _ _ _ _ :: _) _ _)); refine wpList_load_blk rfl 32 _ rfl (w.heap.size) rfl ((⟨c.kind, c.table, c.other, c.to, c.also, c.name, c.type, c.names, c.col, t⟩ : Ch).a no nc ao cap) _ (K4.out.2.1) Tryz.underlying32 rfl (infoCh) ?_; go_frame) | ((refine (?_ : wpList _ _ _ (Oper.mk _ (Op.store 32 _ _) _ _ _ _ :: _) _ _)); refine wpList_store_blk rfl 32 _ _ rfl (w.heap.size + 1) (Ch0.a none 0 none 0) ((⟨c.kind, c.table, c.other, c.to, c.also, c.name, c.type, c.names, c.col, t⟩ : Ch).a no nc ao cap) rfl rfl (K4.out.2.2.1) (by first | rfl | simp [sa_size]) (infoCh) (Ch.a_one _ _ _ _ _) ?_))
  intro w9 q9 r9
  go_wp2
  refine bodyPost_ret (results_3 Tryz.results39 rfl rfl rfl (loadCh q9)) rfl ?_
  rw [Q.out]
  exact ⟨no, nc, ao, cap, rfl, .inl ⟨rfl, rfl⟩, r9.slc K4.out.2.2.2 K.out.2.2.2 (by rw [World.size_alloc, World.size_alloc]; omega), K.out.2.2.1, (fun a h => Nat.le_trans (by rw [World.size_alloc, World.size_alloc]; omega) (K.out.2.2.2 a h)), r9.below _ _ (by omega) K4.out.1⟩
theorem rtab_2 (c : Ch) (no : Option Addr) (nc : Nat) (l l2 : List UInt8) (t : T) (w : World) (hg : Env w) (hl : l.length ≤ 1000000) (hd : c.df.cs = []) (h1 : c.kind = 2) (h2 : rdt l = (t, l2, 0)) :
    Calls Tryz.prog 39 #[.agg (c.a no nc none 0), .string ⟨l.toArray⟩] w (RB no nc (rtb c l) w) := by
  obtain ⟨n, hn⟩ : ∃ n, t.cs.length = n + 1 := ⟨t.cs.length - 1, by have := (T.ck_ok (rdt_ck h2)).2.1; omega⟩
  have n8 : n ≤ 7 := by have := (T.ck_ok (rdt_ck h2)).2.2.1; omega
  have hlt : n < t.cs.length := by omega
  obtain ⟨x, hx⟩ : ∃ x, t.cs[n] = x := ⟨_, rfl⟩
  have Q := Lib.hid (show rtb c l = ((⟨c.kind, c.table, c.other, c.to, c.also, c.name, c.type, c.names, x, c.df⟩ : Ch), l2, 0) from by unfold rtb; rw [if_pos (by omega), bnd_ok h2]; unfold Ch.wt; rw [if_neg (by omega), last_at hn, hx])
  have NN := Lib.hid (And.intro hn (And.intro n8 (show t.cs[n]? = some x from by rw [List.getElem?_eq_getElem hlt, hx])))
  clear hn n8 hlt hx
  have e1 : (c.kind == 1) = false := by simp; omega
  have e2 : (c.kind != 1) = true := by simp; omega
  have e3 : (c.kind != 2) = false := by simpa using h1
  have H := Lib.hid (And.intro hg (And.intro hl (And.intro h2 hd)))
  clear hg hl h2 h1 hd
  go_enter Tryz.func39, Tryz.ntmps39
  go_wp2_with fail
  refine (read_is l l2 t 0 _ ((H.out.1.keep (below1 w _)).keep (below1 _ _)) H.out.2.1 H.out.2.2.1).mono ?_
  rintro y w1 ⟨ao, cap, rfl, hsl, hcap, hup, hb⟩
  rw [NN.out.1]
  have K := Lib.hid (And.intro (two_new (cs := c.a no nc none 0) (cs' := Ch0.a none 0 none 0) hb) (And.intro hsl (And.intro hcap hup)))
  clear hsl hcap hup hb
  have q1 := K.out.1.1.alloc (.cells #[.string ⟨t.name.toArray⟩, .int .i64 t.keys, .slice ao (n + 1) cap] 30)
  have qc := q1.cell
  have K3 := Lib.hid (And.intro (K.out.1.2.2.alloc K.out.1.2.2.size (.cells #[.string ⟨t.name.toArray⟩, .int .i64 t.keys, .slice ao (n + 1) cap] 30)) (And.intro q1 (And.intro (K.out.1.2.1.alloc (.cells #[.string ⟨t.name.toArray⟩, .int .i64 t.keys, .slice ao (n + 1) cap] 30)) (K.out.2.1.below (below1 w1 (.cells #[.string ⟨t.name.toArray⟩, .int .i64 t.keys, .slice ao (n + 1) cap] 30))))))
  clear q1
  obtain ⟨a, rfl, c0, c1, c2, c3, c4, c5, c6⟩ := K3.out.2.2.2 n x NN.out.2.2
  have n8 : (n : Int) ≤ 7 := by have := NN.out.2.1; omega
  go_wp2_with ((refine (?_ : wpList _ _ _ (Oper.mk _ (Op.store 27 _ _) _ _ _ _ :: _) _ _)); refine wpList_store_part rfl 27 32 _ _ rfl w.heap.size 8 ([.int .i64 c.kind, .string ⟨c.table.toArray⟩, .string ⟨c.other.toArray⟩, .string ⟨c.to.toArray⟩, .string ⟨c.also.toArray⟩, .string ⟨c.name.toArray⟩, .int .i64 c.type, .slice no c.names.length nc]) ([.string ⟨c.col.name.toArray⟩, .int .i64 c.col.kind, .bool c.col.null, .int .i64 c.col.d.k, .int .i64 c.col.d.n, .int .u64 c.col.d.b, .string ⟨c.col.d.s.toArray⟩]) ([.string ⟨x.name.toArray⟩, .int .i64 x.kind, .bool x.null, .int .i64 x.d.k, .int .i64 x.d.n, .int .u64 x.d.b, .string ⟨x.d.s.toArray⟩]) ([.string ⟨c.df.name.toArray⟩, .int .i64 c.df.keys, .slice none c.df.cs.length 0]) rfl rfl (K3.out.2.1) rfl rfl (infoCo) (by simp [Value.oneCell']) ?_)
  clear c0 c1 c2 c3 c4 c5 c6
  intro w4 q4 r4
  have q4' : Blk w4 w.heap.size ((⟨c.kind, c.table, c.other, c.to, c.also, c.name, c.type, c.names, x, c.df⟩ : Ch).a no nc none 0) 32 := q4
  have K4 := Lib.hid (And.intro (r4.below _ _ (Nat.le_refl _) K3.out.1) (And.intro q4' (And.intro (K3.out.2.2.1.wr r4 (by omega)) (r4.slc K3.out.2.2.2 K.out.2.2.2 (by rw [World.size_alloc, World.size_alloc]; omega)))))
  clear q4 q4' r4 qc
  go_wp2_with (first | ((refine (?_ : wpList _ _ _ (Oper.mk _ (Op.load 32 _) _ _ _ _ :: _) _ _)); refine wpList_load_blk rfl 32 _ rfl (w.heap.size) rfl ((⟨c.kind, c.table, c.other, c.to, c.also, c.name, c.type, c.names, x, c.df⟩ : Ch).a no nc none 0) _ (K4.out.2.1) Tryz.underlying32 rfl (infoCh) ?_; go_frame) | ((refine (?_ : wpList _ _ _ (Oper.mk _ (Op.store 32 _ _) _ _ _ _ :: _) _ _)); refine wpList_store_blk rfl 32 _ _ rfl (w.heap.size + 1) (Ch0.a none 0 none 0) ((⟨c.kind, c.table, c.other, c.to, c.also, c.name, c.type, c.names, x, c.df⟩ : Ch).a no nc none 0) rfl rfl (K4.out.2.2.1) (by first | rfl | simp [sa_size]) (infoCh) (Ch.a_one _ _ _ _ _) ?_))
  intro w9 q9 r9
  go_wp2
  refine bodyPost_ret (results_3 Tryz.results39 rfl rfl rfl (loadCh q9)) rfl ?_
  rw [Q.out]
  exact ⟨no, nc, none, 0, rfl, .inl ⟨rfl, rfl⟩, (fun i c h => by simp [H.out.2.2.2] at h), by simp [H.out.2.2.2], up_none _, r9.below _ _ (by omega) K4.out.1⟩
theorem creadTable_is (c : Ch) (no : Option Addr) (nc : Nat) (l : List UInt8) (w : World) (hg : Env w) (hl : l.length ≤ 1000000) (hd : c.df.cs = []) :
    Calls Tryz.prog 39 #[.agg (c.a no nc none 0), .string ⟨l.toArray⟩] w (RB no nc (rtb c l) w) := by
  obtain ⟨t, l2, E, h2⟩ : ∃ t r e, rdt l = (t, r, e) := ⟨_, _, _, rfl⟩
  by_cases h1 : c.kind = 1
  · by_cases hE : E = 0
    · subst hE; exact rtab_1 c no nc l l2 t w hg hl hd h1 h2
    · exact rtab_bad1 c no nc l l2 t E w hg hl hd h1 h2 hE
  · by_cases h3 : c.kind = 2
    · by_cases hE : E = 0
      · subst hE; exact rtab_2 c no nc l l2 t w hg hl hd h3 h2
      · exact rtab_bad2 c no nc l l2 t E w hg hl hd h3 h2 hE
    · exact rtab_0 c no nc l w hd h1 h3
end Go.Proofs.YtmgdciihpjifgaaGreatDoor
namespace Go.Proofs.YtmgdciihpjifgaaGreatDoor
open Go.RowKit
set_option linter.unusedVariables false
theorem rdch_df (l : List UInt8) : (rdch l).1.df.cs.length ≤ 1000 := by
  have t0 : T0.cs = [] := rfl
  have z : Ch0.df.cs.length ≤ 1000 := by simp [Ch0, t0]
  unfold rdch
  refine bnd_fst (p := fun (c : Ch) => c.df.cs.length ≤ 1000) z fun c r h => ?_
  obtain ⟨c1, r1, h1, h2⟩ := bnd_inv h
  have k1 : c1.df.cs = [] := by
    have : (rfs l).1.df.cs = [] := by
      unfold rfs
      exact bnd_fst (p := fun (c : Ch) => c.df.cs = []) rfl fun _ _ _ => bnd_fst (p := fun (c : Ch) => c.df.cs = []) rfl fun _ _ _ => bnd_fst (p := fun (c : Ch) => c.df.cs = []) rfl fun _ _ _ => bnd_fst (p := fun (c : Ch) => c.df.cs = []) rfl fun _ _ _ => bnd_fst (p := fun (c : Ch) => c.df.cs = []) rfl fun _ _ _ => rfl
    rw [h1] at this
    exact this
  have k2 : c.df.cs.length ≤ 1000 := by
    have : (rtb c1 r1).1.df.cs.length ≤ 1000 := by
      unfold rtb
      split
      · refine bnd_fst (p := fun (c : Ch) => c.df.cs.length ≤ 1000) z fun t q ht => ?_
        have o : t.cs.length ≤ 8 := (T.ck_ok (rdt_ck ht)).2.2.1
        unfold Ch.wt
        split
        · simp only; omega
        · simp only [k1]; simp
      · rw [k1]; simp
    rw [h2] at this
    exact this
  unfold rck
  split
  · exact z
  · exact k2
theorem rdch_nm (l : List UInt8) : (rdch l).1.names.length ≤ 1000000 := by
  unfold rdch
  refine bnd_fst (p := fun (c : Ch) => c.names.length ≤ 1000000) (by simp [Ch0]) fun c r h => ?_
  unfold rck
  split
  · simp [Ch0]
  · rename_i g
    have hp : c.pe = 0 := by
      by_cases e : c.pe = 0
      · exact e
      · exact absurd (.inl e) g
    have hc := (Ch.pe_ok hp).1
    unfold Ch.ce at hc
    simp only
    split at hc
    · cases hc
    · rename_i g2
      omega
end Go.Proofs.YtmgdciihpjifgaaGreatDoor
