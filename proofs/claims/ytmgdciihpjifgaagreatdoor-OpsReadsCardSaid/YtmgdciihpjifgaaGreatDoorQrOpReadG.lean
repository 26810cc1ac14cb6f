/-
 What bytes begin with, of a change: readTable. Conditions: texts of 1000000 bytes at most.
 What bytes begin with, of a change: ReadChange. Conditions: texts of 1000000 bytes at most.
-/
import Derived.Test.YtmgdciihpjifgaaGreatDoorQrOpReadC
import Derived.Test.YtmgdciihpjifgaaGreatDoorQrOpPutC
set_option maxHeartbeats 8000000
namespace Go.Proofs.YtmgdciihpjifgaaGreatDoor
open Go.RowKit
def RB (no : Option Addr) (nc : Nat) (R : Ch × List UInt8 × Int) (w : World) (e : Ending) (w' : World) : Prop :=
 ∃ mo mc dO dc, e = .returned (.tuple #[.agg (R.1.a mo mc dO dc), .string ⟨R.2.1.toArray⟩, .int .i64 R.2.2]) ∧ ((mo = no ∧ mc = nc) ∨ (mo = none ∧ R.1.names = [])) ∧ SlC w' dO R.1.df.cs ∧ R.1.df.cs.length ≤ dc ∧ Up w.heap.size dO ∧ Below w.heap.size w w'
theorem RB.bad {no : Option Addr} {nc : Nat} {w w' : World} {R : Ch × List UInt8 × Int} {E : Int} (h : R = (Ch0, [], E)) (hb : Below w.heap.size w w') : RB no nc R w (.returned (.tuple #[.agg (Ch0.a none 0 none 0), .string ⟨([] : List UInt8).toArray⟩, .int .i64 E])) w' := by
 subst h
 exact ⟨none, 0, none, 0, rfl, .inr ⟨rfl, rfl⟩, (fun i c h => by simp [Ch0, T0] at h), Nat.zero_le _, up_none _, hb⟩
section
variable (c : Ch) (no : Option Addr) (nc : Nat) (dO : Option Addr) (dc : Nat)
theorem Ch.setT (t : T) (ao : Option Addr) (cap : Nat) : ((((c.a no nc dO dc).setIfInBounds 15 (.string ⟨t.name.toArray⟩)).setIfInBounds 16 (.int .i64 t.keys)).setIfInBounds 17 (.slice ao t.cs.length cap)) = (⟨c.kind, c.table, c.other, c.to, c.also, c.name, c.type, c.names, c.col, t⟩ : Ch).a no nc ao cap := by simp [Ch.a]
end
theorem rdt_ck {l r : List UInt8} {t : T} (h : rdt l = (t, r, 0)) : t.ck = 0 := by
 unfold rdt at h
 split at h
 ·rename_i g
  have : (rdr l).2.2 = 0 := congrArg (·.2.2) h
  exact absurd this g
 ·split at h
  ·rename_i g
   have : (rdr l).1.ck = 0 := congrArg (·.2.2) h
   exact absurd this g
  ·rename_i g
   rw [h] at g
   simpa using g
theorem last_at {cs : List C} {n : Nat} (h : cs.length = n + 1) : cs.getLastD C0 = cs[n] := by
 have e : cs.length - 1 = n := by omega
 rw [List.getLastD_eq_getLast?, List.getLast?_eq_getElem?, e, List.getElem?_eq_getElem (by omega)]
 rfl
theorem infoCo : (Tryz.prog.info? 27).map (·.size) = some 7 := by kernel_rfl
theorem rtab_0 (c : Ch) (no : Option Addr) (nc : Nat) (l : List UInt8) (w : World) (hd : c.df.cs = []) (h1 : ¬ c.kind = 1) (h2 : ¬ c.kind = 2) :
  Calls Tryz.prog 39 #[.agg (c.a no nc none 0), .string ⟨l.toArray⟩] w (RB no nc (rtb c l) w) := by
 obtain ⟨R, hR⟩ : ∃ R, rtb c l = R := ⟨_, rfl⟩
 rw [hR]
 have HR := zh (show (c, l, (0 : Int)) = R from by rw [← hR]; unfold rtb; rw [if_neg (by omega)])
 have HD := zh hd
 have e1 : (c.kind != 1) = true := bne_t h1
 have e2 : (c.kind != 2) = true := bne_t h2
 clear hR hd
 go_enter Tryz.func39, Tryz.ntmps39
 go_wp2_with (first | ((refine (?_ : wpList _ _ _ (Oper.mk _ (Op.load 32 _) _ _ _ _ :: _) _ _)); refine wpList_load_blk rfl 32 _ rfl (w.heap.size) rfl (c.a no nc none 0) _ ((Blk.new w _ _).alloc _) Tryz.underlying32 rfl (infoCh) ?_; go_frame) | ((refine (?_ : wpList _ _ _ (Oper.mk _ (Op.store 32 _ _) _ _ _ _ :: _) _ _)); refine wpList_store_blk rfl 32 _ _ rfl (w.heap.size + 1) (Ch0.a none 0 none 0) (c.a no nc none 0) rfl rfl (Blk.new' _ _ _ _ (by simp)) (by first | rfl | simp [sa_size]) (infoCh) (Ch.a_one _ _ _ _ _) ?_))
 intro w9 q9 r9
 go_wp2
 refine bodyPost_ret (results_3 Tryz.results39 rfl rfl rfl (loadCh q9)) rfl ?_
 rw [← HR.out]
 exact ⟨no, nc, none, 0, rfl, .inl ⟨rfl, rfl⟩, (fun i c h => by simp [HD.out] at h), by simp [HD.out], up_none _, r9.below _ _ (by omega) (below2s w _ _)⟩
theorem rtab_bad1 (c : Ch) (no : Option Addr) (nc : Nat) (l l2 : List UInt8) (t : T) (E : Int) (w : World) (hg : Env w) (hl : l.length ≤ 1000000) (hd : c.df.cs = []) (h1 : c.kind = 1) (h2 : rdt l = (t, l2, E)) (hE : ¬ E = 0) :
  Calls Tryz.prog 39 #[.agg (c.a no nc none 0), .string ⟨l.toArray⟩] w (RB no nc (rtb c l) w) := by
 have Q := zh (show rtb c l = (Ch0, [], E) from by unfold rtb; rw [if_pos (by omega)]; exact bnd_err h2 hE _ _)
 have e9 := bne_t hE
 clear hE
 have e1 : (c.kind == 1) = true := by simpa using h1
 have e2 : (c.kind != 1) = false := by simpa using h1
 have H := zh (za hg (za hl (za h2 hd)))
 clear hg hl h2 h1 hd
 go_enter Tryz.func39, Tryz.ntmps39
 go_wp2_with fail
 refine (read_is l l2 t E _ ((H.out.1.keep (below1 w _)).keep (below1 _ _)) H.out.2.1 H.out.2.2.1).mono ?_
 rintro y w1 ⟨ao, cap, rfl, hsl, hcap, hup, hb⟩
 have K := zh (za (two_new (cs := c.a no nc none 0) (cs' := Ch0.a none 0 none 0) hb) (za hsl (za hcap hup)))
 clear hsl hcap hup hb
 have q1 := K.out.1.1.alloc (.cells #[.string ⟨t.name.toArray⟩, .int .i64 t.keys, .slice ao t.cs.length cap] 30)
 have qc := q1.cell
 have K3 := zh (za (K.out.1.2.2.alloc K.out.1.2.2.size (.cells #[.string ⟨t.name.toArray⟩, .int .i64 t.keys, .slice ao t.cs.length cap] 30)) (za q1 (za (K.out.1.2.1.alloc (.cells #[.string ⟨t.name.toArray⟩, .int .i64 t.keys, .slice ao t.cs.length cap] 30)) (K.out.2.1.below (below1 w1 (.cells #[.string ⟨t.name.toArray⟩, .int .i64 t.keys, .slice ao t.cs.length cap] 30))))))
 clear q1
 go_wp2_with ((refine (?_ : wpList _ _ _ (Oper.mk _ (Op.store 32 _ _) _ _ _ _ :: _) _ _)); refine wpList_store_blk rfl 32 _ _ rfl (w.heap.size + 1) (Ch0.a none 0 none 0) (Ch0.a none 0 none 0) rfl rfl (K3.out.2.2.1) (by first | rfl | simp [sa_size]) (infoCh) (Ch.a_one _ _ _ _ _) ?_)
 intro w9 q9 r9
 go_wp2
 refine bodyPost_ret (results_3 Tryz.results39 rfl rfl rfl (loadCh q9)) rfl (RB.bad Q.out (r9.below _ _ (by omega) K3.out.1))
theorem rtab_bad2 (c : Ch) (no : Option Addr) (nc : Nat) (l l2 : List UInt8) (t : T) (E : Int) (w : World) (hg : Env w) (hl : l.length ≤ 1000000) (hd : c.df.cs = []) (h1 : c.kind = 2) (h2 : rdt l = (t, l2, E)) (hE : ¬ E = 0) :
  Calls Tryz.prog 39 #[.agg (c.a no nc none 0), .string ⟨l.toArray⟩] w (RB no nc (rtb c l) w) := by
 have Q := zh (show rtb c l = (Ch0, [], E) from by unfold rtb; rw [if_pos (by omega)]; exact bnd_err h2 hE _ _)
 have e9 := bne_t hE
 clear hE
 have e1 : (c.kind == 1) = false := by simp; omega
 have e2 : (c.kind != 1) = true := by simp; omega
 have e3 : (c.kind != 2) = false := by simpa using h1
 have H := zh (za hg (za hl (za h2 hd)))
 clear hg hl h2 h1 hd
 go_enter Tryz.func39, Tryz.ntmps39
 go_wp2_with fail
 refine (read_is l l2 t E _ ((H.out.1.keep (below1 w _)).keep (below1 _ _)) H.out.2.1 H.out.2.2.1).mono ?_
 rintro y w1 ⟨ao, cap, rfl, hsl, hcap, hup, hb⟩
 have K := zh (za (two_new (cs := c.a no nc none 0) (cs' := Ch0.a none 0 none 0) hb) (za hsl (za hcap hup)))
 clear hsl hcap hup hb
 have q1 := K.out.1.1.alloc (.cells #[.string ⟨t.name.toArray⟩, .int .i64 t.keys, .slice ao t.cs.length cap] 30)
 have qc := q1.cell
 have K3 := zh (za (K.out.1.2.2.alloc K.out.1.2.2.size (.cells #[.string ⟨t.name.toArray⟩, .int .i64 t.keys, .slice ao t.cs.length cap] 30)) (za q1 (za (K.out.1.2.1.alloc (.cells #[.string ⟨t.name.toArray⟩, .int .i64 t.keys, .slice ao t.cs.length cap] 30)) (K.out.2.1.below (below1 w1 (.cells #[.string ⟨t.name.toArray⟩, .int .i64 t.keys, .slice ao t.cs.length cap] 30))))))
 clear q1
 go_wp2_with ((refine (?_ : wpList _ _ _ (Oper.mk _ (Op.store 32 _ _) _ _ _ _ :: _) _ _)); refine wpList_store_blk rfl 32 _ _ rfl (w.heap.size + 1) (Ch0.a none 0 none 0) (Ch0.a none 0 none 0) rfl rfl (K3.out.2.2.1) (by first | rfl | simp [sa_size]) (infoCh) (Ch.a_one _ _ _ _ _) ?_)
 intro w9 q9 r9
 go_wp2
 refine bodyPost_ret (results_3 Tryz.results39 rfl rfl rfl (loadCh q9)) rfl (RB.bad Q.out (r9.below _ _ (by omega) K3.out.1))
theorem rtab_1 (c : Ch) (no : Option Addr) (nc : Nat) (l l2 : List UInt8) (t : T) (w : World) (hg : Env w) (hl : l.length ≤ 1000000) (hd : c.df.cs = []) (h1 : c.kind = 1) (h2 : rdt l = (t, l2, 0)) :
  Calls Tryz.prog 39 #[.agg (c.a no nc none 0), .string ⟨l.toArray⟩] w (RB no nc (rtb c l) w) := by
 have Q := zh (show rtb c l = ((⟨c.kind, c.table, c.other, c.to, c.also, c.name, c.type, c.names, c.col, t⟩ : Ch), l2, 0) from by unfold rtb; rw [if_pos (by omega), bnd_ok h2]; unfold Ch.wt; rw [if_pos h1])
 have e1 : (c.kind == 1) = true := by simpa using h1
 have e2 : (c.kind != 1) = false := by simpa using h1
 have H := zh (za hg (za hl (za h2 hd)))
 clear hg hl h2 h1 hd
 go_enter Tryz.func39, Tryz.ntmps39
 go_wp2_with fail
 refine (read_is l l2 t 0 _ ((H.out.1.keep (below1 w _)).keep (below1 _ _)) H.out.2.1 H.out.2.2.1).mono ?_
 rintro y w1 ⟨ao, cap, rfl, hsl, hcap, hup, hb⟩
 have K := zh (za (two_new (cs := c.a no nc none 0) (cs' := Ch0.a none 0 none 0) hb) (za hsl (za hcap hup)))
 clear hsl hcap hup hb
 have q1 := K.out.1.1.alloc (.cells #[.string ⟨t.name.toArray⟩, .int .i64 t.keys, .slice ao t.cs.length cap] 30)
 have qc := q1.cell
 have K3 := zh (za (K.out.1.2.2.alloc K.out.1.2.2.size (.cells #[.string ⟨t.name.toArray⟩, .int .i64 t.keys, .slice ao t.cs.length cap] 30)) (za q1 (za (K.out.1.2.1.alloc (.cells #[.string ⟨t.name.toArray⟩, .int .i64 t.keys, .slice ao t.cs.length cap] 30)) (K.out.2.1.below (below1 w1 (.cells #[.string ⟨t.name.toArray⟩, .int .i64 t.keys, .slice ao t.cs.length cap] 30))))))
 clear q1
 have qf := K3.out.2.1.frozen
 have WRT : Wr (w1.alloc (.cells #[.string ⟨t.name.toArray⟩, .int .i64 t.keys, .slice ao t.cs.length cap] 30)) ((((w1.alloc (.cells #[.string ⟨t.name.toArray⟩, .int .i64 t.keys, .slice ao t.cs.length cap] 30)).setCell ⟨w.heap.size, 15, none⟩ (.string ⟨t.name.toArray⟩)).setCell ⟨w.heap.size, 16, none⟩ (.int .i64 t.keys)).setCell ⟨w.heap.size, 17, none⟩ (.slice ao t.cs.length cap)) w.heap.size := ((((Wr.refl _ _).trans (Wr.one _ _ 15 _)).trans (Wr.one _ _ 16 _)).trans (Wr.one _ _ 17 _))
 have BC : Blk ((((w1.alloc (.cells #[.string ⟨t.name.toArray⟩, .int .i64 t.keys, .slice ao t.cs.length cap] 30)).setCell ⟨w.heap.size, 15, none⟩ (.string ⟨t.name.toArray⟩)).setCell ⟨w.heap.size, 16, none⟩ (.int .i64 t.keys)).setCell ⟨w.heap.size, 17, none⟩ (.slice ao t.cs.length cap)) w.heap.size ((⟨c.kind, c.table, c.other, c.to, c.also, c.name, c.type, c.names, c.col, t⟩ : Ch).a no nc ao cap) 32 := by
  have := (((K3.out.2.1.setAt 15 (.string ⟨t.name.toArray⟩)).setAt 16 (.int .i64 t.keys)).setAt 17 (.slice ao t.cs.length cap))
  rwa [Ch.setT] at this
 obtain ⟨w4, hw4⟩ : ∃ w4, ((((w1.alloc (.cells #[.string ⟨t.name.toArray⟩, .int .i64 t.keys, .slice ao t.cs.length cap] 30)).setCell ⟨w.heap.size, 15, none⟩ (.string ⟨t.name.toArray⟩)).setCell ⟨w.heap.size, 16, none⟩ (.int .i64 t.keys)).setCell ⟨w.heap.size, 17, none⟩ (.slice ao t.cs.length cap)) = w4 := ⟨_, rfl⟩
 rw [hw4] at WRT BC
 have K4 := zh (za (WRT.below _ _ (Nat.le_refl _) K3.out.1) (za BC (za (K3.out.2.2.1.wr WRT (by omega)) (WRT.slc K3.out.2.2.2 K.out.2.2.2 (by rw [World.size_alloc, World.size_alloc]; omega)))))
 clear WRT BC
 go_wp2_with (first | ((refine (?_ : wpList _ _ _ (Oper.mk _ (Op.load 32 _) _ _ _ _ :: _) _ _)); refine wpList_load_blk rfl 32 _ rfl (w.heap.size) rfl ((⟨c.kind, c.table, c.other, c.to, c.also, c.name, c.type, c.names, c.col, t⟩ : Ch).a no nc ao cap) _ (K4.out.2.1) Tryz.underlying32 rfl (infoCh) ?_; go_frame) | ((refine (?_ : wpList _ _ _ (Oper.mk _ (Op.store 32 _ _) _ _ _ _ :: _) _ _)); refine wpList_store_blk rfl 32 _ _ rfl (w.heap.size + 1) (Ch0.a none 0 none 0) ((⟨c.kind, c.table, c.other, c.to, c.also, c.name, c.type, c.names, c.col, t⟩ : Ch).a no nc ao cap) rfl rfl (K4.out.2.2.1) (by first | rfl | simp [sa_size]) (infoCh) (Ch.a_one _ _ _ _ _) ?_))
 intro w9 q9 r9
 go_wp2
 refine bodyPost_ret (results_3 Tryz.results39 rfl rfl rfl (loadCh q9)) rfl ?_
 rw [Q.out]
 exact ⟨no, nc, ao, cap, rfl, .inl ⟨rfl, rfl⟩, r9.slc K4.out.2.2.2 K.out.2.2.2 (by rw [World.size_alloc, World.size_alloc]; omega), K.out.2.2.1, (fun a h => Nat.le_trans (by rw [World.size_alloc, World.size_alloc]; omega) (K.out.2.2.2 a h)), r9.below _ _ (by omega) K4.out.1⟩
theorem rtab_2 (c : Ch) (no : Option Addr) (nc : Nat) (l l2 : List UInt8) (t : T) (w : World) (hg : Env w) (hl : l.length ≤ 1000000) (hd : c.df.cs = []) (h1 : c.kind = 2) (h2 : rdt l = (t, l2, 0)) :
  Calls Tryz.prog 39 #[.agg (c.a no nc none 0), .string ⟨l.toArray⟩] w (RB no nc (rtb c l) w) := by
 obtain ⟨n, hn⟩ : ∃ n, t.cs.length = n + 1 := ⟨t.cs.length - 1, by have := (T.ck_ok (rdt_ck h2)).2.1; omega⟩
 have n8 : n ≤ 7 := by have := (T.ck_ok (rdt_ck h2)).2.2.1; omega
 have hlt : n < t.cs.length := by omega
 obtain ⟨x, hx⟩ : ∃ x, t.cs[n] = x := ⟨_, rfl⟩
 have Q := zh (show rtb c l = ((⟨c.kind, c.table, c.other, c.to, c.also, c.name, c.type, c.names, x, c.df⟩ : Ch), l2, 0) from by unfold rtb; rw [if_pos (by omega), bnd_ok h2]; unfold Ch.wt; rw [if_neg (by omega), last_at hn, hx])
 have NN := zh (za hn (za n8 (show t.cs[n]? = some x from by rw [List.getElem?_eq_getElem hlt, hx])))
 clear hn n8 hlt hx
 have e1 : (c.kind == 1) = false := by simp; omega
 have e2 : (c.kind != 1) = true := by simp; omega
 have e3 : (c.kind != 2) = false := by simpa using h1
 have H := zh (za hg (za hl (za h2 hd)))
 clear hg hl h2 h1 hd
 go_enter Tryz.func39, Tryz.ntmps39
 go_wp2_with fail
 refine (read_is l l2 t 0 _ ((H.out.1.keep (below1 w _)).keep (below1 _ _)) H.out.2.1 H.out.2.2.1).mono ?_
 rintro y w1 ⟨ao, cap, rfl, hsl, hcap, hup, hb⟩
 rw [NN.out.1]
 have K := zh (za (two_new (cs := c.a no nc none 0) (cs' := Ch0.a none 0 none 0) hb) (za hsl (za hcap hup)))
 clear hsl hcap hup hb
 have q1 := K.out.1.1.alloc (.cells #[.string ⟨t.name.toArray⟩, .int .i64 t.keys, .slice ao (n + 1) cap] 30)
 have qc := q1.cell
 have K3 := zh (za (K.out.1.2.2.alloc K.out.1.2.2.size (.cells #[.string ⟨t.name.toArray⟩, .int .i64 t.keys, .slice ao (n + 1) cap] 30)) (za q1 (za (K.out.1.2.1.alloc (.cells #[.string ⟨t.name.toArray⟩, .int .i64 t.keys, .slice ao (n + 1) cap] 30)) (K.out.2.1.below (below1 w1 (.cells #[.string ⟨t.name.toArray⟩, .int .i64 t.keys, .slice ao (n + 1) cap] 30))))))
 clear q1
 obtain ⟨a, rfl, c0, c1, c2, c3, c4, c5, c6⟩ := K3.out.2.2.2 n x NN.out.2.2
 have n8 : (n : Int) ≤ 7 := by have := NN.out.2.1; omega
 go_wp2_with ((refine (?_ : wpList _ _ _ (Oper.mk _ (Op.store 27 _ _) _ _ _ _ :: _) _ _)); refine wpList_store_part rfl 27 32 _ _ rfl w.heap.size 8 ([.int .i64 c.kind, .string ⟨c.table.toArray⟩, .string ⟨c.other.toArray⟩, .string ⟨c.to.toArray⟩, .string ⟨c.also.toArray⟩, .string ⟨c.name.toArray⟩, .int .i64 c.type, .slice no c.names.length nc]) ([.string ⟨c.col.name.toArray⟩, .int .i64 c.col.kind, .bool c.col.null, .int .i64 c.col.d.k, .int .i64 c.col.d.n, .int .u64 c.col.d.b, .string ⟨c.col.d.s.toArray⟩]) ([.string ⟨x.name.toArray⟩, .int .i64 x.kind, .bool x.null, .int .i64 x.d.k, .int .i64 x.d.n, .int .u64 x.d.b, .string ⟨x.d.s.toArray⟩]) ([.string ⟨c.df.name.toArray⟩, .int .i64 c.df.keys, .slice none c.df.cs.length 0]) rfl rfl (K3.out.2.1) rfl rfl (infoCo) (by simp [Value.oneCell']) ?_)
 clear c0 c1 c2 c3 c4 c5 c6
 intro w4 q4 r4
 have q4' : Blk w4 w.heap.size ((⟨c.kind, c.table, c.other, c.to, c.also, c.name, c.type, c.names, x, c.df⟩ : Ch).a no nc none 0) 32 := q4
 have K4 := zh (za (r4.below _ _ (Nat.le_refl _) K3.out.1) (za q4' (za (K3.out.2.2.1.wr r4 (by omega)) (r4.slc K3.out.2.2.2 K.out.2.2.2 (by rw [World.size_alloc, World.size_alloc]; omega)))))
 clear q4 q4' r4 qc
 go_wp2_with (first | ((refine (?_ : wpList _ _ _ (Oper.mk _ (Op.load 32 _) _ _ _ _ :: _) _ _)); refine wpList_load_blk rfl 32 _ rfl (w.heap.size) rfl ((⟨c.kind, c.table, c.other, c.to, c.also, c.name, c.type, c.names, x, c.df⟩ : Ch).a no nc none 0) _ (K4.out.2.1) Tryz.underlying32 rfl (infoCh) ?_; go_frame) | ((refine (?_ : wpList _ _ _ (Oper.mk _ (Op.store 32 _ _) _ _ _ _ :: _) _ _)); refine wpList_store_blk rfl 32 _ _ rfl (w.heap.size + 1) (Ch0.a none 0 none 0) ((⟨c.kind, c.table, c.other, c.to, c.also, c.name, c.type, c.names, x, c.df⟩ : Ch).a no nc none 0) rfl rfl (K4.out.2.2.1) (by first | rfl | simp [sa_size]) (infoCh) (Ch.a_one _ _ _ _ _) ?_))
 intro w9 q9 r9
 go_wp2
 refine bodyPost_ret (results_3 Tryz.results39 rfl rfl rfl (loadCh q9)) rfl ?_
 rw [Q.out]
 exact ⟨no, nc, none, 0, rfl, .inl ⟨rfl, rfl⟩, (fun i c h => by simp [H.out.2.2.2] at h), by simp [H.out.2.2.2], up_none _, r9.below _ _ (by omega) K4.out.1⟩
theorem creadTable_is (c : Ch) (no : Option Addr) (nc : Nat) (l : List UInt8) (w : World) (hg : Env w) (hl : l.length ≤ 1000000) (hd : c.df.cs = []) :
  Calls Tryz.prog 39 #[.agg (c.a no nc none 0), .string ⟨l.toArray⟩] w (RB no nc (rtb c l) w) := by
 obtain ⟨t, l2, E, h2⟩ : ∃ t r e, rdt l = (t, r, e) := ⟨_, _, _, rfl⟩
 by_cases h1 : c.kind = 1
 ·by_cases hE : E = 0
  ·subst hE; exact rtab_1 c no nc l l2 t w hg hl hd h1 h2
  ·exact rtab_bad1 c no nc l l2 t E w hg hl hd h1 h2 hE
 ·by_cases h3 : c.kind = 2
  ·by_cases hE : E = 0
   ·subst hE; exact rtab_2 c no nc l l2 t w hg hl hd h3 h2
   ·exact rtab_bad2 c no nc l l2 t E w hg hl hd h3 h2 hE
  ·exact rtab_0 c no nc l w hd h1 h3
end Go.Proofs.YtmgdciihpjifgaaGreatDoor
namespace Go.Proofs.YtmgdciihpjifgaaGreatDoor
open Go.RowKit
theorem rfs_bare (l : List UInt8) : (rfs l).1.df = T0 ∧ (rfs l).1.col = C0 := by
 unfold rfs
 exact bnd_fst (p := fun c : Ch => c.df = T0 ∧ c.col = C0) ⟨rfl, rfl⟩ fun _ _ _ => bnd_fst (p := fun c : Ch => c.df = T0 ∧ c.col = C0) ⟨rfl, rfl⟩ fun _ _ _ => bnd_fst (p := fun c : Ch => c.df = T0 ∧ c.col = C0) ⟨rfl, rfl⟩ fun _ _ _ => bnd_fst (p := fun c : Ch => c.df = T0 ∧ c.col = C0) ⟨rfl, rfl⟩ fun _ _ _ => bnd_fst (p := fun c : Ch => c.df = T0 ∧ c.col = C0) ⟨rfl, rfl⟩ fun _ _ _ => ⟨rfl, rfl⟩
theorem rtb_okv {c : Ch} (h : c.okv) (l : List UInt8) : (rtb c l).1.okv := by
 unfold rtb
 split
 ·refine bnd_fst (p := Ch.okv) okv0 fun t q ht => ?_
  have o : ∀ x ∈ t.cs, x.d.ok := by have := rdt_ok' l; rw [ht] at this; exact this
  unfold Ch.wt
  split
  ·exact ⟨h.1, o⟩
  ·refine ⟨?_, h.2⟩
   rcases e : t.cs.getLast? with _ | x
   ·rw [List.getLastD_eq_getLast?, e]; exact okv0.1
   ·rw [List.getLastD_eq_getLast?, e]; exact o x (List.mem_of_getLast? e)
 ·exact h
theorem bare_okv {c : Ch} (h1 : c.df = T0) (h2 : c.col = C0) : c.okv := by
 unfold Ch.okv
 rw [h1, h2]
 exact ⟨okv0.1, by simp [T0]⟩
theorem rtb_names (c : Ch) (l : List UInt8) : (rtb c l).1.names = c.names ∨ (rtb c l).1.names = [] := by
 unfold rtb
 split
 ·refine bnd_fst (p := fun d : Ch => d.names = c.names ∨ d.names = []) (.inr rfl) fun t q _ => .inl ?_
  unfold Ch.wt
  split <;> rfl
 ·exact .inl rfl
theorem bneq_t {a b : List UInt8} (h : ¬ a = b) : (a != b) = true := by simpa using h
theorem bneq_f {a b : List UInt8} (h : a = b) : (a != b) = false := by simpa using h
theorem readChange_is (l : List UInt8) (w : World) (hg : Env w) (hl : l.length ≤ 1000000) :
  Calls Tryz.prog 12 #[.string ⟨l.toArray⟩] w (RC (rdch l) w) := by
 obtain ⟨R, hR⟩ : ∃ R, rdch l = R := ⟨_, rfl⟩
 rw [hR]
 obtain ⟨c0, l1, E0, h0⟩ : ∃ c r e, rfs l = (c, r, e) := ⟨_, _, _, rfl⟩
 have s1 := rfs_sf l
 have b1 := rfs_bare l
 rw [h0] at s1 b1
 simp only at s1 b1
 have HR := zh (show bnd (bnd (c0, l1, E0) Ch0 rtb) Ch0 (rck l) = R from by rw [← hR, ← h0]; rfl)
 have H := zh (za hg (za hl (za h0 (za s1 b1))))
 clear hR hg hl h0 s1 b1
 go_enter Tryz.func12, Tryz.ntmps12
 go_wp2_with fail
 refine (readFields_is l _ H.out.2.1).mono ?_
 rintro e w1 hrc
 rw [H.out.2.2.1] at hrc
 obtain ⟨no, nc, rfl, hsl, hup, hb⟩ := hrc
 simp only at hsl
 have q2 := (Blk.new w (Ch0.a none 0 none 0) 32).below hb
 have K1 := zh (za (step1 (Below.refl _ w) hb) (za q2 (za (hsl) (za (hup.mono (show w.heap.size + 1 ≤ _ by rw [World.size_alloc]; omega)) q2.lt))))
 clear hsl hup hb q2
 go_wp2_with ((refine (?_ : wpList _ _ _ (Oper.mk _ (Op.store 32 _ _) _ _ _ _ :: _) _ _)); refine wpList_store_blk rfl 32 _ _ rfl (w1.heap.size) (Ch0.a none 0 none 0) (c0.a no nc none 0) rfl rfl (Blk.new' _ _ _ _ rfl) (by first | rfl | simp [sa_size]) (infoCh) (Ch.a_one _ _ _ _ _) ?_)
 intro w2 q5 r5
 have bb := r5.below _ _ (Nat.le_refl _) (below1 w1 _)
 have K2 := zh (za bb (za (K1.out.2.1.below bb) q5))
 clear bb q5 r5
 by_cases hE : E0 = 0
 ·subst hE
  have HR := zh (show bnd (rtb c0 l1) Ch0 (rck l) = R from by rw [← HR.out, bnd_ok rfl])
  obtain ⟨c1, l2, E1, h1⟩ : ∃ c r e, rtb c0 l1 = (c, r, e) := ⟨_, _, _, rfl⟩
  have s2 := rtb_sf c0 l1
  have o2 := rtb_okv (bare_okv H.out.2.2.2.2.1 H.out.2.2.2.2.2) l1
  have nm := rtb_names c0 l1
  rw [h1] at s2 o2 nm
  have S := zh (za h1 (za (s2.trans H.out.2.2.2.1) (za o2 nm)))
  have HR := zh (show bnd (c1, l2, E1) Ch0 (rck l) = R from by rw [← HR.out, h1])
  clear h1 s2 o2 nm
  go_wp2_with ((refine (?_ : wpList _ _ _ (Oper.mk _ (Op.load 32 _) _ _ _ _ :: _) _ _)); refine wpList_load_blk rfl 32 _ rfl (w1.heap.size) rfl (c0.a no nc none 0) _ (K2.out.2.2) Tryz.underlying32 rfl (infoCh) ?_; go_frame)
  refine (creadTable_is c0 no nc l1 _ (H.out.1.keep (K1.out.1.trans (K2.out.1.mono K1.out.1.size))) (by have := suf_len H.out.2.2.2.1; have := H.out.2.1; omega) (by rw [H.out.2.2.2.2.1]; rfl)).mono ?_
  rintro e w3 hrb
  rw [S.out.1] at hrb
  obtain ⟨mo, mc, eO, ec, rfl, hno, hsd, hdc, hud, hb⟩ := hrb
  simp only at hno hsd hdc
  have bb := K2.out.1.trans (hb.mono K2.out.1.size)
  have hs : SlS w1 mo c1.names := by
   rcases hno with ⟨rfl, _⟩ | ⟨_, hn⟩
   ·rcases S.out.2.2.2 with g | g
    ·rw [g]; exact K1.out.2.2.1
    ·rw [show c1.names = [] from g]; exact SlS.nil _ _
   ·rw [hn]; exact SlS.nil _ _
  have hu : Up (w.heap.size + 1) mo := by
   rcases hno with ⟨rfl, _⟩ | ⟨rfl, _⟩
   ·exact K1.out.2.2.2.1
   ·exact up_none _
  have K3 := zh (za bb (za (K2.out.2.1.below hb) (za (K2.out.2.2.below hb) (za hs (za hu (za hsd (za hdc (hud.mono (show w1.heap.size + 1 ≤ _ from K2.out.2.2.lt)))))))))
  clear hno hsd hdc hud hb bb hs hu
  go_wp2_with ((refine (?_ : wpList _ _ _ (Oper.mk _ (Op.store 32 _ _) _ _ _ _ :: _) _ _)); refine wpList_store_blk rfl 32 _ _ rfl (w1.heap.size) (c0.a no nc none 0) (c1.a mo mc eO ec) rfl rfl (K3.out.2.2.1) (by first | rfl | simp [sa_size]) (infoCh) (Ch.a_one _ _ _ _ _) ?_)
  intro w4 q4 r4
  have bb := r4.below _ _ (Nat.le_refl _) K3.out.1
  have K4 := zh (za bb (za (K3.out.2.1.wr r4 (by have := K1.out.2.2.2.2; omega)) (za q4 (za (K3.out.2.2.2.1.below bb) (za (r4.slc K3.out.2.2.2.2.2.1 K3.out.2.2.2.2.2.2.2 (by omega)) (K1.out.1.trans (bb.mono K1.out.1.size)))))))
  clear bb q4 r4
  by_cases hE1 : E1 = 0
  ·subst hE1
   have HR := zh (show rck l c1 l2 = R from by rw [← HR.out, bnd_ok rfl])
   go_wp2_with ((refine (?_ : wpList _ _ _ (Oper.mk _ (Op.load 32 _) _ _ _ _ :: _) _ _)); refine wpList_load_blk rfl 32 _ rfl (w1.heap.size) rfl (c1.a mo mc eO ec) _ (K4.out.2.2.1) Tryz.underlying32 rfl (infoCh) ?_; go_frame)
   refine (pute_is c1 mo mc eO ec _ _ _ (H.out.1.keep K4.out.2.2.2.2.2) ⟨K4.out.2.2.2.1, ⟨K4.out.2.2.2.2.1, K3.out.2.2.2.2.2.2.1, S.out.2.2.1.2⟩, S.out.2.2.1.1⟩ rfl rfl).mono ?_
   rintro e w5 ⟨rfl, hb⟩
   have K5 := zh (za (step0 K4.out.2.2.2.2.2 hb) (za (K4.out.2.1.below hb) (za (K4.out.2.2.1.below hb) (za (K4.out.2.2.2.1.below hb) (K4.out.2.2.2.2.1.below hb)))))
   clear hb
   by_cases hp : c1.pe = 0
   ·obtain ⟨m, hm⟩ : ∃ m, l.length = m + l2.length := ⟨l.length - l2.length, by have := suf_len S.out.2.1; omega⟩
    have em : l.length - l2.length = m := by omega
    have lb : (l.length : Int) ≤ 1000000 := by have := H.out.2.1; omega
    have hw : (l.length : Int) - (l2.length : Int) = (m : Int) := by omega
    have hmi : (m : Int) ≤ (l.length : Int) := by omega
    have hmn : m ≤ l.length := by omega
    have ct := cut_to l m
    have hR : (if c1.pe ≠ 0 ∨ c1.pb ≠ l.take m then (Ch0, [], (4 : Int)) else (c1, l2, 0)) = R := by rw [← HR.out]; unfold rck; rw [em]
    have HR := zh hR
    have HM := zh hm
    obtain ⟨P, hP⟩ : ∃ P, c1.pb = P := ⟨_, rfl⟩
    obtain ⟨D, hD⟩ : ∃ D, l.take m = D := ⟨_, rfl⟩
    rw [hD] at ct
    rw [hp, hP]
    by_cases he : P = D
    ·have n1 : (P == D) = true := by simpa using he
     have n2 : (P != D) = false := bneq_f he
     have HR := zh (show (c1, l2, (0 : Int)) = R from by rw [← HR.out, if_neg]; rw [hP, hD]; simp [hp, he])
     clear hR hm hP hD he em hp
     go_wp2_with (first | ((refine (?_ : wpList _ _ _ (Oper.mk _ (Op.load 32 _) _ _ _ _ :: _) _ _)); refine wpList_load_blk rfl 32 _ rfl (w1.heap.size) rfl (c1.a mo mc eO ec) _ (K5.out.2.2.1) Tryz.underlying32 rfl (infoCh) ?_; go_frame) | ((refine (?_ : wpList _ _ _ (Oper.mk _ (Op.store 32 _ _) _ _ _ _ :: _) _ _)); refine wpList_store_blk rfl 32 _ _ rfl (w.heap.size) (Ch0.a none 0 none 0) (c1.a mo mc eO ec) rfl rfl (K5.out.2.1) (by first | rfl | simp [sa_size]) (infoCh) (Ch.a_one _ _ _ _ _) ?_))
     intro w9 q9 r9
     go_wp2
     refine bodyPost_ret (results_3 Tryz.results12 rfl rfl rfl (loadCh q9)) rfl ?_
     rw [← HR.out]
     have hlt := K1.out.2.2.2.2
     exact ⟨mo, mc, eO, ec, rfl, r9.sls K5.out.2.2.2.1 K3.out.2.2.2.2.1 (by omega), K3.out.2.2.2.2.1.mono (by omega), r9.slc K5.out.2.2.2.2 K3.out.2.2.2.2.2.2.2 (by omega), K3.out.2.2.2.2.2.2.1, K3.out.2.2.2.2.2.2.2.mono (by omega), r9.below _ _ (Nat.le_refl _) K5.out.1⟩
    ·have n1 : (P == D) = false := by simpa using he
     have n2 : (P != D) = true := bneq_t he
     have Q := zh (show R = (Ch0, [], 4) from by rw [← HR.out, if_pos]; rw [hP, hD]; exact .inr he)
     clear hR hm hP hD he em hp
     go_wp2_with ((refine (?_ : wpList _ _ _ (Oper.mk _ (Op.store 32 _ _) _ _ _ _ :: _) _ _)); refine wpList_store_blk rfl 32 _ _ rfl (w.heap.size) (Ch0.a none 0 none 0) (Ch0.a none 0 none 0) rfl rfl (K5.out.2.1) (by first | rfl | simp [sa_size]) (infoCh) (Ch.a_one _ _ _ _ _) ?_)
     intro w9 q9 r9
     go_wp2
     refine bodyPost_ret (results_3 Tryz.results12 rfl rfl rfl (loadCh q9)) rfl (RC.bad Q.out (r9.below _ _ (Nat.le_refl _) K5.out.1))
   ·have e1 := bne_t hp
    have Q := zh (show R = (Ch0, [], 4) from by rw [← HR.out]; unfold rck; rw [if_pos (.inl hp)])
    clear hp
    go_wp2_with ((refine (?_ : wpList _ _ _ (Oper.mk _ (Op.store 32 _ _) _ _ _ _ :: _) _ _)); refine wpList_store_blk rfl 32 _ _ rfl (w.heap.size) (Ch0.a none 0 none 0) (Ch0.a none 0 none 0) rfl rfl (K5.out.2.1) (by first | rfl | simp [sa_size]) (infoCh) (Ch.a_one _ _ _ _ _) ?_)
    intro w9 q9 r9
    go_wp2
    refine bodyPost_ret (results_3 Tryz.results12 rfl rfl rfl (loadCh q9)) rfl (RC.bad Q.out (r9.below _ _ (Nat.le_refl _) K5.out.1))
  ·have e1 := bne_t hE1
   have Q := zh ((bnd_err rfl hE1 _ _).symm.trans HR.out)
   clear hE1
   go_wp2_with ((refine (?_ : wpList _ _ _ (Oper.mk _ (Op.store 32 _ _) _ _ _ _ :: _) _ _)); refine wpList_store_blk rfl 32 _ _ rfl (w.heap.size) (Ch0.a none 0 none 0) (Ch0.a none 0 none 0) rfl rfl (K4.out.2.1) (by first | rfl | simp [sa_size]) (infoCh) (Ch.a_one _ _ _ _ _) ?_)
   intro w9 q9 r9
   go_wp2
   refine bodyPost_ret (results_3 Tryz.results12 rfl rfl rfl (loadCh q9)) rfl (RC.bad Q.out.symm (r9.below _ _ (Nat.le_refl _) K4.out.2.2.2.2.2))
 ·have e1 := bne_t hE
  have Q := zh (show R = (Ch0, [], E0) from by rw [← HR.out, bnd_err rfl hE]; exact bnd_err rfl hE _ _)
  clear hE
  go_wp2_with ((refine (?_ : wpList _ _ _ (Oper.mk _ (Op.store 32 _ _) _ _ _ _ :: _) _ _)); refine wpList_store_blk rfl 32 _ _ rfl (w.heap.size) (Ch0.a none 0 none 0) (Ch0.a none 0 none 0) rfl rfl (K2.out.2.1) (by first | rfl | simp [sa_size]) (infoCh) (Ch.a_one _ _ _ _ _) ?_)
  intro w9 q9 r9
  go_wp2
  refine bodyPost_ret (results_3 Tryz.results12 rfl rfl rfl (loadCh q9)) rfl (RC.bad Q.out (r9.below _ _ (Nat.le_refl _) (K1.out.1.trans (K2.out.1.mono K1.out.1.size))))
end Go.Proofs.YtmgdciihpjifgaaGreatDoor
