/-
 What awake answers. Condition: the variable of errors.
-/
import Derived.Test.YtmgdciihpjifgaaGreatDoorQrOpSame
import Derived.Test.YtmgdciihpjifgaaGreatDoorQrOpReadO
set_option maxHeartbeats 8000000
namespace Go.Proofs.YtmgdciihpjifgaaGreatDoor
open Go.RowKit
set_option linter.unusedVariables false
theorem wpList_load_blkg {ops : Array Oper} {rest : List Oper} {op : Oper} {a : Act} {w : World} {Q : Exit → Act → World → Prop} (hw : Region.wanted op (yielded ops a.tmps) = true) (ty : TypeId) (x : Operand) (ho : op.op = .load ty x)
  (b : Nat) (hx : a.eval x = .pointer (some ⟨b, 0, none⟩)) (cs : Array Value) (d : TypeDesc) (hc : Blk w b cs ty)
  (hu : Tryz.prog.underlying ty = some d) (hd : d.isRow = true) (hi : (Tryz.prog.info? ty).map (·.size) = some cs.size)
  (h : wpList Tryz.prog ops Q rest (a.put op.dst (.agg cs)) w) : wpList Tryz.prog ops Q (op :: rest) a w :=
 wpList_step fun K hK => by rw [if_pos hw]; exact wp_load_mid ty x ho b 0 hx cs.toList d hc.rng hu hd (by simpa using hi) (by have := hK _ _ h; simpa using this)
theorem inO_7 (w : World) (k : Int) : InO w (⟨k, [], [], [], [], 0, Ch0⟩ : O) P0 := ⟨sl_nil _ _, sl_nil _ _, sl_nil _ _, ⟨SlS.nil _ _, ⟨slc_nil _ _, Nat.le_refl _, by simp [Ch0, T0]⟩, okv0.1⟩, ⟨by simp, by simp, by simp, okv0⟩⟩
theorem inC_m (w : World) : InC w (⟨6, [97], [98], [99], [], [], 0, [], C0, T0⟩ : Ch) none none 0 := ⟨SlS.nil _ _, ⟨slc_nil _ _, Nat.le_refl _, by simp [T0]⟩, okv0.1⟩
theorem rv_short {k : Int} (p : Ps) : ∀ y ∈ (⟨k, [], [], [], [], 0, Ch0⟩ : O).rv p, y.xs.length ≤ 1000000 := by
 intro y hy
 simp only [O.rv, List.mem_cons, List.not_mem_nil, or_false] at hy
 rcases hy with rfl | rfl | rfl <;> simp
theorem rep_ne (w : World) : Calls Tryz.prog 22 #[.agg #[.int .i64 0, .slice none 0 0], .agg #[.int .i64 1, .slice none 0 0]] w fun e w' => e = .returned (.bool false) ∧ Below w.heap.size w w' := by
 go_enter Tryz.func22, Tryz.ntmps22
 go_wp2
 go_ret
 exact ⟨rfl, below2s _ _ _⟩
theorem awake_any (w : World) (hg : Env w) :
  Calls Tryz.prog 9 #[] w fun e w' => e = .returned (.bool true) ∧ Below w.heap.size w w' := by
 have HG := zh hg
 clear hg
 go_enter Tryz.func9, Tryz.ntmps9
 go_wp2_with fail
 refine (puto_is (⟨7, [], [], [], [], 0, Ch0⟩ : O) P0 [7, 0, 1, 0, 1, 0, 1, 0, 0] 0 _ HG.out (inO_7 _ 7) (by kernel_rfl) (by kernel_rfl)).mono ?_
 rintro e w1 ⟨rfl, hb⟩
 have B1 := zh hb
 clear hb
 go_wp2_with fail
 refine (reado_is [7, 0, 1, 0, 1, 0, 1, 0, 0, 122] _ (HG.out.keep B1.out) (by decide)).mono ?_
 rintro e w2 hrp
 rw [show rdo [7, 0, 1, 0, 1, 0, 1, 0, 0, 122] = ((⟨7, [], [], [], [], 0, Ch0⟩ : O), [122], 0) from by kernel_rfl] at hrp
 obtain ⟨p, rfl, hI, hb⟩ := hrp
 have B2 := zh (za (step0 B1.out hb) (hI.in (show (⟨7, [], [], [], [], 0, Ch0⟩ : O).okv from (inO_7 w 7).2.2.2.2)))
 clear hI hb
 go_wp2_with ((refine (?_ : wpList _ _ _ (Oper.mk _ (Op.store 48 _ _) _ _ _ _ :: _) _ _)); refine wpList_store_blk rfl 48 _ _ rfl (w2.heap.size) (O0.a P0) ((⟨7, [], [], [], [], 0, Ch0⟩ : O).a p) rfl rfl (Blk.new' _ _ _ _ rfl) (by first | rfl | simp [sa_size]) (infoO) (O.a_one _ _) ?_)
 intro w3 q3 r3
 have bb := r3.below _ _ (Nat.le_refl _) (below1 w2 _)
 have B3 := zh (za (step0 B2.out.1 bb) (za q3 (B2.out.2.below bb)))
 clear q3 r3 bb
 go_wp2_with ((refine (?_ : wpList _ _ _ (Oper.mk _ (Op.store 32 _ _) _ _ _ _ :: _) _ _)); refine wpList_store_blk rfl 32 _ _ rfl (w3.heap.size) (Ch0.a none 0 none 0) ((⟨6, [97], [98], [99], [], [], 0, [], C0, T0⟩ : Ch).a none 0 none 0) rfl rfl (Blk.new' _ _ _ _ rfl) (by first | rfl | simp [sa_size]) (infoCh) (Ch.a_one _ _ _ _ _) ?_)
 intro w4 q4 r4
 have bb := r4.below _ _ (Nat.le_refl _) (below1 w3 _)
 have B4 := zh (za (step0 B3.out.1 bb) (za (B3.out.2.1.below bb) (za (B3.out.2.2.below bb) q4)))
 clear q4 r4 bb
 go_wp2_with ((refine (?_ : wpList _ _ _ (Oper.mk _ (Op.load 32 _) _ _ _ _ :: _) _ _)); refine wpList_load_blk rfl 32 _ rfl (w3.heap.size) rfl ((⟨6, [97], [98], [99], [], [], 0, [], C0, T0⟩ : Ch).a none 0 none 0) _ (B4.out.2.2.2) Tryz.underlying32 rfl (infoCh) ?_; go_frame)
 refine (pute_is (⟨6, [97], [98], [99], [], [], 0, [], C0, T0⟩ : Ch) none 0 none 0 [6, 1, 97, 1, 98, 1, 99, 0, 0, 0, 0] 0 _ (HG.out.keep B4.out.1) (inC_m _) (by kernel_rfl) (by kernel_rfl)).mono ?_
 rintro e w5 ⟨rfl, hb⟩
 have B5 := zh (za (step0 B4.out.1 hb) (za (B4.out.2.1.below hb) (B4.out.2.2.1.below hb)))
 clear hb
 go_wp2_with fail
 refine (readChange_is [6, 1, 97, 1, 98, 1, 99, 0, 0, 0, 0] _ (HG.out.keep B5.out.1) (by decide)).mono ?_
 rintro e w6 hrc
 rw [show rdch [6, 1, 97, 1, 98, 1, 99, 0, 0, 0, 0] = ((⟨6, [97], [98], [99], [], [], 0, [], C0, T0⟩ : Ch), [], 0) from by kernel_rfl] at hrc
 obtain ⟨no, nc, dO, dc, rfl, _, _, _, _, _, hb⟩ := hrc
 have B6 := zh (za (step0 B5.out.1 hb) (za (B5.out.2.1.below hb) (B5.out.2.2.below hb)))
 clear hb
 go_wp2_with ((refine (?_ : wpList _ _ _ (Oper.mk _ (Op.store 32 _ _) _ _ _ _ :: _) _ _)); refine wpList_store_blk rfl 32 _ _ rfl (w6.heap.size) (Ch0.a none 0 none 0) ((⟨6, [97], [98], [99], [], [], 0, [], C0, T0⟩ : Ch).a no nc dO dc) rfl rfl (Blk.new' _ _ _ _ rfl) (by first | rfl | simp [sa_size]) (infoCh) (Ch.a_one _ _ _ _ _) ?_)
 intro w7 q7 r7
 have bb := r7.below _ _ (Nat.le_refl _) (below1 w6 _)
 have B7 := zh (za (step0 B6.out.1 bb) (za (B6.out.2.1.below bb) (za (B6.out.2.2.below bb) q7)))
 clear q7 r7 bb
 go_wp2_with fail
 refine (reado_is [10] _ (HG.out.keep B7.out.1) (by decide)).mono ?_
 rintro e w8 hrp
 rw [show rdo [10] = (O0, [], 1) from by kernel_rfl] at hrp
 obtain ⟨p2, rfl, _, hb⟩ := hrp
 have B8 := zh (za (step0 B7.out.1 hb) (za (B7.out.2.1.below hb) (za (B7.out.2.2.1.below hb) (B7.out.2.2.2.below hb))))
 clear hb
 go_wp2_with ((refine (?_ : wpList _ _ _ (Oper.mk _ (Op.store 48 _ _) _ _ _ _ :: _) _ _)); refine wpList_store_blk rfl 48 _ _ rfl (w8.heap.size) (O0.a P0) (O0.a p2) rfl rfl (Blk.new' _ _ _ _ rfl) (by first | rfl | simp [sa_size]) (infoO) (O.a_one _ _) ?_)
 intro w9 q9 r9
 have bb := r9.below _ _ (Nat.le_refl _) (below1 w8 _)
 have B9 := zh (za (step0 B8.out.1 bb) (za (B8.out.2.1.below bb) (za (B8.out.2.2.1.below bb) (B8.out.2.2.2.below bb))))
 clear q9 r9 bb
 have qc := B9.out.2.1.cell
 have qd := B9.out.2.2.2.cell
 go_wp2_with ((refine (?_ : wpList _ _ _ (Oper.mk _ (Op.load 48 _) _ _ _ _ :: _) _ _)); refine wpList_load_blkg (by rfl) 48 _ rfl (w2.heap.size) rfl ((⟨7, [], [], [], [], 0, Ch0⟩ : O).a p) _ (B9.out.2.1) Tryz.underlying48 rfl infoO ?_; go_frame)
 clear qc qd
 refine (same_o (⟨7, [], [], [], [], 0, Ch0⟩ : O) (⟨7, [], [], [], [], 0, Ch0⟩ : O) p P0 true _ (HG.out.keep B9.out.1) B9.out.2.2.1 (inO_7 _ 7) (rv_short p) (rv_short P0) (by kernel_rfl)).mono ?_
 rintro e w10 ⟨rfl, hb⟩
 have BA := zh (za (step0 B9.out.1 hb) (za (B9.out.2.1.below hb) (B9.out.2.2.1.below hb)))
 clear hb
 go_wp2_with ((refine (?_ : wpList _ _ _ (Oper.mk _ (Op.load 48 _) _ _ _ _ :: _) _ _)); refine wpList_load_blkg (by rfl) 48 _ rfl (w2.heap.size) rfl ((⟨7, [], [], [], [], 0, Ch0⟩ : O).a p) _ (BA.out.2.1) Tryz.underlying48 rfl infoO ?_; go_frame)
 refine (same_o (⟨7, [], [], [], [], 0, Ch0⟩ : O) (⟨9, [], [], [], [], 0, Ch0⟩ : O) p P0 false _ (HG.out.keep BA.out.1) BA.out.2.2 (inO_7 _ 9) (rv_short p) (rv_short P0) (by kernel_rfl)).mono ?_
 rintro e w11 ⟨rfl, hb⟩
 have BB := zh (step0 BA.out.1 hb)
 clear hb
 go_wp2_with fail
 refine (rep_ne _).mono ?_
 rintro e w12 ⟨rfl, hb⟩
 have BC := zh (step0 BB.out hb)
 clear hb
 go_wp2
 go_ret
 exact ⟨rfl, BC.out⟩
end Go.Proofs.YtmgdciihpjifgaaGreatDoor
