/-
 Values as plain mathematics: may a value be, are two the same, which comes first; their laws. Conditions: the bounds named in each theorem.
 What the leaves of package values and of the document's answers say: isKind, own, Same, cmp.Compare at integers and texts, order. Conditions: the bounds named in each theorem.
 What own answers: a value with those fields alone that its kind has.
 What the document's Same answers of any two values; it writes nothing that was there.
-/
import Derived.Test.YtmgdciihpjifgaaGreatDoorQrBase
import Derived.Test.YtmgdciihpjifgaaGreatDoorQrUtfCount
import Derived.WalkKit
import Derived.Below
import Derived.Laws.StructEq
import Derived.Laws.Cover1
set_option maxHeartbeats 2000000
namespace Go.Proofs.YtmgdciihpjifgaaGreatDoor.Vl
def vd (l : List UInt8) : Bool := decide (0 ≤ Utf.cn l)
def ck (k n b : Int) (s : List UInt8) : Int :=
 if k < 0 ∨ 5 < k then 5
 else if (n ≠ 0 ∧ k ≠ 1 ∧ k ≠ 2) ∨ (b ≠ 0 ∧ k ≠ 3) ∨ (s ≠ [] ∧ k ≠ 4 ∧ k ≠ 5) then 4
 else if k = 1 ∧ n ≠ 0 ∧ n ≠ 1 then 6
 else if k = 3 ∧ Rl.cn b ≠ b then 4
 else if 64 < s.length then 2
 else if k = 5 ∧ vd s = false then 7
 else 0
def ic (a b : Int) : Int := if a < b then -1 else if b < a then 1 else 0
def sc (s t : List UInt8) : Int := if s < t then -1 else if t < s then 1 else 0
def or4 (a b c d : Int) : Int := if a = 0 then (if b = 0 then (if c = 0 then d else c) else b) else a
def vc (k n b : Int) (s : List UInt8) (k' n' b' : Int) (s' : List UInt8) : Int := or4 (ic k k') (ic n n') (Rl.cp b b') (sc s s')
def sm (k n b : Int) (s : List UInt8) (k' n' b' : Int) (s' : List UInt8) : Bool := decide (k = k' ∧ n = n' ∧ b = b' ∧ s = s')
theorem tie {x y z x' y' z' : Int} (hx : x = - x') (hy : y = - y') (hz : z = - z') (T : z' ≤ 0 → x ≤ 0 → y' ≤ 0) (T2 : y ≤ 0 → z' ≤ 0 → x' ≤ 0) : x ≤ 0 → y ≤ 0 → z = 0 → x = 0 ∧ y = 0 := by
 intro a b c
 have := T (by omega) a
 have := T2 b (by omega)
 omega
theorem ck_ok {k n b : Int} {s : List UInt8} (h : ck k n b s = 0) :
  0 ≤ k ∧ k ≤ 5 ∧ (n ≠ 0 → k = 1 ∨ k = 2) ∧ (b ≠ 0 → k = 3) ∧ (s ≠ [] → k = 4 ∨ k = 5) ∧ (k = 1 → n = 0 ∨ n = 1) ∧ Rl.cn b = b ∧ s.length ≤ 64 := by
 unfold ck at h
 split at h
 ·omega
 ·split at h
  ·omega
  ·split at h
   ·omega
   ·split at h
    ·omega
    ·split at h
     ·omega
     ·rename_i h1 h2 h3 h4 h5
      refine ⟨by omega, by omega, by omega, by omega, ?_, by omega, ?_, by omega⟩
      ·intro g
       refine Decidable.byContradiction fun e => h2 (.inr (.inr ⟨g, by omega, by omega⟩))
      ·by_cases e : k = 3
       ·exact Decidable.byContradiction fun g => h4 ⟨e, g⟩
       ·have : b = 0 := by omega
        subst this
        decide
end Go.Proofs.YtmgdciihpjifgaaGreatDoor.Vl
namespace Go.Proofs.YtmgdciihpjifgaaGreatDoor
open Go.RowKit
theorem eq24 (k n b : Int) (s : List UInt8) (k' n' b' : Int) (s' : List UInt8) (w : World) :
  (Op.equalIn 10000 25 (.agg #[.int .i64 k, .int .i64 n, .int .u64 b, .string ⟨s.toArray⟩]) (.agg #[.int .i64 k', .int .i64 n', .int .u64 b', .string ⟨s'.toArray⟩])).run Tryz.prog w = .ok (Vl.sm k n b s k' n' b' s') w := by
 have u3 := Tryz.underlying3
 have a3 := Tryz.isAgg3
 have z3 := Tryz.sizeOf3
 have u4 := Tryz.underlying23
 have a4 := Tryz.isAgg23
 have z4 := Tryz.sizeOf23
 have u5 := Tryz.underlying9
 have a5 := Tryz.isAgg9
 have z5 := Tryz.sizeOf9
 have hS : Tryz.prog.underlying 25 = some (.struct (Tryz.prog.fieldsOf 25)) := by kernel_rfl
 have hp : Tryz.prog.stoodInHeld 25 = false := by kernel_rfl
 rw [show (10000 : Nat) = 9999 + 1 from rfl, run_equalIn_agg w 9999 25 _ _ hS hp]
 simp only [Program.fieldsOf, Tryz.underlying25]
 go_simp
 unfold Vl.sm
 by_cases h1 : k = k' <;> by_cases h2 : n = n' <;> by_cases h3 : b = b' <;> by_cases h4 : s = s' <;> simp [h1, h2, h3, h4]
theorem isKind_t (k : Int) (w : World) (h0 : 0 ≤ k) (h1 : k ≤ 5) :
  Calls Tryz.prog 96 #[.int .i64 k] w fun e w' => e = .returned (.bool true) ∧ w = w' := by
 have h2 : k < 6 := by omega
 go_enter Tryz.func96, Tryz.ntmps96
 go_wp2
 go_ret
 exact ⟨rfl, rfl⟩
theorem isKind_f (k : Int) (w : World) (h : k < 0 ∨ 5 < k) :
  Calls Tryz.prog 96 #[.int .i64 k] w fun e w' => e = .returned (.bool false) ∧ w = w' := by
 by_cases h0 : k < 0
 ·clear h
  go_enter Tryz.func96, Tryz.ntmps96
  go_wp2
  go_ret
  exact ⟨rfl, rfl⟩
 ·have h1 : decide (k < 6) = false := by rw [decide_eq_false_iff_not]; omega
  replace h0 : 0 ≤ k := by omega
  clear h
  go_enter Tryz.func96, Tryz.ntmps96
  go_wp2
  go_ret
  exact ⟨rfl, rfl⟩
end Go.Proofs.YtmgdciihpjifgaaGreatDoor
namespace Go.Proofs.YtmgdciihpjifgaaGreatDoor
open Go.RowKit
def on (k n : Int) : Int := if k = 1 ∨ k = 2 then n else 0
def ob (k b : Int) : Int := if k = 3 then b else 0
def os (k : Int) (s : List UInt8) : List UInt8 := if k = 4 ∨ k = 5 then s else []
theorem below2v (w : World) (o p : Obj) : Below w.heap.size w ((w.alloc o).alloc p) :=
 have b := (Below.refl _ w).alloc (Nat.le_refl _) o
 b.alloc b.size p
theorem own_0 (n b : Int) (s : List UInt8) (w : World) :
  Calls Tryz.prog 97 #[.agg #[.int .i64 0, .int .i64 n, .int .u64 b, .string ⟨s.toArray⟩]] w fun e w' => e = .returned (.agg #[.int .i64 0, .int .i64 0, .int .u64 0, .string ⟨([] : List UInt8).toArray⟩]) ∧ Below w.heap.size w w' := by
 go_enter Tryz.func97, Tryz.ntmps97
 go_wp2
 exact bodyPost_ret (v := .agg #[.int .i64 0, .int .i64 0, .int .u64 0, .string ⟨([] : List UInt8).toArray⟩]) (by simp [results, Tryz.results97, go_sem]) rfl ⟨rfl, below2v _ _ _⟩
theorem own_1 (n b : Int) (s : List UInt8) (w : World) :
  Calls Tryz.prog 97 #[.agg #[.int .i64 1, .int .i64 n, .int .u64 b, .string ⟨s.toArray⟩]] w fun e w' => e = .returned (.agg #[.int .i64 1, .int .i64 n, .int .u64 0, .string ⟨([] : List UInt8).toArray⟩]) ∧ Below w.heap.size w w' := by
 go_enter Tryz.func97, Tryz.ntmps97
 go_wp2
 exact bodyPost_ret (v := .agg #[.int .i64 1, .int .i64 n, .int .u64 0, .string ⟨([] : List UInt8).toArray⟩]) (by simp [results, Tryz.results97, go_sem]) rfl ⟨rfl, below2v _ _ _⟩
theorem own_2 (n b : Int) (s : List UInt8) (w : World) :
  Calls Tryz.prog 97 #[.agg #[.int .i64 2, .int .i64 n, .int .u64 b, .string ⟨s.toArray⟩]] w fun e w' => e = .returned (.agg #[.int .i64 2, .int .i64 n, .int .u64 0, .string ⟨([] : List UInt8).toArray⟩]) ∧ Below w.heap.size w w' := by
 go_enter Tryz.func97, Tryz.ntmps97
 go_wp2
 exact bodyPost_ret (v := .agg #[.int .i64 2, .int .i64 n, .int .u64 0, .string ⟨([] : List UInt8).toArray⟩]) (by simp [results, Tryz.results97, go_sem]) rfl ⟨rfl, below2v _ _ _⟩
theorem own_3 (n b : Int) (s : List UInt8) (w : World) :
  Calls Tryz.prog 97 #[.agg #[.int .i64 3, .int .i64 n, .int .u64 b, .string ⟨s.toArray⟩]] w fun e w' => e = .returned (.agg #[.int .i64 3, .int .i64 0, .int .u64 b, .string ⟨([] : List UInt8).toArray⟩]) ∧ Below w.heap.size w w' := by
 go_enter Tryz.func97, Tryz.ntmps97
 go_wp2
 exact bodyPost_ret (v := .agg #[.int .i64 3, .int .i64 0, .int .u64 b, .string ⟨([] : List UInt8).toArray⟩]) (by simp [results, Tryz.results97, go_sem]) rfl ⟨rfl, below2v _ _ _⟩
theorem own_4 (n b : Int) (s : List UInt8) (w : World) :
  Calls Tryz.prog 97 #[.agg #[.int .i64 4, .int .i64 n, .int .u64 b, .string ⟨s.toArray⟩]] w fun e w' => e = .returned (.agg #[.int .i64 4, .int .i64 0, .int .u64 0, .string ⟨(s : List UInt8).toArray⟩]) ∧ Below w.heap.size w w' := by
 go_enter Tryz.func97, Tryz.ntmps97
 go_wp2
 exact bodyPost_ret (v := .agg #[.int .i64 4, .int .i64 0, .int .u64 0, .string ⟨(s : List UInt8).toArray⟩]) (by simp [results, Tryz.results97, go_sem]) rfl ⟨rfl, below2v _ _ _⟩
theorem own_5 (n b : Int) (s : List UInt8) (w : World) :
  Calls Tryz.prog 97 #[.agg #[.int .i64 5, .int .i64 n, .int .u64 b, .string ⟨s.toArray⟩]] w fun e w' => e = .returned (.agg #[.int .i64 5, .int .i64 0, .int .u64 0, .string ⟨(s : List UInt8).toArray⟩]) ∧ Below w.heap.size w w' := by
 go_enter Tryz.func97, Tryz.ntmps97
 go_wp2
 exact bodyPost_ret (v := .agg #[.int .i64 5, .int .i64 0, .int .u64 0, .string ⟨(s : List UInt8).toArray⟩]) (by simp [results, Tryz.results97, go_sem]) rfl ⟨rfl, below2v _ _ _⟩
theorem own_any (k n b : Int) (s : List UInt8) (w : World) (h0 : 0 ≤ k) (h1 : k ≤ 5) :
  Calls Tryz.prog 97 #[.agg #[.int .i64 k, .int .i64 n, .int .u64 b, .string ⟨s.toArray⟩]] w fun e w' => e = .returned (.agg #[.int .i64 k, .int .i64 (on k n), .int .u64 (ob k b), .string ⟨(os k s).toArray⟩]) ∧ Below w.heap.size w w' := by
 have c : k = 0 ∨ k = 1 ∨ k = 2 ∨ k = 3 ∨ k = 4 ∨ k = 5 := by omega
 rcases c with rfl | rfl | rfl | rfl | rfl | rfl
 ·exact own_0 n b s w
 ·exact own_1 n b s w
 ·exact own_2 n b s w
 ·exact own_3 n b s w
 ·exact own_4 n b s w
 ·exact own_5 n b s w
end Go.Proofs.YtmgdciihpjifgaaGreatDoor
namespace Go.Proofs.YtmgdciihpjifgaaGreatDoor
open Go.RowKit
theorem below2s (w : World) (o p : Obj) : Below w.heap.size w ((w.alloc o).alloc p) :=
 have b := (Below.refl _ w).alloc (Nat.le_refl _) o
 b.alloc b.size p
theorem rsame_k (k n b : Int) (s : List UInt8) (k' n' b' : Int) (s' : List UInt8) (w : World) (h : k ≠ k') :
  Calls Tryz.prog 70 #[.agg #[.int .i64 k, .int .i64 n, .int .u64 b, .string ⟨(s : List UInt8).toArray⟩], .agg #[.int .i64 k', .int .i64 n', .int .u64 b', .string ⟨(s' : List UInt8).toArray⟩]] w fun e w' => e = .returned (.bool false) ∧ Below w.heap.size w w' := by
 have k1 := beq_f h
 have k2 := bne_t h
 go_enter Tryz.func70, Tryz.ntmps70
 go_wp2
 go_ret
 exact ⟨rfl, below2s _ _ _⟩
theorem rsame_n (k n b : Int) (s : List UInt8) (n' b' : Int) (s' : List UInt8) (w : World) (h : n ≠ n') :
  Calls Tryz.prog 70 #[.agg #[.int .i64 k, .int .i64 n, .int .u64 b, .string ⟨(s : List UInt8).toArray⟩], .agg #[.int .i64 k, .int .i64 n', .int .u64 b', .string ⟨(s' : List UInt8).toArray⟩]] w fun e w' => e = .returned (.bool false) ∧ Below w.heap.size w w' := by
 have n1 := beq_f h
 have n2 := bne_t h
 go_enter Tryz.func70, Tryz.ntmps70
 go_wp2
 go_ret
 exact ⟨rfl, below2s _ _ _⟩
theorem rsame_b (k n b : Int) (s : List UInt8) (b' : Int) (s' : List UInt8) (w : World) (h : b ≠ b') :
  Calls Tryz.prog 70 #[.agg #[.int .i64 k, .int .i64 n, .int .u64 b, .string ⟨(s : List UInt8).toArray⟩], .agg #[.int .i64 k, .int .i64 n, .int .u64 b', .string ⟨(s' : List UInt8).toArray⟩]] w fun e w' => e = .returned (.bool false) ∧ Below w.heap.size w w' := by
 have b1 := beq_f h
 have b2 := bne_t h
 go_enter Tryz.func70, Tryz.ntmps70
 go_wp2
 go_ret
 exact ⟨rfl, below2s _ _ _⟩
theorem rsame_s (k n b : Int) (s s' : List UInt8) (w : World) (h : s ≠ s') :
  Calls Tryz.prog 70 #[.agg #[.int .i64 k, .int .i64 n, .int .u64 b, .string ⟨(s : List UInt8).toArray⟩], .agg #[.int .i64 k, .int .i64 n, .int .u64 b, .string ⟨(s' : List UInt8).toArray⟩]] w fun e w' => e = .returned (.bool false) ∧ Below w.heap.size w w' := by
 have s1 : (s == s') = false := by rw [beq_eq_false_iff_ne]; exact h
 have s2 : (s != s') = true := by simpa using h
 have s3 : ¬ s = s' := h
 go_enter Tryz.func70, Tryz.ntmps70
 go_wp2
 go_ret
 exact ⟨rfl, below2s _ _ _⟩
theorem rsame_t (k n b : Int) (s : List UInt8) (w : World) :
  Calls Tryz.prog 70 #[.agg #[.int .i64 k, .int .i64 n, .int .u64 b, .string ⟨(s : List UInt8).toArray⟩], .agg #[.int .i64 k, .int .i64 n, .int .u64 b, .string ⟨(s : List UInt8).toArray⟩]] w fun e w' => e = .returned (.bool true) ∧ Below w.heap.size w w' := by
 go_enter Tryz.func70, Tryz.ntmps70
 go_wp2
 go_ret
 exact ⟨rfl, below2s _ _ _⟩
theorem rsame_is (k n b : Int) (s : List UInt8) (k' n' b' : Int) (s' : List UInt8) (r : Bool) (w : World) (h : Vl.sm k n b s k' n' b' s' = r) :
  Calls Tryz.prog 70 #[.agg #[.int .i64 k, .int .i64 n, .int .u64 b, .string ⟨(s : List UInt8).toArray⟩], .agg #[.int .i64 k', .int .i64 n', .int .u64 b', .string ⟨(s' : List UInt8).toArray⟩]] w fun e w' => e = .returned (.bool r) ∧ Below w.heap.size w w' := by
 subst h
 unfold Vl.sm
 by_cases hk : k = k'
 ·subst hk
  by_cases hn : n = n'
  ·subst hn
   by_cases hb : b = b'
   ·subst hb
    by_cases hs : s = s'
    ·subst hs
     simp only [and_self, decide_true]
     exact rsame_t k n b s w
    ·simp only [hs, and_false, decide_false]
     exact rsame_s k n b s s' w hs
   ·simp only [hb, false_and, and_false, decide_false]
    exact rsame_b k n b s b' s' w hb
  ·simp only [hn, false_and, and_false, decide_false]
   exact rsame_n k n b s n' b' s' w hn
 ·simp only [hk, false_and, decide_false]
  exact rsame_k k n b s k' n' b' s' w hk
end Go.Proofs.YtmgdciihpjifgaaGreatDoor
