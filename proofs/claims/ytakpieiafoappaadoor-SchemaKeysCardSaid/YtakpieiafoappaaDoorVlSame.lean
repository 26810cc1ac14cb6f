/-
  Values as plain mathematics: may a value be, are two the same, which comes first; their laws. Conditions: the bounds named in each theorem.
  What the leaves of package values and of the document's answers say: isKind, own, Same, cmp.Compare at integers and texts, order. Conditions: the bounds named in each theorem.
  What own answers: a value with those fields alone that its kind has.
  What the document's Same answers of any two values; it writes nothing that was there.
-/
import Derived.Test.YtakpieiafoappaaDoorRealsKey
import Derived.Test.YtakpieiafoappaaDoorUtfCount
import Derived.WalkKit
import Derived.Test.YtakpieiafoappaaDoorBase
import Derived.Below
import Derived.Laws.StructEq
import Derived.Laws.Cover1
namespace Go.Proofs.YtakpieiafoappaaDoor.Vl

/-- Is all of l characters? -/
def vd (l : List UInt8) : Bool := decide (0 ≤ Utf.cn l)

/-- Why a value may not be; 0: it may. -/
def ck (k n b : Int) (s : List UInt8) : Int :=
  if k < 0 ∨ 5 < k then 5
  else if (n ≠ 0 ∧ k ≠ 1 ∧ k ≠ 2) ∨ (b ≠ 0 ∧ k ≠ 3) ∨ (s ≠ [] ∧ k ≠ 4 ∧ k ≠ 5) then 4
  else if k = 1 ∧ n ≠ 0 ∧ n ≠ 1 then 6
  else if k = 3 ∧ Rl.cn b ≠ b then 4
  else if 64 < s.length then 2
  else if k = 5 ∧ vd s = false then 7
  else 0

/-- The order of integers, of texts; the first that is not 0. -/
def ic (a b : Int) : Int := if a < b then -1 else if b < a then 1 else 0
def sc (s t : List UInt8) : Int := if s < t then -1 else if t < s then 1 else 0
def or4 (a b c d : Int) : Int := if a = 0 then (if b = 0 then (if c = 0 then d else c) else b) else a
def vc (k n b : Int) (s : List UInt8) (k' n' b' : Int) (s' : List UInt8) : Int := or4 (ic k k') (ic n n') (Rl.cp b b') (sc s s')
/-- Are all fields the same? -/
def sm (k n b : Int) (s : List UInt8) (k' n' b' : Int) (s' : List UInt8) : Bool := decide (k = k' ∧ n = n' ∧ b = b' ∧ s = s')

theorem less_eq : ∀ (x y : List UInt8), Op.bytesLess x y = decide (x < y)
  | [], [] => by simp [Op.bytesLess]
  | _ :: _, [] => by simp [Op.bytesLess]
  | [], _ :: _ => by simp [Op.bytesLess]
  | a :: x, b :: y => by
    rw [Op.bytesLess, less_eq x y]
    rw [Bool.eq_iff_iff]
    simp [List.cons_lt_cons_iff]

theorem lt_irrefl (s : List UInt8) : ¬ s < s := List.lt_irrefl s
theorem lt_trans {s t u : List UInt8} (h : s < t) (g : t < u) : s < u := List.lt_trans h g
theorem lt_asymm {s t : List UInt8} (h : s < t) : ¬ t < s := fun g => lt_irrefl s (lt_trans h g)
theorem lt_total (s t : List UInt8) (h : ¬ s < t) (g : ¬ t < s) : s = t := List.le_antisymm g h

theorem ic_neg (a b : Int) : ic a b = - ic b a := by unfold ic; (repeat' split) <;> omega
theorem ic_zero (a b : Int) : ic a b = 0 ↔ a = b := by unfold ic; (repeat' split) <;> omega
theorem ic_trans (a b c : Int) (h : ic a b ≤ 0) (g : ic b c ≤ 0) : ic a c ≤ 0 := by
  unfold ic at *; (repeat' split) <;> (repeat' split at h) <;> (repeat' split at g) <;> omega
theorem sc_neg (s t : List UInt8) : sc s t = - sc t s := by
  unfold sc
  by_cases h : s < t
  · rw [if_pos h, if_neg (lt_asymm h), if_pos h]
  · by_cases g : t < s
    · rw [if_neg h, if_pos g, if_pos g]; rfl
    · rw [if_neg h, if_neg g, if_neg g, if_neg h]; rfl
theorem sc_zero (s t : List UInt8) : sc s t = 0 ↔ s = t := by
  unfold sc
  by_cases h : s < t
  · rw [if_pos h]; exact ⟨fun e => by omega, fun e => absurd (e ▸ h) (lt_irrefl _)⟩
  · by_cases g : t < s
    · rw [if_neg h, if_pos g]; exact ⟨fun e => by omega, fun e => absurd (e ▸ g) (lt_irrefl _)⟩
    · rw [if_neg h, if_neg g]; exact ⟨fun _ => lt_total s t h g, fun _ => rfl⟩
theorem sc_le (s t : List UInt8) : sc s t ≤ 0 ↔ ¬ t < s := by
  unfold sc
  by_cases h : s < t
  · rw [if_pos h]; exact ⟨fun _ => lt_asymm h, fun _ => by omega⟩
  · by_cases g : t < s
    · rw [if_neg h, if_pos g]; exact ⟨fun e => by omega, fun e => absurd g e⟩
    · rw [if_neg h, if_neg g]; exact ⟨fun _ => g, fun _ => by omega⟩
theorem sc_trans (a b c : List UInt8) (h : sc a b ≤ 0) (g : sc b c ≤ 0) : sc a c ≤ 0 := by
  rw [sc_le] at *
  intro k
  by_cases e : b < a
  · exact h e
  · by_cases f : a < b
    · exact g (lt_trans k f)
    · have := lt_total a b f e
      subst this
      exact g k

theorem or4_neg (a b c d : Int) : or4 (-a) (-b) (-c) (-d) = - or4 a b c d := by unfold or4; (repeat' split) <;> omega
theorem or4_zero (a b c d : Int) : or4 a b c d = 0 ↔ a = 0 ∧ b = 0 ∧ c = 0 ∧ d = 0 := by unfold or4; (repeat' split) <;> omega

theorem vc_neg (k n b : Int) (s : List UInt8) (k' n' b' : Int) (s' : List UInt8) : vc k n b s k' n' b' s' = - vc k' n' b' s' k n b s := by
  unfold vc; rw [← or4_neg, ← ic_neg, ← ic_neg, ← Rl.cp_neg, ← sc_neg]

theorem vc_zero (k n b : Int) (s : List UInt8) (k' n' b' : Int) (s' : List UInt8) (hb : Rl.U b) (hb' : Rl.U b') : vc k n b s k' n' b' s' = 0 ↔ k = k' ∧ n = n' ∧ Rl.cn b = Rl.cn b' ∧ s = s' := by
  unfold vc; rw [or4_zero, ic_zero, ic_zero, Rl.cp_zero b b' hb hb', sc_zero]

/-- What one part's order gives: 0 behind two that are not above 0 only where both are 0. -/
theorem tie {x y z x' y' z' : Int} (hx : x = - x') (hy : y = - y') (hz : z = - z') (T : z' ≤ 0 → x ≤ 0 → y' ≤ 0) (T2 : y ≤ 0 → z' ≤ 0 → x' ≤ 0) : x ≤ 0 → y ≤ 0 → z = 0 → x = 0 ∧ y = 0 := by
  intro a b c
  have := T (by omega) a
  have := T2 b (by omega)
  omega

theorem or4_trans {a b c d a' b' c' d' a'' b'' c'' d'' : Int}
    (ha : a ≤ 0 → a' ≤ 0 → a'' ≤ 0) (hb : b ≤ 0 → b' ≤ 0 → b'' ≤ 0) (hc : c ≤ 0 → c' ≤ 0 → c'' ≤ 0) (hd : d ≤ 0 → d' ≤ 0 → d'' ≤ 0)
    (ka : a ≤ 0 → a' ≤ 0 → a'' = 0 → a = 0 ∧ a' = 0) (kb : b ≤ 0 → b' ≤ 0 → b'' = 0 → b = 0 ∧ b' = 0) (kc : c ≤ 0 → c' ≤ 0 → c'' = 0 → c = 0 ∧ c' = 0)
    (h : or4 a b c d ≤ 0) (g : or4 a' b' c' d' ≤ 0) : or4 a'' b'' c'' d'' ≤ 0 := by
  unfold or4 at *
  have ha1 : a ≤ 0 := by split at h <;> omega
  have ha2 : a' ≤ 0 := by split at g <;> omega
  have ha3 := ha ha1 ha2
  split
  · rename_i e
    obtain ⟨e1, e2⟩ := ka ha1 ha2 e
    rw [if_pos e1] at h
    rw [if_pos e2] at g
    have hb1 : b ≤ 0 := by split at h <;> omega
    have hb2 : b' ≤ 0 := by split at g <;> omega
    have hb3 := hb hb1 hb2
    split
    · rename_i e
      obtain ⟨e1, e2⟩ := kb hb1 hb2 e
      rw [if_pos e1] at h
      rw [if_pos e2] at g
      have hc1 : c ≤ 0 := by split at h <;> omega
      have hc2 : c' ≤ 0 := by split at g <;> omega
      have hc3 := hc hc1 hc2
      split
      · rename_i e
        obtain ⟨e1, e2⟩ := kc hc1 hc2 e
        rw [if_pos e1] at h
        rw [if_pos e2] at g
        exact hd h g
      · exact hc3
    · exact hb3
  · exact ha3

theorem vc_trans (k n b : Int) (s : List UInt8) (k' n' b' : Int) (s' : List UInt8) (k'' n'' b'' : Int) (s'' : List UInt8)
    (h : vc k n b s k' n' b' s' ≤ 0) (g : vc k' n' b' s' k'' n'' b'' s'' ≤ 0) : vc k n b s k'' n'' b'' s'' ≤ 0 := by
  unfold vc at *
  exact or4_trans (ic_trans _ _ _) (ic_trans _ _ _) (Rl.cp_trans _ _ _) (sc_trans _ _ _)
    (tie (ic_neg _ _) (ic_neg _ _) (ic_neg _ _) (ic_trans _ _ _) (ic_trans _ _ _))
    (tie (ic_neg _ _) (ic_neg _ _) (ic_neg _ _) (ic_trans _ _ _) (ic_trans _ _ _))
    (tie (Rl.cp_neg _ _) (Rl.cp_neg _ _) (Rl.cp_neg _ _) (Rl.cp_trans _ _ _) (Rl.cp_trans _ _ _)) h g

/-- What may be. -/
theorem ck_ok {k n b : Int} {s : List UInt8} (h : ck k n b s = 0) :
    0 ≤ k ∧ k ≤ 5 ∧ (n ≠ 0 → k = 1 ∨ k = 2) ∧ (b ≠ 0 → k = 3) ∧ (s ≠ [] → k = 4 ∨ k = 5) ∧ (k = 1 → n = 0 ∨ n = 1) ∧ Rl.cn b = b ∧ s.length ≤ 64 := by
  unfold ck at h
  split at h
  · omega
  · split at h
    · omega
    · split at h
      · omega
      · split at h
        · omega
        · split at h
          · omega
          · rename_i h1 h2 h3 h4 h5
            refine ⟨by omega, by omega, by omega, by omega, ?_, by omega, ?_, by omega⟩
            · intro g
              refine Decidable.byContradiction fun e => h2 (.inr (.inr ⟨g, by omega, by omega⟩))
            · by_cases e : k = 3
              · exact Decidable.byContradiction fun g => h4 ⟨e, g⟩
              · have : b = 0 := by omega
                subst this
                decide

theorem same_iff {k n b : Int} {s : List UInt8} {k' n' b' : Int} {s' : List UInt8} (h : ck k n b s = 0) (h' : ck k' n' b' s' = 0) (hb : Rl.U b) (hb' : Rl.U b') :
    (vc k n b s k' n' b' s' == 0) = sm k n b s k' n' b' s' := by
  rw [Bool.eq_iff_iff, beq_iff_eq, vc_zero _ _ _ _ _ _ _ _ hb hb']
  unfold sm
  rw [decide_eq_true_eq]
  have e1 := (ck_ok h).2.2.2.2.2.2.1
  have e2 := (ck_ok h').2.2.2.2.2.2.1
  rw [e1, e2]

/-- No value of its kind lies ahead of its kind's first one but numbers. -/
theorem zero_first {k n b : Int} {s : List UInt8} (h : ck k n b s = 0) (h2 : k ≠ 2) (h3 : k ≠ 3) : vc k 0 0 [] k n b s ≤ 0 := by
  obtain ⟨_, _, hn, hb, hs, h1, hc, _⟩ := ck_ok h
  have eb : b = 0 := by omega
  subst eb
  have e1 : ic k k = 0 := (ic_zero k k).2 rfl
  have e3 : Rl.cp 0 0 = 0 := by decide
  have e4 : sc [] s ≤ 0 := by rw [sc_le]; simp
  have e2 : ic 0 n ≤ 0 := by unfold ic; (repeat' split) <;> omega
  unfold vc or4
  rw [e1, e3]
  simp only [if_true]
  split
  · exact e4
  · exact e2

end Go.Proofs.YtakpieiafoappaaDoor.Vl

namespace Go.Proofs.YtakpieiafoappaaDoor
open Go.RowKit

/-- A value as Go's struct. -/
def av (k n b : Int) (s : List UInt8) : Value := .agg #[.int .i64 k, .int .i64 n, .int .u64 b, .string ⟨s.toArray⟩]

theorem bytes_list (s : List UInt8) : (ByteArray.mk s.toArray).toList = s := by rw [ByteArray.toList_eq]

theorem eq24 (k n b : Int) (s : List UInt8) (k' n' b' : Int) (s' : List UInt8) (w : World) :
    (Op.equalIn 10000 37 (.agg #[.int .i64 k, .int .i64 n, .int .u64 b, .string ⟨s.toArray⟩]) (.agg #[.int .i64 k', .int .i64 n', .int .u64 b', .string ⟨s'.toArray⟩])).run Tryd.prog w = .ok (Vl.sm k n b s k' n' b' s') w := by
  have u3 := Tryd.underlying3
  have a3 := Tryd.isAgg3
  have z3 := Tryd.sizeOf3
  have u4 := Tryd.underlying35
  have a4 := Tryd.isAgg35
  have z4 := Tryd.sizeOf35
  have u5 := Tryd.underlying9
  have a5 := Tryd.isAgg9
  have z5 := Tryd.sizeOf9
  have hS : Tryd.prog.underlying 37 = some (.struct (Tryd.prog.fieldsOf 37)) := by kernel_rfl
  have hp : Tryd.prog.stoodInHeld 37 = false := by kernel_rfl
  rw [show (10000 : Nat) = 9999 + 1 from rfl, run_equalIn_agg w 9999 37 _ _ hS hp]
  simp only [Program.fieldsOf, Tryd.underlying37]
  go_simp
  unfold Vl.sm
  by_cases h1 : k = k' <;> by_cases h2 : n = n' <;> by_cases h3 : b = b' <;> by_cases h4 : s = s' <;> simp [h1, h2, h3, h4]

theorem isKind_t (k : Int) (w : World) (h0 : 0 ≤ k) (h1 : k ≤ 5) :
    Calls Tryd.prog 35 #[.int .i64 k] w fun e w' => e = .returned (.bool true) ∧ w = w' := by
  have h2 : k < 6 := by omega
  go_enter Tryd.func35, Tryd.ntmps35
  go_wp2
  go_ret
  exact ⟨rfl, rfl⟩

theorem isKind_f (k : Int) (w : World) (h : k < 0 ∨ 5 < k) :
    Calls Tryd.prog 35 #[.int .i64 k] w fun e w' => e = .returned (.bool false) ∧ w = w' := by
  by_cases h0 : k < 0
  · clear h
    go_enter Tryd.func35, Tryd.ntmps35
    go_wp2
    go_ret
    exact ⟨rfl, rfl⟩
  · have h1 : decide (k < 6) = false := by rw [decide_eq_false_iff_not]; omega
    replace h0 : 0 ≤ k := by omega
    clear h
    go_enter Tryd.func35, Tryd.ntmps35
    go_wp2
    go_ret
    exact ⟨rfl, rfl⟩

end Go.Proofs.YtakpieiafoappaaDoor

namespace Go.Proofs.YtakpieiafoappaaDoor
open Go.RowKit

/-- The fields that a kind has. -/
def on (k n : Int) : Int := if k = 1 ∨ k = 2 then n else 0
def ob (k b : Int) : Int := if k = 3 then b else 0
def os (k : Int) (s : List UInt8) : List UInt8 := if k = 4 ∨ k = 5 then s else []

theorem below2v (w : World) (o p : Obj) : Below w.heap.size w ((w.alloc o).alloc p) :=
  have b := (Below.refl _ w).alloc (Nat.le_refl _) o
  b.alloc b.size p

set_option maxHeartbeats 1000000 in
theorem own_0 (n b : Int) (s : List UInt8) (w : World) :
    Calls Tryd.prog 36 #[.agg #[.int .i64 0, .int .i64 n, .int .u64 b, .string ⟨s.toArray⟩]] w fun e w' => e = .returned (.agg #[.int .i64 0, .int .i64 0, .int .u64 0, .string ⟨([] : List UInt8).toArray⟩]) ∧ Below w.heap.size w w' := by
  go_enter Tryd.func36, Tryd.ntmps36
  go_wp2
  exact bodyPost_ret (v := .agg #[.int .i64 0, .int .i64 0, .int .u64 0, .string ⟨([] : List UInt8).toArray⟩]) (by simp [results, Tryd.results36, go_sem]) rfl ⟨rfl, below2v _ _ _⟩

set_option maxHeartbeats 1000000 in
theorem own_1 (n b : Int) (s : List UInt8) (w : World) :
    Calls Tryd.prog 36 #[.agg #[.int .i64 1, .int .i64 n, .int .u64 b, .string ⟨s.toArray⟩]] w fun e w' => e = .returned (.agg #[.int .i64 1, .int .i64 n, .int .u64 0, .string ⟨([] : List UInt8).toArray⟩]) ∧ Below w.heap.size w w' := by
  go_enter Tryd.func36, Tryd.ntmps36
  go_wp2
  exact bodyPost_ret (v := .agg #[.int .i64 1, .int .i64 n, .int .u64 0, .string ⟨([] : List UInt8).toArray⟩]) (by simp [results, Tryd.results36, go_sem]) rfl ⟨rfl, below2v _ _ _⟩

set_option maxHeartbeats 1000000 in
theorem own_2 (n b : Int) (s : List UInt8) (w : World) :
    Calls Tryd.prog 36 #[.agg #[.int .i64 2, .int .i64 n, .int .u64 b, .string ⟨s.toArray⟩]] w fun e w' => e = .returned (.agg #[.int .i64 2, .int .i64 n, .int .u64 0, .string ⟨([] : List UInt8).toArray⟩]) ∧ Below w.heap.size w w' := by
  go_enter Tryd.func36, Tryd.ntmps36
  go_wp2
  exact bodyPost_ret (v := .agg #[.int .i64 2, .int .i64 n, .int .u64 0, .string ⟨([] : List UInt8).toArray⟩]) (by simp [results, Tryd.results36, go_sem]) rfl ⟨rfl, below2v _ _ _⟩

set_option maxHeartbeats 1000000 in
theorem own_3 (n b : Int) (s : List UInt8) (w : World) :
    Calls Tryd.prog 36 #[.agg #[.int .i64 3, .int .i64 n, .int .u64 b, .string ⟨s.toArray⟩]] w fun e w' => e = .returned (.agg #[.int .i64 3, .int .i64 0, .int .u64 b, .string ⟨([] : List UInt8).toArray⟩]) ∧ Below w.heap.size w w' := by
  go_enter Tryd.func36, Tryd.ntmps36
  go_wp2
  exact bodyPost_ret (v := .agg #[.int .i64 3, .int .i64 0, .int .u64 b, .string ⟨([] : List UInt8).toArray⟩]) (by simp [results, Tryd.results36, go_sem]) rfl ⟨rfl, below2v _ _ _⟩

set_option maxHeartbeats 1000000 in
theorem own_4 (n b : Int) (s : List UInt8) (w : World) :
    Calls Tryd.prog 36 #[.agg #[.int .i64 4, .int .i64 n, .int .u64 b, .string ⟨s.toArray⟩]] w fun e w' => e = .returned (.agg #[.int .i64 4, .int .i64 0, .int .u64 0, .string ⟨(s : List UInt8).toArray⟩]) ∧ Below w.heap.size w w' := by
  go_enter Tryd.func36, Tryd.ntmps36
  go_wp2
  exact bodyPost_ret (v := .agg #[.int .i64 4, .int .i64 0, .int .u64 0, .string ⟨(s : List UInt8).toArray⟩]) (by simp [results, Tryd.results36, go_sem]) rfl ⟨rfl, below2v _ _ _⟩

set_option maxHeartbeats 1000000 in
theorem own_5 (n b : Int) (s : List UInt8) (w : World) :
    Calls Tryd.prog 36 #[.agg #[.int .i64 5, .int .i64 n, .int .u64 b, .string ⟨s.toArray⟩]] w fun e w' => e = .returned (.agg #[.int .i64 5, .int .i64 0, .int .u64 0, .string ⟨(s : List UInt8).toArray⟩]) ∧ Below w.heap.size w w' := by
  go_enter Tryd.func36, Tryd.ntmps36
  go_wp2
  exact bodyPost_ret (v := .agg #[.int .i64 5, .int .i64 0, .int .u64 0, .string ⟨(s : List UInt8).toArray⟩]) (by simp [results, Tryd.results36, go_sem]) rfl ⟨rfl, below2v _ _ _⟩

theorem own_any (k n b : Int) (s : List UInt8) (w : World) (h0 : 0 ≤ k) (h1 : k ≤ 5) :
    Calls Tryd.prog 36 #[.agg #[.int .i64 k, .int .i64 n, .int .u64 b, .string ⟨s.toArray⟩]] w fun e w' => e = .returned (.agg #[.int .i64 k, .int .i64 (on k n), .int .u64 (ob k b), .string ⟨(os k s).toArray⟩]) ∧ Below w.heap.size w w' := by
  have c : k = 0 ∨ k = 1 ∨ k = 2 ∨ k = 3 ∨ k = 4 ∨ k = 5 := by omega
  rcases c with rfl | rfl | rfl | rfl | rfl | rfl
  · exact own_0 n b s w
  · exact own_1 n b s w
  · exact own_2 n b s w
  · exact own_3 n b s w
  · exact own_4 n b s w
  · exact own_5 n b s w

end Go.Proofs.YtakpieiafoappaaDoor

namespace Go.Proofs.YtakpieiafoappaaDoor
open Go.RowKit

theorem below2s (w : World) (o p : Obj) : Below w.heap.size w ((w.alloc o).alloc p) :=
  have b := (Below.refl _ w).alloc (Nat.le_refl _) o
  b.alloc b.size p

end Go.Proofs.YtakpieiafoappaaDoor
