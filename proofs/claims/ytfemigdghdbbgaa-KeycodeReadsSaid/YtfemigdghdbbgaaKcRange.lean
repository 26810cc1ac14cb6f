/-
  A range over a function whose rounds know what may come next: a loop that goes on or returns. No condition of the program's.
-/
import Derived.RangeFuncNested
import Derived.RangeFuncLeaves
import Derived.Shelf.Abstract
namespace Go.Proofs.Ytfemigdghdbbgaa
open Go.RowKit Go.Shelf

/-- How a round is left: it goes on, or it returns. -/
def Left {α : Type} (B : Nat) (I Ir : List α → World → Prop) (xs : List α) (W : World) : Exit → Act → World → Prop
  | .normal, _, W' => KeepsFrom B W W' ∧ I xs W'
  | .ret, _, W' => KeepsFrom B W W' ∧ Ir xs W'
  | _, _, _ => False

/-- What an iterator owes, if a round may count on Nx: what comes fits behind what has come. -/
def Goes {α : Type} (n : Nat) (P : Program) (g : Nat) (lb : Array Value) (encs : α → Array Value) (Nx : List α → α → Prop) (S Sp : List α → Prop) (w : World) : Prop :=
  ∀ (l : Nat) (J Jx : List α → World → Prop) (W : World), Below w.heap.size w W →
    (∀ pre x V, Nx pre x → J pre V → YieldAt Fence.wide (n - 1) P l (encs x) V fun e V' => (e = .returned (.bool true) ∧ J (pre ++ [x]) V') ∨ (e = .returned (.bool false) ∧ Jx (pre ++ [x]) V')) →
    J [] W →
    CallsIn Fence.wide n P g (#[.func (.yield l) #[] #[]] ++ lb) W fun e W' => (∃ v, e = .returned v) ∧ ((∃ xs, S xs ∧ J xs W') ∨ (∃ pre, Sp pre ∧ Jx pre W'))

theorem range_known {α : Type} {n : Nat} {P : Program} {g : Operand} {ps : Array Tmp} {assign body : Code} {Q : Exit → Act → World → Prop} {a : Act} {w : World} {gf : Nat} {lb : Array Value} {encs : α → Array Value}
    {Nx : List α → α → Prop} {S Sp : List α → Prop} (h1 : 1 ≤ n) (hg : a.eval g = .func (.func gf) #[] lb) (eg : ∀ args w, (callFunc gf args).run P w = .ok (.enter gf args) w)
    (hseq : Goes (n - 1) P gf lb encs Nx S Sp w) (hps : ∀ x, (encs x).size = ps.size) (I Ir : List α → World → Prop) (hI : OwnFrom w.heap.size I) (hIr : OwnFrom w.heap.size Ir) (h0 : I [] w) (a₁ : α → Act)
    (hassign : ∀ (l : Nat) (x : α) (W : World) (K : Act → World → Prop), K (a₁ x) W →
      assign.wpIn (Fence.wide.inRound l) (n - 1 - 1) P (Exit.then K (fun _ _ _ => False)) { tmps := (ps.zip (encs x)).foldl (fun t (p, v) => t.setIfInBounds p v) a.tmps, defers := [] } W)
    (hbody : ∀ (l : Nat) (pre : List α) (x : α) (W : World), Nx pre x → I pre W → body.wpIn (Fence.wide.inRound l) (n - 1 - 1) P (Left w.heap.size I Ir (pre ++ [x]) W) (a₁ x) W)
    (hdone : ∀ (D : Nat) (xs : List α) (W : World), w.heap.size ≤ D → S xs → I xs W → W.heap[D]? = some (.deferred (some [])) → Q .normal { a with defers := { target := .collected D, args := #[] } :: a.defers } W)
    (hret : ∀ (D : Nat) (pre : List α) (W : World), w.heap.size ≤ D → Sp pre → Ir pre W → W.heap[D]? = some (.deferred (some [])) → Q .ret { a with defers := { target := .collected D, args := #[] } :: a.defers } W) :
    (Code.rangeFunc g ps assign body).wpIn Fence.wide n P Q a w := by
  refine wpIn_rangeFunc fun fn hfn => ?_
  obtain ⟨Z, hZ⟩ : ∃ Z, w.heap.size = Z := ⟨_, rfl⟩
  obtain ⟨L, hL⟩ : ∃ L : LoopState → Option Code → Loop, L = fun st pe => { state := st, pending := pe, fn := fn, tmps := a.tmps, params := ps, assign := assign, body := body, defers := Z } := ⟨_, rfl⟩
  obtain ⟨W1, hW1⟩ : ∃ W1, (w.alloc (.deferred (some []))).alloc (.loop (L .ready none)) = W1 := ⟨_, rfl⟩
  have r1 : W1.heap[Z + 1]? = some (.loop (L .ready none)) := by
    have := World.alloc_heap_new (w.alloc (.deferred (some []))) (.loop (L .ready none))
    rw [World.size_alloc, hZ, hW1] at this
    exact this
  have d1 : W1.heap[Z]? = some (.deferred (some [])) := by
    have h := World.alloc_heap_new w (.deferred (some []))
    rw [hZ] at h
    have h2 := Below.heap_alloc (w.alloc (.deferred (some []))) (.loop (L .ready none)) Z (by rw [World.size_alloc]; omega)
    rw [hW1] at h2
    exact h2.trans h
  have i1 : I [] W1 := by rw [← hW1]; exact hI.alloc _ (hI.alloc _ h0)
  have b1 : Below w.heap.size w W1 := by rw [← hW1]; exact ((Below.refl _ w).alloc (Nat.le_refl _) _).alloc (by simp) _
  rw [hZ] at hI hIr
  have one : ∀ (pre : List α) (x : α) (V : World), Nx pre x → (I pre V ∧ V.heap[Z + 1]? = some (.loop (L .ready none)) ∧ V.heap[Z]? = some (.deferred (some []))) →
      YieldAt Fence.wide (n - 1 - 1) P (Z + 1) (encs x) V fun e V' =>
        (e = .returned (.bool true) ∧ I (pre ++ [x]) V' ∧ V'.heap[Z + 1]? = some (.loop (L .ready none)) ∧ V'.heap[Z]? = some (.deferred (some []))) ∨
        (e = .returned (.bool false) ∧ Ir (pre ++ [x]) V' ∧ V'.heap[Z + 1]? = some (.loop (L .done (some .ret))) ∧ V'.heap[Z]? = some (.deferred (some []))) := by
    rintro pre x V hn ⟨hi, hr, hd⟩
    have hy := run_yield (P := P) (args := encs x) hr (by rw [hL]; exact hps x)
    rw [hL] at hy
    have hs := run_beginRound (P := P) hr (by rw [hL])
    obtain ⟨V1, hV1⟩ : ∃ V1, V.putObj (Z + 1) (.loop { L .ready none with state := .busy }) = V1 := ⟨_, rfl⟩
    rw [hV1] at hs
    have hr1 : V1.heap[Z + 1]? = some (.loop (L .busy none)) := by
      rw [← hV1, World.putObj_heap_same (Array.getElem?_eq_some_iff.1 hr).1, hL]
    have hd1 : V1.heap[Z]? = some (.deferred (some [])) := by
      rw [← hV1]; exact (World.putObj_heap_other (by omega)).trans hd
    have hi1 : I pre V1 := by rw [← hV1]; exact hI.putObj _ hi (by omega) hr rfl
    refine ⟨fn, _, assign, body, hy, roundIn_of_wpIn hfn (hassign (Z + 1) x V _ ⟨V1, hs, wpIn_mono (hbody (Z + 1) pre x V1 hn hi1) ?_⟩)⟩
    intro e a3 V3 hp
    rw [hZ] at hp
    cases e with
    | normal =>
      obtain ⟨hk, hi3⟩ := hp
      have hr3 := hk.same _ _ (by omega) hr1 rfl
      have hd3 := hk.same _ _ (Nat.le_refl _) hd1 rfl
      have he := run_endRound (P := P) none hr3
      refine ⟨_, _, he, .inl ⟨rfl, hI.putObj _ hi3 (by omega) hr3 rfl, ?_, (World.putObj_heap_other (by omega)).trans hd3⟩⟩
      rw [World.putObj_heap_same (Array.getElem?_eq_some_iff.1 hr3).1, hL]; rfl
    | ret =>
      obtain ⟨hk, hi3⟩ := hp
      have hr3 := hk.same _ _ (by omega) hr1 rfl
      have hd3 := hk.same _ _ (Nat.le_refl _) hd1 rfl
      have he := run_endRound (P := P) (some .ret) hr3
      refine ⟨_, _, he, .inr ⟨rfl, hIr.putObj _ hi3 (by omega) hr3 rfl, ?_, (World.putObj_heap_other (by omega)).trans hd3⟩⟩
      rw [World.putObj_heap_same (Array.getElem?_eq_some_iff.1 hr3).1, hL]; rfl
    | exit id => exact hp.elim
    | goto t => exact hp.elim
    | panic c => exact hp.elim
    | outgrown => exact hp.elim
  refine ⟨Z + 1, [{ target := .collected Z, args := #[] }], W1, { target := .fn (.func gf) lb, args := #[.func (.yield (Z + 1)) #[] #[]] }, W1, gf, #[.func (.yield (Z + 1)) #[] #[]] ++ lb, W1, ?_, ?_, fun _ _ => trivial, ?_, fun _ => h1, ?_⟩
  · have := run_enterLoop_outer (P := P) (w := w) fn a.tmps ps assign body
    rw [hZ] at this
    rw [← hW1, hL]
    exact this
  · simp only [resolve, hg]
    simp [go_sem]
  · simp [invoke, go_sem, eg]
  · refine (hseq (Z + 1) (fun pre V => I pre V ∧ V.heap[Z + 1]? = some (.loop (L .ready none)) ∧ V.heap[Z]? = some (.deferred (some []))) (fun pre V => Ir pre V ∧ V.heap[Z + 1]? = some (.loop (L .done (some .ret))) ∧ V.heap[Z]? = some (.deferred (some []))) W1 b1 one ⟨i1, r1, d1⟩).mono ?_
    rintro e W2 ⟨⟨v, rfl⟩, (⟨xs, hS, hi, hr, hd⟩ | ⟨pre, hSp, hi, hr, hd⟩)⟩
    · have he := run_endLoop (P := P) hr (by rw [hL]; simp)
      rw [show (L .ready none).pending = none from by rw [hL]] at he
      exact ⟨none, _, he, hdone Z xs _ (by omega) hS (hI.putObj _ hi (by omega) hr rfl) ((World.putObj_heap_other (by omega)).trans hd)⟩
    · have he := run_endLoop (P := P) hr (by rw [hL]; simp)
      rw [show (L .done (some .ret)).pending = some .ret from by rw [hL]] at he
      exact ⟨some .ret, _, he, wpIn_ret (hret Z pre _ (by omega) hSp (hIr.putObj _ hi (by omega) hr rfl) ((World.putObj_heap_other (by omega)).trans hd))⟩

end Go.Proofs.Ytfemigdghdbbgaa
