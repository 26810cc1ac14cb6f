/-
  Put and Delete, whole, of the program and of the document. Conditions: a sheet in memory, of at most 1000 columns and 100 lines by rising keys of at most 30 values; a row of at most 30 values that keep a value's bounds; for the program's: the library's variable errors.errorType holds the handle of the type error.
-/
import Derived.Test.YtfgakoldedpfoaaDoorShRPut
import Derived.Test.YtfgakoldedpfoaaDoorShPutT
import Derived.Test.YtfgakoldedpfoaaDoorShPutF
import Derived.Test.YtfgakoldedpfoaaDoorShDel
namespace Go.Proofs.YtfgakoldedpfoaaDoor
open Go.RowKit
set_option linter.unusedVariables false
set_option linter.unusedSimpArgs false

/-- What Put tells: the lines, whether the key is new, the error's number. -/
def ppt (t : T) (ls : List L) (xs : List V) : List L × Bool × Int := if t.fit xs = 0 then (putl ls ⟨t.key xs, xs⟩, !isk ls (t.key xs), 0) else (ls, false, t.fit xs)

theorem put_w (nm : Nm.S) (ks : Int) (cs : List C) (zs : List LV) (ao lo : Option Addr) (cap lc : Nat) (xs : List V) (ro : Option Addr) (rc : Nat) (w : World) (hg : Env w) (hT : At3 w ⟨nm, ks, cs⟩ ao cap) (hL : LS w zs lo lc) (hm : Smal cs zs) (hx : Sl w ro xs) (hx30 : xs.length ≤ 30) (hok : ∀ x ∈ xs, x.ok) (hrc : xs.length ≤ rc) (hro : ro = none → rc = 0) (hr : Ris (lls zs)) (R : List L) (b : Bool) (E : Int) (h : ppt ⟨nm, ks, cs⟩ (lls zs) xs = (R, b, E)) :
    Calls Tryd.prog 17 #[.agg #[.string ⟨nm.toArray⟩, .int .i64 ks, .slice ao cs.length cap, .slice lo zs.length lc], .slice ro xs.length rc] w fun e w' => ∃ v, e = .returned (.tuple #[v, .bool b, .int .i64 E]) ∧ DV w' nm ks cs R v ∧ Below w.heap.size w w' := by
  unfold ppt at h
  by_cases h0 : T.fit ⟨nm, ks, cs⟩ xs = 0
  · rw [if_pos h0] at h
    simp only [Prod.mk.injEq] at h
    obtain ⟨rfl, rfl, rfl⟩ := h
    cases hB : isk (lls zs) (T.key ⟨nm, ks, cs⟩ xs) with
    | true => 
      refine (put_true nm ks cs zs ao lo cap lc xs ro rc _ w hg hT hL hm hx hx30 hok hrc hro hr h0 rfl hB).mono ?_
      rintro e w' ⟨v, rfl, hSV, hb⟩
      exact ⟨v, rfl, hSV.dv hT.2.2, hb⟩
    | false => 
      refine (put_false nm ks cs zs ao lo cap lc xs ro rc _ w hg hT hL hm hx hx30 hok hrc hro hr h0 rfl hB).mono ?_
      rintro e w' ⟨v, rfl, hSV, hb⟩
      exact ⟨v, rfl, hSV.dv hT.2.2, hb⟩
  · rw [if_neg h0] at h
    simp only [Prod.mk.injEq] at h
    obtain ⟨rfl, rfl, rfl⟩ := h
    refine (put_bad nm ks cs zs ao lo cap lc xs ro rc w hg hT hL hm hx hx30 hok hrc _ rfl h0).mono ?_
    rintro e w' ⟨v, rfl, hSV, hb⟩
    exact ⟨v, rfl, hSV.dv hT.2.2, hb⟩
theorem del_w (nm : Nm.S) (ks : Int) (cs : List C) (zs : List LV) (ao lo : Option Addr) (cap lc : Nat) (key : Nm.S) (w : World) (hT : At3 w ⟨nm, ks, cs⟩ ao cap) (hL : LS w zs lo lc) (hm : Smal cs zs) (hr : Ris (lls zs)) (b : Bool) (hB : isk (lls zs) key = b) :
    Calls Tryd.prog 22 #[.agg #[.string ⟨nm.toArray⟩, .int .i64 ks, .slice ao cs.length cap, .slice lo zs.length lc], .string ⟨key.toArray⟩] w fun e w' => ∃ v, e = .returned (.tuple #[v, .bool b]) ∧ DV w' nm ks cs (dell (lls zs) key) v ∧ Below w.heap.size w w' := by
  cases b with
  | true => 
    refine (del_true nm ks cs zs ao lo cap lc key w hT.1 hL hm hr hB).mono ?_
    rintro e w' ⟨v, rfl, hSV, hb⟩
    exact ⟨v, rfl, hSV.dv hT.2.2, hb⟩
  | false =>
    have e : dell (lls zs) key = lls zs := by unfold dell; rw [hB]; simp
    rw [e]
    refine (del_false nm ks cs zs ao lo cap lc key w hT.1 hL hm hr hB).mono ?_
    rintro e w' ⟨v, rfl, hSV, hb⟩
    exact ⟨v, rfl, hSV.dv hT.2.2, hb⟩

theorem ppt_len (t : T) (ls : List L) (xs : List V) {R : List L} {b : Bool} {E : Int} (h : ppt t ls xs = (R, b, E)) (hl : ls.length ≤ 100) (h30 : ∀ l ∈ ls, l.r.length ≤ 30) (hx : xs.length ≤ 30) : R.length ≤ 1000 ∧ ∀ l ∈ R, l.r.length ≤ 1000000 := by
  unfold ppt at h
  split at h
  · simp only [Prod.mk.injEq] at h
    obtain ⟨rfl, _, _⟩ := h
    refine ⟨?_, fun l hl' => ?_⟩
    · unfold putl
      rw [List.length_append, List.length_take, List.length_cons, List.length_drop]
      omega
    · rcases put_mem hl' with rfl | hl'
      · show xs.length ≤ 1000000; omega
      · have := h30 l hl'; omega
  · simp only [Prod.mk.injEq] at h
    obtain ⟨rfl, _, _⟩ := h
    exact ⟨by omega, fun l hl' => by have := h30 l hl'; omega⟩
theorem dell_len {ls : List L} {key : Nm.S} (hl : ls.length ≤ 100) (h30 : ∀ l ∈ ls, l.r.length ≤ 30) : (dell ls key).length ≤ 1000 ∧ ∀ l ∈ dell ls key, l.r.length ≤ 1000000 := by
  refine ⟨?_, fun l h => by have := h30 l (dell_mem h); omega⟩
  unfold dell
  split
  · rw [List.length_append, List.length_take, List.length_drop]; omega
  · omega

end Go.Proofs.YtfgakoldedpfoaaDoor
