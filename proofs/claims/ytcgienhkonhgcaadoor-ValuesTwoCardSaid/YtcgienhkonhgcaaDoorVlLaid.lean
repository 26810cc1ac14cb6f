/-
  The table of names: what the row's list says of it gives the fact that the walks use; a world that holds it, for the witness; a value as an argument, opened and shut.
-/
import Derived.Test.YtcgienhkonhgcaaDoorVlKinds
import Derived.ProofKit
import Derived.OpenShut
import Derived.ShutString
import Derived.Deep.DeepHandedRow
import Derived.Lib.LaidTab
import Derived.Lib.SmallJoins
namespace Go.Proofs.YtcgienhkonhgcaaDoor
open Go.ChangeShapes Go.WideShapes Go.ChangeAt Go.RowKit Go.Joins Go.Deep

/-- An array of texts that reads as a list of texts holds them, place by place. -/
theorem texts_at {H : Type} {enc : TypeId × Value → H} {P : Program} {w : World} {base : Nat} {sp : Nat → Bool} {held : Bool} {fuel : Nat} {t e : TypeId} {n : Nat} {cs : List Value} {zs : List (List UInt8)} {p : List MemPlace}
    (ht : P.underlying t = some (.array n e)) (he : P.underlying e = some .string) (hce : P.cellsOf e = 1) (hct : P.cellsOf t = n)
    (h : DataW.trod enc P w base sp held fuel t cs = some (.agg (zs.map fun z => .lit (.string z)), p)) (i : Nat) (z : List UInt8) (hz : zs[i]? = some z) : cs[i]? = some (.string ⟨z.toArray⟩) := by
  cases fuel with
  | zero => simp [DataW.trod] at h
  | succ fuel =>
    simp only [DataW.trod, ht, hce, hct, Nat.mul_one] at h
    split at h
    · obtain ⟨xs, hm, hx⟩ := Option.map_eq_some_iff.1 h
      have h1 : xs.map (·.1) = zs.map fun z => (DataW.lit (.string z) : DataW H) := by
        have := congrArg Prod.fst hx
        simpa using this
      have h2 : (xs.map (·.1))[i]? = some (DataW.lit (.string z) : DataW H) := by rw [h1]; simp [hz]
      obtain ⟨y, hy, hyz⟩ : ∃ y, xs[i]? = some y ∧ y.1 = (DataW.lit (.string z) : DataW H) := by simpa using h2
      have hn : i < n := by
        have l1 : xs.length = n := by simpa using Lib.mapM_length hm
        have l2 := (List.getElem?_eq_some_iff.1 hy).1
        omega
      obtain ⟨b, hb, hf⟩ := Lib.mapM_at hm i i (by simp [hn])
      obtain rfl : b = y := Option.some.inj (hb.symm.trans hy)
      obtain ⟨s, hc, rfl, _⟩ := DataW.trod_string he hf
      have hc0 : cs[i]? = some (.string s) := by
        have := congrArg (·[0]?) hc
        simpa [List.getElem?_take, List.getElem?_drop] using this
      have hs : s.data.toList = z := by simpa using hyz
      rw [hc0, ← hs]
    · cases h

theorem gNames : Tryd.prog.globalNamed "transom/values.names" = some 0 := by kernel_rfl
theorem gNamesType : (Tryd.prog.globals[0]?).map (·.type) = some 49 := by kernel_rfl
theorem cellsNames : Tryd.prog.cellsOf 49 = 6 := by kernel_rfl
theorem cellsName : Tryd.prog.cellsOf 9 = 1 := by kernel_rfl

theorem tab_laid {W : World} (h : laidMetH Tryd.prog [("transom/values.names", Rows.laid_transom_values_names)] W) : Tab W := by
  have h' : laidMet Tryd.prog [("transom/values.names", Rows.laid_transom_values_names)] W := h
  obtain ⟨ps, ⟨g, t, cs, fuel, p, q, hg, ht, hvar, hd, _, _⟩, _⟩ := h'
  obtain rfl := Option.some.inj (gNames.symm.trans hg)
  obtain rfl := Option.some.inj (gNamesType.symm.trans ht)
  have c := fun i z hz => texts_at (zs := [[110, 117, 108, 108], [98, 111, 111, 108], [105, 110, 116], [114, 101, 97, 108], [98, 121, 116, 101, 115], [116, 101, 120, 116]]) Tryd.underlying49 Tryd.underlying9 cellsName cellsNames hd i z hz
  have v := fun i => World.var?_cell gNames hvar i
  unfold Tab
  simp only [v]
  simp only [← Array.getElem?_toList]
  exact ⟨c 0 _ rfl, c 1 _ rfl, c 2 _ rfl, c 3 _ rfl, c 4 _ rfl, c 5 _ rfl⟩

/-- A world for the witness: the settled one, the names in their place. -/
noncomputable def laidWorld (os : Os) : World :=
  { World.holding Tryd.prog os ⟨#[], #[], []⟩ with heap := (World.holding Tryd.prog os ⟨#[], #[], []⟩).heap.modify 0 fun
      | .cells _ t frozen => .cells #[.string ⟨#[110, 117, 108, 108]⟩, .string ⟨#[98, 111, 111, 108]⟩, .string ⟨#[105, 110, 116]⟩, .string ⟨#[114, 101, 97, 108]⟩, .string ⟨#[98, 121, 116, 101, 115]⟩, .string ⟨#[116, 101, 120, 116]⟩] t frozen
      | o => o }

theorem u_of_wf {x : Int} (h : (Lit.int .u64 x).wf = true) : Rl.U x := by
  simp [Lit.wf, IntKind.min, IntKind.max, IntKind.signed, IntKind.bits] at h
  unfold Rl.U; omega

/-- A value as data. -/
def vdat {H : Type} (k n b : Int) (s : List UInt8) : DataW H := .agg [.lit (.int .i64 k), .lit (.int .i64 n), .lit (.int .u64 b), .lit (.string s)]

section
variable {H : Type} {enc : TypeId × Value → H} {W : World}

theorem open_val {r : Reach} {b0 base : Nat} {spare : Nat → Bool} {held : Bool} {v : Value} {d : DataW H} {p : List MemPlace}
    (hv : Value.okWide Tryd.prog W r b0 24 v) (h : DataW.Trod enc Tryd.prog W base spare held 24 v d p) :
    ∃ (k n b : Int) (s : List UInt8), v = .agg #[.int .i64 k, .int .i64 n, .int .u64 b, .string ⟨s.toArray⟩] ∧ d = vdat k n b s ∧ p = [] ∧ (Lit.int .i64 k).wf = true ∧ (Lit.int .i64 n).wf = true ∧ (Lit.int .u64 b).wf = true ∧ s.length ≤ maxLen := by
  obtain ⟨v0, v1, v2, v3, y0, y1, y2, y3, m, rfl, rfl, rfl, h0, h1, h2, h3⟩ := open_agg4 Tryd.underlying24 (by kernel_rfl) (by kernel_rfl) hv h
  obtain ⟨k, e0, rfl, w0⟩ := DataW.trod_int Tryd.underlying3 h0
  obtain ⟨n, e1, rfl, w1⟩ := DataW.trod_int Tryd.underlying3 h1
  obtain ⟨b, e2, rfl, w2⟩ := DataW.trod_int Tryd.underlying22 h2
  obtain ⟨s, e3, rfl, w3⟩ := DataW.trod_string Tryd.underlying9 h3
  obtain rfl : v0 = .int .i64 k := by simpa using e0
  obtain rfl : v1 = .int .i64 n := by simpa using e1
  obtain rfl : v2 = .int .u64 b := by simpa using e2
  obtain rfl : v3 = .string s := by simpa using e3
  refine ⟨k, n, b, s.data.toList, ?_, rfl, rfl, w0, w1, w2, ?_⟩
  · cases s; simp
  · rw [Array.length_toList]; exact w3

theorem shut_val {base : Nat} {spare : Nat → Bool} {held : Bool} {k n b : Int} {s : List UInt8} (w0 : (Lit.int .i64 k).wf = true) (w1 : (Lit.int .i64 n).wf = true) (w2 : (Lit.int .u64 b).wf = true) (w3 : s.length ≤ maxLen) :
    DataW.Trod enc Tryd.prog W base spare held 24 (.agg #[.int .i64 k, .int .i64 n, .int .u64 b, .string ⟨s.toArray⟩]) (vdat k n b s) [] :=
  shut_agg4 (y0 := (.lit (.int .i64 k), [])) (y1 := (.lit (.int .i64 n), [])) (y2 := (.lit (.int .u64 b), [])) (y3 := (.lit (.string s), [])) Tryd.underlying24 (by kernel_rfl) (by kernel_rfl)
    (field_of_Trod (shut_int Tryd.underlying3 w0) rfl) (field_of_Trod (shut_int Tryd.underlying3 w1) rfl) (field_of_Trod (shut_int Tryd.underlying22 w2) rfl)
    (by have := shut_string_cell (enc := enc) (w := W) (base := base) (spare := spare) (held := held) Tryd.underlying9 (s := ⟨s.toArray⟩) (by simpa [ByteArray.size] using w3); simpa using this)
end

end Go.Proofs.YtcgienhkonhgcaaDoor
