/-
  The listed tables and variables: what the row's list says of them gives the facts that the walks use; a world that holds them, for the witness; a value as an argument, opened and shut.
-/
import Derived.Test.YtdonmbmahcjfbaaGreatDoorCvNum
import Derived.Test.YtdonmbmahcjfbaaGreatDoorVlLaid
import Derived.ProofKit
import Derived.OpenShut
import Derived.ShutString
import Derived.Deep.DeepHandedRow
import Derived.Lib.LaidTab
import Derived.Lib.SmallJoins
import Derived.Stop.LaidErr
namespace Go.Proofs.YtdonmbmahcjfbaaGreatDoor.Km
open Go.ChangeShapes Go.WideShapes Go.ChangeAt Go.RowKit Go.Joins Go.Deep

/-- An array of texts that reads as a list of texts holds them, place by place. -/
theorem texts_at {H : Type} {enc : TypeId × Value → H} {P : Program} {w : World} {base : Nat} {sp : Nat → Bool} {held : Bool} {fuel : Nat} {t e : TypeId} {n : Nat} {cs : List Value} {zs : List (List UInt8)} {p : List MemPlace}
    (ht : P.underlying t = some (.array n e)) (he : P.underlying e = some .string) (hce : P.cellsOf e = 1) (hct : P.cellsOf t = n)
    (h : DataW.trod enc P w base sp held fuel t cs = some (.agg (zs.map fun z => .lit (.string z)), p)) (i : Nat) (z : List UInt8) (hz : zs[i]? = some z) : cs[i]? = some (.string ⟨z.toArray⟩) := by
  cases fuel with
  | zero => simp [DataW.trod] at h
  | succ fuel =>
    simp only [DataW.trod, ht, hce, hct, Nat.mul_one] at h
    split at h
    · obtain ⟨xs, hm, hx⟩ := Option.map_eq_some_iff.1 h
      have h1 : xs.map (·.1) = zs.map fun z => (DataW.lit (.string z) : DataW H) := by
        have := congrArg Prod.fst hx
        simpa using this
      have h2 : (xs.map (·.1))[i]? = some (DataW.lit (.string z) : DataW H) := by rw [h1]; simp [hz]
      obtain ⟨y, hy, hyz⟩ : ∃ y, xs[i]? = some y ∧ y.1 = (DataW.lit (.string z) : DataW H) := by simpa using h2
      have hn : i < n := by
        have l1 : xs.length = n := by simpa using Lib.mapM_length hm
        have l2 := (List.getElem?_eq_some_iff.1 hy).1
        omega
      obtain ⟨b, hb, hf⟩ := Lib.mapM_at hm i i (by simp [hn])
      obtain rfl : b = y := Option.some.inj (hb.symm.trans hy)
      obtain ⟨s, hc, rfl, _⟩ := DataW.trod_string he hf
      have hc0 : cs[i]? = some (.string s) := by
        have := congrArg (·[0]?) hc
        simpa [List.getElem?_take, List.getElem?_drop] using this
      have hs : s.data.toList = z := by simpa using hyz
      rw [hc0, ← hs]
    · cases h

/-- The library's table of places as integers. -/
def tabInts : List Int := [0, 1, 56, 2, 57, 49, 28, 3, 61, 58, 42, 50, 38, 29, 17, 4, 62, 47, 59, 36, 45, 43, 51, 22, 53, 39, 33, 30, 24, 18, 12, 5, 63, 55, 48, 27, 60, 41, 37, 16, 46, 35, 44, 21, 52, 32, 23, 11, 54, 26, 40, 15, 34, 20, 31, 10, 25, 14, 19, 9, 13, 8, 7, 6]
theorem tab_same : ∀ j, j < 64 → tabInts.getD j 0 = ((Lib.deBruijn64tab.getD j 0 : Nat) : Int) := by decide +kernel
theorem tab_length : tabInts.length = 64 := by decide
/-- The powers of 10 as integers. -/
def powInts : List Int := [1, 10, 100, 1000, 10000, 100000, 1000000, 10000000, 100000000, 1000000000, 10000000000, 100000000000, 1000000000000, 10000000000000, 100000000000000, 1000000000000000, 10000000000000000, 100000000000000000, 1000000000000000000, 10000000000000000000]
theorem pow_same : powInts = Lib.pow10Tab := by decide +kernel

theorem gTab : Tryz.prog.globalNamed "math/bits.deBruijn64tab" = some 2 := by kernel_rfl
theorem gTabType : (Tryz.prog.globals[2]?).map (·.type) = some 216 := by kernel_rfl
theorem cellsTab : Tryz.prog.cellsOf 216 = 64 := by kernel_rfl
theorem cellsByte : Tryz.prog.cellsOf 5 = 1 := by kernel_rfl
theorem gPow : Tryz.prog.globalNamed "internal/strconv.uint64pow10" = some 5 := by kernel_rfl
theorem gPowType : (Tryz.prog.globals[5]?).map (·.type) = some 240 := by kernel_rfl
theorem cellsPow : Tryz.prog.cellsOf 240 = 20 := by kernel_rfl
theorem cellsU64 : Tryz.prog.cellsOf 26 = 1 := by kernel_rfl
theorem gES : Tryz.prog.globalNamed "strconv.ErrSyntax" = some 3 := by kernel_rfl
theorem gESType : (Tryz.prog.globals[3]?).map (·.type) = some 120 := by kernel_rfl
theorem gER : Tryz.prog.globalNamed "strconv.ErrRange" = some 4 := by kernel_rfl
theorem gERType : (Tryz.prog.globals[4]?).map (·.type) = some 120 := by kernel_rfl
theorem cellsES : Tryz.prog.cellsOf 234 = 1 := by kernel_rfl
theorem cellsStr : Tryz.prog.cellsOf 9 = 1 := by kernel_rfl
theorem star : "*" ++ "errors.errorString" = "*errors.errorString" := by decide
theorem rowES (u : TypeId) (h : Tryz.prog.typeName? 3 u = some "*errors.errorString") : u = 232 :=
  typeName_ptr_named (nm := "errors.errorString") (by rw [star]; kernel_rfl) (by kernel_rfl) (by decide) u (by rw [star]; exact h)
theorem gTr : Tryz.prog.globalNamed "transom/convert.truths" = some 1 := by kernel_rfl
theorem gTrType : (Tryz.prog.globals[1]?).map (·.type) = some 178 := by kernel_rfl
theorem cellsTr : Tryz.prog.cellsOf 178 = 2 := by kernel_rfl

theorem env_laid {W : World} (h : laidMetH Tryz.prog [("math/bits.deBruijn32tab", Rows.laid_math_bits_deBruijn32tab), ("math/bits.deBruijn64tab", Rows.laid_math_bits_deBruijn64tab), ("internal/strconv.uint64pow10", Rows.laid_internal_strconv_uint64pow10), ("strconv.ErrRange", Rows.laid_strconv_ErrRange), ("strconv.ErrSyntax", Rows.laid_strconv_ErrSyntax), ("transom/convert.truths", Rows.laid_transom_convert_truths)] W) : Env W := by
  have h0 : laidMet Tryz.prog [("math/bits.deBruijn32tab", Rows.laid_math_bits_deBruijn32tab), ("math/bits.deBruijn64tab", Rows.laid_math_bits_deBruijn64tab), ("internal/strconv.uint64pow10", Rows.laid_internal_strconv_uint64pow10), ("strconv.ErrRange", Rows.laid_strconv_ErrRange), ("strconv.ErrSyntax", Rows.laid_strconv_ErrSyntax), ("transom/convert.truths", Rows.laid_transom_convert_truths)] W := h
  have h1 := h0.tail
  have h2 := h1.tail
  have h3 := h2.tail
  have h4 := h3.tail
  have h5 := h4.tail
  refine ⟨fun j hj => ?_, ?_, ?_, ?_, ?_, ?_⟩
  · have t : Lib.TabIs Tryz.prog W "math/bits.deBruijn64tab" .u8 tabInts := Lib.tabIs_of_head gTab gTabType Tryz.underlying216 Tryz.underlying5 cellsByte cellsTab h1
    rw [t.cell gTab j (by rw [tab_length]; exact hj), tab_same j hj]
  · have t : Lib.TabIs Tryz.prog W "internal/strconv.uint64pow10" .u64 powInts := Lib.tabIs_of_head gPow gPowType Tryz.underlying240 Tryz.underlying26 cellsU64 cellsPow h2
    rw [pow_same] at t
    exact t
  · obtain ⟨a0, s0, hv0, -, -, -⟩ := laid_sentinel h4 gES gESType Tryz.underlying120 rowES Tryz.underlying232 Tryz.underlying234 rfl rfl Tryz.underlying9 cellsES cellsStr
    exact ⟨_, _, by have h0 := World.var?_cell gES hv0 0; simpa using h0⟩
  · obtain ⟨a0, s0, hv0, -, -, -⟩ := laid_sentinel h3 gER gERType Tryz.underlying120 rowES Tryz.underlying232 Tryz.underlying234 rfl rfl Tryz.underlying9 cellsES cellsStr
    exact ⟨_, _, by have h0 := World.var?_cell gER hv0 0; simpa using h0⟩
  · obtain ⟨ps, ⟨g, t, cs, fuel, p, q, hg, ht, hvar, hd, _, _⟩, _⟩ := h5
    obtain rfl := Option.some.inj (gTr.symm.trans hg)
    obtain rfl := Option.some.inj (gTrType.symm.trans ht)
    have c := texts_at (zs := [[102, 97, 108, 115, 101], [116, 114, 117, 101]]) Tryz.underlying178 Tryz.underlying9 cellsStr cellsTr hd 0 _ rfl
    rw [World.var?_cell gTr hvar 0, ← Array.getElem?_toList]
    exact c
  · obtain ⟨ps, ⟨g, t, cs, fuel, p, q, hg, ht, hvar, hd, _, _⟩, _⟩ := h5
    obtain rfl := Option.some.inj (gTr.symm.trans hg)
    obtain rfl := Option.some.inj (gTrType.symm.trans ht)
    have c := texts_at (zs := [[102, 97, 108, 115, 101], [116, 114, 117, 101]]) Tryz.underlying178 Tryz.underlying9 cellsStr cellsTr hd 1 _ rfl
    rw [World.var?_cell gTr hvar 1, ← Array.getElem?_toList]
    exact c

/-! ### One start that fits: the tables and the two sentinels as their initialisers lay them -/
def tab32Ints : List Int := [0, 1, 28, 2, 29, 14, 24, 3, 30, 22, 20, 15, 25, 17, 4, 8, 31, 27, 13, 23, 21, 19, 16, 7, 26, 12, 18, 6, 11, 5, 10, 9]
abbrev synS : ByteArray := { data := #[105, 110, 118, 97, 108, 105, 100, 32, 115, 121, 110, 116, 97, 120] }
abbrev rngS : ByteArray := { data := #[118, 97, 108, 117, 101, 32, 111, 117, 116, 32, 111, 102, 32, 114, 97, 110, 103, 101] }
/-- So many blocks has the settled world. -/
noncomputable def low : Nat := (World.holding Tryz.prog default ⟨#[], #[], []⟩).heap.size
/-- A block's cells, others in their place. -/
def lay1 (cs : Array Value) : Obj → Obj
  | .cells _ t frozen => .cells cs t frozen
  | o => o
/-- A world, one block's cells others. -/
def World.lay (w : World) (g : Nat) (cs : Array Value) : World := { w with heap := w.heap.modify g (lay1 cs) }
/-- The settled world with two blocks more, each an errors.errorString. -/
noncomputable def laidWorld0 (os : Os) : World := World.holding Tryz.prog os ⟨#[.cells #[.string synS] 234, .cells #[.string rngS] 234], #[], []⟩
noncomputable def laidWorld1 (os : Os) : World := World.lay (laidWorld0 os) 1 #[.string ⟨#[102, 97, 108, 115, 101]⟩, .string ⟨#[116, 114, 117, 101]⟩]
noncomputable def laidWorld2 (os : Os) : World := World.lay (laidWorld1 os) 3 #[.iface 232 (.pointer (some ⟨low, 0, none⟩))]
noncomputable def laidWorld3 (os : Os) : World := World.lay (laidWorld2 os) 4 #[.iface 232 (.pointer (some ⟨low + 1, 0, none⟩))]
noncomputable def laidWorld4 (os : Os) : World := World.lay (laidWorld3 os) 5 (powInts.map (Value.int .u64)).toArray
noncomputable def laidWorld5 (os : Os) : World := World.lay (laidWorld4 os) 2 (tabInts.map (Value.int .u8)).toArray
/-- The variables hold what is listed. -/
noncomputable def laidWorld (os : Os) : World := World.lay (laidWorld5 os) 6 (tab32Ints.map (Value.int .u8)).toArray

end Go.Proofs.YtdonmbmahcjfbaaGreatDoor.Km
