/-
  A value as an argument, opened and shut.
-/
import Derived.Test.YtakpieiafoappaaDoorVlWorld
import Derived.ProofKit
import Derived.OpenShut
import Derived.ShutString
import Derived.Deep.DeepHandedRow
import Derived.Lib.LaidTab
import Derived.Lib.SmallJoins
namespace Go.Proofs.YtakpieiafoappaaDoor
open Go.ChangeShapes Go.WideShapes Go.ChangeAt Go.RowKit Go.Joins Go.Deep

theorem u_of_wf {x : Int} (h : (Lit.int .u64 x).wf = true) : Rl.U x := by
  simp [Lit.wf, IntKind.min, IntKind.max, IntKind.signed, IntKind.bits] at h
  unfold Rl.U; omega

/-- A value as data. -/
def vdat {H : Type} (k n b : Int) (s : List UInt8) : DataW H := .agg [.lit (.int .i64 k), .lit (.int .i64 n), .lit (.int .u64 b), .lit (.string s)]

section
variable {H : Type} {enc : TypeId × Value → H} {W : World}

set_option maxRecDepth 100000 in
theorem open_val {r : Reach} {b0 base : Nat} {spare : Nat → Bool} {held : Bool} {v : Value} {d : DataW H} {p : List MemPlace}
    (hv : Value.okWide Tryd.prog W r b0 37 v) (h : DataW.Trod enc Tryd.prog W base spare held 37 v d p) :
    ∃ (k n b : Int) (s : List UInt8), v = .agg #[.int .i64 k, .int .i64 n, .int .u64 b, .string ⟨s.toArray⟩] ∧ d = vdat k n b s ∧ p = [] ∧ (Lit.int .i64 k).wf = true ∧ (Lit.int .i64 n).wf = true ∧ (Lit.int .u64 b).wf = true ∧ s.length ≤ maxLen := by
  obtain ⟨v0, v1, v2, v3, y0, y1, y2, y3, m, rfl, rfl, rfl, h0, h1, h2, h3⟩ := open_agg4 Tryd.underlying37 (by kernel_rfl) (by kernel_rfl) hv h
  obtain ⟨k, e0, rfl, w0⟩ := DataW.trod_int Tryd.underlying3 h0
  obtain ⟨n, e1, rfl, w1⟩ := DataW.trod_int Tryd.underlying3 h1
  obtain ⟨b, e2, rfl, w2⟩ := DataW.trod_int Tryd.underlying35 h2
  obtain ⟨s, e3, rfl, w3⟩ := DataW.trod_string Tryd.underlying9 h3
  obtain rfl : v0 = .int .i64 k := by simpa using e0
  obtain rfl : v1 = .int .i64 n := by simpa using e1
  obtain rfl : v2 = .int .u64 b := by simpa using e2
  obtain rfl : v3 = .string s := by simpa using e3
  refine ⟨k, n, b, s.data.toList, ?_, rfl, rfl, w0, w1, w2, ?_⟩
  · cases s; simp
  · rw [Array.length_toList]; exact w3

set_option maxRecDepth 100000 in
theorem shut_val {base : Nat} {spare : Nat → Bool} {held : Bool} {k n b : Int} {s : List UInt8} (w0 : (Lit.int .i64 k).wf = true) (w1 : (Lit.int .i64 n).wf = true) (w2 : (Lit.int .u64 b).wf = true) (w3 : s.length ≤ maxLen) :
    DataW.Trod enc Tryd.prog W base spare held 37 (.agg #[.int .i64 k, .int .i64 n, .int .u64 b, .string ⟨s.toArray⟩]) (vdat k n b s) [] :=
  shut_agg4 (y0 := (.lit (.int .i64 k), [])) (y1 := (.lit (.int .i64 n), [])) (y2 := (.lit (.int .u64 b), [])) (y3 := (.lit (.string s), [])) Tryd.underlying37 (by kernel_rfl) (by kernel_rfl)
    (field_of_Trod (shut_int Tryd.underlying3 w0) rfl) (field_of_Trod (shut_int Tryd.underlying3 w1) rfl) (field_of_Trod (shut_int Tryd.underlying35 w2) rfl)
    (by have := shut_string_cell (enc := enc) (w := W) (base := base) (spare := spare) (held := held) Tryd.underlying9 (s := ⟨s.toArray⟩) (by simpa [ByteArray.size] using w3); simpa using this)
end

end Go.Proofs.YtakpieiafoappaaDoor
