/-
  The walk of law SchemaChecks. Condition: the library's variable errors.errorType holds the handle of the type error.
-/
import Derived.Test.YtakpieiafoappaaDoorScAwake
namespace Go.Proofs.YtakpieiafoappaaDoor
open Go.RowKit

theorem three {W v : World} {B : Nat} {u0 u1 u2 : Value} (h : Blk W B #[u0, u1, u2] 24) (hb : Below W.heap.size W v) :
    Below W.heap.size W v ∧ v.cell? ⟨B, 0, none⟩ = some u0 ∧ v.cell? ⟨B, 1, none⟩ = some u1 ∧ v.cell? ⟨B, 2, none⟩ = some u2 := ⟨hb, (h.below hb).cell 0, (h.below hb).cell 1, (h.below hb).cell 2⟩
theorem ten {W v : World} {B : Nat} {u0 u1 u2 : Value} {p : Addr} {c : C} (h : Blk W B #[u0, u1, u2] 24) (hc : AtC W p c) (hb : Below W.heap.size W v) :
    Below W.heap.size W v ∧ v.cell? ⟨B, 2, none⟩ = some u2 ∧ v.cell? p = some (.string ⟨c.name.toArray⟩) ∧ v.cell? ⟨p.block, p.off + 1, none⟩ = some (.int .i64 c.kind) ∧ v.cell? ⟨p.block, p.off + 2, none⟩ = some (.bool c.null) ∧ v.cell? ⟨p.block, p.off + 3, none⟩ = some (.int .i64 c.d.k) ∧ v.cell? ⟨p.block, p.off + 4, none⟩ = some (.int .i64 c.d.n) ∧ v.cell? ⟨p.block, p.off + 5, none⟩ = some (.int .u64 c.d.b) ∧ v.cell? ⟨p.block, p.off + 6, none⟩ = some (.string ⟨c.d.s.toArray⟩) :=
  ⟨hb, (h.below hb).cell 2, keep0 hc.1 hb, keep0 hc.2.1 hb, keep0 hc.2.2.1 hb, keep0 hc.2.2.2.1 hb, keep0 hc.2.2.2.2.1 hb, keep0 hc.2.2.2.2.2.1 hb, keep0 hc.2.2.2.2.2.2 hb⟩

end Go.Proofs.YtakpieiafoappaaDoor
