/-
  What the document's plain answers of any text. Condition: the bound named in the theorem.
-/
import Derived.Test.YtakpieiafoappaaDoorKcRefPut
import Derived.WalkSpells
import Derived.WalkLawsBesides
namespace Go.Proofs.YtakpieiafoappaaDoor
open Go.RowKit

theorem ret_ssi {a b s t : List UInt8} {c d : Int} (h : a = b) (g : s = t) (i : c = d) : Ending.returned (.tuple #[.string ⟨a.toArray⟩, .string ⟨s.toArray⟩, .int .i64 c]) = .returned (.tuple #[.string ⟨b.toArray⟩, .string ⟨t.toArray⟩, .int .i64 d]) := by rw [h, g, i]

theorem zf {x : UInt8} (n : UInt8) (h : x ≠ n) : ((x.toNat : Int) == (n.toNat : Int)) = false := beq_f (fun e => h (UInt8.toNat_inj.1 (by omega)))
theorem zt {x n : UInt8} (h : x = n) : ((x.toNat : Int) == (n.toNat : Int)) = true := by rw [h]; simp

end Go.Proofs.YtakpieiafoappaaDoor
