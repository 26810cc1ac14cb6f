/-
  What the document's own lead and among answer. Conditions: the bounds named in each theorem.
  What the document's own Next answers, for every text. No condition.
  What the document's own Next, Count, Valid, Runes and Ints answer. Conditions: the bounds named in each theorem.
-/
import Derived.Test.YtakpieiafoappaaDoorUtfCount
import Derived.LoopN
import Derived.Deep.QuietTactic
import Derived.BigQuiet
namespace Go.Proofs.YtakpieiafoappaaDoor.Utf

theorem ld4 (x : Int) (h : 240 ≤ x) : ldw x = 4 ∧ ldr x = x - 240 := by unfold ldw ldr; constructor <;> (repeat' split) <;> omega

end Go.Proofs.YtakpieiafoappaaDoor.Utf
namespace Go.Proofs.YtakpieiafoappaaDoor
open Go.RowKit

/-- Is one of the numbers from lo to hi a character of 1 bytes? -/
def am1 (lo hi : Int) : Bool := decide (lo ≤ 127 ∧ 0 ≤ hi)

/-- Is one of the numbers from lo to hi a character of 2 bytes? -/
def am2 (lo hi : Int) : Bool := decide (lo ≤ 2047 ∧ 128 ≤ hi)

/-- Is one of the numbers from lo to hi a character of 3 bytes? -/
def am3 (lo hi : Int) : Bool := decide (lo ≤ 65535 ∧ 2048 ≤ hi ∧ (lo < 55296 ∨ 57343 < hi))

/-- Is one of the numbers from lo to hi a character of 4 bytes? -/
def am4 (lo hi : Int) : Bool := decide (lo ≤ 1114111 ∧ 65536 ≤ hi)

theorem am_11 (r : Int) (h : 0 ≤ r) : am1 r r = Utf.bg r 1 1 := by
  rw [Bool.eq_iff_iff]
  simp [am1, Utf.bg, Utf.pw, Utf.wd1]
  omega

theorem am_21 (r : Int) (h : 0 ≤ r) : am2 (r * 64) (r * 64 + 64 - 1) = Utf.bg r 2 1 := by
  rw [Bool.eq_iff_iff]
  simp [am2, Utf.bg, Utf.pw, Utf.wd2]
  omega

theorem am_22 (r : Int) (h : 0 ≤ r) : am2 r r = Utf.bg r 2 2 := by
  rw [Bool.eq_iff_iff]
  simp [am2, Utf.bg, Utf.pw, Utf.wd2]
  omega

theorem am_31 (r : Int) (h : 0 ≤ r) : am3 (r * 4096) (r * 4096 + 4096 - 1) = Utf.bg r 3 1 := by
  rw [Bool.eq_iff_iff]
  simp [am3, Utf.bg, Utf.pw, Utf.wd3]
  omega

theorem am_32 (r : Int) (h : 0 ≤ r) : am3 (r * 64) (r * 64 + 64 - 1) = Utf.bg r 3 2 := by
  rw [Bool.eq_iff_iff]
  simp [am3, Utf.bg, Utf.pw, Utf.wd3]
  omega

theorem am_33 (r : Int) (h : 0 ≤ r) : am3 r r = Utf.bg r 3 3 := by
  rw [Bool.eq_iff_iff]
  simp [am3, Utf.bg, Utf.pw, Utf.wd3]
  omega

theorem am_41 (r : Int) (h : 0 ≤ r) : am4 (r * 262144) (r * 262144 + 262144 - 1) = Utf.bg r 4 1 := by
  rw [Bool.eq_iff_iff]
  simp [am4, Utf.bg, Utf.pw, Utf.wd4]
  omega

theorem am_42 (r : Int) (h : 0 ≤ r) : am4 (r * 4096) (r * 4096 + 4096 - 1) = Utf.bg r 4 2 := by
  rw [Bool.eq_iff_iff]
  simp [am4, Utf.bg, Utf.pw, Utf.wd4]
  omega

theorem am_43 (r : Int) (h : 0 ≤ r) : am4 (r * 64) (r * 64 + 64 - 1) = Utf.bg r 4 3 := by
  rw [Bool.eq_iff_iff]
  simp [am4, Utf.bg, Utf.pw, Utf.wd4]
  omega

theorem am_44 (r : Int) (h : 0 ≤ r) : am4 r r = Utf.bg r 4 4 := by
  rw [Bool.eq_iff_iff]
  simp [am4, Utf.bg, Utf.pw, Utf.wd4]
  omega

end Go.Proofs.YtakpieiafoappaaDoor

namespace Go.Proofs.YtakpieiafoappaaDoor
open Go.RowKit

theorem nx_ne (l : List UInt8) (h : 0 < l.length) : Utf.nx l = Utf.run l (Utf.ldw l[0].toNat) 4 (Utf.ldr l[0].toNat) 1 := by
  cases l with
  | nil => simp at h
  | cons c t => rfl

theorem more_at (l : List UInt8) (n R : Int) (f k x : Nat) (hb : Utf.bg R n k = true) (hk : ¬ (k : Int) = n) (hl : k < l.length) (hx : x = l[k].toNat) (h1 : 128 ≤ x) (h2 : x ≤ 191) :
    Utf.run l n (f + 1) R k = Utf.run l n f (R * 64 + (x : Int) - 128) (k + 1) := by
  subst hx
  rw [Utf.run_more l n R f k hb hk hl (by omega), show R * 64 + (l[k].toNat : Int) - 128 = R * 64 + ((l[k].toNat % 64 : Nat) : Int) from by omega]

end Go.Proofs.YtakpieiafoappaaDoor

namespace Go.Proofs.YtakpieiafoappaaDoor
open Go.RowKit

end Go.Proofs.YtakpieiafoappaaDoor
