/-
  What Digits and Number of package convert answer, for every number and every text of at most 2^48 bytes. Condition: the library's tables and variables hold what their initialisers lay.
-/
import Derived.Test.YtdonmbmahcjfbaaGreatDoorShelf
import Derived.Test.YtdonmbmahcjfbaaGreatDoorCvPlain
import Derived.Test.YtdonmbmahcjfbaaGreatDoorVlWorld
import Derived.Test.YtdonmbmahcjfbaaGreatDoorRealsTo
import Derived.Lib.AppendIntMem
import Derived.Lib.AtoiErrMem
import Derived.Lib.LaidTab
namespace Go.Proofs.YtdonmbmahcjfbaaGreatDoor.Km
open Go.RowKit

/-- The tables and variables that the calls read hold what their initialisers lay. -/
structure Env (w : World) : Prop where
  tab : Tab w
  pow : Lib.TabIs Tryz.prog w "internal/strconv.uint64pow10" .u64 Lib.pow10Tab
  syn : ∃ tp p, w.cell? ⟨3, 0, none⟩ = some (.iface tp p)
  rng : ∃ tp p, w.cell? ⟨4, 0, none⟩ = some (.iface tp p)
  fal : w.cell? ⟨1, 0, none⟩ = some (.string ⟨#[102, 97, 108, 115, 101]⟩)
  tru : w.cell? ⟨1, 1, none⟩ = some (.string ⟨#[116, 114, 117, 101]⟩)

theorem Env.below {w w' : World} (h : Env w) (b : Below w.heap.size w w') : Env w' where
  tab := h.tab.below b
  pow := Lib.tabBelow_of_tabIs h.pow w' b
  syn := h.syn.imp fun _ ⟨p, e⟩ => ⟨p, keep0 e b⟩
  rng := h.rng.imp fun _ ⟨p, e⟩ => ⟨p, keep0 e b⟩
  fal := keep0 h.fal b
  tru := keep0 h.tru b
theorem Env.alloc {w : World} (h : Env w) (o : Obj) : Env (w.alloc o) := h.below (below1 w o)

theorem itoa_at (n : Int) (w : World) (h : Cv.I n) (E : Env w) :
    Calls Tryz.prog 153 #[.int .i64 n] w fun e w' => e = .returned (.string ⟨(Lib.itoa n).toArray⟩) ∧ Below w.heap.size w w' :=
  (Any.strconv_Itoa Tryz.laysM171 n h.1 (by have := h.2; omega) w E.pow).mono fun e w' ⟨he, k, os, hw⟩ => ⟨he, hw ▸ Lib.below_grow _ w (Nat.le_refl _) k os⟩

set_option maxHeartbeats 400000 in
theorem digits_any (n : Int) (w : World) (h : Cv.I n) (E : Env w) :
    Calls Tryz.prog 144 #[.int .i64 n] w fun e w' => e = .returned (.string ⟨(Lib.itoa n).toArray⟩) ∧ Below w.heap.size w w' := by
  have H := Lib.hid h
  clear h
  go_enter Tryz.func144, Tryz.ntmps144
  go_wp2_with fail
  refine (itoa_at n _ H.out E).mono ?_
  rintro e w' ⟨rfl, hb⟩
  have B := Lib.hid hb
  clear hb
  go_wp2
  go_ret
  exact ⟨rfl, B.out⟩
theorem digits_is (n : Int) (s : List UInt8) (w : World) (h : Cv.I n) (E : Env w) (e : Lib.itoa n = s) :
    Calls Tryz.prog 144 #[.int .i64 n] w fun e w' => e = .returned (.string ⟨s.toArray⟩) ∧ Below w.heap.size w w' := e ▸ digits_any n w h E

theorem size_list (s : List UInt8) : (ByteArray.mk s.toArray).size = s.length := by simp [ByteArray.size]
theorem atoi_ok (s : List UInt8) (v : Int) (w : World) (hl : s.length ≤ 281474976710656) (h : Lib.atoiAll s = .ok v) :
    Calls Tryz.prog 143 #[.string ⟨s.toArray⟩] w fun e w' => e = .returned (.tuple #[.int .i64 v, .nilIface]) ∧ Below w.heap.size w w' :=
  (Any.strconv_Atoi_ok Tryz.laysC172 ⟨s.toArray⟩ (by rw [size_list]; omega) v (by simpa using h) w).mono fun e w' ⟨he, hw⟩ => ⟨he, by
    rcases hw with rfl | ⟨t, rfl⟩
    · exact Below.refl _ _
    · exact Lib.bytesWorld_below _ _ _⟩
theorem atoi_bad (s : List UInt8) (w : World) (hl : s.length ≤ 281474976710656) (h : ∀ v, Lib.atoiAll s ≠ .ok v) (E : Env w) :
    Calls Tryz.prog 143 #[.string ⟨s.toArray⟩] w fun e w' => ∃ m N, e = .returned (.tuple #[.int .i64 m, .iface 220 (.pointer (some ⟨N, 0, none⟩))]) ∧ Below w.heap.size w w' := by
  obtain ⟨tp, p, h1⟩ := E.syn
  obtain ⟨tq, q, h2⟩ := E.rng
  cases e : Lib.atoiAll s with
  | ok v => exact absurd e (h v)
  | range => exact (Any.strconv_Atoi_range Tryz.laysC172 ⟨s.toArray⟩ (by rw [size_list]; exact hl) (by simpa using e) _ w h2 (Or.inr ⟨_, _, rfl⟩)).mono fun e w' ⟨N, he, _, _, hb⟩ => ⟨_, N, he, hb⟩
  | _ => exact (Any.strconv_Atoi_syntax Tryz.laysC172 ⟨s.toArray⟩ (by rw [size_list]; exact hl) (by simpa using e) _ w h1 (Or.inr ⟨_, _, rfl⟩)).mono fun e w' ⟨N, he, _, _, hb⟩ => ⟨_, N, he, hb⟩

set_option maxHeartbeats 400000 in
theorem number_some (s : List UInt8) (v : Int) (w : World) (hl : s.length ≤ 281474976710656) (h : Cv.num s = some v) (E : Env w) :
    Calls Tryz.prog 131 #[.string ⟨s.toArray⟩] w fun e w' => e = .returned (.tuple #[.int .i64 v, .int .i64 0]) ∧ Below w.heap.size w w' := by
  obtain ⟨hi, hI⟩ := Cv.num_some h
  have ha : Lib.atoiAll s = .ok v := hi ▸ Cv.atoi_itoa v hI
  have H := Lib.hid (And.intro hl (And.intro hi (And.intro hI ha)))
  clear hl h hi hI ha
  go_enter Tryz.func131, Tryz.ntmps131
  go_wp2_with fail
  refine (atoi_ok s v _ H.out.1 H.out.2.2.2).mono ?_
  rintro e w1 ⟨rfl, hb⟩
  have B := Lib.hid hb
  clear hb
  go_wp2_with fail
  refine (digits_is v s _ H.out.2.2.1 (E.below B.out) H.out.2.1).mono ?_
  rintro e w2 ⟨rfl, hb⟩
  have B2 := Lib.hid hb
  clear hb
  go_wp2
  go_ret2
  exact ⟨rfl, step0 B.out B2.out⟩

set_option maxHeartbeats 400000 in
theorem number_none (s : List UInt8) (w : World) (hl : s.length ≤ 281474976710656) (h : Cv.num s = none) (E : Env w) :
    Calls Tryz.prog 131 #[.string ⟨s.toArray⟩] w fun e w' => e = .returned (.tuple #[.int .i64 0, .int .i64 7]) ∧ Below w.heap.size w w' := by
  by_cases c : ∃ v, Lib.atoiAll s = .ok v
  · obtain ⟨v, ha⟩ := c
    have hI := Cv.atoi_I ha
    have hn : Lib.itoa v ≠ s := fun e => by rw [Cv.num_is hI e] at h; cases h
    have n1 : (Lib.itoa v == s) = false := by rw [beq_eq_false_iff_ne]; exact hn
    have n2 : (Lib.itoa v != s) = true := by simpa using hn
    have H := Lib.hid (And.intro hl (And.intro hI ha))
    clear hl h hI ha
    go_enter Tryz.func131, Tryz.ntmps131
    go_wp2_with fail
    refine (atoi_ok s v _ H.out.1 H.out.2.2).mono ?_
    rintro e w1 ⟨rfl, hb⟩
    have B := Lib.hid hb
    clear hb
    go_wp2_with fail
    refine (digits_any v _ H.out.2.1 (E.below B.out)).mono ?_
    rintro e w2 ⟨rfl, hb⟩
    have B2 := Lib.hid hb
    clear hb
    go_wp2
    go_ret2
    exact ⟨rfl, step0 B.out B2.out⟩
  · have H := Lib.hid (And.intro hl (fun v e => c ⟨v, e⟩ : ∀ v, Lib.atoiAll s ≠ .ok v))
    clear hl h c
    go_enter Tryz.func131, Tryz.ntmps131
    go_wp2_with fail
    refine (atoi_bad s _ H.out.1 H.out.2 E).mono ?_
    rintro e w1 ⟨m, N, rfl, hb⟩
    have B := Lib.hid hb
    clear hb
    go_wp2
    go_ret2
    exact ⟨rfl, B.out⟩

end Go.Proofs.YtdonmbmahcjfbaaGreatDoor.Km
