/-
  What Cmp and Equal answer, the program's and the document's, for any two reals; they write nothing that was there.
-/
import Derived.Test.YtfemigdghdbbgaaRealsKey
import Derived.Test.YtfemigdghdbbgaaCompare
import Derived.Test.YtfemigdghdbbgaaRealsEight
import Derived.BigQuiet
namespace Go.Proofs.Ytfemigdghdbbgaa
open Go.RowKit

theorem quiet_more {P : Program} {f : FuncId} {args : Array Value} {w : World} {n k : Nat} {v : Value}
    (h : Calls P f args (w.drewN (n + k)) fun e w' => e = .returned v ∧ w' = w.drewN (n + k)) : Calls P f args (w.drewN (n + k)) fun e w'' => e = .returned v ∧ ∃ m, w'' = w.drewN (n + m) :=
  h.mono fun _ _ ⟨he, hm⟩ => ⟨he, k, hm⟩

theorem below_drew {B : Nat} {a w : World} (n : Nat) (h : Below B a w) : Below B a (w.drewN n) := ⟨h.os, h.tape, h.output, h.size, h.block⟩

theorem below4 {w w1 w2 : World} (h : Below w.heap.size w w1) (g : Below w1.heap.size w1 w2) (o p : Obj) (n : Nat) : Below w.heap.size w (((w2.alloc o).alloc p).drewN n) :=
  below_drew n ((h.trans (g.mono h.size)).trans ((below2 w2 o p).mono (Nat.le_trans h.size g.size)))

theorem cp_less {x y : Int} (h : Rl.ky x < Rl.ky y) : -1 = Rl.cp x y := by unfold Rl.cp; rw [if_pos h]
theorem cp_more {x y : Int} (h : Rl.ky y < Rl.ky x) : 1 = Rl.cp x y := by unfold Rl.cp; rw [if_neg (by omega), if_pos h]
theorem cp_same {x y : Int} (h : Rl.ky x = Rl.ky y) : 0 = Rl.cp x y := by unfold Rl.cp; rw [if_neg (by omega), if_neg (by omega)]

set_option maxHeartbeats 4000000 in
theorem cmp_any (x y : Int) (w : World) (hx : Rl.U x) (hy : Rl.U y) :
    Calls Try.prog 41 #[.int .u64 x, .int .u64 y] w fun e w' => e = .returned (.int .i64 (Rl.cp x y)) ∧ Below w.heap.size w w' := by
  go_enter Try.func41, Try.ntmps41
  go_wp2_with fail
  refine (key_any x _ hx).mono ?_
  rintro r w' ⟨rfl, rfl⟩
  go_wp2_with fail
  refine (eight_any _ _ (Rl.ky_U x hx)).mono ?_
  rintro r w1 ⟨a, b, c, d, e, f, g, h, rfl, D1, B1⟩
  have D1 := Lib.hid D1
  have B1 := Lib.hid B1
  go_wp2_with fail
  refine (key_any y _ hy).mono ?_
  rintro r w' ⟨rfl, rfl⟩
  go_wp2_with fail
  refine (eight_any _ _ (Rl.ky_U y hy)).mono ?_
  rintro r w2 ⟨a', b', c', d', e', f', g', h', rfl, D2, B2⟩
  have D2 := Lib.hid D2
  have B2 := Lib.hid B2
  unfold ag
  go_wp2
  refine wp_loop_rounds 9 ?_
  rw [rounds_succ]
  by_cases h0 : a = a'
  rotate_left
  · have t0 := beq_f h0
    go_wp2_with fail
    go_quiet (fail)
    go_wp2_with fail
    by_cases k : a < a'
    · clear h0 t0
      go_quiet (first | (go_at_call 58; refine quiet_more (compare_less _ _ _ k)))
      go_wp2
      go_ret
      refine ⟨ret_int (cp_less ?_), by repeat (first | exact below4 B1.out B2.out _ _ _ | refine below_drew _ ?_)⟩
      have p := D1.out
      have q := D2.out
      unfold Dg at p q
      omega
    · replace k : a' < a := by omega
      clear h0 t0
      go_quiet (first | (go_at_call 58; refine quiet_more (compare_more _ _ _ k)))
      go_wp2
      go_ret
      refine ⟨ret_int (cp_more ?_), by repeat (first | exact below4 B1.out B2.out _ _ _ | refine below_drew _ ?_)⟩
      have p := D1.out
      have q := D2.out
      unfold Dg at p q
      omega
  subst h0
  go_wp2_with fail
  go_quiet (fail)
  go_wp2
  rw [rounds_succ]
  by_cases h1 : b = b'
  rotate_left
  · have t1 := beq_f h1
    go_wp2_with fail
    go_quiet (fail)
    go_wp2_with fail
    by_cases k : b < b'
    · clear h1 t1
      go_quiet (first | (go_at_call 58; refine quiet_more (compare_less _ _ _ k)))
      go_wp2
      go_ret
      refine ⟨ret_int (cp_less ?_), by repeat (first | exact below4 B1.out B2.out _ _ _ | refine below_drew _ ?_)⟩
      have p := D1.out
      have q := D2.out
      unfold Dg at p q
      omega
    · replace k : b' < b := by omega
      clear h1 t1
      go_quiet (first | (go_at_call 58; refine quiet_more (compare_more _ _ _ k)))
      go_wp2
      go_ret
      refine ⟨ret_int (cp_more ?_), by repeat (first | exact below4 B1.out B2.out _ _ _ | refine below_drew _ ?_)⟩
      have p := D1.out
      have q := D2.out
      unfold Dg at p q
      omega
  subst h1
  go_wp2_with fail
  go_quiet (fail)
  go_wp2
  rw [rounds_succ]
  by_cases h2 : c = c'
  rotate_left
  · have t2 := beq_f h2
    go_wp2_with fail
    go_quiet (fail)
    go_wp2_with fail
    by_cases k : c < c'
    · clear h2 t2
      go_quiet (first | (go_at_call 58; refine quiet_more (compare_less _ _ _ k)))
      go_wp2
      go_ret
      refine ⟨ret_int (cp_less ?_), by repeat (first | exact below4 B1.out B2.out _ _ _ | refine below_drew _ ?_)⟩
      have p := D1.out
      have q := D2.out
      unfold Dg at p q
      omega
    · replace k : c' < c := by omega
      clear h2 t2
      go_quiet (first | (go_at_call 58; refine quiet_more (compare_more _ _ _ k)))
      go_wp2
      go_ret
      refine ⟨ret_int (cp_more ?_), by repeat (first | exact below4 B1.out B2.out _ _ _ | refine below_drew _ ?_)⟩
      have p := D1.out
      have q := D2.out
      unfold Dg at p q
      omega
  subst h2
  go_wp2_with fail
  go_quiet (fail)
  go_wp2
  rw [rounds_succ]
  by_cases h3 : d = d'
  rotate_left
  · have t3 := beq_f h3
    go_wp2_with fail
    go_quiet (fail)
    go_wp2_with fail
    by_cases k : d < d'
    · clear h3 t3
      go_quiet (first | (go_at_call 58; refine quiet_more (compare_less _ _ _ k)))
      go_wp2
      go_ret
      refine ⟨ret_int (cp_less ?_), by repeat (first | exact below4 B1.out B2.out _ _ _ | refine below_drew _ ?_)⟩
      have p := D1.out
      have q := D2.out
      unfold Dg at p q
      omega
    · replace k : d' < d := by omega
      clear h3 t3
      go_quiet (first | (go_at_call 58; refine quiet_more (compare_more _ _ _ k)))
      go_wp2
      go_ret
      refine ⟨ret_int (cp_more ?_), by repeat (first | exact below4 B1.out B2.out _ _ _ | refine below_drew _ ?_)⟩
      have p := D1.out
      have q := D2.out
      unfold Dg at p q
      omega
  subst h3
  go_wp2_with fail
  go_quiet (fail)
  go_wp2
  rw [rounds_succ]
  by_cases h4 : e = e'
  rotate_left
  · have t4 := beq_f h4
    go_wp2_with fail
    go_quiet (fail)
    go_wp2_with fail
    by_cases k : e < e'
    · clear h4 t4
      go_quiet (first | (go_at_call 58; refine quiet_more (compare_less _ _ _ k)))
      go_wp2
      go_ret
      refine ⟨ret_int (cp_less ?_), by repeat (first | exact below4 B1.out B2.out _ _ _ | refine below_drew _ ?_)⟩
      have p := D1.out
      have q := D2.out
      unfold Dg at p q
      omega
    · replace k : e' < e := by omega
      clear h4 t4
      go_quiet (first | (go_at_call 58; refine quiet_more (compare_more _ _ _ k)))
      go_wp2
      go_ret
      refine ⟨ret_int (cp_more ?_), by repeat (first | exact below4 B1.out B2.out _ _ _ | refine below_drew _ ?_)⟩
      have p := D1.out
      have q := D2.out
      unfold Dg at p q
      omega
  subst h4
  go_wp2_with fail
  go_quiet (fail)
  go_wp2
  rw [rounds_succ]
  by_cases h5 : f = f'
  rotate_left
  · have t5 := beq_f h5
    go_wp2_with fail
    go_quiet (fail)
    go_wp2_with fail
    by_cases k : f < f'
    · clear h5 t5
      go_quiet (first | (go_at_call 58; refine quiet_more (compare_less _ _ _ k)))
      go_wp2
      go_ret
      refine ⟨ret_int (cp_less ?_), by repeat (first | exact below4 B1.out B2.out _ _ _ | refine below_drew _ ?_)⟩
      have p := D1.out
      have q := D2.out
      unfold Dg at p q
      omega
    · replace k : f' < f := by omega
      clear h5 t5
      go_quiet (first | (go_at_call 58; refine quiet_more (compare_more _ _ _ k)))
      go_wp2
      go_ret
      refine ⟨ret_int (cp_more ?_), by repeat (first | exact below4 B1.out B2.out _ _ _ | refine below_drew _ ?_)⟩
      have p := D1.out
      have q := D2.out
      unfold Dg at p q
      omega
  subst h5
  go_wp2_with fail
  go_quiet (fail)
  go_wp2
  rw [rounds_succ]
  by_cases h6 : g = g'
  rotate_left
  · have t6 := beq_f h6
    go_wp2_with fail
    go_quiet (fail)
    go_wp2_with fail
    by_cases k : g < g'
    · clear h6 t6
      go_quiet (first | (go_at_call 58; refine quiet_more (compare_less _ _ _ k)))
      go_wp2
      go_ret
      refine ⟨ret_int (cp_less ?_), by repeat (first | exact below4 B1.out B2.out _ _ _ | refine below_drew _ ?_)⟩
      have p := D1.out
      have q := D2.out
      unfold Dg at p q
      omega
    · replace k : g' < g := by omega
      clear h6 t6
      go_quiet (first | (go_at_call 58; refine quiet_more (compare_more _ _ _ k)))
      go_wp2
      go_ret
      refine ⟨ret_int (cp_more ?_), by repeat (first | exact below4 B1.out B2.out _ _ _ | refine below_drew _ ?_)⟩
      have p := D1.out
      have q := D2.out
      unfold Dg at p q
      omega
  subst h6
  go_wp2_with fail
  go_quiet (fail)
  go_wp2
  rw [rounds_succ]
  by_cases h7 : h = h'
  rotate_left
  · have t7 := beq_f h7
    go_wp2_with fail
    go_quiet (fail)
    go_wp2_with fail
    by_cases k : h < h'
    · clear h7 t7
      go_quiet (first | (go_at_call 58; refine quiet_more (compare_less _ _ _ k)))
      go_wp2
      go_ret
      refine ⟨ret_int (cp_less ?_), by repeat (first | exact below4 B1.out B2.out _ _ _ | refine below_drew _ ?_)⟩
      have p := D1.out
      have q := D2.out
      unfold Dg at p q
      omega
    · replace k : h' < h := by omega
      clear h7 t7
      go_quiet (first | (go_at_call 58; refine quiet_more (compare_more _ _ _ k)))
      go_wp2
      go_ret
      refine ⟨ret_int (cp_more ?_), by repeat (first | exact below4 B1.out B2.out _ _ _ | refine below_drew _ ?_)⟩
      have p := D1.out
      have q := D2.out
      unfold Dg at p q
      omega
  subst h7
  go_wp2_with fail
  go_quiet (fail)
  go_wp2
  rw [rounds_succ]
  go_wp2
  go_ret
  refine ⟨ret_int (cp_same ?_), by repeat (first | exact below4 B1.out B2.out _ _ _ | refine below_drew _ ?_)⟩
  have p := D1.out
  have q := D2.out
  unfold Dg at p q
  omega

theorem cmp_is (x y r : Int) (w : World) (hx : Rl.U x) (hy : Rl.U y) (h : Rl.cp x y = r) :
    Calls Try.prog 41 #[.int .u64 x, .int .u64 y] w fun e w' => e = .returned (.int .i64 r) ∧ Below w.heap.size w w' := by
  rw [← h]; exact cmp_any x y w hx hy

set_option maxHeartbeats 1000000 in
theorem refCmp_any (x y : Int) (w : World) (hx : Rl.U x) (hy : Rl.U y) :
    Calls Try.prog 55 #[.int .u64 x, .int .u64 y] w fun e w' => e = .returned (.int .i64 (Rl.cp x y)) ∧ w = w' := by
  by_cases h : Rl.ky x < Rl.ky y
  · rw [← cp_less h]
    go_enter Try.func55, Try.ntmps55
    go_wp2_with fail
    refine (refKey_any x _ hx).mono ?_
    rintro r w' ⟨rfl, rfl⟩
    go_wp2_with fail
    refine (refKey_any y _ hy).mono ?_
    rintro r w' ⟨rfl, rfl⟩
    go_wp2
    go_ret
    exact ⟨rfl, rfl⟩
  by_cases g : Rl.ky y < Rl.ky x
  · rw [← cp_more g]
    have h1 : Rl.ky y ≤ Rl.ky x := by omega
    clear h
    go_enter Try.func55, Try.ntmps55
    go_wp2_with fail
    refine (refKey_any x _ hx).mono ?_
    rintro r w' ⟨rfl, rfl⟩
    go_wp2_with fail
    refine (refKey_any y _ hy).mono ?_
    rintro r w' ⟨rfl, rfl⟩
    go_wp2_with fail
    refine (refKey_any x _ hx).mono ?_
    rintro r w' ⟨rfl, rfl⟩
    go_wp2_with fail
    refine (refKey_any y _ hy).mono ?_
    rintro r w' ⟨rfl, rfl⟩
    go_wp2
    go_ret
    exact ⟨rfl, rfl⟩
  · have h1 : Rl.ky x = Rl.ky y := by omega
    rw [← cp_same h1]
    have H := Lib.hid h1
    clear h g h1
    go_enter Try.func55, Try.ntmps55
    go_wp2_with fail
    refine (refKey_any x _ hx).mono ?_
    rintro r w' ⟨rfl, rfl⟩
    rw [H.out]
    go_wp2_with fail
    refine (refKey_any y _ hy).mono ?_
    rintro r w' ⟨rfl, rfl⟩
    go_wp2_with fail
    refine (refKey_any x _ hx).mono ?_
    rintro r w' ⟨rfl, rfl⟩
    rw [H.out]
    go_wp2_with fail
    refine (refKey_any y _ hy).mono ?_
    rintro r w' ⟨rfl, rfl⟩
    go_wp2
    go_ret
    exact ⟨rfl, rfl⟩

end Go.Proofs.Ytfemigdghdbbgaa
