/-
  The plain mathematics of package rows: a row's bytes, what bytes are a row, and that the one undoes the other; rows compared; values picked. Conditions: the bounds named in each theorem.
-/
import Derived.Test.YtmgdciihpjifgaaGreatDoorQpKcRead
import Derived.Test.YtmgdciihpjifgaaGreatDoorQpScPlain
import Derived.Test.YtmgdciihpjifgaaGreatDoorQpVlRefCheck
import Derived.Test.YtmgdciihpjifgaaGreatDoorQpKcVals
import Derived.Test.YtmgdciihpjifgaaGreatDoorQpPackInts
namespace Go.Proofs.YtmgdciihpjifgaaGreatDoor.Rk

theorem bn_snoc : ∀ (k n d : Nat), d < 256 → Kc.bn (k + 1) (n * 256 + d) = Kc.bn k n ++ [UInt8.ofNat d]
  | 0, n, d, h => by
    show [UInt8.ofNat ((n * 256 + d) / 256 ^ 0)] = [UInt8.ofNat d]
    rw [Kc.eq_of ((n * 256 + d) / 256 ^ 0) d (by rw [Nat.pow_zero, Nat.div_one]; omega)]
  | k + 1, n, d, h => by
    have e : (n * 256 + d) / 256 ^ (k + 1) = n / 256 ^ k := by
      rw [Nat.pow_succ, Nat.mul_comm (256 ^ k) 256, ← Nat.div_div_eq_div_mul, show (n * 256 + d) / 256 = n from by omega]
    rw [Kc.bn, e, bn_snoc k n d h]
    rfl
theorem bn_nm (l : List UInt8) : Kc.bn l.length (Kc.nm l) = l := by
  have h : ∀ (m : List UInt8), Kc.bn m.reverse.length (Kc.nm m.reverse) = m.reverse := by
    intro m
    induction m with
    | nil => rfl
    | cons x m ih =>
      rw [List.reverse_cons, Kc.nm_snoc, List.length_append, List.length_singleton, bn_snoc _ _ _ x.toNat_lt, ih, UInt8.ofNat_toNat]
  have := h l.reverse
  simpa using this
theorem nm_one (x : UInt8) (l : List UInt8) : Kc.nm ((x :: l).take 1) = x.toNat := by simp [Kc.nm]
/-- A value's bytes. -/
def pb (k n b : Int) (s : List UInt8) : List UInt8 :=
  if k = 1 then Kc.bn 1 n.toNat else if k = 2 then Pk.un (Pk.zz n) else if k = 3 then Kc.bn 8 b.toNat
  else if k = 4 ∨ k = 5 then Pk.tx s else []
def pt (k n b : Int) (s : List UInt8) : List UInt8 := UInt8.ofNat k.toNat :: pb k n b s

theorem un_len (n : Nat) : (Pk.un n).length ≤ 10 ∧ 1 ≤ (Pk.un n).length := ⟨(Pk.ub_len 9 n).2, (Pk.ub_len 9 n).1⟩
theorem pt_len {k n b : Int} {s : List UInt8} (hs : s.length ≤ 64) : (pt k n b s).length ≤ 75 := by
  have h1 := Kc.bn_len 1 n.toNat
  have h2 := un_len (Pk.zz n)
  have h3 := Kc.bn_len 8 b.toNat
  have h4 := un_len s.length
  unfold pt pb Pk.tx
  (repeat' split) <;> simp <;> omega

def chk (k n b : Int) (s r : List UInt8) : Rd := if Vl.ck k n b s = 0 then ⟨k, n, b, s, r, 0⟩ else .bad (Vl.ck k n b s)
theorem chk_ok {k n b : Int} {s r : List UInt8} (h : Vl.ck k n b s = 0) : chk k n b s r = ⟨k, n, b, s, r, 0⟩ := by unfold chk; rw [if_pos h]
theorem chk_bad {k n b : Int} {s r : List UInt8} (h : Vl.ck k n b s ≠ 0) : chk k n b s r = .bad (Vl.ck k n b s) := by unfold chk; rw [if_neg h]
def rdb (k : Int) (l : List UInt8) : Rd :=
  if k = 1 then (if l.length < 1 then .bad 3 else chk 1 (Kc.nm (l.take 1)) 0 [] (l.drop 1))
  else if k = 2 then (if (Pk.ri l).2.2 = 0 then chk 2 (Pk.ri l).1 0 [] (Pk.ri l).2.1 else .bad (Pk.ri l).2.2)
  else if k = 3 then (if l.length < 8 then .bad 3 else chk 3 0 (Kc.nm (l.take 8)) [] (l.drop 8))
  else if k = 4 ∨ k = 5 then (if (Pk.rt l).2.2 = 0 then chk k 0 0 (Pk.rt l).1 (Pk.rt l).2.1 else .bad (Pk.rt l).2.2)
  else chk k 0 0 [] l
def rd : List UInt8 → Rd
  | [] => .bad 3
  | x :: l => rdb x.toNat l

theorem rd_pt {k n b : Int} {s : List UInt8} (h : Vl.ck k n b s = 0) (hb : Rl.U b) (hn : -9223372036854775808 ≤ n ∧ n < 9223372036854775808) (r : List UInt8) : rd (pt k n b s ++ r) = ⟨k, n, b, s, r, 0⟩ := by
  obtain ⟨k0, k5, hkn, hkb, hks, hk1, hcn, hl⟩ := Vl.ck_ok h
  have ek := of_k k0 k5
  have fin : ∀ (n' b' : Int) (s' r' : List UInt8), n' = n → b' = b → s' = s → r' = r → chk k n' b' s' r' = ⟨k, n, b, s, r, 0⟩ := by
    rintro n' b' s' r' rfl rfl rfl rfl; exact chk_ok h
  show rdb (UInt8.ofNat k.toNat).toNat (pb k n b s ++ r) = _
  rw [ek]
  have s0 : k < 4 → s = [] := by
    intro g
    by_cases e : s = []
    · exact e
    · have := hks e; omega
  have c : k = 0 ∨ k = 1 ∨ k = 2 ∨ k = 3 ∨ (k = 4 ∨ k = 5) := by omega
  rcases c with e | e | e | e | e
  · have n0 : n = 0 := by omega
    have b0 : b = 0 := by omega
    have s1 := s0 (by omega)
    subst e
    exact fin _ _ _ _ n0.symm b0.symm s1.symm (by unfold pb; rfl)
  · have b0 : b = 0 := by omega
    have s1 := s0 (by omega)
    subst e
    have g1 := hk1 rfl
    have ep : pb 1 n b s = Kc.bn 1 n.toNat := rfl
    have l1 := Kc.bn_len 1 n.toNat
    rw [ep]
    unfold rdb
    rw [if_pos rfl, if_neg (by rw [List.length_append, l1]; omega)]
    refine fin _ _ _ _ ?_ b0.symm s1.symm (List.drop_left' l1)
    rw [List.take_left' l1]
    have : Kc.nm (Kc.bn 1 n.toNat) = n.toNat := by
      unfold Kc.nm; rw [Kc.fold_bn 1 n.toNat 0, Nat.mod_eq_of_lt (by show _ < 256; omega)]; omega
    omega
  · have b0 : b = 0 := by omega
    have s1 := s0 (by omega)
    subst e
    have ep : pb 2 n b s = Pk.un (Pk.zz n) := rfl
    rw [ep]
    unfold rdb
    rw [if_neg (by decide), if_pos rfl, Pk.ri_zz n r hn.1 (by omega), if_pos rfl]
    exact fin _ _ _ _ rfl b0.symm s1.symm rfl
  · have n0 : n = 0 := by omega
    have s1 := s0 (by omega)
    subst e
    have ep : pb 3 n b s = Kc.bn 8 b.toNat := rfl
    have l1 := Kc.bn_len 8 b.toNat
    rw [ep]
    unfold rdb
    rw [if_neg (by decide), if_neg (by decide), if_pos rfl, if_neg (by rw [List.length_append, l1]; omega)]
    refine fin _ _ _ _ n0.symm ?_ s1.symm (List.drop_left' l1)
    have u := hb
    unfold Rl.U at u
    rw [List.take_left' l1, Kc.nm_bn _ (by omega)]
    omega
  · have n0 : n = 0 := by omega
    have b0 : b = 0 := by omega
    have ep : pb k n b s = Pk.tx s := by unfold pb; rw [if_neg (by omega), if_neg (by omega), if_neg (by omega), if_pos e]
    rw [ep]
    unfold rdb
    rw [if_neg (by omega), if_neg (by omega), if_neg (by omega), if_pos e, Pk.rt_tx s r (by omega), if_pos rfl]
    exact fin _ _ _ _ n0.symm b0.symm rfl rfl

theorem chk_e {k n b : Int} {s r : List UInt8} (h : (chk k n b s r).e = 0) : Vl.ck k n b s = 0 ∧ chk k n b s r = ⟨k, n, b, s, r, 0⟩ := by
  by_cases g : Vl.ck k n b s = 0
  · exact ⟨g, chk_ok g⟩
  · rw [chk_bad g] at h; exact absurd h g

/-- What is read is written so. -/
theorem rd_back (l : List UInt8) (h : (rd l).e = 0) : Vl.ck (rd l).k (rd l).n (rd l).b (rd l).s = 0 ∧ Rl.U (rd l).b ∧ (-9223372036854775808 ≤ (rd l).n ∧ (rd l).n < 9223372036854775808) ∧ pt (rd l).k (rd l).n (rd l).b (rd l).s ++ (rd l).r = l := by
  cases l with
  | nil => exact absurd h (by decide)
  | cons x t =>
    have hx := x.toNat_lt
    have ox : UInt8.ofNat ((x.toNat : Int)).toNat = x := by rw [Int.toNat_natCast, UInt8.ofNat_toNat]
    have u0 : Rl.U 0 := ⟨by decide, by decide⟩
    have fin : ∀ (k n b : Int) (s r : List UInt8), (x.toNat : Int) = k → rd (x :: t) = chk k n b s r → Rl.U b → (-9223372036854775808 ≤ n ∧ n < 9223372036854775808) → pb k n b s ++ r = t → Vl.ck (rd (x :: t)).k (rd (x :: t)).n (rd (x :: t)).b (rd (x :: t)).s = 0 ∧ Rl.U (rd (x :: t)).b ∧ (-9223372036854775808 ≤ (rd (x :: t)).n ∧ (rd (x :: t)).n < 9223372036854775808) ∧ pt (rd (x :: t)).k (rd (x :: t)).n (rd (x :: t)).b (rd (x :: t)).s ++ (rd (x :: t)).r = x :: t := by
      intro k n b s r hk e hU hn hp
      rw [e] at h
      have := chk_e h
      rw [e, this.2]
      refine ⟨this.1, hU, hn, ?_⟩
      show UInt8.ofNat k.toNat :: (pb k n b s ++ r) = _
      rw [hp, ← hk, ox]
    by_cases k1 : (x.toNat : Int) = 1
    · by_cases hs : t.length < 1
      · have : rd (x :: t) = .bad 3 := by show rdb _ _ = _; unfold rdb; rw [if_pos k1, if_pos hs]
        rw [this] at h; exact absurd h (by decide)
      · have g := Kc.nm_lt (t.take 1)
        have g2 : (t.take 1).length = 1 := by rw [List.length_take]; omega
        rw [g2] at g
        refine fin 1 (Kc.nm (t.take 1)) 0 [] (t.drop 1) k1 (by show rdb _ _ = _; unfold rdb; rw [if_pos k1, if_neg hs]) u0 (by omega) ?_
        have : pb 1 (Kc.nm (t.take 1) : Int) 0 [] = Kc.bn 1 (Kc.nm (t.take 1)) := rfl
        have b1 := bn_nm (t.take 1)
        rw [g2] at b1
        rw [this, b1, List.take_append_drop]
    by_cases k2 : (x.toNat : Int) = 2
    · rcases Pk.rd_cases t with ⟨N, r, hr, hN, hu⟩ | ⟨e, hr, he⟩
      · obtain ⟨m, hm, hz, hbd⟩ := Pk.zz_ri t r N hr
        refine fin 2 m 0 [] r k2 (by show rdb _ _ = _; unfold rdb; rw [if_neg k1, if_pos k2, hm, if_pos rfl]) u0 (by have := hbd hN; omega) ?_
        show Pk.un (Pk.zz m) ++ r = t
        rw [hz, hu]
      · have : rd (x :: t) = .bad e := by show rdb _ _ = _; unfold rdb; rw [if_neg k1, if_pos k2, Pk.ri_bad t e hr (by omega), if_neg (by show ¬ e = 0; omega)]
        rw [this] at h
        have h' : e = 0 := h
        omega
    by_cases k3 : (x.toNat : Int) = 3
    · by_cases hs : t.length < 8
      · have : rd (x :: t) = .bad 3 := by show rdb _ _ = _; unfold rdb; rw [if_neg k1, if_neg k2, if_pos k3, if_pos hs]
        rw [this] at h; exact absurd h (by decide)
      · have g2 : (t.take 8).length = 8 := by rw [List.length_take]; omega
        refine fin 3 0 (Kc.nm (t.take 8)) [] (t.drop 8) k3 (by show rdb _ _ = _; unfold rdb; rw [if_neg k1, if_neg k2, if_pos k3, if_neg hs]) (nm8_U t) (by omega) ?_
        have : pb 3 0 (Kc.nm (t.take 8) : Int) [] = Kc.bn 8 (Kc.nm (t.take 8)) := rfl
        have b1 := bn_nm (t.take 8)
        rw [g2] at b1
        rw [this, b1, List.take_append_drop]
    by_cases k4 : (x.toNat : Int) = 4 ∨ (x.toNat : Int) = 5
    · rcases Pk.rd_cases t with ⟨N, r, hr, hN, hu⟩ | ⟨e, hr, he⟩
      · by_cases hle : r.length < N
        · have : rd (x :: t) = .bad 3 := by show rdb _ _ = _; unfold rdb; rw [if_neg k1, if_neg k2, if_neg k3, if_pos k4, Pk.rt_short t r N hr hle, if_neg (by decide)]
          rw [this] at h; exact absurd h (by decide)
        · refine fin x.toNat 0 0 (r.take N) (r.drop N) rfl (by show rdb _ _ = _; unfold rdb; rw [if_neg k1, if_neg k2, if_neg k3, if_pos k4, Pk.rt_end t r N hr (by omega), if_pos rfl]) u0 (by omega) ?_
          have : pb (x.toNat : Int) 0 0 (r.take N) = Pk.tx (r.take N) := by unfold pb; rw [if_neg k1, if_neg k2, if_neg k3, if_pos k4]
          have e : (r.take N).length = N := by rw [List.length_take]; omega
          rw [this]
          unfold Pk.tx
          rw [e, List.append_assoc, List.take_append_drop, hu]
      · have : rd (x :: t) = .bad e := by show rdb _ _ = _; unfold rdb; rw [if_neg k1, if_neg k2, if_neg k3, if_pos k4, Pk.rt_bad t e hr (by omega), if_neg (by show ¬ e = 0; omega)]
        rw [this] at h
        have h' : e = 0 := h
        omega
    · refine fin x.toNat 0 0 [] t rfl (by show rdb _ _ = _; unfold rdb; rw [if_neg k1, if_neg k2, if_neg k3, if_neg k4]) u0 (by omega) ?_
      have : pb (x.toNat : Int) 0 0 [] = [] := by unfold pb; rw [if_neg k1, if_neg k2, if_neg k3, if_neg k4]
      rw [this]; rfl

def _root_.Go.Proofs.YtmgdciihpjifgaaGreatDoor.V.rp (x : V) : List UInt8 := Go.Proofs.YtmgdciihpjifgaaGreatDoor.Rk.pt x.k x.n x.b x.s
def _root_.Go.Proofs.YtmgdciihpjifgaaGreatDoor.Rd.v (R : Rd) : V := ⟨R.k, R.n, R.b, R.s⟩

def rb : List V → List UInt8
  | [] => []
  | x :: xs => x.rp ++ rb xs

theorem rb_append (a b : List V) : rb (a ++ b) = rb a ++ rb b := by
  induction a with
  | nil => rfl
  | cons x a ih => simp [rb, ih]
theorem rb_snoc (a : List V) (x : V) : rb (a ++ [x]) = rb a ++ x.rp := by rw [rb_append]; simp [rb]
theorem rb_len {xs : List V} (h : ∀ x ∈ xs, x.ck = 0) : (rb xs).length ≤ 75 * xs.length := by
  induction xs with
  | nil => simp [rb]
  | cons y xs ih =>
    have h1 := ih (fun x hx => h x (by simp [hx]))
    have h2 := pt_len (k := y.k) (n := y.n) (b := y.b) (Vl.ck_ok (h y (by simp))).2.2.2.2.2.2.2
    simp [rb]
    unfold V.rp
    omega
/-- What a row is written as; the error. -/
def pe (xs : List V) : Int := if 8 < xs.length then 2 else re xs
def pw (xs : List V) : List UInt8 := if pe xs = 0 then Pk.un xs.length ++ rb xs else []
theorem pe_long {xs : List V} (h : 8 < xs.length) : pe xs = 2 := by unfold pe; rw [if_pos h]
theorem pe_short {xs : List V} (h : ¬ 8 < xs.length) : pe xs = re xs := by unfold pe; rw [if_neg h]
theorem pw_ok {xs : List V} (h : pe xs = 0) : pw xs = Pk.un xs.length ++ rb xs := by unfold pw; rw [if_pos h]
theorem pw_bad {xs : List V} (h : pe xs ≠ 0) : pw xs = [] := by unfold pw; rw [if_neg h]
theorem pe_len {xs : List V} (h : pe xs = 0) : xs.length ≤ 8 ∧ re xs = 0 := by
  by_cases g : 8 < xs.length
  · rw [pe_long g] at h; exact absurd h (by decide)
  · rw [pe_short g] at h; exact ⟨by omega, h⟩
theorem pw_len (xs : List V) : (pw xs).length ≤ 610 := by
  by_cases h : pe xs = 0
  · have g := pe_len h
    have h1 := rb_len (re_fine g.2)
    have h2 := un_len xs.length
    rw [pw_ok h, List.length_append]; omega
  · rw [pw_bad h]; simp

/-- So many values; what is behind; the error. -/
def rn : Nat → List UInt8 → List V × List UInt8 × Int
  | 0, l => ([], l, 0)
  | n + 1, l => if (rd l).e = 0 then (if (rn n (rd l).r).2.2 = 0 then ((rd l).v :: (rn n (rd l).r).1, (rn n (rd l).r).2.1, 0) else ([], [], (rn n (rd l).r).2.2)) else ([], [], (rd l).e)
def pv (d : List V) (r : List V × List UInt8 × Int) : List V × List UInt8 × Int := if r.2.2 = 0 then (d ++ r.1, r.2.1, 0) else ([], [], r.2.2)
theorem rn_shape : ∀ (n : Nat) (l : List UInt8), (rn n l).2.2 = 0 ∨ ((rn n l).1 = [] ∧ (rn n l).2.1 = [])
  | 0, _ => .inl rfl
  | n + 1, l => by
    rw [rn]
    (repeat' split) <;> simp
theorem pv_nil (n : Nat) (l : List UInt8) : pv [] (rn n l) = rn n l := by
  unfold pv
  by_cases h : (rn n l).2.2 = 0
  · rw [if_pos h]; exact Prod.ext rfl (Prod.ext rfl h.symm)
  · rw [if_neg h]
    have := (rn_shape n l).resolve_left h
    exact Prod.ext this.1.symm (Prod.ext this.2.symm rfl)
theorem rn_step {l : List UInt8} (n : Nat) (he : (rd l).e = 0) (d : List V) : pv d (rn (n + 1) l) = pv (d ++ [(rd l).v]) (rn n (rd l).r) := by
  rw [rn, if_pos he]
  unfold pv
  by_cases h : (rn n (rd l).r).2.2 = 0
  · rw [if_pos h, if_pos rfl, if_pos h]; simp
  · rw [if_neg h, if_neg h, if_neg h]
theorem rn_err {l : List UInt8} (n : Nat) (he : (rd l).e ≠ 0) (d : List V) : pv d (rn (n + 1) l) = ([], [], (rd l).e) := by
  rw [rn, if_neg he]
  unfold pv
  rw [if_neg he]
theorem rn_end (l : List UInt8) (d : List V) : pv d (rn 0 l) = (d, l, 0) := by unfold pv rn; simp

/-- The row that bytes are; the error. -/
def rf (r : List V × List UInt8 × Int) : List V × Int := if r.2.2 = 0 then (if r.2.1 = [] then (r.1, 0) else ([], 4)) else ([], r.2.2)
def ra (l : List UInt8) : List V × Int :=
  if (Pk.rd l 0 0).2.2 = 0 then (if 8 < (Pk.rd l 0 0).1 then ([], 2) else rf (rn (Pk.rd l 0 0).1 (Pk.rd l 0 0).2.1)) else ([], (Pk.rd l 0 0).2.2)
theorem ra_bad {l : List UInt8} {e : Int} (h : Pk.rd l 0 0 = (0, [], e)) (he : ¬ e = 0) : ra l = ([], e) := by unfold ra; rw [h]; exact if_neg he
theorem ra_many {l r : List UInt8} {N : Nat} (h : Pk.rd l 0 0 = (N, r, 0)) (hN : 8 < N) : ra l = ([], 2) := by unfold ra; rw [h, if_pos rfl, if_pos hN]
theorem ra_is {l r : List UInt8} {N : Nat} (h : Pk.rd l 0 0 = (N, r, 0)) (hN : ¬ 8 < N) : ra l = rf (rn N r) := by unfold ra; rw [h, if_pos rfl, if_neg hN]

theorem rn_rb : ∀ (xs : List V) (r : List UInt8), (∀ x ∈ xs, x.ck = 0) → (∀ x ∈ xs, x.ok) → rn xs.length (rb xs ++ r) = (xs, r, 0)
  | [], r, _, _ => rfl
  | x :: xs, r, h, o => by
    have hx := rd_pt (h x (by simp)) (o x (by simp)).1 (o x (by simp)).2 (rb xs ++ r)
    have ih := rn_rb xs r (fun y hy => h y (by simp [hy])) (fun y hy => o y (by simp [hy]))
    have e : rb (x :: xs) ++ r = Go.Proofs.YtmgdciihpjifgaaGreatDoor.Rk.pt x.k x.n x.b x.s ++ (rb xs ++ r) := by rw [rb, List.append_assoc]; rfl
    rw [List.length_cons, rn, e, hx]
    simp only [ih]
    simp [Rd.v]
/-- A row that may be is read as it was. -/
theorem ra_pw {xs : List V} (h : pe xs = 0) (o : ∀ x ∈ xs, x.ok) : ra (pw xs) = (xs, 0) := by
  have g := pe_len h
  have e := Pk.rd_un xs.length (rb xs) (by omega)
  have i := rn_rb xs [] (re_fine g.2) o
  rw [List.append_nil] at i
  rw [pw_ok h, ra_is e (by omega), i]
  rfl
theorem rn_back : ∀ (n : Nat) (l : List UInt8), (rn n l).2.2 = 0 → (rn n l).1.length = n ∧ rb (rn n l).1 ++ (rn n l).2.1 = l ∧ (∀ x ∈ (rn n l).1, x.ck = 0) ∧ ∀ x ∈ (rn n l).1, x.ok
  | 0, l, _ => ⟨rfl, rfl, by simp [rn], by simp [rn]⟩
  | n + 1, l, h => by
    rw [rn] at h ⊢
    by_cases he : (rd l).e = 0
    · rw [if_pos he] at h ⊢
      by_cases g : (rn n (rd l).r).2.2 = 0
      · rw [if_pos g]
        obtain ⟨i1, i2, i3, i4⟩ := rn_back n (rd l).r g
        obtain ⟨b1, b2, b3, b4⟩ := rd_back l he
        refine ⟨by simp [i1], ?_, ?_, ?_⟩
        · show (rd l).v.rp ++ rb (rn n (rd l).r).1 ++ (rn n (rd l).r).2.1 = l
          rw [List.append_assoc, i2]; exact b4
        · intro x hx
          rcases List.mem_cons.1 hx with rfl | hx
          · exact b1
          · exact i3 x hx
        · intro x hx
          rcases List.mem_cons.1 hx with rfl | hx
          · exact ⟨b2, b3⟩
          · exact i4 x hx
      · rw [if_neg g] at h; exact absurd h g
    · rw [if_neg he] at h; exact absurd h he
/-- Bytes that are a row are those that it is written as. -/
theorem ra_back {l : List UInt8} {xs : List V} (h : ra l = (xs, 0)) : pe xs = 0 ∧ pw xs = l ∧ xs.length ≤ 8 ∧ ∀ x ∈ xs, x.ok := by
  rcases Pk.rd_cases l with ⟨N, r, hr, hN, hu⟩ | ⟨e, hr, he⟩
  · by_cases h8 : 8 < N
    · rw [ra_many hr h8] at h; simp at h
    · rw [ra_is hr h8] at h
      unfold rf at h
      by_cases g : (rn N r).2.2 = 0
      · rw [if_pos g] at h
        by_cases g2 : (rn N r).2.1 = []
        · rw [if_pos g2] at h
          obtain ⟨i1, i2, i3, i4⟩ := rn_back N r g
          have hx : (rn N r).1 = xs := congrArg Prod.fst h
          rw [hx] at i1 i2 i3 i4
          rw [g2, List.append_nil] at i2
          have hp : pe xs = 0 := by rw [pe_short (by omega)]; exact re_of i3
          refine ⟨hp, ?_, by omega, i4⟩
          rw [pw_ok hp, i1, i2, hu]
        · rw [if_neg g2] at h; simp at h
      · rw [if_neg g] at h
        exact absurd (congrArg Prod.snd h) g
  · rw [ra_bad hr (by omega)] at h
    have : e = 0 := congrArg Prod.snd h
    omega

def _root_.Go.Proofs.YtmgdciihpjifgaaGreatDoor.V.sm (x y : V) : Bool := Vl.sm x.k x.n x.b x.s y.k y.n y.b y.s
theorem _root_.Go.Proofs.YtmgdciihpjifgaaGreatDoor.V.sm_self (x : V) : x.sm x = true := by unfold V.sm Vl.sm; simp
def rs : List V → List V → Bool
  | [], [] => true
  | [], _ :: _ => false
  | _ :: _, [] => false
  | x :: xs, y :: ys => x.sm y && rs xs ys
/-- How many are alike. -/
def al (f : V → V → Bool) : List V → List V → Nat
  | x :: xs, y :: ys => if f x y = true then al f xs ys + 1 else 0
  | _, _ => 0
theorem al_le (f : V → V → Bool) : ∀ (xs ys : List V), al f xs ys ≤ xs.length ∧ al f xs ys ≤ ys.length
  | [], _ => by simp [al]
  | _ :: _, [] => by simp [al]
  | x :: xs, y :: ys => by
    have := al_le f xs ys
    rw [al]
    split <;> simp <;> omega
theorem al_drop (f : V → V → Bool) {xs ys : List V} {j : Nat} (h1 : j < xs.length) (h2 : j < ys.length) (h : f xs[j] ys[j] = true) : al f (xs.drop j) (ys.drop j) = al f (xs.drop (j + 1)) (ys.drop (j + 1)) + 1 := by
  rw [List.drop_eq_getElem_cons h1, List.drop_eq_getElem_cons h2, al, if_pos h]
theorem al_stop (f : V → V → Bool) {xs ys : List V} {j : Nat} (h1 : j < xs.length) (h2 : j < ys.length) (h : f xs[j] ys[j] = false) : al f (xs.drop j) (ys.drop j) = 0 := by
  rw [List.drop_eq_getElem_cons h1, List.drop_eq_getElem_cons h2, al, if_neg (by rw [h]; decide)]
theorem al_end (f : V → V → Bool) {xs ys : List V} {j : Nat} (h : ¬ j < xs.length ∨ ¬ j < ys.length) : al f (xs.drop j) (ys.drop j) = 0 := by
  have a := al_le f (xs.drop j) (ys.drop j)
  rw [List.length_drop, List.length_drop] at a
  omega
theorem rs_al : ∀ (xs ys : List V), xs.length = ys.length → (al V.sm xs ys = xs.length ↔ rs xs ys = true)
  | [], [], _ => by simp [al, rs]
  | [], _ :: _, h => by simp at h
  | _ :: _, [], h => by simp at h
  | x :: xs, y :: ys, h => by
    have ih := rs_al xs ys (by simpa using h)
    rw [al, rs]
    by_cases g : x.sm y = true
    · rw [if_pos g, g, Bool.true_and, List.length_cons, ← ih]
      omega
    · rw [if_neg g, List.length_cons]
      simp only [Bool.not_eq_true] at g
      rw [g]
      simp
theorem rs_len : ∀ (xs ys : List V), rs xs ys = true → xs.length = ys.length
  | [], [], _ => rfl
  | [], _ :: _, h => by simp [rs] at h
  | _ :: _, [], h => by simp [rs] at h
  | x :: xs, y :: ys, h => by
    rw [rs, Bool.and_eq_true] at h
    simp [rs_len xs ys h.2]
theorem rs_self : ∀ (xs : List V), rs xs xs = true
  | [] => rfl
  | x :: xs => by rw [rs, V.sm_self, rs_self xs]; rfl
theorem rs_drop {xs ys : List V} {j : Nat} (h1 : j < xs.length) (h2 : j < ys.length) (h : xs[j].sm ys[j] = true) : rs (xs.drop j) (ys.drop j) = rs (xs.drop (j + 1)) (ys.drop (j + 1)) := by
  rw [List.drop_eq_getElem_cons h1, List.drop_eq_getElem_cons h2, rs, h, Bool.true_and]
theorem rs_stop {xs ys : List V} {j : Nat} (h1 : j < xs.length) (h2 : j < ys.length) (h : xs[j].sm ys[j] = false) : rs (xs.drop j) (ys.drop j) = false := by
  rw [List.drop_eq_getElem_cons h1, List.drop_eq_getElem_cons h2, rs, h, Bool.false_and]
theorem rs_end {xs ys : List V} {j : Nat} (h1 : j = xs.length) (h2 : j = ys.length) : rs (xs.drop j) (ys.drop j) = true := by
  rw [List.drop_of_length_le (by omega), List.drop_of_length_le (by omega)]; rfl

def ps (xs : List V) (at' : List Int) : List V := at'.map fun p => xs.getD p.toNat ⟨0, 0, 0, []⟩
end Go.Proofs.YtmgdciihpjifgaaGreatDoor.Rk
