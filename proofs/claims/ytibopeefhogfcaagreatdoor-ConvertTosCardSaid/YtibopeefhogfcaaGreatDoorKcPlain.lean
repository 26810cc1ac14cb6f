/-
  The plain mathematics of package keycode: bytes below others at a byte of both, numbers in bytes, escaped bytes. Conditions: the bounds named in each theorem.
-/
namespace Go.Proofs.YtibopeefhogfcaaGreatDoor.Kc

/-- x is below y at a byte that both have. -/
def D (x y : List UInt8) : Prop := ∃ p a b t u, x = p ++ a :: t ∧ y = p ++ b :: u ∧ a < b

theorem D.pre {x y : List UInt8} (q : List UInt8) (h : D x y) : D (q ++ x) (q ++ y) := by
  obtain ⟨p, a, b, t, u, rfl, rfl, h⟩ := h
  exact ⟨q ++ p, a, b, t, u, by simp, by simp, h⟩
theorem D.head {a b : UInt8} (t u : List UInt8) (h : a < b) : D (a :: t) (b :: u) := ⟨[], a, b, t, u, rfl, rfl, h⟩
theorem D.more {x y : List UInt8} (r r' : List UInt8) (h : D x y) : D (x ++ r) (y ++ r') := by
  obtain ⟨p, a, b, t, u, rfl, rfl, h⟩ := h
  exact ⟨p, a, b, t ++ r, u ++ r', by simp, by simp, h⟩
theorem lt_pre (p : List UInt8) {x y : List UInt8} (h : x < y) : p ++ x < p ++ y := by
  induction p with
  | nil => exact h
  | cons a p ih => exact List.cons_lt_cons_iff.2 (.inr ⟨rfl, ih⟩)
theorem D.lt {x y : List UInt8} (h : D x y) : x < y := by
  obtain ⟨p, a, b, t, u, rfl, rfl, h⟩ := h
  exact lt_pre p (List.cons_lt_cons_iff.2 (.inl h))
theorem D.not_pre {x y : List UInt8} (h : D x y) : ¬ x <+: y ∧ ¬ y <+: x := by
  obtain ⟨p, a, b, t, u, rfl, rfl, h⟩ := h
  have ne : a ≠ b := fun e => UInt8.lt_irrefl _ (e ▸ h)
  constructor
  · intro g
    have := (List.cons_prefix_cons.1 ((List.prefix_append_right_inj p).1 g)).1
    exact ne this
  · intro g
    have := (List.cons_prefix_cons.1 ((List.prefix_append_right_inj p).1 g)).1
    exact ne this.symm

/-- A number in k bytes, the highest first. -/
def bn : Nat → Nat → List UInt8
  | 0, _ => []
  | k + 1, n => UInt8.ofNat (n / 256 ^ k) :: bn k n

/-- The number of bytes. -/
def nm (l : List UInt8) : Nat := l.foldl (fun a x => a * 256 + x.toNat) 0

theorem bn_len : ∀ (k n : Nat), (bn k n).length = k
  | 0, _ => rfl
  | k + 1, n => by rw [bn, List.length_cons, bn_len k n]

theorem nm_snoc (l : List UInt8) (x : UInt8) : nm (l ++ [x]) = nm l * 256 + x.toNat := by simp [nm]

theorem nm_lt (l : List UInt8) : nm l < 256 ^ l.length := by
  have h : ∀ (m : List UInt8), nm m.reverse < 256 ^ m.length := by
    intro m
    induction m with
    | nil => simp [nm]
    | cons x m ih =>
      rw [List.reverse_cons, nm_snoc, List.length_cons, Nat.pow_succ]
      have := x.toNat_lt
      omega
  have := h l.reverse
  simpa using this

theorem fold_bn : ∀ (k n a : Nat), (bn k n).foldl (fun a x => a * 256 + x.toNat) a = a * 256 ^ k + n % 256 ^ k
  | 0, n, a => by simp [bn, Nat.mod_one]
  | k + 1, n, a => by
    have h0 : (256 : Nat) ^ (k + 1) = 256 ^ k * 256 := Nat.pow_succ 256 k
    rw [bn, List.foldl_cons, fold_bn k n, UInt8.toNat_ofNat', h0]
    have h1 : n % (256 ^ k * 256) = n % 256 ^ k + 256 ^ k * (n / 256 ^ k % 256) := Nat.mod_mul
    have h2 : (n / 256 ^ k) % 2 ^ 8 = n / 256 ^ k % 256 := rfl
    rw [h1, h2, Nat.add_mul, Nat.mul_assoc a, Nat.mul_comm 256 (256 ^ k), Nat.mul_comm (n / 256 ^ k % 256)]
    omega

theorem nm_bn (n : Nat) (h : n < 18446744073709551616) : nm (bn 8 n) = n := by
  unfold nm
  rw [fold_bn 8 n 0, Nat.mod_eq_of_lt (by show n < 18446744073709551616; exact h)]
  omega

theorem lt_of (a b : Nat) (h : a % 256 < b % 256) : UInt8.ofNat a < UInt8.ofNat b := by
  rw [UInt8.lt_iff_toNat_lt, UInt8.toNat_ofNat', UInt8.toNat_ofNat']
  exact h
theorem eq_of (a b : Nat) (h : a % 256 = b % 256) : UInt8.ofNat a = UInt8.ofNat b := by
  apply UInt8.toNat_inj.1
  rw [UInt8.toNat_ofNat', UInt8.toNat_ofNat']
  exact h

theorem bn_D : ∀ (k n m : Nat), n % 256 ^ k < m % 256 ^ k → D (bn k n) (bn k m)
  | 0, n, m, h => by simp [Nat.mod_one] at h
  | k + 1, n, m, h => by
    rw [Nat.pow_succ, Nat.mod_mul, Nat.mod_mul] at h
    rw [bn, bn]
    have hn : n % 256 ^ k < 256 ^ k := Nat.mod_lt _ (Nat.pow_pos (by decide))
    have hm : m % 256 ^ k < 256 ^ k := Nat.mod_lt _ (Nat.pow_pos (by decide))
    rcases Nat.lt_trichotomy (n / 256 ^ k % 256) (m / 256 ^ k % 256) with g | g | g
    · exact D.head _ _ (lt_of _ _ g)
    · rw [eq_of _ _ g]
      refine D.pre [_] (bn_D k n m ?_)
      rw [g] at h
      omega
    · exfalso
      have h3 : 256 ^ k * (m / 256 ^ k % 256 + 1) ≤ 256 ^ k * (n / 256 ^ k % 256) := Nat.mul_le_mul_left _ g
      rw [Nat.mul_add] at h3
      generalize 256 ^ k * (n / 256 ^ k % 256) = A at *
      generalize 256 ^ k * (m / 256 ^ k % 256) = B at *
      generalize 256 ^ k = C at *
      omega

/-- What stands for a byte, for bytes, and with the ending. -/
def pc (x : UInt8) : List UInt8 := if x = 0 then [0, 255] else [x]
def es : List UInt8 → List UInt8
  | [] => []
  | x :: l => pc x ++ es l
def esc (s : List UInt8) : List UInt8 := es s ++ [0, 0]

theorem pc_0 : pc 0 = [0, 255] := rfl
theorem pc_n {x : UInt8} (h : x ≠ 0) : pc x = [x] := by unfold pc; rw [if_neg h]
theorem pc_len (x : UInt8) : (pc x).length ≤ 2 := by unfold pc; split <;> simp
theorem es_append (s t : List UInt8) : es (s ++ t) = es s ++ es t := by
  induction s with
  | nil => rfl
  | cons x s ih => simp [es, ih]
theorem es_len (s : List UInt8) : (es s).length ≤ 2 * s.length := by
  induction s with
  | nil => simp [es]
  | cons x s ih => have := pc_len x; simp [es]; omega

theorem pos_of {x : UInt8} (h : x ≠ 0) : (0 : UInt8) < x := by
  rw [UInt8.lt_iff_toNat_lt]
  have : x.toNat ≠ 0 := fun e => h (UInt8.toNat_inj.1 e)
  show 0 < x.toNat
  omega

theorem esc_D : ∀ (s t : List UInt8), s < t → D (esc s) (esc t)
  | [], [], h => absurd h (List.lt_irrefl _)
  | _ :: _, [], h => absurd h (List.not_lt_nil _)
  | [], y :: t, _ => by
    by_cases hy : y = 0
    · subst hy
      exact D.pre [0] (D.head (a := 0) (b := 255) [] (es t ++ [0, 0]) (by decide))
    · unfold esc; rw [es, es, pc_n hy]
      exact D.head (a := 0) (b := y) [0] (es t ++ [0, 0]) (pos_of hy)
  | x :: s, y :: t, h => by
    rcases List.cons_lt_cons_iff.1 h with g | ⟨rfl, g⟩
    · have hy : y ≠ 0 := fun e => by subst e; exact absurd g (by rw [UInt8.lt_iff_toNat_lt]; exact Nat.not_lt_zero _)
      unfold esc; rw [es, es, pc_n hy]
      by_cases hx : x = 0
      · subst hx
        exact D.head (a := 0) (b := y) (255 :: es s ++ [0, 0]) (es t ++ [0, 0]) g
      · rw [pc_n hx]
        exact D.head (a := x) (b := y) (es s ++ [0, 0]) (es t ++ [0, 0]) g
    · have := D.pre (pc x) (esc_D s t g)
      unfold esc at *
      simpa [es] using this

/-- What stands escaped: the bytes; what is behind; the error. -/
def cons (x : UInt8) (r : List UInt8 × List UInt8 × Int) : List UInt8 × List UInt8 × Int := if r.2.2 = 0 then (x :: r.1, r.2.1, 0) else ([], [], r.2.2)
def un : List UInt8 → List UInt8 × List UInt8 × Int
  | [] => ([], [], 3)
  | [_] => ([], [], 3)
  | x :: y :: l => if x = 0 then (if y = 0 then ([], l, 0) else if y = 255 then cons 0 (un l) else ([], [], 4)) else cons x (un (y :: l))

theorem un_n {x : UInt8} (l : List UInt8) (h : x ≠ 0) : un (x :: l) = cons x (un l) := by
  cases l with
  | nil => simp [un, cons]
  | cons y l => rw [un, if_neg h]
theorem un_00 (l : List UInt8) : un (0 :: 0 :: l) = ([], l, 0) := by rw [un, if_pos rfl, if_pos rfl]
theorem un_0f (l : List UInt8) : un (0 :: 255 :: l) = cons 0 (un l) := by rw [un, if_pos rfl, if_neg (by decide), if_pos rfl]
theorem un_0x {y : UInt8} (l : List UInt8) (h : y ≠ 0) (g : y ≠ 255) : un (0 :: y :: l) = ([], [], 4) := by rw [un, if_pos rfl, if_neg h, if_neg g]
theorem un_0 (x : UInt8) : un [x] = ([], [], 3) := rfl

/-- What has come, ahead of what is still to come. -/
def pre (d : List UInt8) (r : List UInt8 × List UInt8 × Int) : List UInt8 × List UInt8 × Int := if r.2.2 = 0 then (d ++ r.1, r.2.1, 0) else ([], [], r.2.2)
theorem pre_cons (d : List UInt8) (x : UInt8) (r : List UInt8 × List UInt8 × Int) : pre d (cons x r) = pre (d ++ [x]) r := by
  unfold pre cons
  by_cases h : r.2.2 = 0
  · simp [h]
  · simp [h]
theorem un_fine : ∀ (l : List UInt8), ((un l).2.2 = 0 ∧ (un l).2.1.length < l.length ∧ (un l).1.length < l.length) ∨ ((un l).1 = [] ∧ (un l).2.1 = [] ∧ ((un l).2.2 = 3 ∨ (un l).2.2 = 4))
  | [] => by simp [un]
  | [_] => by simp [un]
  | x :: y :: l => by
    have h1 := un_fine l
    have h2 := un_fine (y :: l)
    by_cases hx : x = 0
    · subst hx
      by_cases hy : y = 0
      · subst hy; rw [un_00]; simp; omega
      · by_cases hf : y = 255
        · subst hf
          rw [un_0f]
          unfold cons
          rcases h1 with ⟨e, h3, h4⟩ | ⟨e1, e2, e3⟩
          · rw [if_pos e]; simp; omega
          · rw [if_neg (by omega)]; simp; omega
        · rw [un_0x l hy hf]; simp
    · rw [un_n _ hx]
      unfold cons
      rcases h2 with ⟨e, h3, h4⟩ | ⟨e1, e2, e3⟩
      · rw [if_pos e]; simp at *; omega
      · rw [if_neg (by omega)]; simp; omega
theorem pre_nil (l : List UInt8) : pre [] (un l) = un l := by
  unfold pre
  rcases un_fine l with ⟨e, _⟩ | ⟨e1, e2, e3⟩
  · rw [if_pos e]; simp [← e]
  · rw [if_neg (by omega)]
    exact Prod.ext e1.symm (Prod.ext e2.symm rfl)

theorem un_esc (s b : List UInt8) : un (esc s ++ b) = (s, b, 0) := by
  induction s with
  | nil => exact un_00 b
  | cons x s ih =>
    unfold esc at *
    by_cases hx : x = 0
    · subst hx
      have : un (es (0 :: s) ++ [0, 0] ++ b) = cons 0 (un (es s ++ [0, 0] ++ b)) := un_0f _
      rw [this, ih]; rfl
    · have : un (es (x :: s) ++ [0, 0] ++ b) = cons x (un (es s ++ [0, 0] ++ b)) := by
        rw [es, pc_n hx]; exact un_n _ hx
      rw [this, ih]; rfl

theorem un_short : ∀ (s : List UInt8) (i : Nat), i < (esc s).length → un ((esc s).take i) = ([], [], 3)
  | [], i, h => by
    have : i = 0 ∨ i = 1 := by simp [esc, es] at h; omega
    rcases this with rfl | rfl <;> rfl
  | x :: s, i, h => by
    by_cases hx : x = 0
    · subst hx
      match i, h with
      | 0, _ => rfl
      | 1, _ => rfl
      | i + 2, h =>
        have h' : i < (esc s).length := by simp [esc, es, pc] at h ⊢; omega
        have e : (esc (0 :: s)).take (i + 2) = 0 :: 255 :: (esc s).take i := by simp [esc, es, pc]
        rw [e, un_0f, un_short s i h']; rfl
    · match i, h with
      | 0, _ => rfl
      | i + 1, h =>
        have h' : i < (esc s).length := by simp [esc, es, pc_n hx] at h ⊢; omega
        have e : (esc (x :: s)).take (i + 1) = x :: (esc s).take i := by simp [esc, es, pc_n hx]
        rw [e, un_n _ hx, un_short s i h']; rfl

/-- The least text above all that begin so. -/
def af : List UInt8 → List UInt8
  | [] => []
  | x :: l => if af l = [] then (if x = 255 then [] else [x + 1]) else x :: af l

theorem af_snoc_ff (p : List UInt8) : af (p ++ [255]) = af p := by
  induction p with
  | nil => rfl
  | cons x p ih => rw [List.cons_append, af, ih, af]
theorem af_snoc (p : List UInt8) {c : UInt8} (h : c ≠ 255) : af (p ++ [c]) = p ++ [c + 1] := by
  induction p with
  | nil => rw [List.nil_append, af, af, if_pos rfl, if_neg h]; rfl
  | cons x p ih => rw [List.cons_append, af, ih, if_neg (by simp)]; rfl
theorem af_nil : ∀ (l m : List UInt8), af l = [] → (l <+: m ↔ ¬ m < l)
  | [], m, _ => by simp
  | x :: l, m, h => by
    have hl : af l = [] := by rw [af] at h; split at h <;> simp_all
    have hx : x = 255 := by rw [af, if_pos hl] at h; split at h <;> simp_all
    subst hx
    cases m with
    | nil => simp
    | cons y m =>
      rw [List.cons_prefix_cons, af_nil l m hl, List.cons_lt_cons_iff]
      have hy : ¬ (255 : UInt8) < y := by rw [UInt8.lt_iff_toNat_lt]; have := y.toNat_lt; show ¬ 255 < y.toNat; omega
      constructor
      · rintro ⟨rfl, h1⟩ (h2 | ⟨_, h2⟩)
        · exact hy h2
        · exact h1 h2
      · intro h1
        have e : y = 255 := by
          apply UInt8.toNat_inj.1
          have h2 : ¬ y < 255 := fun e => h1 (.inl e)
          rw [UInt8.lt_iff_toNat_lt] at h2 hy
          have e1 : (255 : UInt8).toNat = 255 := rfl
          omega
        exact ⟨e.symm, fun e2 => h1 (.inr ⟨e, e2⟩)⟩
theorem af_begins : ∀ (s t : List UInt8), af s ≠ [] → (s <+: t ↔ ¬ t < s ∧ t < af s)
  | [], t, h => absurd rfl h
  | x :: l, t, h => by
    cases t with
    | nil => simp
    | cons y m =>
      by_cases hl : af l = []
      · have hx : x ≠ 255 := fun e => h (by rw [af, if_pos hl, if_pos e])
        have hxl : x.toNat < 255 := by
          have := x.toNat_lt
          have : x.toNat ≠ 255 := fun e => hx (UInt8.toNat_inj.1 e)
          omega
        have hx1 : (x + 1).toNat = x.toNat + 1 := by rw [UInt8.toNat_add]; show (x.toNat + 1) % 256 = _; omega
        rw [af, if_pos hl, if_neg hx, List.cons_prefix_cons, af_nil l m hl, List.cons_lt_cons_iff, List.cons_lt_cons_iff]
        simp only [UInt8.lt_iff_toNat_lt, hx1, List.not_lt_nil, and_false, or_false]
        constructor
        · rintro ⟨rfl, h1⟩
          exact ⟨fun h2 => h2.elim (fun e => Nat.lt_irrefl _ e) (fun e => h1 e.2), by omega⟩
        · rintro ⟨h1, h2⟩
          have e : x = y := by
            apply UInt8.toNat_inj.1
            have : ¬ y.toNat < x.toNat := fun e => h1 (.inl e)
            omega
          exact ⟨e, fun e2 => h1 (.inr ⟨e.symm, e2⟩)⟩
      · rw [af, if_neg hl, List.cons_prefix_cons, af_begins l m hl, List.cons_lt_cons_iff, List.cons_lt_cons_iff]
        simp only [UInt8.lt_iff_toNat_lt]
        constructor
        · rintro ⟨rfl, h1, h2⟩
          exact ⟨fun h3 => h3.elim (fun e => Nat.lt_irrefl _ e) (fun e => h1 e.2), .inr ⟨rfl, h2⟩⟩
        · rintro ⟨h1, h2⟩
          have e : x = y := by
            apply UInt8.toNat_inj.1
            have h3 : ¬ y.toNat < x.toNat := fun e => h1 (.inl e)
            rcases h2 with h2 | ⟨h2, _⟩
            · omega
            · rw [h2]
          subst e
          exact ⟨rfl, fun e2 => h1 (.inr ⟨rfl, e2⟩), h2.elim (fun e => absurd e (Nat.lt_irrefl _)) (fun e => e.2)⟩

end Go.Proofs.YtibopeefhogfcaaGreatDoor.Kc
