/-
  What different, Unlike and Without answer, the program's (by a set of texts) and the document's; what the document's Texts answers of two slices that hold the same texts. Conditions: the bounds named in each theorem.
-/
import Derived.Test.YtjmkodlmbkjegaaNmFind
import Derived.BigQuiet
import Derived.Deep.QuietTactic
namespace Go.Proofs.Ytjmkodlmbkjegaa
open Go.RowKit Nm Go.Maps

/-! ### the set, as plain mathematics -/
/-- The set of the texts of a list. -/
def St (l : List S) : DataW Unit := setOf (.agg []) (l.map Lit.string)
theorem keys_s (l : List S) : ∀ x ∈ l.map Lit.string, WideAt.IsKeyLit x := by
  intro x hx
  obtain ⟨s, _, rfl⟩ := List.mem_map.1 hx
  trivial
theorem st_nil : St [] = .map [] := rfl
theorem st_next {l : List S} {j : Nat} (hj : j < l.length) : St (l.take (j + 1)) = (St (l.take j)).put (.string l[j]) (.agg []) := by
  unfold St
  rw [List.take_succ_eq_append_getElem hj, List.map_append, List.map_singleton, setOf_snoc]
theorem has_st (l : List S) (s : S) : Maps.has (St l) (.string s) = decide (s ∈ l) := by
  unfold St
  rw [has_setOf _ _ _ (keys_s l)]
  induction l with
  | nil => rfl
  | cons x l ih =>
    rw [List.map_cons, List.any_cons, ih]
    show (x == s || decide (s ∈ l)) = decide (s ∈ x :: l)
    by_cases h : s = x
    · subst h; simp
    · have h' : ¬ x = s := fun g => h g.symm
      simp [h, h']
theorem fold_len : ∀ (xs L : List Lit), (∀ x ∈ xs, WideAt.IsKeyLit x) → L.Nodup → ((xs.foldl addKey L).length ≤ L.length + xs.length) ∧ ((xs.foldl addKey L).length = L.length + xs.length ↔ (L ++ xs).Nodup)
  | [], L, _, h => by simp [h]
  | x :: xs, L, hk, h => by
    rw [List.foldl_cons]
    have hx := hk x (by simp)
    have hk' : ∀ y ∈ xs, WideAt.IsKeyLit y := fun y hy => hk y (by simp [hy])
    have ha : L.any (fun y => y.sameKey x) = true ↔ x ∈ L := by
      rw [List.any_eq_true]
      constructor
      · rintro ⟨y, hy, e⟩; rw [WideAt.sameKey_eq e] at hy; exact hy
      · intro hm; exact ⟨x, hm, WideAt.sameKey_self hx⟩
    by_cases hm : x ∈ L
    · have e : addKey L x = L := by unfold addKey; rw [if_pos (ha.2 hm)]
      rw [e]
      have ih := (fold_len xs L hk' h).1
      refine ⟨by simp; omega, ?_⟩
      constructor
      · intro g; simp at g; omega
      · intro g
        rw [List.nodup_append] at g
        exact absurd rfl (g.2.2 x hm x (by simp))
    · have e : addKey L x = L ++ [x] := by unfold addKey; rw [if_neg (fun g => hm (ha.1 g))]
      rw [e]
      have hL : (L ++ [x]).Nodup := by
        rw [List.nodup_append]
        exact ⟨h, by simp, fun a ga b hb => by obtain rfl := List.mem_singleton.1 hb; rintro rfl; exact hm ga⟩
      have ih := fold_len xs (L ++ [x]) hk' hL
      rw [List.append_assoc, List.singleton_append] at ih
      simp at ih ⊢
      refine ⟨by omega, ?_⟩
      rw [← ih.2]
      omega
theorem nodup_s (l : List S) : (l.map Lit.string).Nodup ↔ l.Nodup := by
  unfold List.Nodup
  rw [List.pairwise_map]
  constructor
  · intro h; exact h.imp (fun g e => g (by rw [e]))
  · intro h; exact h.imp (fun g e => g (Lit.string.inj e))
theorem size_st (l : List S) : ((Maps.size (St l) : Int) == (l.length : Int)) = un l := by
  have e := (fold_len (l.map Lit.string) [] (keys_s l) (by simp)).2
  rw [List.nil_append, nodup_s, ← size_setOf (H := Unit) (.agg []) _ (keys_s l)] at e
  simp at e
  unfold un
  by_cases h : l.Nodup
  · rw [decide_eq_true h]
    have := e.2 h
    unfold St
    simp [this]
  · rw [decide_eq_false h]
    have : ¬ Maps.size (St l) = l.length := fun g => h (e.1 g)
    simp
    omega

/-! ### the set in memory -/
theorem lawS : Keyed Try.prog 9 := string_keyed Try.underlying9
theorem zeroU (w : World) : (zeroValue 37).run Try.prog w = .ok (.agg #[]) w := by kernel_rfl
theorem makeS (n : Int) (w : World) : (Instr.makeMap 35 (some (.int .i64 n))).run Try.prog w = .ok (.map (some w.heap.size)) (w.alloc (.map #[] 0)) := by
  simp [Instr.makeMap, run_underlying Try.underlying35, asInt, go_sem]
theorem keyS (s : S) (h : s.length ≤ 1000000000) : keyOf Try.prog 9 (.string ⟨s.toArray⟩) = some (.string s) :=
  WideMaps.keyOf_string_mk Try.underlying9 (by show s.toArray.size ≤ maxLen; unfold maxLen; simp; omega)
/-- A block that is the set of the texts of a list. -/
def OwM (w : World) (g n : Nat) (l : List S) : Prop := w.ownsMap Try.prog 9 (unitElem (H := Unit)) g n (St l)
theorem OwM.below {w w' : World} {g n B : Nat} {l : List S} (h : OwM w g n l) (hb : Below B w w') (hg : g < B) : OwM w' g n l := by
  obtain ⟨es, clock, e, r⟩ := h
  exact ⟨es, clock, (hb.block g hg).trans e, r⟩
theorem OwM.lt {w : World} {g n : Nat} {l : List S} (h : OwM w g n l) : g < w.heap.size := World.ownsMap.lt h

set_option maxHeartbeats 2000000 in
theorem different_is (l : List S) (ao : Option Addr) (cap : Nat) (w : World) (h : SlS w ao l) (hf : Fw l) :
    Calls Try.prog 21 #[.slice ao l.length cap] w fun e w' => e = .returned (.map (some w.heap.size)) ∧ OwM w' w.heap.size l.length l ∧ Below w.heap.size w w' := by
  have hmm := makeS
  have H := Lib.hid (And.intro h hf)
  clear h hf
  go_enter Try.func21, Try.ntmps21
  go_wp2
  go_loopw [11] (fun i wr => ∃ j : Nat, i = .int .i64 j ∧ j ≤ l.length ∧ OwM wr w.heap.size j (l.take j) ∧ Below w.heap.size w wr) (fun i _ => l.length - (intOf i).toNat)
  case atStart => exact ⟨0, rfl, Nat.zero_le _, World.ownsMap_made _ _ _ _, below1 _ _⟩
  case round =>
    obtain ⟨j, rfl, hj, hO, hb⟩ := hrel
    have J := Lib.hid (And.intro hO hb)
    clear hO hb
    by_cases hlt : j < l.length
    · obtain ⟨a, rfl, h0⟩ := H.out.1.below J.out.2 j l[j] (List.getElem?_eq_getElem hlt)
      have hw : wrap64 ((j : Int) + 1) = (j : Int) + 1 := by have := H.out.2.1; exact wrap_in _ (by omega) (by omega)
      have hj60 := Lib.hid (show j < 60 by have := H.out.2.1; omega)
      obtain ⟨x, hx⟩ : ∃ x, l[j] = x := ⟨_, rfl⟩
      rw [hx] at h0
      have hk := Lib.hid (keyS x (by have := H.out.2.2 _ (List.getElem_mem hlt); rw [hx] at this; omega))
      have N := Lib.hid (st_next hlt)
      rw [hx] at N
      clear hx
      go_wp2_with (first
        | (at_mapUpdate; refine wpList_mapUpdate_own _ rfl _ _ _ 35 rfl 9 37 lawS Try.underlying35 (unitElem (H := Unit)) w.heap.size j _ rfl J.out.1 (by have := hj60.out; unfold maxLen; omega) _ _ _ rfl rfl hk.out _ [] unitElem_mk ?_; intro w1 hown1 hgrow1; have K := Lib.hid (And.intro hown1 (J.out.2.grown hgrow1 J.out.2.size (fun k hk => by cases hk; exact Nat.le_refl _))); clear hown1 hgrow1)
        | go_in)
      go_roundw
      case rel => exact ⟨j + 1, by go_num, hlt, by have := K.out.1; rw [← N.out] at this; exact this, K.out.2⟩
      case measure => rw [hw]; simp [intOf]; omega
    · obtain rfl : j = l.length := by omega
      have hO := J.out.1
      rw [List.take_length] at hO
      have O := Lib.hid hO
      clear hO
      go_wp2
      go_ret
      exact ⟨rfl, O.out, J.out.2⟩

set_option maxHeartbeats 2000000 in
theorem unlike_is (l : List S) (n : Nat) (B : Bool) (ao : Option Addr) (cap : Nat) (w : World) (hn : l.length = n) (h : SlS w ao l) (hf : Fw l) (hB : un l = B) :
    Calls Try.prog 12 #[.slice ao n cap] w fun e w' => e = .returned (.bool B) ∧ Below w.heap.size w w' := by
  subst hn hB
  have H := Lib.hid (And.intro h hf)
  clear h hf
  have Z := Lib.hid (size_st l)
  go_enter Try.func12, Try.ntmps12
  go_wp2_with fail
  refine (different_is l ao cap _ H.out.1 H.out.2).mono ?_
  rintro e w1 ⟨rfl, hO, hb⟩
  have J := Lib.hid (And.intro hO hb)
  clear hO hb
  go_wp2_with (first
    | (at_len; refine wpList_len_own _ rfl _ 35 rfl 9 37 Try.underlying35 (unitElem (H := Unit)) w.heap.size l.length _ rfl J.out.1 ?_)
    | go_in)
  go_ret
  exact ⟨ret_bool Z.out, J.out.2⟩

set_option maxHeartbeats 4000000 in
theorem without_is (l m : List S) (n k : Nat) (ao bo : Option Addr) (ca cb : Nat) (w : World) (hn : l.length = n) (hk : m.length = k) (h : SlS w ao l) (h' : SlS w bo m) (hf : Fw l) (hg : Fw m) :
    Calls Try.prog 15 #[.slice ao n ca, .slice bo k cb] w fun e w' => ∃ po cp, e = .returned (.slice po (wo l m).length cp) ∧ SlS w' po (wo l m) ∧ Below w.heap.size w w' := by
  subst hn hk
  have H := Lib.hid (And.intro h (And.intro h' (And.intro hf hg)))
  clear h h' hf hg
  go_enter Try.func15, Try.ntmps15
  go_wp2_with fail
  refine (different_is m bo cb _ H.out.2.1 H.out.2.2.2).mono ?_
  rintro e w1 ⟨rfl, hO, hb⟩
  have M := Lib.hid (And.intro hO hb)
  clear hO hb
  go_wp2
  go_loopw [6, 15] (fun v i wr => ∃ j : Nat, i = .int .i64 j ∧ j ≤ l.length ∧ OwM wr w.heap.size m.length m ∧ OwS wr (w.heap.size + 1) v (wo (l.take j) m) ∧ Below w.heap.size w wr) (fun _ i _ => l.length - (intOf i).toNat)
  case atStart => exact ⟨0, rfl, Nat.zero_le _, M.out.1, ows_nil _ _, M.out.2⟩
  case round =>
    obtain ⟨j, rfl, hj, hO, hr, hb⟩ := hrel
    have J := Lib.hid (And.intro hO (And.intro hr hb))
    clear hO hr hb
    by_cases hlt : j < l.length
    · obtain ⟨a, rfl, h0⟩ := H.out.1.below J.out.2.2 j l[j] (List.getElem?_eq_getElem hlt)
      have hw : wrap64 ((j : Int) + 1) = (j : Int) + 1 := by have := H.out.2.2.1.1; exact wrap_in _ (by omega) (by omega)
      have hj60 := Lib.hid (show j < 60 by have := H.out.2.2.1.1; omega)
      obtain ⟨x, hx⟩ : ∃ x, l[j] = x := ⟨_, rfl⟩
      rw [hx] at h0
      have hk := Lib.hid (keyS x (by have := H.out.2.2.1.2 _ (List.getElem_mem hlt); rw [hx] at this; omega))
      by_cases hm : x ∈ m
      · have e1 : Maps.has (St m) (.string x) = true := by rw [has_st]; exact decide_eq_true hm
        have N := Lib.hid (wo_in hlt (hx ▸ hm))
        clear hx hm
        go_wp2_with (first
          | (at_lookup; refine wpList_lookup_own_unit _ rfl _ _ 35 rfl 9 37 lawS Try.underlying35 (zeroU _) w.heap.size m.length _ rfl J.out.1 _ _ rfl hk.out ?_)
          | go_in)
        go_roundw
        case rel => exact ⟨j + 1, by go_num, hlt, J.out.1.below (below1 _ _) J.out.1.lt, by rw [N.out]; exact J.out.2.1.keep (below1 _ _), J.out.2.2.alloc J.out.2.2.size _⟩
        case measure => rw [hw]; simp [intOf]; omega
      · have e1 : Maps.has (St m) (.string x) = false := by rw [has_st]; exact decide_eq_false hm
        have N := Lib.hid (wo_out hlt (hx ▸ hm))
        rw [hx] at N
        have L := Lib.hid (wo_len l m j)
        clear hx hm
        go_wp2_with (first
          | (at_lookup; refine wpList_lookup_own_unit _ rfl _ _ 35 rfl 9 37 lawS Try.underlying35 (zeroU _) w.heap.size m.length _ rfl J.out.1 _ _ rfl hk.out ?_)
          | (at_builtin; refine appS rfl _ _ rfl (w.heap.size + 1) u6 (wo (l.take j) m) x _ rfl (J.out.2.1.keep (below1 _ _)) (wr.heap.size + 1) (by simp) rfl (by have := L.out; have := hj60.out; omega) (by have := J.out.1.lt; simp; omega) ?_; intro v' w2 hown' hb'; have K := Lib.hid (And.intro hown' hb'); clear hown' hb')
          | go_in)
        go_roundw
        case rel => exact ⟨j + 1, by go_num, hlt, (J.out.1.below (below1 _ _) J.out.1.lt).below K.out.2 (Nat.lt_succ_self _), by rw [N.out]; exact K.out.1, (J.out.2.2.alloc J.out.2.2.size _).trans (K.out.2.mono (Nat.le_succ _))⟩
        case measure => rw [hw]; simp [intOf]; omega
    · obtain rfl : j = l.length := by omega
      have hO := J.out.2.1
      rw [List.take_length] at hO
      obtain ⟨po, cp, rfl, hs⟩ := hO.sl
      have O := Lib.hid hs
      clear hO hs
      go_wp2
      go_ret
      exact ⟨po, cp, rfl, O.out, J.out.2.2⟩

/-! ### the document's -/
set_option maxHeartbeats 2000000 in
theorem runlike_is (l : List S) (n : Nat) (B : Bool) (ao : Option Addr) (cap : Nat) (w : World) (hn : l.length = n) (h : SlS w ao l) (hf : Fw l) (hB : un l = B) :
    Calls Try.prog 13 #[.slice ao n cap] w fun e w' => e = .returned (.bool B) ∧ w = w' := by
  subst hn hB
  have H := Lib.hid (And.intro h hf)
  clear h hf
  go_enter Try.func13, Try.ntmps13
  go_wp2
  go_loop [3] (fun i => ∃ j : Nat, i = .int .i64 j ∧ j ≤ l.length ∧ (l.take j).Nodup) (fun i => l.length - (intOf i).toNat)
  case atStart => exact ⟨0, rfl, Nat.zero_le _, by simp⟩
  case round =>
    obtain ⟨j, rfl, hj, hn⟩ := hrel
    have J := Lib.hid hn
    clear hn
    by_cases hlt : j < l.length
    · obtain ⟨a, rfl, h0⟩ := H.out.1 j l[j] (List.getElem?_eq_getElem hlt)
      have hw : wrap64 ((j : Int) + 1) = (j : Int) + 1 := by have := H.out.2.1; exact wrap_in _ (by omega) (by omega)
      obtain ⟨F, hF⟩ : ∃ F, fi l l[j] = F := ⟨_, rfl⟩
      obtain ⟨x, hx⟩ : ∃ x, l[j] = x := ⟨_, rfl⟩
      by_cases he : F = (j : Int)
      · have N := Lib.hid (un_next hlt J.out (hF.trans he))
        have e1 : (F != (j : Int)) = false := by simp [he]
        have e2 := beq_t he
        rw [hx] at h0 hF
        have X := Lib.hid hF
        clear hF hx he
        go_wp2_with fail
        refine (rfind_is l x _ F _ cap _ rfl H.out.1 (by have := H.out.2.1; omega) X.out).mono ?_
        rintro e w' ⟨rfl, rfl⟩
        go_wp2
        go_round
        case rel => exact ⟨j + 1, by go_num, hlt, N.out⟩
        case measure => rw [hw]; simp [intOf]; omega
      · have N := Lib.hid (un_stop hlt (by rw [hF]; exact he))
        have e1 := bne_t he
        have e2 := beq_f he
        rw [hx] at h0 hF
        have X := Lib.hid hF
        clear hF hx he
        go_wp2_with fail
        refine (rfind_is l x _ F _ cap _ rfl H.out.1 (by have := H.out.2.1; omega) X.out).mono ?_
        rintro e w' ⟨rfl, rfl⟩
        go_wp2
        go_ret
        exact ⟨ret_bool N.out.symm, rfl⟩
    · obtain rfl : j = l.length := by omega
      have N := Lib.hid (show un l = true from by have := J.out; rw [List.take_length] at this; unfold un; exact decide_eq_true this)
      go_wp2
      go_ret
      exact ⟨ret_bool N.out.symm, rfl⟩

set_option maxHeartbeats 4000000 in
theorem rwithout_is (l m : List S) (n k : Nat) (ao bo : Option Addr) (ca cb : Nat) (w : World) (hn : l.length = n) (hk : m.length = k) (h : SlS w ao l) (h' : SlS w bo m) (hf : Fw l) (hg : Fw m) :
    Calls Try.prog 16 #[.slice ao n ca, .slice bo k cb] w fun e w' => ∃ po cp, e = .returned (.slice po (wo l m).length cp) ∧ SlS w' po (wo l m) ∧ Below w.heap.size w w' := by
  subst hn hk
  have H := Lib.hid (And.intro h (And.intro h' (And.intro hf hg)))
  clear h h' hf hg
  go_enter Try.func16, Try.ntmps16
  go_wp2
  go_loopw [5, 6] (fun v i wr => ∃ j : Nat, i = .int .i64 j ∧ j ≤ l.length ∧ OwS wr w.heap.size v (wo (l.take j) m) ∧ Below w.heap.size w wr) (fun _ i _ => l.length - (intOf i).toNat)
  case atStart => exact ⟨0, rfl, Nat.zero_le _, ows_nil _ _, Below.refl _ _⟩
  case round =>
    obtain ⟨j, rfl, hj, hr, hb⟩ := hrel
    have J := Lib.hid (And.intro hr hb)
    clear hr hb
    by_cases hlt : j < l.length
    · obtain ⟨a, rfl, h0⟩ := H.out.1.below J.out.2 j l[j] (List.getElem?_eq_getElem hlt)
      have hw : wrap64 ((j : Int) + 1) = (j : Int) + 1 := by have := H.out.2.2.1.1; exact wrap_in _ (by omega) (by omega)
      have hj60 := Lib.hid (show j < 60 by have := H.out.2.2.1.1; omega)
      obtain ⟨x, hx⟩ : ∃ x, l[j] = x := ⟨_, rfl⟩
      rw [hx] at h0
      obtain ⟨F, hF⟩ : ∃ F, fi m x = F := ⟨_, rfl⟩
      have X := Lib.hid hF
      have lo := fi_lo m x
      rw [hF] at lo
      clear hF
      by_cases hm : x ∈ m
      · have e1 : decide (F < 0) = false := decide_eq_false (fun g => (lo.1 g) hm)
        have N := Lib.hid (wo_in hlt (hx ▸ hm))
        clear hx hm lo
        go_wp2_with fail
        refine (rfind_is m x _ F _ cb _ rfl (H.out.2.1.below J.out.2) (by have := H.out.2.2.2.1; omega) X.out).mono ?_
        rintro e w' ⟨rfl, rfl⟩
        go_wp2
        go_roundw
        case rel => exact ⟨j + 1, by go_num, hlt, by rw [N.out]; exact J.out.1, J.out.2⟩
        case measure => rw [hw]; simp [intOf]; omega
      · have e1 : decide (F < 0) = true := decide_eq_true (lo.2 hm)
        have N := Lib.hid (wo_out hlt (hx ▸ hm))
        rw [hx] at N
        have L := Lib.hid (wo_len l m j)
        clear hx hm lo
        go_wp2_with fail
        refine (rfind_is m x _ F _ cb _ rfl (H.out.2.1.below J.out.2) (by have := H.out.2.2.2.1; omega) X.out).mono ?_
        rintro e w' ⟨rfl, rfl⟩
        go_wp2_with (first
          | (at_builtin; refine appS rfl _ _ rfl w.heap.size u5 (wo (l.take j) m) x _ rfl J.out.1 wr.heap.size rfl rfl (by have := L.out; have := hj60.out; omega) J.out.2.size ?_; intro v' w2 hown' hb'; have K := Lib.hid (And.intro hown' hb'); clear hown' hb')
          | go_in)
        go_roundw
        case rel => exact ⟨j + 1, by go_num, hlt, by rw [N.out]; exact K.out.1, J.out.2.trans K.out.2⟩
        case measure => rw [hw]; simp [intOf]; omega
    · obtain rfl : j = l.length := by omega
      have hO := J.out.1
      rw [List.take_length] at hO
      obtain ⟨po, cp, rfl, hs⟩ := hO.sl
      have O := Lib.hid hs
      clear hO hs
      go_wp2
      go_ret
      exact ⟨po, cp, rfl, O.out, J.out.2⟩

set_option maxHeartbeats 2000000 in
/-- Two slices that hold the same texts. -/
theorem texts_same (l : List S) (ao bo : Option Addr) (ca cb : Nat) (w : World) (h : SlS w ao l) (h' : SlS w bo l) (hl : l.length ≤ 1000000) :
    Calls Try.prog 14 #[.slice ao l.length ca, .slice bo l.length cb] w fun e w' => e = .returned (.bool true) ∧ Below w.heap.size w w' := by
  have H := Lib.hid (And.intro h (And.intro h' hl))
  clear h h' hl
  generalize hn : l.length = n at *
  have Hn := Lib.hid hn
  clear hn
  go_enter Try.func14, Try.ntmps14
  go_wp2
  go_loopw [5] (fun i wr => ∃ j d : Nat, i = .int .i64 j ∧ j ≤ n ∧ wr = w.drewN d) (fun i _ => n - (intOf i).toNat)
  case atStart => exact ⟨0, 0, rfl, Nat.zero_le _, rfl⟩
  case round =>
    obtain ⟨j, d, rfl, hj, rfl⟩ := hrel
    by_cases hlt : j < n
    · have hlt2 : j < l.length := by rw [Hn.out]; exact hlt
      obtain ⟨a, rfl, c1⟩ := H.out.1 j l[j] (List.getElem?_eq_getElem hlt2)
      obtain ⟨b, rfl, c2⟩ := H.out.2.1 j l[j] (List.getElem?_eq_getElem hlt2)
      have hw : wrap64 ((j : Int) + 1) = (j : Int) + 1 := by have := H.out.2.2; exact wrap_in _ (by omega) (by omega)
      generalize l[j] = x at *
      have hlt' : (j : Int) < (n : Int) := by omega
      clear hlt2
      go_wp2_with fail
      go_quiet (fail)
      go_wp2_with fail
      go_roundw
      case rel => exact ⟨j + 1, _, by go_num, by omega, rfl⟩
      case measure => rw [hw]; simp [intOf]; omega
    · go_wp2
      go_ret
      exact ⟨rfl, below_drewN _ (Below.refl _ _)⟩

end Go.Proofs.Ytjmkodlmbkjegaa
