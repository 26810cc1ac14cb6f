/-
  The example that each statement ends with: it is true. Condition: the library's variable errors.errorType holds the handle of the type error.
-/
import Derived.Test.YtakpieiafoappaaDoorScRead
import Derived.Test.YtakpieiafoappaaDoorScPut
import Derived.Test.YtakpieiafoappaaDoorScFit
import Derived.Test.YtakpieiafoappaaDoorScSame
namespace Go.Proofs.YtakpieiafoappaaDoor
open Go.RowKit

theorem ok0 : V.ok ⟨0, 0, 0, []⟩ := ⟨u0, by decide, by decide⟩
theorem ok1 : V.ok ⟨2, 1, 0, []⟩ := ⟨u0, by decide, by decide⟩
theorem okP (n : Bool) : ∀ c ∈ (tP n).cs, c.d.ok := by
  intro c hc
  simp [tP] at hc
  rcases hc with rfl | rfl <;> exact ok0
theorem ckP : (tP false).ck = 0 := by decide +kernel
theorem ckN : (tP true).ck = 11 := by decide +kernel
theorem fitP : (tP false).fit [⟨2, 1, 0, []⟩, ⟨0, 0, 0, []⟩] = 0 := by decide +kernel
theorem fitN : (tP false).fit [⟨0, 0, 0, []⟩, ⟨0, 0, 0, []⟩] = 11 := by decide +kernel
theorem keyP : (tP false).fitk [] false = 0 := by decide +kernel
theorem keyN : (tP false).fitk [] true = 11 := by decide +kernel
theorem findP : Nm.fi ((tP false).cs.map C.name) [118] = 1 := by decide +kernel
theorem colN : C.ck ⟨[97], 6, false, ⟨0, 0, 0, []⟩⟩ = 5 := by decide +kernel
theorem smP : T.sm (tP false) (tP false) = true := (T.sm_iff _ _).2 rfl
theorem lenP : ((tP false).key [⟨2, 1, 0, []⟩, ⟨0, 0, 0, []⟩]).length = 9 := by
  unfold T.key
  rw [if_neg (by rw [fitP]; decide)]
  show (rb [(⟨2, 1, 0, []⟩ : V)]).length = 9
  simp [rb, V.pt, pt, pb, Kc.bn_len]
theorem ptP : (tP false).pt = (tP false).by := by unfold T.pt; rw [if_neg (by rw [ckP]; decide)]
theorem readP : rdt ((tP false).by ++ [122]) = (tP false, [122], 0) := rdt_by ckP (okP false) [122]
theorem sl_pair {W : World} {g : Nat} {x y : V} (h : Blk W g #[.int .i64 x.k, .int .i64 x.n, .int .u64 x.b, .string ⟨x.s.toArray⟩, .int .i64 y.k, .int .i64 y.n, .int .u64 y.b, .string ⟨y.s.toArray⟩] 37) : Sl W (some ⟨g, 0, none⟩) [x, y] := by
  intro i c hi
  refine ⟨⟨g, 0, none⟩, rfl, ?_⟩
  match i, hi with
  | 0, hi =>
    obtain rfl : x = c := by simpa using hi
    rw [add_none]
    exact ⟨h.cell 0, h.cell 1, h.cell 2, h.cell 3⟩
  | 1, hi =>
    obtain rfl : y = c := by simpa using hi
    rw [add_none]
    exact ⟨h.cell 4, h.cell 5, h.cell 6, h.cell 7⟩
  | (i + 2), hi => simp at hi
theorem sl_none (W : World) : Sl W none [] := fun i c h => by simp at h

/-- The two tables' boxes in a later world. -/
theorem six {W v : World} {b1 bu g uc : Nat} {uo : Option Addr} (h1 : Blk W b1 #[.string ⟨([116] : List UInt8).toArray⟩, .int .i64 1, .slice (some ⟨g, 0, none⟩) 2 2] 24) (h2 : Blk W bu #[.string ⟨([116] : List UInt8).toArray⟩, .int .i64 1, .slice uo 2 uc] 24) (hb : Below W.heap.size W v) :
    Below W.heap.size W v ∧ v.cell? ⟨b1, 0, none⟩ = some (.string ⟨([116] : List UInt8).toArray⟩) ∧ v.cell? ⟨b1, 1, none⟩ = some (.int .i64 1) ∧ v.cell? ⟨b1, 2, none⟩ = some (.slice (some ⟨g, 0, none⟩) 2 2) ∧
      v.cell? ⟨bu, 0, none⟩ = some (.string ⟨([116] : List UInt8).toArray⟩) ∧ v.cell? ⟨bu, 1, none⟩ = some (.int .i64 1) ∧ v.cell? ⟨bu, 2, none⟩ = some (.slice uo 2 uc) :=
  ⟨hb, (h1.below hb).cell 0, (h1.below hb).cell 1, (h1.below hb).cell 2, (h2.below hb).cell 0, (h2.below hb).cell 1, (h2.below hb).cell 2⟩

theorem readP_is (ss : List UInt8) (w : World) (hg : Env w) (h : (tP false).by = ss) (hl : ss.length ≤ 2000) :
    Calls Tryd.prog 13 #[.string ⟨(ss ++ [122]).toArray⟩] w fun e w' => ∃ uo uc, e = .returned (.tuple #[.agg #[.string ⟨([116] : List UInt8).toArray⟩, .int .i64 1, .slice uo 2 uc], .string ⟨([122] : List UInt8).toArray⟩, .int .i64 0]) ∧ SlC w' uo (tP false).cs ∧ 2 ≤ uc ∧ (∀ a, uo = some a → w.heap.size ≤ a.block) ∧ Below w.heap.size w w' :=
  (read_is (ss ++ [122]) [122] (tP false) 0 w hg (by simp; omega) (by rw [← h]; exact readP)).mono fun e w' ⟨uo, uc, he, h1, h2, h3, h4⟩ => ⟨uo, uc, he, h1, h2, h3, h4⟩

set_option maxHeartbeats 16000000 in
theorem awake_any (w : World) (hg : Env w) : Calls Tryd.prog 6 #[] w fun e w' => e = .returned (.bool true) ∧ Below w.heap.size w w' := by
  have hmx : Tryd.prog.follows .mixedOrders = true := by kernel_rfl
  have E := Lib.hid hg
  clear hg
  go_enter Tryd.func6, Tryd.ntmps6
  go_wp2_with fail
  refine (plain_is _).mono ?_
  rintro e w1 ⟨g, rfl, hbl, hgl, hb⟩
  have t1 := (((Blk.new w1 #[.string ⟨([116] : List UInt8).toArray⟩, .int .i64 1, .slice (some ⟨g, 0, none⟩) 2 2] 24).alloc (.cells #[.int .i64 2, .int .i64 1, .int .u64 0, .string ⟨([] : List UInt8).toArray⟩] 37)).alloc (.cells #[.int .i64 2, .int .i64 1, .int .u64 0, .string ⟨([] : List UInt8).toArray⟩, .int .i64 0, .int .i64 0, .int .u64 0, .string ⟨([] : List UInt8).toArray⟩] 37))
  have k1 := ((hbl.alloc (.cells #[.string ⟨([116] : List UInt8).toArray⟩, .int .i64 1, .slice (some ⟨g, 0, none⟩) 2 2] 24)).alloc (.cells #[.int .i64 2, .int .i64 1, .int .u64 0, .string ⟨([] : List UInt8).toArray⟩] 37)).alloc (.cells #[.int .i64 2, .int .i64 1, .int .u64 0, .string ⟨([] : List UInt8).toArray⟩, .int .i64 0, .int .i64 0, .int .u64 0, .string ⟨([] : List UInt8).toArray⟩] 37)
  have v1 : Blk (((w1.alloc (.cells #[.string ⟨([116] : List UInt8).toArray⟩, .int .i64 1, .slice (some ⟨g, 0, none⟩) 2 2] 24)).alloc (.cells #[.int .i64 2, .int .i64 1, .int .u64 0, .string ⟨([] : List UInt8).toArray⟩] 37)).alloc (.cells #[.int .i64 2, .int .i64 1, .int .u64 0, .string ⟨([] : List UInt8).toArray⟩, .int .i64 0, .int .i64 0, .int .u64 0, .string ⟨([] : List UInt8).toArray⟩] 37)) (w1.heap.size + 1 + 1) #[.int .i64 2, .int .i64 1, .int .u64 0, .string ⟨([] : List UInt8).toArray⟩, .int .i64 0, .int .i64 0, .int .u64 0, .string ⟨([] : List UInt8).toArray⟩] 37 := by have := Blk.new ((w1.alloc (.cells #[.string ⟨([116] : List UInt8).toArray⟩, .int .i64 1, .slice (some ⟨g, 0, none⟩) 2 2] 24)).alloc (.cells #[.int .i64 2, .int .i64 1, .int .u64 0, .string ⟨([] : List UInt8).toArray⟩] 37)) #[.int .i64 2, .int .i64 1, .int .u64 0, .string ⟨([] : List UInt8).toArray⟩, .int .i64 0, .int .i64 0, .int .u64 0, .string ⟨([] : List UInt8).toArray⟩] 37; simpa using this
  have b1 := ((hb.alloc hb.size (.cells #[.string ⟨([116] : List UInt8).toArray⟩, .int .i64 1, .slice (some ⟨g, 0, none⟩) 2 2] 24)).alloc (hb.alloc hb.size (.cells #[.string ⟨([116] : List UInt8).toArray⟩, .int .i64 1, .slice (some ⟨g, 0, none⟩) 2 2] 24)).size (.cells #[.int .i64 2, .int .i64 1, .int .u64 0, .string ⟨([] : List UInt8).toArray⟩] 37))
  have b2 := b1.alloc b1.size (.cells #[.int .i64 2, .int .i64 1, .int .u64 0, .string ⟨([] : List UInt8).toArray⟩, .int .i64 0, .int .i64 0, .int .u64 0, .string ⟨([] : List UInt8).toArray⟩] 37)
  have G := Lib.hid (And.intro hgl (And.intro hbl.lt (And.intro t1 (And.intro k1 (And.intro v1 b2)))))
  clear hbl hgl hb t1 k1 v1 b1 b2
  go_wp2_with fail
  refine (key_t (tP false) [⟨2, 1, 0, []⟩, ⟨0, 0, 0, []⟩] (some ⟨g, 0, none⟩) (some ⟨w1.heap.size + 1 + 1, 0, none⟩) 2 2 _ ⟨slP G.out.2.2.2.1, by decide, okP false⟩ (sl_pair (x := ⟨2, 1, 0, []⟩) (y := ⟨0, 0, 0, []⟩) G.out.2.2.2.2.1) (by decide) (by intro x hx; simp at hx; rcases hx with rfl | rfl; exact ok1; exact ok0) (E.out.keep G.out.2.2.2.2.2) (by decide) 0 fitP).mono ?_
  rintro e w2 ⟨rfl, hb⟩
  have t2 := G.out.2.2.1.below hb
  obtain ⟨c0, c1, c2⟩ := t2.t3
  have K2 := Lib.hid (And.intro t2 (And.intro (G.out.2.2.2.1.below hb) (step0 G.out.2.2.2.2.2 hb)))
  clear hb t2
  obtain ⟨kk, hkk⟩ : ∃ kk, (tP false).key [⟨2, 1, 0, []⟩, ⟨0, 0, 0, []⟩] = kk := ⟨_, rfl⟩
  have hk9 : kk.length = 9 := by rw [← hkk]; exact lenP
  rw [hkk]
  clear hkk
  go_wp2_with fail
  refine (put_t (tP false) (some ⟨g, 0, none⟩) 2 0 _ (E.out.keep K2.out.2.2) ⟨slP K2.out.2.1, by decide, okP false⟩ ckP).mono ?_
  rintro e w3 ⟨rfl, hb⟩
  have t3 := K2.out.1.below hb
  have K3 := Lib.hid (And.intro t3 (And.intro (K2.out.2.1.below hb) (step0 K2.out.2.2 hb)))
  clear hb t3 c0 c1 c2
  rw [ptP]
  obtain ⟨ss, hss⟩ : ∃ ss, (tP false).by = ss := ⟨_, rfl⟩
  have hsl : ss.length ≤ 2000 := by rw [← hss]; exact by_len ckP
  have HS := Lib.hid (And.intro hss hsl)
  have hd : (9223372036854775807 < ss.length + 1) = False := by rw [eq_iff_iff, iff_false]; omega
  have cat := cat_list ss [122]
  rw [hss]
  clear hss hsl
  go_wp2_with fail
  refine (readP_is ss _ (E.out.keep K3.out.2.2) HS.out.1 HS.out.2).mono ?_
  rintro e w5 ⟨uo, uc, rfl, hS, hc, hf, hb⟩
  have t5 := (K3.out.1.below hb).alloc (.cells #[.string ⟨([116] : List UInt8).toArray⟩, .int .i64 1, .slice uo 2 uc] 24)
  have k5 := (K3.out.2.1.below hb).alloc (.cells #[.string ⟨([116] : List UInt8).toArray⟩, .int .i64 1, .slice uo 2 uc] 24)
  have u5 := Blk.new w5 #[.string ⟨([116] : List UInt8).toArray⟩, .int .i64 1, .slice uo 2 uc] 24
  have B5 := (step0 K3.out.2.2 hb).alloc (step0 K3.out.2.2 hb).size (.cells #[.string ⟨([116] : List UInt8).toArray⟩, .int .i64 1, .slice uo 2 uc] 24)
  have g3 : g < w3.heap.size := K3.out.2.1.lt
  have gu : g < w5.heap.size := (K3.out.2.1.below hb).lt
  have tg : w1.heap.size ≠ g := by have := G.out.2.1; omega
  have ug : w5.heap.size ≠ g := by omega
  have fo : ∀ a, uo = some a → a.block ≠ g := fun a ha => by have := hf a ha; omega
  have S5 := hS.below (below1 w5 (.cells #[.string ⟨([116] : List UInt8).toArray⟩, .int .i64 1, .slice uo 2 uc] 24))
  obtain ⟨c0, c1, c2⟩ := t5.t3
  have d2 : (w5.alloc (.cells #[.string ⟨([116] : List UInt8).toArray⟩, .int .i64 1, .slice uo 2 uc] 24)).cell? ⟨g, 2, none⟩ = some (.bool false) := k5.cell 2
  have f2 : (w5.alloc (.cells #[.string ⟨([116] : List UInt8).toArray⟩, .int .i64 1, .slice uo 2 uc] 24)).frozen? ⟨g, 2, none⟩ = false := k5.frozen 2
  have t6 : Blk ((w5.alloc (.cells #[.string ⟨([116] : List UInt8).toArray⟩, .int .i64 1, .slice uo 2 uc] 24)).setCell ⟨g, 2, none⟩ (.bool true)) w1.heap.size #[.string ⟨([116] : List UInt8).toArray⟩, .int .i64 1, .slice (some ⟨g, 0, none⟩) 2 2] 24 := t5.otherAt tg 2 (.bool true)
  have u6 : Blk ((w5.alloc (.cells #[.string ⟨([116] : List UInt8).toArray⟩, .int .i64 1, .slice uo 2 uc] 24)).setCell ⟨g, 2, none⟩ (.bool true)) w5.heap.size #[.string ⟨([116] : List UInt8).toArray⟩, .int .i64 1, .slice uo 2 uc] 24 := u5.otherAt ug 2 (.bool true)
  have k6 : Blk ((w5.alloc (.cells #[.string ⟨([116] : List UInt8).toArray⟩, .int .i64 1, .slice uo 2 uc] 24)).setCell ⟨g, 2, none⟩ (.bool true)) g (rowP true) 39 := k5.setAt 2 (.bool true)
  have B6 := below_set B5 G.out.1 2 (.bool true)
  have S6 := S5.far fo 2 (.bool true)
  have X := Lib.hid (And.intro t6 (And.intro u6 (And.intro k6 (And.intro B6 (And.intro S6 hc)))))
  have TG := Lib.hid (And.intro tg (And.intro ug (And.intro fo (And.intro g3 gu))))
  clear hS hc hf hb t5 k5 u5 B5 g3 gu tg ug fo S5 t6 u6 k6 B6 S6
  have e1 : ((kk.length : Int) == 9) = true := by rw [hk9]; rfl
  go_wp2_with fail
  obtain ⟨W6, hW6⟩ : ∃ W6, (w5.alloc (.cells #[.string ⟨([116] : List UInt8).toArray⟩, .int .i64 1, .slice uo 2 uc] 24)).setCell ⟨g, 2, none⟩ (.bool true) = W6 := ⟨_, rfl⟩
  rw [hW6] at X
  rw [hW6]
  have hW7 := Lib.hid hW6
  clear hW6 c0 c1 c2 d2 f2
  go_region_held3 (fun v => Below W6.heap.size W6 v ∧ v.cell? ⟨w1.heap.size, 0, none⟩ = some (.string ⟨([116] : List UInt8).toArray⟩) ∧ v.cell? ⟨w1.heap.size, 1, none⟩ = some (.int .i64 1) ∧ v.cell? ⟨w1.heap.size, 2, none⟩ = some (.slice (some ⟨g, 0, none⟩) 2 2) ∧ v.cell? ⟨w5.heap.size, 0, none⟩ = some (.string ⟨([116] : List UInt8).toArray⟩) ∧ v.cell? ⟨w5.heap.size, 1, none⟩ = some (.int .i64 1) ∧ v.cell? ⟨w5.heap.size, 2, none⟩ = some (.slice uo 2 uc))
    (first | exact six X.out.1 X.out.2.1 (Below.refl _ _).drew | exact six X.out.1 X.out.2.1 (step0 ‹Below W6.heap.size W6 _ ∧ _›.1 hb) | exact six X.out.1 X.out.2.1 (‹Below W6.heap.size W6 _ ∧ _›.1.alloc ‹Below W6.heap.size W6 _ ∧ _›.1.size _))
    (first
      | (go_at_call 11; refine (plain_is _).mono ?_; rintro e a1 ⟨g2, rfl, hbl2, _, hb⟩)
      | (go_at_call 14; refine (tsame_is (tP false) (tP false) uo (some ⟨g2, 0, none⟩) uc 2 _ (X.out.2.2.2.2.1.below ‹Below W6.heap.size W6 _ ∧ _›.1) (slP hbl2) (by decide) true smP).mono ?_; rintro e a2 ⟨rfl, hb⟩)
      | (go_at_call 15; refine (check_t (tP true) (some ⟨g, 0, none⟩) 2 11 _ (E.out.keep (step0 X.out.2.2.2.1 ‹Below W6.heap.size W6 _ ∧ _›.1)) ⟨slP (X.out.2.2.1.below ‹Below W6.heap.size W6 _ ∧ _›.1), by decide, okP true⟩ ckN).mono ?_; rintro e a3 ⟨rfl, hb⟩)
      | (go_at_call 16; refine (fits_t (tP false) [⟨0, 0, 0, []⟩, ⟨0, 0, 0, []⟩] uo (some ⟨_, 0, none⟩) uc 2 _ ⟨X.out.2.2.2.2.1.below ‹Below W6.heap.size W6 _ ∧ _›.1, X.out.2.2.2.2.2, okP false⟩ (sl_pair (x := ⟨0, 0, 0, []⟩) (y := ⟨0, 0, 0, []⟩) (Blk.new _ _ _)) (by decide) (by intro x hx; simp at hx; rcases hx with rfl; exact ok0) (E.out.keep (step0 X.out.2.2.2.1 ‹Below W6.heap.size W6 _ ∧ _›.1)) 11 fitN).mono ?_; rintro e a4 ⟨rfl, hb⟩)
      | (go_at_call 9; refine (fitsKey_t (tP false) [] uo none uc 0 _ ⟨X.out.2.2.2.2.1.below ‹Below W6.heap.size W6 _ ∧ _›.1, X.out.2.2.2.2.2, okP false⟩ (sl_none _) (by decide) (by intro x hx; cases hx) (E.out.keep (step0 X.out.2.2.2.1 ‹Below W6.heap.size W6 _ ∧ _›.1)) _ _ rfl).mono ?_; rintro e a5 ⟨rfl, hb⟩; first | rw [keyP] | rw [keyN])
      | (go_at_call 17; refine (find_t [116] 1 (tP false).cs [118] uo uc _ (X.out.2.2.2.2.1.below ‹Below W6.heap.size W6 _ ∧ _›.1) (by decide) 1 findP).mono ?_; rintro e a7 ⟨rfl, hb⟩)
      | (go_at_call 18; refine (checkCol_is ⟨[97], 6, false, ⟨0, 0, 0, []⟩⟩ 5 _ (E.out.keep (step0 X.out.2.2.2.1 ‹Below W6.heap.size W6 _ ∧ _›.1)) ok0 colN).mono ?_; rintro e a8 ⟨rfl, hb⟩))
  have Z := Lib.hid (step0 X.out.2.2.2.1 (show Below W6.heap.size W6 a8 from ‹Below W6.heap.size W6 a8 ∧ _›.1))
  go_wp2
  go_ret
  exact ⟨rfl, Z.out⟩

end Go.Proofs.YtakpieiafoappaaDoor
