/-
  What Runes answers, for every text of at most 2^43 bytes: a row of its own that holds the text's characters.
-/
import Derived.Test.YtcehhphmmcoaaaaUtfCount
namespace Go.Proofs.Ytcehhphmmcoaaaa
open Go.RowKit

theorem Try.infoInt : (Try.prog.info? 3).map (fun i => (i.zero, i.size, i.bytes)) = some (some (.int .i64 0), 1, 8) := by kernel_rfl

theorem rs_step (l m : List UInt8) (done : List Int) (q : Int) (n : Nat) (h : Utf.nx m = (q, (n : Int), 0)) (hc : Utf.rs l = done ++ Utf.rs m) : Utf.rs l = (done ++ [q]) ++ Utf.rs (m.drop n) := by
  rw [hc, Utf.rs_ok m (by rw [h]), h]
  simp

set_option maxHeartbeats 400000 in
theorem runes_any (l : List UInt8) (w : World) (hs : l.length ≤ 8796093022208) :
    Calls Try.prog 16 #[.string ⟨l.toArray⟩] w fun e w' => ∃ v, e = .returned v ∧ w'.ownsRow w.heap.size 3 1 v (Utf.rs l).length ((Utf.rs l).map (Value.int .i64)) ∧ Below w.heap.size w w' := by
  obtain ⟨i0, hi, hz0, hz1, hz2⟩ := info_parts Try.infoInt
  go_enter Try.func16, Try.ntmps16
  go_wp2
  go_loopw [0, 3] (fun s v wr => ∃ (m : List UInt8) (done : List Int), s = .string ⟨m.toArray⟩ ∧ wr.ownsRow w.heap.size 3 1 v done.length (done.map (Value.int .i64)) ∧ Below w.heap.size w wr ∧ Utf.rs l = done ++ Utf.rs m ∧ done.length + m.length ≤ l.length) (fun s _ _ => slen s)
  case atStart => exact ⟨l, [], rfl, World.ownsRow_nil _ _ _ _, Below.refl _ _, rfl, by simp⟩
  case round =>
    obtain ⟨m, done, rfl, hown, hbel, hrs, hlen⟩ := hrel
    have Hrs := Lib.hid hrs
    have Hown := Lib.hid hown
    have Hbel := Lib.hid hbel
    clear hrs hown hbel
    rcases nx_nat m with ⟨q, n, h, h1, h4, hl⟩ | ⟨e, h, he⟩
    · have H := Lib.hid h
      have Hs := Lib.hid (rs_step l m done q n h Hrs.out)
      have Hx := Lib.hid (cut_from m n)
      have hd : (m.drop n).length = m.length - n := List.length_drop
      have Hd := Lib.hid hd
      have hl' : (n : Int) ≤ (m.length : Int) := by omega
      clear h hd
      go_wp2_with fail
      refine (next_is _ _ _ _ _ H.out).mono ?_
      rintro e w' ⟨rfl, rfl⟩
      go_wp2_with (at_builtin; refine wpList_append_own _ rfl _ _ 35 rfl w.heap.size 3 i0 (.int .i64 0) 1 8 Try.underlying35 hi hz0 hz1 hz2 rfl (by decide) _ _ _ rfl (Hown.out.alloc _) ⟨wr.heap.size, 0, none⟩ 1 1 [.int .i64 q] rfl rfl ?c1 ?c2 ?c3 ?c4 ?c5 ?_)
      case c1 =>
        intro j u hj
        match j, hj with
        | 0, hj => simp at hj; subst hj; simp [Addr.add]
      case c2 => intro u hu; simp at hu; subst hu; rfl
      case c3 => unfold maxLen; omega
      case c4 => omega
      case c5 => have := Hbel.out.size; simp; omega
      · intro v' w1 hown' hgrow _
        have Hown' := Lib.hid (show w1.ownsRow w.heap.size 3 1 v' (done ++ [q]).length ((done ++ [q]).map (Value.int .i64)) from by rw [List.length_append, List.map_append]; exact hown')
        have Hb' := Lib.hid ((Hbel.out.alloc Hbel.out.size _).grown hgrow (by have := Hbel.out.size; simp; omega) (fun k hk => (Hown.out.lt k hk).1))
        clear hown' hgrow
        go_wp2_with fail
        go_roundw
        case rel => exact ⟨m.drop n, done ++ [q], congrArg Value.string Hx.out, Hown'.out, Hb'.out, Hs.out, by rw [List.length_append, Hd.out]; simp; omega⟩
        case measure =>
          show ((ByteArray.mk m.toArray).extract n m.length).size < (ByteArray.mk m.toArray).size
          rw [Hx.out]
          show (m.drop n).toArray.size < m.toArray.size
          rw [List.size_toArray, List.size_toArray, Hd.out]
          omega
    · have H := Lib.hid h
      have Hn := Lib.hid (show Utf.rs l = done from by rw [Hrs.out, Utf.rs_no m (by rw [h]; show ¬ e = 0; omega)]; simp)
      have hne : (e != 0) = true := by rw [bne_iff_ne]; omega
      clear h he
      go_wp2_with fail
      refine (next_is _ _ _ _ _ H.out).mono ?_
      rintro e w' ⟨rfl, rfl⟩
      go_wp2
      go_ret
      rw [Hn.out]
      exact ⟨_, rfl, Hown.out, Hbel.out⟩

end Go.Proofs.Ytcehhphmmcoaaaa
