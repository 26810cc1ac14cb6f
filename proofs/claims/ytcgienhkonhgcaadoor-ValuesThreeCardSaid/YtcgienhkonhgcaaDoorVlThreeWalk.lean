/-
  Law ValuesThree's walk: the call returns true, and writes nothing that was there. Condition: the table of names holds what its initialiser lays.
-/
import Derived.Test.YtcgienhkonhgcaaDoorVlThreeBad
import Derived.Test.YtcgienhkonhgcaaDoorVlThreeL2
import Derived.Test.YtcgienhkonhgcaaDoorVlThreeL3
import Derived.Test.YtcgienhkonhgcaaDoorVlThreeLo
import Derived.Test.YtcgienhkonhgcaaDoorVlThreeS2
import Derived.Test.YtcgienhkonhgcaaDoorVlThreeS3
import Derived.Test.YtcgienhkonhgcaaDoorVlThreeSo
import Derived.Test.YtcgienhkonhgcaaDoorVlThreeG2
import Derived.Test.YtcgienhkonhgcaaDoorVlThreeG3
import Derived.Test.YtcgienhkonhgcaaDoorVlThreeGo
namespace Go.Proofs.YtcgienhkonhgcaaDoor
open Go.RowKit

theorem valuesThree_list (k n b : Int) (s : List UInt8) (k' n' b' : Int) (s' : List UInt8) (k'' n'' b'' : Int) (s'' : List UInt8) (w : World) (hB : Rl.U b) (hB' : Rl.U b') (hB'' : Rl.U b'') (hT : Tab w) :
    Calls Tryd.prog 6 #[.agg #[.int .i64 k, .int .i64 n, .int .u64 b, .string ⟨(s : List UInt8).toArray⟩], .agg #[.int .i64 k', .int .i64 n', .int .u64 b', .string ⟨(s' : List UInt8).toArray⟩], .agg #[.int .i64 k'', .int .i64 n'', .int .u64 b'', .string ⟨(s'' : List UInt8).toArray⟩]] w fun e w' => e = .returned (.bool true) ∧ Below w.heap.size w w' := by
  by_cases h0 : Vl.ck k n b s = 0
  · by_cases h1 : Vl.ck k' n' b' s' = 0
    · by_cases h2 : Vl.ck k'' n'' b'' s'' = 0
      · by_cases k2 : k = 2
        · subst k2
          rcases Vl.vc_range 2 n b s k' n' b' s' with hx | hx | hx
          · by_cases hy : 0 < Vl.vc k' n' b' s' k'' n'' b'' s''
            · exact three_l2p n b s k' n' b' s' k'' n'' b'' s'' w hB hB' hB'' h0 h1 h2 hx hy hT
            · exact three_l2n n b s k' n' b' s' k'' n'' b'' s'' w hB hB' hB'' h0 h1 h2 hx (by omega) hT
          · by_cases hy : 0 < Vl.vc k' n' b' s' k'' n'' b'' s''
            · exact three_s2p n b s k' n' b' s' k'' n'' b'' s'' w hB hB' hB'' h0 h1 h2 hx hy hT
            · exact three_s2n n b s k' n' b' s' k'' n'' b'' s'' w hB hB' hB'' h0 h1 h2 hx (by omega) hT
          · exact three_g2 n b s k' n' b' s' k'' n'' b'' s'' w hB hB' hB'' h0 h1 h2 hx hT
        by_cases k3 : k = 3
        · subst k3
          rcases Vl.vc_range 3 n b s k' n' b' s' with hx | hx | hx
          · by_cases hy : 0 < Vl.vc k' n' b' s' k'' n'' b'' s''
            · exact three_l3p n b s k' n' b' s' k'' n'' b'' s'' w hB hB' hB'' h0 h1 h2 hx hy hT
            · exact three_l3n n b s k' n' b' s' k'' n'' b'' s'' w hB hB' hB'' h0 h1 h2 hx (by omega) hT
          · by_cases hy : 0 < Vl.vc k' n' b' s' k'' n'' b'' s''
            · exact three_s3p n b s k' n' b' s' k'' n'' b'' s'' w hB hB' hB'' h0 h1 h2 hx hy hT
            · exact three_s3n n b s k' n' b' s' k'' n'' b'' s'' w hB hB' hB'' h0 h1 h2 hx (by omega) hT
          · exact three_g3 n b s k' n' b' s' k'' n'' b'' s'' w hB hB' hB'' h0 h1 h2 hx hT
        rcases Vl.vc_range k n b s k' n' b' s' with hx | hx | hx
        · by_cases hy : 0 < Vl.vc k' n' b' s' k'' n'' b'' s''
          · exact three_lop k n b s k' n' b' s' k'' n'' b'' s'' w hB hB' hB'' h0 h1 h2 hx k2 k3 hy hT
          · exact three_lon k n b s k' n' b' s' k'' n'' b'' s'' w hB hB' hB'' h0 h1 h2 hx k2 k3 (by omega) hT
        · by_cases hy : 0 < Vl.vc k' n' b' s' k'' n'' b'' s''
          · exact three_sop k n b s k' n' b' s' k'' n'' b'' s'' w hB hB' hB'' h0 h1 h2 hx k2 k3 hy hT
          · exact three_son k n b s k' n' b' s' k'' n'' b'' s'' w hB hB' hB'' h0 h1 h2 hx k2 k3 (by omega) hT
        · exact three_go k n b s k' n' b' s' k'' n'' b'' s'' w hB hB' hB'' h0 h1 h2 hx k2 k3 hT
      · exact three_bad2 k n b s k' n' b' s' k'' n'' b'' s'' w hB hB' hB'' h0 h1 h2 hT
    · exact three_bad1 k n b s k' n' b' s' k'' n'' b'' s'' w hB hB' hB'' h0 h1 hT
  · exact three_bad0 k n b s k' n' b' s' k'' n'' b'' s'' w hB hB' hB'' h0 hT

end Go.Proofs.YtcgienhkonhgcaaDoor
