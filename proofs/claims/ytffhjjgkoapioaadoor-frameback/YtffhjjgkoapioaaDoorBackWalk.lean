import Derived.Test.YtffhjjgkoapioaaDoorFp
import Derived.Test.YtffhjjgkoapioaaDoorFq
namespace Go.Proofs.YtffhjjgkoapioaaDoor
set_option linter.unusedSimpArgs false
set_option linter.unusedVariables false
open Go.RowKit
/-- FrameBack, of whatever arguments. -/
theorem frameBack_walk (t : Int) (v1 v2 : Value) (b z : List Int) (at' : Int) (w : World) (hL : Laid w) (ht : 0 ≤ t ∧ t ≤ 255) (hp1 : PartAt w v1 b) (hp2 : PartAt w v2 z) (hn1 : b.length ≤ 140737488351232) (hn2 : z.length ≤ 140737488351232) (hb : Bytes b) (hz : Bytes z) (ha : 0 ≤ at' ∧ at' ≤ 18446744073709551615) : Calls Tryd.prog 15 #[.int .u8 t, v1, v2, .int .u64 at'] w fun e w' => e = .returned (.bool true) ∧ Below w.heap.size w w' := by
  have p1 := hp1
  have p2 := hp2
  obtain ⟨a1, b1, o1, c1, rfl, _⟩ := hp1
  obtain ⟨a2, b2, o2, c2, rfl, _⟩ := hp2
  by_cases h : 1000 < b.length ∨ 1000 < z.length ∨ t = 0
  · exact back_out t at' a1 a2 _ c1 _ c2 (by omega) (by omega) w hL h
  · exact back_in t at' a1 a2 _ c1 _ c2 b z rfl rfl (by omega) (by omega) (by omega) ha w hL p1 p2 hb hz
end Go.Proofs.YtffhjjgkoapioaaDoor
