import Derived.Test.YtjhnnblilfddpaaDoorMd
import Derived.WalkKit
import Derived.WalkSpells
import Derived.WalkLawsBesides
import Derived.BigRegion
import Derived.Deep.MidRow
import Derived.Deep.WholeRow
import Derived.Deep.Light
import Derived.KernelRfl
import Derived.BigQuiet
import Derived.Deep.QuietTactic
import Derived.Deep.OwnRows
import Derived.Deep.RegionHeld3
import Derived.Laws.CopyOwn
import Derived.Laws.BytesArg
import Derived.Lib.Strings
import Derived.Lib.Walk
import Derived.Lib.BufferWrite
import Derived.Lib.UnsafeStr
import Derived.Lib.LazyBuf
import Derived.Lib.ConvBytes
import Derived.Lib.Hide
namespace Go.Proofs.YtjhnnblilfddpaaDoor
set_option linter.unusedSimpArgs false
set_option linter.unusedVariables false
open Go.RowKit
/-- A text's bytes. -/
def nB (s : ByteArray) : List Int := s.data.toList.map (fun x => (x.toNat : Int))
set_option maxRecDepth 100000 in
theorem nB_length (s : ByteArray) : (nB s).length = s.size := by simp [nB]
set_option maxRecDepth 100000 in
theorem str_nB (s : ByteArray) : strOfNums (nB s) = s := by
  have h := Go.Lib.Lz.strOfNums_map s.data.toList
  unfold nB; rw [h]
set_option maxRecDepth 100000 in
theorem nB_str (l : List Int) (h : Bytes l) : nB (strOfNums l) = l := by
  unfold nB; rw [strOfNums_data, List.map_map]
  apply List.ext_getElem
  · simp
  · intro i h1 h2
    have := h l[i] (List.getElem_mem h2)
    simp only [List.getElem_map, Function.comp]
    rw [UInt8.toNat_ofNat']
    omega
set_option maxRecDepth 100000 in
theorem nB_bytes (s : ByteArray) : Bytes (nB s) := fun x hx => by
  unfold nB at hx
  obtain ⟨b, _, rfl⟩ := List.mem_map.1 hx
  have := b.toNat_lt
  omega
set_option maxRecDepth 100000 in
theorem byteCells_nB (s : ByteArray) : Lib.byteCells s.data.toList = (nB s).map (Value.int .u8) := by
  unfold Lib.byteCells nB; rw [List.map_map]; rfl
/-- Where a number may stand. -/
def sizeB (n : Int) : Bool := decide (n = 1 ∨ n = 2 ∨ n = 4 ∨ n = 8)
set_option maxRecDepth 100000 in
set_option maxHeartbeats 400000 in
theorem isSize_any (n : Int) (w : World) : Calls Tryd.prog 69 #[.int .i64 n] w fun e w' => e = .returned (.bool (sizeB n)) ∧ w' = w := by
  by_cases h1 : n = 1
  · subst h1; go_enter Tryd.func69, Tryd.ntmps69; go_wp2; go_ret; exact ⟨rfl, rfl⟩
  by_cases h2 : n = 2
  · subst h2; go_enter Tryd.func69, Tryd.ntmps69; go_wp2; go_ret; exact ⟨rfl, rfl⟩
  by_cases h4 : n = 4
  · subst h4; go_enter Tryd.func69, Tryd.ntmps69; go_wp2; go_ret; exact ⟨rfl, rfl⟩
  by_cases h8 : n = 8
  · subst h8; go_enter Tryd.func69, Tryd.ntmps69; go_wp2; go_ret; exact ⟨rfl, rfl⟩
  go_enter Tryd.func69, Tryd.ntmps69; go_wp2; go_ret
  exact ⟨by unfold sizeB; simp [h1, h2, h4, h8], rfl⟩
end Go.Proofs.YtjhnnblilfddpaaDoor
namespace Go.Proofs.YtjhnnblilfddpaaDoor
set_option linter.unusedSimpArgs false
set_option linter.unusedVariables false
open Go.RowKit
/-- n has no bytes above its lowest k ones. -/
def fitsB (n : Int) (k : Nat) : Bool := decide (n / 2 ^ (8 * k) = 0)
set_option maxRecDepth 100000 in
set_option maxHeartbeats 400000 in
theorem fits_any (n : Int) (k : Nat) (h0 : 0 ≤ n) (h1 : n ≤ 18446744073709551615) (hk : k = 1 ∨ k = 2 ∨ k = 4 ∨ k = 8) (w : World) : Calls Tryd.prog 70 #[.int .u64 n, .int .i64 k] w fun e w' => e = .returned (.bool (fitsB n k)) ∧ w' = w := by
  rcases hk with rfl | rfl | rfl | rfl
  all_goals
    go_enter Tryd.func70, Tryd.ntmps70
    go_wp2
    go_ret
    exact ⟨by unfold fitsB; rfl, rfl⟩
end Go.Proofs.YtjhnnblilfddpaaDoor
