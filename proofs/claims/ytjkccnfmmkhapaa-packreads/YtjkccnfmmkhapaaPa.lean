import Derived.Test.YtjkccnfmmkhapaaRows
import Derived.WalkKit
import Derived.WalkSpells
import Derived.WalkLawsBesides
import Derived.BigRegion
import Derived.Deep.MidRow
import Derived.Deep.WholeRow
import Derived.Deep.Light
import Derived.KernelRfl
import Derived.BigQuiet
import Derived.Deep.QuietTactic
import Derived.Deep.OwnRows
import Derived.Deep.RegionHeld3
import Derived.Laws.CopyOwn
import Derived.Laws.BytesArg
import Derived.Lib.Strings
import Derived.Lib.Walk
import Derived.Lib.BufferWrite
import Derived.Lib.UnsafeStr
import Derived.Lib.LazyBuf
import Derived.Lib.ConvBytes
import Derived.Lib.Hide
namespace Go.Proofs.Ytjkccnfmmkhapaa
set_option linter.unusedSimpArgs false
set_option linter.unusedVariables false
open Go.RowKit
/-- The element at a place. -/
def gi (l : List Int) (i : Nat) : Int := l.getD i 0
/-- A row of bytes, as cells. -/
def vB (l : List Int) : Array Value := (l.map (Value.int .u8)).toArray
theorem vB_size (l : List Int) : (vB l).size = l.length := by simp [vB]
theorem vB_at (l : List Int) (i : Nat) (h : i < l.length) : (vB l)[i]? = some (.int .u8 (gi l i)) := by
  simp [vB, gi, h]
theorem vB_set (l : List Int) (i : Nat) (x : Int) : (vB l).setIfInBounds i (.int .u8 x) = vB (l.set i x) := by
  simp [vB, List.map_set]
def zs (n : Nat) : List Int := List.replicate n 0
theorem zs_length (n : Nat) : (zs n).length = n := by simp [zs]
theorem row_cell {w : World} {g j : Nat} {cs : Array Value} {t : TypeId} {v : Value} (hg : w.heap[g]? = some (.cells cs t)) (h : cs[j]? = some v) : w.cell? ⟨g, j, none⟩ = some v := by
  rw [cell_of_row w g j cs t (0, 0) hg, h]
theorem vB_all (l : List Int) : (vB l).all (·.oneCell') = true := by
  apply all_oneCell_toArray; intro v hv; simp at hv; obtain ⟨x, _, rfl⟩ := hv; rfl
theorem setRow_same {w : World} {g : Nat} {cs cs' : Array Value} {t : TypeId} (hg : w.heap[g]? = some (.cells cs t)) : (w.setRow g cs').heap[g]? = some (.cells cs' t) := setRow_heap w g cs cs' t (0, 0) hg
theorem setRow_far (w : World) (g k : Nat) (cs : Array Value) (h : k ≠ g) : (w.setRow g cs).heap[k]? = w.heap[k]? := setRow_other w g k cs h
theorem below_setRow {B : Nat} {a w : World} (h : Below B a w) {g : Nat} (hp : B ≤ g) (cs : Array Value) : Below B a (w.setRow g cs) :=
  h.trans ⟨rfl, rfl, rfl, by simp, fun k hk => setRow_far _ _ _ _ (by omega)⟩
theorem rangeB {w : World} {b o : Nat} {bs : List Int} (hr : w.rangeAt b o (vB bs).toList) (j : Nat) (hj : j < bs.length) : w.cell? ⟨b, o + j, none⟩ = some (.int .u8 (gi bs j)) :=
  hr j _ (by have := vB_at bs j hj; simpa using this)
theorem madeB (n : Nat) : madeCells #[.int .u8 0] n = vB (zs n) := by
  apply Array.ext_getElem?
  intro i
  simp [madeCells, vB, zs, List.getElem?_replicate]
  by_cases h : i < n
  · simp [h, Nat.mod_one]
  · simp [h]
theorem makeB (n : Nat) (h : n ≤ 281474976710656) (w : World) : (Instr.makeSlice 28 (.int .i64 n) (.int .i64 n)).run Try.prog w = .ok (.slice (some ⟨w.heap.size, 0, none⟩) n n) (w.alloc (.cells (vB (zs n)) 5)) := by
  rw [← madeB]
  exact run_make_row' 28 5 (.int .u8 0) 1 Try.underlying28 (by kernel_rfl) rfl .i64 .i64 n (by omega) (by omega) w
/-- A text's bytes. -/
def nB (s : ByteArray) : List Int := s.data.toList.map (fun x => (x.toNat : Int))
theorem nB_length (s : ByteArray) : (nB s).length = s.size := by simp [nB]
theorem str_nB (s : ByteArray) : strOfNums (nB s) = s := by
  have h := Go.Lib.Lz.strOfNums_map s.data.toList
  unfold nB; rw [h]
def Bytes (l : List Int) : Prop := ∀ x ∈ l, 0 ≤ x ∧ x ≤ 255
theorem nB_str (l : List Int) (h : Bytes l) : nB (strOfNums l) = l := by
  unfold nB; rw [strOfNums_data, List.map_map]
  apply List.ext_getElem
  · simp
  · intro i h1 h2
    have := h l[i] (List.getElem_mem h2)
    simp only [List.getElem_map, Function.comp]
    rw [UInt8.toNat_ofNat']
    omega
theorem nB_bytes (s : ByteArray) : Bytes (nB s) := fun x hx => by
  unfold nB at hx
  obtain ⟨b, _, rfl⟩ := List.mem_map.1 hx
  have := b.toNat_lt
  omega
theorem byteCells_nB (s : ByteArray) : Lib.byteCells s.data.toList = (nB s).map (Value.int .u8) := by
  unfold Lib.byteCells nB; rw [List.map_map]; rfl
/-- Where a number may stand. -/
def sizeB (n : Int) : Bool := decide (n = 1 ∨ n = 2 ∨ n = 4 ∨ n = 8)
set_option maxHeartbeats 400000 in
theorem isSize_any (n : Int) (w : World) : Calls Try.prog 27 #[.int .i64 n] w fun e w' => e = .returned (.bool (sizeB n)) ∧ w' = w := by
  by_cases h1 : n = 1
  · subst h1; go_enter Try.func27, Try.ntmps27; go_wp2; go_ret; exact ⟨rfl, rfl⟩
  by_cases h2 : n = 2
  · subst h2; go_enter Try.func27, Try.ntmps27; go_wp2; go_ret; exact ⟨rfl, rfl⟩
  by_cases h4 : n = 4
  · subst h4; go_enter Try.func27, Try.ntmps27; go_wp2; go_ret; exact ⟨rfl, rfl⟩
  by_cases h8 : n = 8
  · subst h8; go_enter Try.func27, Try.ntmps27; go_wp2; go_ret; exact ⟨rfl, rfl⟩
  go_enter Try.func27, Try.ntmps27; go_wp2; go_ret
  exact ⟨by unfold sizeB; simp [h1, h2, h4, h8], rfl⟩
end Go.Proofs.Ytjkccnfmmkhapaa
