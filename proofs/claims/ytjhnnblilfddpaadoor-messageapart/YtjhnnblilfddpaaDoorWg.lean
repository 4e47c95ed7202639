import Derived.Test.YtjhnnblilfddpaaDoorWy
import Derived.Test.YtjhnnblilfddpaaDoorSpeb
import Derived.Deep.RegionHeld3
import Derived.Laws.CopyOwn
namespace Go.Proofs.YtjhnnblilfddpaaDoor
set_option linter.unusedSimpArgs false
set_option linter.unusedVariables false
open Go.RowKit
/-- A Hash's cells: eight words, a block, the length. -/
def hObj (ws bl : List Int) (n : Nat) : Array Value := vW ws ++ vB bl ++ #[.int .i64 n]
theorem hObj_size (ws bl : List Int) (n : Nat) (hw : ws.length = 8) (hb : bl.length = 64) : (hObj ws bl n).size = 73 := by
  simp [hObj, vW_size, vB_size, hw, hb]
theorem hObj_w (ws bl : List Int) (n : Nat) (hw : ws.length = 8) (j : Nat) (hj : j < 8) : (hObj ws bl n)[j]? = some (.int .u32 (gi ws j)) := by
  rw [← vW_at ws j (by omega)]; unfold hObj
  rw [Array.append_assoc, Array.getElem?_append_left (by rw [vW_size]; omega)]
theorem hObj_b (ws bl : List Int) (n : Nat) (hw : ws.length = 8) (hb : bl.length = 64) (j : Nat) (hj : j < 64) : (hObj ws bl n)[8 + j]? = some (.int .u8 (gi bl j)) := by
  rw [← vB_at bl j (by omega)]; unfold hObj
  rw [Array.append_assoc, Array.getElem?_append_right (by rw [vW_size]; omega), Array.getElem?_append_left (by rw [vW_size, vB_size]; omega), vW_size, hw, show 8 + j - 8 = j by omega]
theorem hObj_n (ws bl : List Int) (n : Nat) (hw : ws.length = 8) (hb : bl.length = 64) : (hObj ws bl n)[72]? = some (.int .i64 n) := by
  unfold hObj
  rw [Array.getElem?_append_right (by simp [vW_size, vB_size]; omega)]
  simp [vW_size, vB_size, hw, hb]
theorem setCells_block (g : Nat) (t : TypeId) : ∀ (vs : List Value) (o : Nat) (w : World) (cs : Array Value), w.heap[g]? = some (.cells cs t) → o + vs.length ≤ cs.size →
    (w.setCells g o vs).heap[g]? = some (.cells (cs.toList.take o ++ vs ++ cs.toList.drop (o + vs.length)).toArray t)
  | [], o, w, cs, hg, _ => by simpa [World.setCells] using hg
  | v :: r, o, w, cs, hg, hl => by
    have hl' : o + (r.length + 1) ≤ cs.size := by simpa using hl
    have h1 := heap_setCell_same w g o cs t v hg
    have ih := setCells_block g t r (o + 1) (w.setCell ⟨g, o, none⟩ v) _ h1 (by simp; omega)
    rw [World.setCells, ih]
    have e := list_seg_step cs.toList o v r (by simpa using hl')
    congr 3
    simpa [Array.toList_setIfInBounds] using e
theorem setCells_far (g : Nat) : ∀ (vs : List Value) (o : Nat) (w : World) (k : Nat), k ≠ g → (w.setCells g o vs).heap[k]? = w.heap[k]?
  | [], _, _, _, _ => rfl
  | v :: r, o, w, k, h => by rw [World.setCells, setCells_far g r (o + 1) _ k h, heap_setCell_other _ _ _ _ h]
theorem setCells_size (g : Nat) : ∀ (vs : List Value) (o : Nat) (w : World), (w.setCells g o vs).heap.size = w.heap.size
  | [], _, _ => rfl
  | v :: r, o, w => by rw [World.setCells, setCells_size g r (o + 1)]; simp [World.setCell]
theorem setCells_os (g : Nat) : ∀ (vs : List Value) (o : Nat) (w : World), (w.setCells g o vs).os = w.os ∧ (w.setCells g o vs).tape = w.tape ∧ (w.setCells g o vs).output = w.output
  | [], _, _ => ⟨rfl, rfl, rfl⟩
  | v :: r, o, w => by rw [World.setCells]; exact setCells_os g r (o + 1) _
theorem grown_setCells (w : World) (g o : Nat) (vs : List Value) : w.grownBy (w.setCells g o vs) (some g) :=
  ⟨(setCells_os g vs o w).1, (setCells_os g vs o w).2.1, (setCells_os g vs o w).2.2, by rw [setCells_size]; exact Nat.le_refl _, fun k _ h => setCells_far g vs o w k (fun e => h (by rw [e]))⟩
theorem grown_setCell (w : World) (g o : Nat) (v : Value) : w.grownBy (w.setCell ⟨g, o, none⟩ v) (some g) := grown_setCells w g o [v]
theorem grown_trans {a b c : World} {row : Option Nat} (h : a.grownBy b row) (k : b.grownBy c row) : a.grownBy c row :=
  ⟨k.os.trans h.os, k.tape.trans h.tape, k.output.trans h.output, Nat.le_trans h.size k.size, fun i hi hr => (k.block i (Nat.lt_of_lt_of_le hi h.size) hr).trans (h.block i hi hr)⟩
theorem grown_below {a b : World} (h : Below a.heap.size a b) (row : Option Nat) : a.grownBy b row := ⟨h.os, h.tape, h.output, h.size, fun k hk _ => h.block k hk⟩
theorem grown_drewN {a b : World} {row : Option Nat} (h : a.grownBy b row) (n : Nat) : a.grownBy (b.drewN n) row := ⟨h.os, h.tape, h.output, h.size, h.block⟩
theorem grown_laid {a b : World} {g : Nat} (hL : Laid a) (h : a.grownBy b (some g)) (h2 : 2 ≤ g) : Laid b :=
  ⟨fun i hi => by rw [World.cell?_of_block (w := a) (h.block 0 (by have := hL.two; omega) (by simp; omega))]; exact hL.start i hi,
   fun i hi => by rw [World.cell?_of_block (w := a) (h.block 1 (by have := hL.two; omega) (by simp; omega))]; exact hL.round i hi⟩
theorem hObj_list (ws bl : List Int) (n : Nat) : (hObj ws bl n).toList = ws.map (Value.int .u32) ++ (bl.map (Value.int .u8) ++ [.int .i64 n]) := by
  simp [hObj, vW, vB]
theorem hObj_of_list (ws bl : List Int) (n : Nat) : (ws.map (Value.int .u32) ++ (bl.map (Value.int .u8) ++ [Value.int .i64 n])).toArray = hObj ws bl n := by
  rw [← hObj_list]
section
variable {w : World} {hb : Nat} {ws bl : List Int} {n : Nat}
theorem setWords (hh : w.heap[hb]? = some (.cells (hObj ws bl n) 37)) (hws : ws.length = 8) (ws' : List Int) (h' : ws'.length = 8) : (w.setCells hb 0 (vW ws').toList).heap[hb]? = some (.cells (hObj ws' bl n) 37) := by
  rw [setCells_block hb 37 _ 0 w _ hh (by simp [hObj, vW_size, h', hws]), hObj_list, ← hObj_of_list ws' bl n]
  congr 3
  simp [vW, h', hws]
theorem setBlock (hh : w.heap[hb]? = some (.cells (hObj ws bl n) 37)) (hws : ws.length = 8) (hbl : bl.length = 64) (bl' : List Int) (h' : bl'.length = 64) : (w.setCells hb 8 (vB bl').toList).heap[hb]? = some (.cells (hObj ws bl' n) 37) := by
  rw [setCells_block hb 37 _ 8 w _ hh (by simp [hObj, vW_size, vB_size, h', hws, hbl]), hObj_list, ← hObj_of_list ws bl' n]
  congr 3
  simp [vB, h', hws, hbl, List.take_append, List.drop_append]
theorem setPart (hh : w.heap[hb]? = some (.cells (hObj ws bl n) 37)) (hws : ws.length = 8) (hbl : bl.length = 64) (r : Nat) (x : List Int) (h' : r + x.length ≤ 64) : (w.setCells hb (8 + r) (vB x).toList).heap[hb]? = some (.cells (hObj ws (putAt bl r x) n) 37) := by
  rw [setCells_block hb 37 _ (8 + r) w _ hh (by simp [hObj, vW_size, vB_size, hws, hbl]; omega), hObj_list, ← hObj_of_list ws (putAt bl r x) n]
  congr 3
  have lw : (ws.map (Value.int .u32)).length = 8 := by simp [hws]
  have lb : (bl.map (Value.int .u8)).length = 64 := by simp [hbl]
  have lx : (vB x).toList = x.map (Value.int .u8) := by simp [vB]
  have lxl : (x.map (Value.int .u8)).length = x.length := by simp
  rw [lx, lxl, List.take_append, List.drop_append, lw, List.take_of_length_le (by omega), List.drop_eq_nil_of_le (by omega), List.take_append, List.drop_append, lb,
    show 8 + r - 8 = r by omega, show 8 + r + x.length - 8 = r + x.length by omega, show r - 64 = 0 by omega, show r + x.length - 64 = 0 by omega]
  simp [putAt, List.map_take, List.map_drop]
theorem setLen (hh : w.heap[hb]? = some (.cells (hObj ws bl n) 37)) (hws : ws.length = 8) (hbl : bl.length = 64) (m : Nat) : (w.setCell ⟨hb, 72, none⟩ (.int .i64 m)).heap[hb]? = some (.cells (hObj ws bl m) 37) := by
  rw [show w.setCell ⟨hb, 72, none⟩ (.int .i64 m) = w.setCells hb 72 [.int .i64 m] from rfl]
  rw [setCells_block hb 37 _ 72 w _ hh (by simp [hObj, vW_size, vB_size, hws, hbl]), hObj_list, ← hObj_of_list ws bl m]
  congr 3
  have lw : (ws.map (Value.int .u32)).length = 8 := by simp [hws]
  have lb : (bl.map (Value.int .u8)).length = 64 := by simp [hbl]
  rw [List.take_append, List.drop_append, lw, List.take_of_length_le (by omega), List.drop_eq_nil_of_le (by simp; omega), List.take_append, List.drop_append, lb, List.take_of_length_le (by omega), show List.drop (72 + [Value.int IntKind.i64 (m : Int)].length - 8) (List.map (Value.int IntKind.u8) bl) = [] from List.drop_eq_nil_of_le (by simp; omega)]
  simp
end
end Go.Proofs.YtjhnnblilfddpaaDoor
