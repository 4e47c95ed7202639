import Derived.Test.YtplihbncmmggjaaDoorMx
import Derived.WalkKit
import Derived.WalkSpells
import Derived.WalkLawsBesides
import Derived.BigRegion
import Derived.Deep.MidRow
import Derived.Deep.WholeRow
import Derived.Deep.Light
import Derived.KernelRfl
import Derived.BigQuiet
import Derived.Deep.QuietTactic
import Derived.Deep.OwnRows
import Derived.Deep.RegionHeld3
import Derived.Laws.CopyOwn
import Derived.Laws.BytesArg
import Derived.Lib.Strings
import Derived.Lib.Walk
import Derived.Lib.BufferWrite
import Derived.Lib.UnsafeStr
import Derived.Lib.LazyBuf
import Derived.Lib.ConvBytes
import Derived.Lib.Hide
namespace Go.Proofs.YtplihbncmmggjaaDoor
set_option linter.unusedSimpArgs false
set_option linter.unusedVariables false
open Go.RowKit
/-- A text's bytes. -/
def nB (s : ByteArray) : List Int := s.data.toList.map (fun x => (x.toNat : Int))
set_option maxRecDepth 100000 in
theorem nB_length (s : ByteArray) : (nB s).length = s.size := by simp [nB]
set_option maxRecDepth 100000 in
theorem str_nB (s : ByteArray) : strOfNums (nB s) = s := by
  have h := Go.Lib.Lz.strOfNums_map s.data.toList
  unfold nB; rw [h]
set_option maxRecDepth 100000 in
theorem nB_str (l : List Int) (h : Bytes l) : nB (strOfNums l) = l := by
  unfold nB; rw [strOfNums_data, List.map_map]
  apply List.ext_getElem
  · simp
  · intro i h1 h2
    have := h l[i] (List.getElem_mem h2)
    simp only [List.getElem_map, Function.comp]
    rw [UInt8.toNat_ofNat']
    omega
set_option maxRecDepth 100000 in
theorem nB_bytes (s : ByteArray) : Bytes (nB s) := fun x hx => by
  unfold nB at hx
  obtain ⟨b, _, rfl⟩ := List.mem_map.1 hx
  have := b.toNat_lt
  omega
set_option maxRecDepth 100000 in
theorem byteCells_nB (s : ByteArray) : Lib.byteCells s.data.toList = (nB s).map (Value.int .u8) := by
  unfold Lib.byteCells nB; rw [List.map_map]; rfl
/-- Where a number may stand. -/
def sizeB (n : Int) : Bool := decide (n = 1 ∨ n = 2 ∨ n = 4 ∨ n = 8)
set_option maxRecDepth 100000 in
set_option maxHeartbeats 400000 in
theorem isSize_any (n : Int) (w : World) : Calls Tryd.prog 81 #[.int .i64 n] w fun e w' => e = .returned (.bool (sizeB n)) ∧ w' = w := by
  by_cases h1 : n = 1
  · subst h1; go_enter Tryd.func81, Tryd.ntmps81; go_wp2; go_ret; exact ⟨rfl, rfl⟩
  by_cases h2 : n = 2
  · subst h2; go_enter Tryd.func81, Tryd.ntmps81; go_wp2; go_ret; exact ⟨rfl, rfl⟩
  by_cases h4 : n = 4
  · subst h4; go_enter Tryd.func81, Tryd.ntmps81; go_wp2; go_ret; exact ⟨rfl, rfl⟩
  by_cases h8 : n = 8
  · subst h8; go_enter Tryd.func81, Tryd.ntmps81; go_wp2; go_ret; exact ⟨rfl, rfl⟩
  go_enter Tryd.func81, Tryd.ntmps81; go_wp2; go_ret
  exact ⟨by unfold sizeB; simp [h1, h2, h4, h8], rfl⟩
end Go.Proofs.YtplihbncmmggjaaDoor
namespace Go.Proofs.YtplihbncmmggjaaDoor
set_option linter.unusedSimpArgs false
set_option linter.unusedVariables false
open Go.RowKit
/-- n has no bytes above its lowest k ones. -/
def fitsB (n : Int) (k : Nat) : Bool := decide (n / 2 ^ (8 * k) = 0)
set_option maxRecDepth 100000 in
set_option maxHeartbeats 400000 in
theorem fits_any (n : Int) (k : Nat) (h0 : 0 ≤ n) (h1 : n ≤ 18446744073709551615) (hk : k = 1 ∨ k = 2 ∨ k = 4 ∨ k = 8) (w : World) : Calls Tryd.prog 82 #[.int .u64 n, .int .i64 k] w fun e w' => e = .returned (.bool (fitsB n k)) ∧ w' = w := by
  rcases hk with rfl | rfl | rfl | rfl
  all_goals
    go_enter Tryd.func82, Tryd.ntmps82
    go_wp2
    go_ret
    exact ⟨by unfold fitsB; rfl, rfl⟩
end Go.Proofs.YtplihbncmmggjaaDoor
namespace Go.Proofs.YtplihbncmmggjaaDoor
set_option linter.unusedSimpArgs false
set_option linter.unusedVariables false
open Go.RowKit
set_option maxRecDepth 100000 in
theorem size5 : (Tryd.prog.info? 5).map (·.size) = some 1 := by kernel_rfl
set_option maxRecDepth 100000 in
theorem cells5 : Tryd.prog.cellsOf 5 = 1 := by kernel_rfl
set_option maxHeartbeats 1000000 in
set_option maxRecDepth 100000 in
theorem slClone_any (s : ByteArray) (w : World) (hlim : s.size ≤ 281474976710656) :
    Calls Tryd.prog 102 #[.string s] w fun e w' => e = .returned (.string s) ∧ Below w.heap.size w w' := by
  by_cases h0 : s.size = 0
  · have hs : s = ⟨#[]⟩ := by
      apply ByteArray.ext
      exact Array.eq_empty_of_size_eq_zero h0
    subst hs
    go_enter Tryd.func102, Tryd.ntmps102
    go_wp2
    go_ret
    exact ⟨rfl, Below.refl _ _⟩
  · have hmk := fun W : World => makeB s.size hlim W
    have hcp := Lib.run_copy_row_string (P := Tryd.prog) (w.alloc (.cells (vB (zs s.size)) 5)) 22 9 3 5 w.heap.size 0 s.size s.size s (vB (zs s.size)) 5 Tryd.underlying22 size5 (heap_alloc_new w _) (Nat.le_refl _) (by rw [vB_size, zs_length]; omega)
    obtain ⟨Y, hY⟩ : ∃ Y, Y = ((vB (zs s.size)).toList.take 0 ++ Lib.byteCells s.data.toList ++ (vB (zs s.size)).toList.drop (0 + s.size)).toArray := ⟨_, rfl⟩
    rw [← hY] at hcp
    have hYl : Y.toList = Lib.byteCells s.data.toList := by
      rw [hY, List.toList_toArray, List.take_zero, List.nil_append, List.drop_of_length_le (by rw [Array.length_toList, vB_size, zs_length]; omega), List.append_nil]
    have hYs : Y.size = s.size := by rw [← Array.length_toList, hYl, Lib.byteCells_length, ← Lib.size_eq]
    have hgY : ((w.alloc (.cells (vB (zs s.size)) 5)).setRow w.heap.size Y).heap[w.heap.size]? = some (.cells Y 5 (0, 0)) := setRow_heap _ _ _ _ 5 (0, 0) (heap_alloc_new w _)
    have hne : s.data.toList ≠ [] := fun e => h0 (by rw [Lib.size_eq, e]; rfl)
    have hUS := Lib.run_unsafeString_row (P := Tryd.prog) ((w.alloc (.cells (vB (zs s.size)) 5)).setRow w.heap.size Y) 140 3 9 5 Tryd.underlying140 cells5 w.heap.size Y.size (by unfold World.shape?; rw [hgY]) s.data.toList hne (by rw [← Lib.size_eq]; omega) (by rw [← Lib.size_eq]; omega)
      (fun j x hx => Lib.cells_of_row hgY Y.size j _ (by rw [List.take_of_length_le (by rw [Array.length_toList]; exact Nat.le_refl _), hYl]; simp [Lib.byteCells, hx]))
    rw [← Lib.size_eq] at hUS
    clear hY
    go_enter Tryd.func102, Tryd.ntmps102
    go_wp2
    go_ret
    have hb1 : Below w.heap.size w (w.alloc (.cells (vB (zs s.size)) 5)) := (Below.refl _ w).alloc (Nat.le_refl _) _
    exact ⟨rfl, Lib.below_freeze (below_setRow hb1 (Nat.le_refl _) Y) (p := ⟨w.heap.size, 0, none⟩) (Nat.le_refl _) _⟩
set_option maxRecDepth 100000 in
set_option maxHeartbeats 400000 in
theorem clone_any (s : ByteArray) (w : World) (hlim : s.size ≤ 281474976710656) :
    Calls Tryd.prog 94 #[.string s] w fun e w' => e = .returned (.string s) ∧ Below w.heap.size w w' := by
  go_enter Tryd.func94, Tryd.ntmps94
  go_wp2_with fail
  refine (slClone_any s w hlim).mono ?_
  rintro e w' ⟨rfl, hb⟩
  go_wp2
  go_ret
  exact ⟨rfl, hb⟩
/-- A pointer's place. -/
def pn : Value → Nat
  | .pointer (some a) => a.block + 1
  | _ => 0
/-- Pieces, from the last one back. -/
def ChainAt (w : World) : Value → List (List Int) → Prop
  | v, [] => v = .pointer none
  | v, s :: r => ∃ g b, v = .pointer (some ⟨g, 0, none⟩) ∧ w.heap[g]? = some (.cells #[b, .string (strOfNums s)] 126) ∧ pn b ≤ g ∧ ChainAt w b r
set_option maxRecDepth 100000 in
theorem ChainAt.pn_le {w : World} {v : Value} {ps : List (List Int)} (h : ChainAt w v ps) : pn v ≤ w.heap.size := by
  cases ps with
  | nil => rw [show v = .pointer none from h]; exact Nat.zero_le _
  | cons s r => obtain ⟨g, b, rfl, h2, _⟩ := h; exact (Array.getElem?_eq_some_iff.1 h2).1
set_option maxRecDepth 100000 in
theorem ChainAt.keep {w w' : World} (h : ∀ (k : Nat) (cs : Array Value), w.heap[k]? = some (.cells cs 126) → w'.heap[k]? = some (.cells cs 126)) : ∀ (ps : List (List Int)) (v : Value), ChainAt w v ps → ChainAt w' v ps
  | [], v, hv => hv
  | s :: r, v, ⟨g, b, h1, h2, h4, h3⟩ => ⟨g, b, h1, h _ _ h2, h4, ChainAt.keep h r b h3⟩
/-- A Writer that has written the bytes l; or a bad one. -/
def WSt (w : World) (g : Nat) : Option (List Int) → Prop
  | some l => ∃ v ps, w.heap[g]? = some (.cells #[v, .int .i64 l.length, .bool false] 102) ∧ ChainAt w v ps ∧ ps.reverse.flatten = l ∧ l.length ≤ 140737488355328
  | none => w.heap[g]? = some (.cells #[.pointer none, .int .i64 0, .bool true] 102)
set_option maxRecDepth 100000 in
theorem WSt.keep {w w' : World} {g : Nat} {st : Option (List Int)} (h : WSt w g st) (hg : w'.heap[g]? = w.heap[g]?) (hk : ∀ (k : Nat) (cs : Array Value), w.heap[k]? = some (.cells cs 126) → w'.heap[k]? = some (.cells cs 126)) : WSt w' g st := by
  cases st with
  | none => unfold WSt at *; rw [hg]; exact h
  | some l => obtain ⟨v, ps, h1, h2, h3⟩ := h; exact ⟨v, ps, by rw [hg]; exact h1, ChainAt.keep hk ps v h2, h3⟩
set_option maxRecDepth 100000 in
theorem WSt.below {w w' : World} {g : Nat} {st : Option (List Int)} (h : WSt w g st) (hb : Below w.heap.size w w') : WSt w' g st := by
  have hlt : g < w.heap.size := by
    cases st with
    | none => exact (Array.getElem?_eq_some_iff.1 h).1
    | some l => obtain ⟨v, ps, h1, _⟩ := h; exact (Array.getElem?_eq_some_iff.1 h1).1
  exact h.keep (hb.block g hlt) (fun k cs hk => by rw [hb.block k (Array.getElem?_eq_some_iff.1 hk).1]; exact hk)
set_option maxRecDepth 100000 in
/-- The other writer's turn leaves this one as it was. -/
theorem WSt.grown {w w' : World} {g g' : Nat} {st : Option (List Int)} (h : WSt w g st) {st' : Option (List Int)} (h' : WSt w g' st') (hne : g ≠ g') (hb : w.grownBy w' (some g')) : WSt w' g st := by
  have hlt : g < w.heap.size := by
    cases st with
    | none => exact (Array.getElem?_eq_some_iff.1 h).1
    | some l => obtain ⟨v, ps, h1, _⟩ := h; exact (Array.getElem?_eq_some_iff.1 h1).1
  have ht : ∀ cs : Array Value, w.heap[g']? ≠ some (.cells cs 126) := fun cs hc => by
    cases st' with
    | none => unfold WSt at h'; rw [hc] at h'; injection h' with e; injection e with _ e; cases e
    | some l => obtain ⟨v, ps, h1, _⟩ := h'; rw [hc] at h1; injection h1 with e; injection e with _ e; cases e
  exact h.keep (hb.block g hlt (by simp; omega)) (fun k cs hk => by rw [hb.block k (Array.getElem?_eq_some_iff.1 hk).1 (fun e => ht cs (by injection e with e; subst e; exact hk))]; exact hk)
def badB : Option (List Int) → Bool
  | some _ => false
  | none => true
set_option maxRecDepth 100000 in
set_option maxHeartbeats 400000 in
theorem wBad_nil (w : World) : Calls Tryd.prog 85 #[.pointer none] w fun e w' => e = .returned (.bool true) ∧ w' = w := by
  go_enter Tryd.func85, Tryd.ntmps85; go_wp2; go_ret; exact ⟨rfl, rfl⟩
set_option maxRecDepth 100000 in
set_option maxHeartbeats 400000 in
theorem wBad_any (g : Nat) (st : Option (List Int)) (w : World) (h : WSt w g st) : Calls Tryd.prog 85 #[.pointer (some ⟨g, 0, none⟩)] w fun e w' => e = .returned (.bool (badB st)) ∧ w' = w := by
  have hc : w.cell? ⟨g, 2, none⟩ = some (.bool (badB st)) := by
    cases st with
    | none => exact row_cell h rfl
    | some l => obtain ⟨v, ps, h1, _⟩ := h; exact row_cell h1 rfl
  clear h
  go_enter Tryd.func85, Tryd.ntmps85; go_wp2; go_ret; exact ⟨rfl, rfl⟩
set_option maxRecDepth 100000 in
/-- A function without results, at its end. -/
theorem fell {fn : Func} {R : Ending → World → Prop} {a : Act} {w : World} (hr : fn.results = #[]) (hd : a.defers = []) (hR : R (.returned (.tuple #[])) w) : bodyPost Tryd.prog fn R .normal a w :=
  bodyPost_end (v := .tuple #[]) (by simp [results, hr, go_sem]) hd hR
set_option maxRecDepth 100000 in
theorem fellR {fn : Func} {R : Ending → World → Prop} {a : Act} {w : World} (hr : fn.results = #[]) (hd : a.defers = []) (hR : R (.returned (.tuple #[])) w) : bodyPost Tryd.prog fn R .ret a w :=
  bodyPost_ret (v := .tuple #[]) (by simp [results, hr, go_sem]) hd hR
set_option maxRecDepth 100000 in
set_option maxHeartbeats 400000 in
theorem wFail_nil (w : World) : Calls Tryd.prog 83 #[.pointer none] w fun e w' => e = .returned (.tuple #[]) ∧ w' = w := by
  go_enter Tryd.func83, Tryd.ntmps83; go_wp2
  exact fell Tryd.results83 rfl ⟨rfl, rfl⟩
section
variable {ops : Array Oper} {rest : List Oper} {o : Oper} {a : Act} {w : World} {Q : Exit → Act → World → Prop}
set_option maxRecDepth 100000 in
theorem store27 (hgd : o.guard = none) (x y : Operand) (ho : o.op = .store 102 x y) (g : Nat) (u0 u1 u2 : Value) (hx : a.eval x = .pointer (some ⟨g, 0, none⟩)) (hy : a.eval y = .agg #[u0, u1, u2]) (hone : (#[u0, u1, u2] : Array Value).all (·.oneCell') = true) (v0 v1 v2 : Value) (hg : w.heap[g]? = some (.cells #[v0, v1, v2] 102))
    (h : wpList Tryd.prog ops Q rest (a.put o.dst undef) (w.setRow g #[u0, u1, u2])) : wpList Tryd.prog ops Q (o :: rest) a w :=
  wpList_store_row hgd 102 x y ho g _ hx hy 102 _ hg (by kernel_rfl) rfl hone h
end
set_option maxRecDepth 100000 in
theorem grown_setRow (w : World) (g : Nat) (cs : Array Value) : w.grownBy (w.setRow g cs) (some g) :=
  ⟨rfl, rfl, rfl, by simp, fun k _ h => setRow_far _ _ _ _ (fun e => h (by rw [e]))⟩
set_option maxRecDepth 100000 in
theorem WSt.cells {w : World} {g : Nat} {st : Option (List Int)} (h : WSt w g st) : ∃ v0 v1 v2, w.heap[g]? = some (.cells #[v0, v1, v2] 102) := by
  cases st with
  | none => exact ⟨_, _, _, h⟩
  | some l => obtain ⟨v, ps, h1, _⟩ := h; exact ⟨_, _, _, h1⟩
set_option maxRecDepth 100000 in
set_option maxHeartbeats 400000 in
theorem wFail_any (g : Nat) (st : Option (List Int)) (w : World) (h : WSt w g st) : Calls Tryd.prog 83 #[.pointer (some ⟨g, 0, none⟩)] w fun e w' => e = .returned (.tuple #[]) ∧ WSt w' g none ∧ w.grownBy w' (some g) := by
  obtain ⟨v0, v1, v2, hc⟩ := h.cells
  have hone : (#[.pointer none, .int .i64 0, .bool true] : Array Value).all (·.oneCell') = true := by
    apply all_oneCell_toArray; intro v hv; simp at hv; rcases hv with rfl | rfl | rfl <;> rfl
  go_enter Tryd.func83, Tryd.ntmps83
  go_wp2_with (first | (refine store27 rfl _ _ rfl g (.pointer none) (.int .i64 0) (.bool true) rfl rfl hone v0 v1 v2 hc ?_))
  exact fell Tryd.results83 rfl ⟨rfl, setRow_same hc, grown_setRow _ _ _⟩
end Go.Proofs.YtplihbncmmggjaaDoor
namespace Go.Proofs.YtplihbncmmggjaaDoor
set_option linter.unusedSimpArgs false
set_option linter.unusedVariables false
open Go.RowKit
set_option maxRecDepth 100000 in
set_option maxHeartbeats 400000 in
theorem add_nil (v : Value) (w : World) : Calls Tryd.prog 84 #[.pointer none, v] w fun e w' => e = .returned (.tuple #[]) ∧ w' = w := by
  go_enter Tryd.func84, Tryd.ntmps84
  go_wp2_with fail
  refine (wBad_nil w).mono ?_
  rintro e w' ⟨rfl, rfl⟩
  go_wp2
  exact fellR Tryd.results84 rfl ⟨rfl, rfl⟩
set_option maxRecDepth 100000 in
set_option maxHeartbeats 400000 in
theorem add_bad (g : Nat) (v : Value) (w : World) (h : WSt w g none) : Calls Tryd.prog 84 #[.pointer (some ⟨g, 0, none⟩), v] w fun e w' => e = .returned (.tuple #[]) ∧ w' = w := by
  go_enter Tryd.func84, Tryd.ntmps84
  go_wp2_with fail
  refine (wBad_any g none w h).mono ?_
  rintro e w' ⟨rfl, rfl⟩
  go_wp2
  exact fellR Tryd.results84 rfl ⟨rfl, rfl⟩
set_option maxRecDepth 100000 in
theorem unfrozen {w : World} {g j : Nat} {cs : Array Value} {t : TypeId} (hg : w.heap[g]? = some (.cells cs t)) : w.frozen? ⟨g, j, none⟩ = false := by
  simp [World.frozen?, hg]
set_option maxRecDepth 100000 in
theorem add_end {w w2 : World} {g : Nat} {q : Option Addr} {l s : List Int} {ps : List (List Int)} (h1 : w.heap[g]? = some (.cells #[.pointer q, .int .i64 l.length, .bool false] 102)) (h2 : ChainAt w (.pointer q) ps) (h3 : ps.reverse.flatten = l)
    (b2 : Below w.heap.size w w2) (hn : l.length + s.length ≤ 140737488355328) :
    WSt (((w2.alloc (Obj.cells #[Value.pointer q, Value.string (strOfNums s)] 126)).setCell ⟨g, 0, none⟩ (Value.pointer (some ⟨w2.heap.size, 0, none⟩))).setCell ⟨g, 1, none⟩ (.int .i64 ((l.length : Int) + (s.length : Int)))) g (some (l ++ s)) ∧
      w.grownBy (((w2.alloc (Obj.cells #[Value.pointer q, Value.string (strOfNums s)] 126)).setCell ⟨g, 0, none⟩ (Value.pointer (some ⟨w2.heap.size, 0, none⟩))).setCell ⟨g, 1, none⟩ (.int .i64 ((l.length : Int) + (s.length : Int)))) (some g) := by
  have hlt : g < w.heap.size := (Array.getElem?_eq_some_iff.1 h1).1
  have hs2 := b2.size
  have b3 : Below w.heap.size w (w2.alloc (Obj.cells #[Value.pointer q, Value.string (strOfNums s)] 126)) := b2.alloc b2.size _
  have k3 : (w2.alloc (Obj.cells #[Value.pointer q, Value.string (strOfNums s)] 126)).heap[g]? = some (.cells #[.pointer q, .int .i64 l.length, .bool false] 102) := by rw [b3.block g hlt]; exact h1
  have n3 := heap_alloc_new w2 (Obj.cells #[Value.pointer q, Value.string (strOfNums s)] 126)
  have k4 := heap_setCell_same _ g 0 _ 102 (Value.pointer (some ⟨w2.heap.size, 0, none⟩)) k3
  have k5 := heap_setCell_same _ g 1 _ 102 (Value.int .i64 ((l.length : Int) + (s.length : Int))) k4
  have hgr := grown_trans (grown_trans (grown_below b3 (some g)) (grown_setCell _ g 0 (Value.pointer (some ⟨w2.heap.size, 0, none⟩)))) (grown_setCell _ g 1 (.int .i64 ((l.length : Int) + (s.length : Int))))
  refine ⟨⟨Value.pointer (some ⟨w2.heap.size, 0, none⟩), s :: ps, ?_, ⟨w2.heap.size, .pointer q, rfl, ?_, Nat.le_trans h2.pn_le hs2, ?_⟩, ?_, ?_⟩, hgr⟩
  · rw [k5]; simp
  · have hne : w2.heap.size ≠ g := by omega
    rw [heap_setCell_other _ _ _ _ hne, heap_setCell_other _ _ _ _ hne]; exact n3
  · refine ChainAt.keep (fun k cs hk => ?_) ps _ h2
    rw [hgr.block k (Array.getElem?_eq_some_iff.1 hk).1 (fun e => ?_)]
    · exact hk
    · injection e with e; subst e; rw [h1] at hk; injection hk with e; injection e with _ e; cases e
  · simp [h3]
  · simp; exact hn
set_option maxHeartbeats 1000000 in
set_option maxRecDepth 100000 in
theorem add_good (g : Nat) (l : List Int) (s : List Int) (w : World) (h : WSt w g (some l)) (hn : l.length + s.length ≤ 140737488355328) :
    Calls Tryd.prog 84 #[.pointer (some ⟨g, 0, none⟩), .string (strOfNums s)] w fun e w' => e = .returned (.tuple #[]) ∧ WSt w' g (some (l ++ s)) ∧ w.grownBy w' (some g) := by
  go_enter Tryd.func84, Tryd.ntmps84
  go_wp2_with fail
  refine (wBad_any g (some l) w h).mono ?_
  rintro e w' ⟨rfl, rfl⟩
  obtain ⟨v, ps, h1, h2, h3, h4⟩ := h
  obtain ⟨q, rfl⟩ : ∃ q, v = .pointer q := by
    cases ps with
    | nil => exact ⟨none, h2⟩
    | cons x r => obtain ⟨g', b, e, _⟩ := h2; exact ⟨_, e⟩
  have hz := strOfNums_size s
  have hc0 := row_cell (j := 0) h1 rfl
  have hf0 := unfrozen (j := 0) h1
  have C : Hid (∀ W : World, Below w'.heap.size w' W → Calls Tryd.prog 94 #[.string (strOfNums s)] W fun e w2 => e = .returned (.string (strOfNums s)) ∧ Below w'.heap.size w' w2 ∧ w2.heap[g]? = some (.cells #[.pointer q, .int .i64 l.length, .bool false] 102)) := fun W hW =>
    (clone_any _ W (by omega)).mono fun e w2 ⟨he, hb⟩ => ⟨he, hW.trans (hb.mono hW.size), by rw [(hW.trans (hb.mono hW.size)).block g (Array.getElem?_eq_some_iff.1 h1).1]; exact h1⟩
  have B0 : Hid (Below w'.heap.size w' w') := Below.refl _ _
  have B1 : Hid (Below w'.heap.size w' w'.drew) := (Below.refl _ _).drew
  have H1 : Hid (w'.heap[g]? = some (.cells #[.pointer q, .int .i64 l.length, .bool false] 102)) := h1
  have H2 : Hid (ChainAt w' (.pointer q) ps) := h2
  have H3 : Hid (ps.reverse.flatten = l) := h3
  clear h2 h3 h4 h1
  obtain ⟨S, hS⟩ : ∃ S, S = strOfNums s := ⟨_, rfl⟩
  have HS : Hid (S = strOfNums s) := hS
  rw [← hS] at hz C
  rw [← hS]
  clear hS
  have hi : (l.length : Int) + (S.size : Int) ≤ 9223372036854775807 := by omega
  go_wp2_with fail
  go_region_with (first | (go_at_call 94; refine (C.out _ (by first | exact B0.out | exact B1.out)).mono ?_; rintro e w2 ⟨rfl, b2, k2⟩; have d0 := row_cell (j := 0) k2 rfl; have g0 := unfrozen (j := 0) k2; have k3 : (w2.alloc (Obj.cells #[Value.pointer q, Value.string S] 126)).heap[g]? = some (.cells #[.pointer q, .int .i64 l.length, .bool false] 102) := (by rw [Below.heap_alloc _ _ _ (Array.getElem?_eq_some_iff.1 k2).1]; exact k2); have d1 := row_cell (j := 0) k3 rfl; have g1 := unfrozen (j := 0) k3))
  all_goals
    have k4 := heap_setCell_same _ g 0 _ 102 (Value.pointer (some { block := w2.heap.size, off := 0 })) k3
    have B2 : Hid (Below w'.heap.size w' w2) := b2
    clear k2 d0 g0 d1 g1 k3 b2
    generalize hW : (w2.alloc (Obj.cells #[Value.pointer q, Value.string S] 126)).setCell { block := g, off := 0 } (Value.pointer (some { block := w2.heap.size, off := 0 })) = W at *
    have hWs := hW.symm
    have HW : Hid (W = (w2.alloc (Obj.cells #[Value.pointer q, Value.string S] 126)).setCell { block := g, off := 0 } (Value.pointer (some { block := w2.heap.size, off := 0 }))) := hWs
    clear hW hWs
    have d4 := row_cell (j := 1) (v := .int .i64 l.length) k4 (by rfl)
    have g4 := unfrozen (j := 1) k4
    go_wp2
    refine fell Tryd.results84 rfl ⟨rfl, ?_⟩
    rw [HW.out, HS.out]
    exact add_end H1.out H2.out H3.out B2.out hn
end Go.Proofs.YtplihbncmmggjaaDoor
namespace Go.Proofs.YtplihbncmmggjaaDoor
set_option linter.unusedSimpArgs false
set_option linter.unusedVariables false
open Go.RowKit
/-- n in k bytes, the highest first. -/
def numB (n : Int) (k : Nat) : List Int := (List.range k).map fun i => n / 2 ^ (8 * (k - 1 - i)) % 256
set_option maxRecDepth 100000 in
theorem numB_length (n : Int) (k : Nat) : (numB n k).length = k := by simp [numB]
/-- The row behind i rounds: its last i bytes are those of n. -/
def knumTo (n : Int) (k i : Nat) : List Int := (List.range k).map fun j => if k - 1 - j < i then n / 2 ^ (8 * (k - 1 - j)) % 256 else 0
set_option maxRecDepth 100000 in
theorem knumTo_length (n : Int) (k i : Nat) : (knumTo n k i).length = k := by simp [knumTo]
set_option maxRecDepth 100000 in
theorem knumTo_zero (n : Int) (k : Nat) : knumTo n k 0 = zs k := by
  apply List.ext_getElem
  · simp [knumTo, zs]
  · intro i h1 h2; simp [knumTo, zs]
set_option maxRecDepth 100000 in
theorem knumTo_all (n : Int) (k : Nat) : knumTo n k k = numB n k := by
  apply List.ext_getElem
  · simp [knumTo, numB]
  · intro i h1 h2
    have : i < k := by simpa [knumTo] using h1
    simp only [knumTo, numB, List.getElem_map, List.getElem_range]
    rw [if_pos (by omega)]
set_option maxRecDepth 100000 in
theorem knumTo_set (n : Int) (k i : Nat) (hi : i < k) : (knumTo n k i).set (k - 1 - i) (n / 2 ^ (8 * i) % 256) = knumTo n k (i + 1) := by
  apply List.ext_getElem
  · simp [knumTo]
  · intro j h1 h2
    have hj : j < k := by simpa [knumTo] using h2
    rw [List.getElem_set]
    simp only [knumTo, List.getElem_map, List.getElem_range]
    by_cases e : k - 1 - i = j
    · rw [if_pos e, if_pos (by omega), show k - 1 - j = i by omega]
    · rw [if_neg e]
      by_cases h : k - 1 - j < i
      · rw [if_pos h, if_pos (by omega)]
      · rw [if_neg h, if_neg (by omega)]
set_option maxRecDepth 100000 in
theorem run_conv28 {w : World} {g n cap : Nat} {l : List Int} (hl : l.length = n) (hg : w.rangeAt g 0 (vB l).toList) : (convert 22 9 (.slice (some ⟨g, 0, none⟩) n cap)).run Tryd.prog w = .ok (.string (strOfNums l)) w :=
  run_convert_bytes_arg w 22 5 Tryd.underlying22 Tryd.underlying5 g 0 n cap l hl (fun i hi => rangeB hg i (by omega)) 9 Tryd.underlying9
/-- The state behind a number. -/
def addSt (st : Option (List Int)) (b : Option (List Int)) : Option (List Int) :=
  match st, b with
  | some l, some s => some (l ++ s)
  | _, _ => none
def numSt (n : Int) (k : Int) : Option (List Int) := if sizeB k && fitsB n k.toNat then some (numB n k.toNat) else none
set_option maxHeartbeats 1000000 in
set_option maxRecDepth 100000 in
/-- Number, of a number that fits, down to the add. -/
theorem number_walk (p : Value) (n : Int) (h0 : 0 ≤ n) (h1 : n ≤ 18446744073709551615) (k : Nat) (hk : k = 1 ∨ k = 2 ∨ k = 4 ∨ k = 8) (hf : fitsB n k = true) (w : World) (R : Ending → World → Prop)
    (hadd : ∀ w1 : World, Below w.heap.size w w1 → Calls Tryd.prog 84 #[p, .string (strOfNums (numB n k))] w1 fun e w' => e = .returned (.tuple #[]) ∧ R (.returned (.tuple #[])) w') :
    Calls Tryd.prog 61 #[p, .int .u64 n, .int .i64 k] w R := by
  have hsz : sizeB k = true := by rcases hk with rfl | rfl | rfl | rfl <;> rfl
  have hk8 : k ≤ 8 := by omega
  have hk1 : 1 ≤ k := by omega
  have hmk := fun W : World => makeB k (by omega) W
  have HADD : Hid (∀ w1 : World, Below w.heap.size w w1 → Calls Tryd.prog 84 #[p, .string (strOfNums (numB n k))] w1 fun e w' => e = .returned (.tuple #[]) ∧ R (.returned (.tuple #[])) w') := hadd
  have F : Hid (∀ W : World, Calls Tryd.prog 82 #[.int .u64 n, .int .i64 k] W fun e w' => e = .returned (.bool true) ∧ w' = W) := fun W => by rw [← hf]; exact fits_any n k h0 h1 hk W
  have G : Hid (∀ W : World, Calls Tryd.prog 81 #[.int .i64 k] W fun e w' => e = .returned (.bool true) ∧ w' = W) := fun W => by rw [← hsz]; exact isSize_any k W
  clear hadd hk hf hsz
  go_enter Tryd.func61, Tryd.ntmps61
  go_wp2_with (first | (go_at_call 81; refine (G.out _).mono ?_; rintro e w' ⟨rfl, h'⟩; have h'' := h'.symm; clear h'; subst h'') | (go_at_call 82; refine (F.out _).mono ?_; rintro e w' ⟨rfl, h'⟩; have h'' := h'.symm; clear h'; subst h''))
  go_loopw [23] (fun i wr => ∃ j : Nat, j ≤ k ∧ i = .int .i64 j ∧ wr.heap[w.heap.size]? = some (.cells (vB (knumTo n k j)) 5) ∧ Below w.heap.size w wr) (fun i _ => k - (intOf i).toNat)
  case atStart =>
    exact ⟨0, by omega, rfl, by rw [knumTo_zero]; exact heap_alloc_new _ _, (Below.refl _ _).alloc (Nat.le_refl _) _⟩
  case round =>
    obtain ⟨j, hj, rfl, hg, hb⟩ := hrel
    by_cases hlt : j < k
    · have hlen := knumTo_length n k j
      have hidx : ((k : Int) - 1 - (j : Int)).toNat = k - 1 - j := by omega
      have hc : wr.cell? ⟨w.heap.size, k - 1 - j, none⟩ = some (.int .u8 (gi (knumTo n k j) (k - 1 - j))) := row_cell hg (vB_at _ _ (by omega))
      have hfz := unfrozen (j := k - 1 - j) hg
      have e1 : (k : Int) - 1 - (j : Int) < (k : Int) := by omega
      have e2 : 0 ≤ (k : Int) - 1 - (j : Int) := by omega
      have e3 : (8 * (j : Int)).toNat = 8 * j := by omega
      have e4 : 0 ≤ 8 * (j : Int) := by omega
      go_wp2
      go_roundw
      case rel =>
        refine ⟨j + 1, by omega, by go_num, ?_, ?_⟩
        · rw [heap_setCell_same _ _ _ _ 5 _ hg, vB_set, knumTo_set n k j hlt]
        · exact hb.grown (grown_setCell _ _ _ _) hb.size (fun k hk => by injection hk; omega)
      case measure => simp [intOf]; omega
    · have ej : j = k := by omega
      subst ej
      rw [knumTo_all] at hg
      have hcv := run_conv28 (cap := j) (numB_length n j) (range_of_block hg)
      have HB : Hid (Below w.heap.size w wr) := hb
      clear hg hb
      go_wp2_with fail
      refine (HADD.out _ HB.out).mono ?_
      rintro e w3 ⟨rfl, hR⟩
      go_wp2
      exact fell Tryd.results61 rfl hR
end Go.Proofs.YtplihbncmmggjaaDoor
namespace Go.Proofs.YtplihbncmmggjaaDoor
set_option linter.unusedSimpArgs false
set_option linter.unusedVariables false
open Go.RowKit
def stLen : Option (List Int) → Nat
  | some l => l.length
  | none => 0
set_option maxRecDepth 100000 in
theorem sizeB_cases {k : Int} (h : sizeB k = true) : ∃ m : Nat, k = (m : Int) ∧ (m = 1 ∨ m = 2 ∨ m = 4 ∨ m = 8) := by
  have := of_decide_eq_true h
  exact ⟨k.toNat, by omega, by omega⟩
set_option maxRecDepth 100000 in
theorem isSize_false (k : Int) (h : sizeB k = false) (w : World) : Calls Tryd.prog 81 #[.int .i64 k] w fun e w' => e = .returned (.bool false) ∧ w' = w := by
  rw [← h]; exact isSize_any k w
set_option maxRecDepth 100000 in
set_option maxHeartbeats 400000 in
/-- Number, of what doesn't fit, down to the fail. -/
theorem number_fail (p : Value) (n : Int) (h0 : 0 ≤ n) (h1 : n ≤ 18446744073709551615) (k : Int) (hf : numSt n k = none) (w : World) (R : Ending → World → Prop)
    (hfail : Calls Tryd.prog 83 #[p] w fun e w' => e = .returned (.tuple #[]) ∧ R (.returned (.tuple #[])) w') :
    Calls Tryd.prog 61 #[p, .int .u64 n, .int .i64 k] w R := by
  by_cases hs : sizeB k = true
  · obtain ⟨m, rfl, hm⟩ := sizeB_cases hs
    have hft : fitsB n m = false := by
      cases h : fitsB n m with
      | false => rfl
      | true => unfold numSt at hf; rw [hs, show ((m : Int).toNat) = m by omega, h] at hf; simp at hf
    have F : Hid (∀ W : World, Calls Tryd.prog 82 #[.int .u64 n, .int .i64 m] W fun e w' => e = .returned (.bool false) ∧ w' = W) := fun W => by rw [← hft]; exact fits_any n m h0 h1 hm W
    have G : Hid (∀ W : World, Calls Tryd.prog 81 #[.int .i64 m] W fun e w' => e = .returned (.bool true) ∧ w' = W) := fun W => by rw [← hs]; exact isSize_any m W
    have X : Hid (Calls Tryd.prog 83 #[p] w fun e w' => e = .returned (.tuple #[]) ∧ R (.returned (.tuple #[])) w') := hfail
    clear hfail hm hs hft hf
    go_enter Tryd.func61, Tryd.ntmps61
    go_wp2_with (first | (go_at_call 81; refine (G.out _).mono ?_; rintro e w' ⟨rfl, h'⟩; have h'' := h'.symm; clear h'; subst h'') | (go_at_call 82; refine (F.out _).mono ?_; rintro e w' ⟨rfl, h'⟩; have h'' := h'.symm; clear h'; subst h''))
    refine X.out.mono ?_
    rintro e w3 ⟨rfl, hR⟩
    go_wp2
    exact fellR Tryd.results61 rfl hR
  · have G : Hid (∀ W : World, Calls Tryd.prog 81 #[.int .i64 k] W fun e w' => e = .returned (.bool false) ∧ w' = W) := fun W => isSize_false k (by simpa using hs) W
    have X : Hid (Calls Tryd.prog 83 #[p] w fun e w' => e = .returned (.tuple #[]) ∧ R (.returned (.tuple #[])) w') := hfail
    clear hfail hs hf
    go_enter Tryd.func61, Tryd.ntmps61
    go_wp2_with (first | (go_at_call 81; refine (G.out _).mono ?_; rintro e w' ⟨rfl, h'⟩; have h'' := h'.symm; clear h'; subst h''))
    refine X.out.mono ?_
    rintro e w3 ⟨rfl, hR⟩
    go_wp2
    exact fellR Tryd.results61 rfl hR
set_option maxRecDepth 100000 in
theorem numSt_some {n k : Int} {l : List Int} (h : numSt n k = some l) : ∃ m : Nat, k = (m : Int) ∧ (m = 1 ∨ m = 2 ∨ m = 4 ∨ m = 8) ∧ fitsB n m = true ∧ l = numB n m := by
  unfold numSt at h
  split at h
  · rename_i hc
    simp at hc
    obtain ⟨m, rfl, hm⟩ := sizeB_cases hc.1
    exact ⟨m, rfl, hm, by simpa using hc.2, by simpa using h.symm⟩
  · cases h
set_option maxRecDepth 100000 in
theorem add_any (g : Nat) (st : Option (List Int)) (s : List Int) (w : World) (h : WSt w g st) (hn : stLen st + s.length ≤ 140737488355328) :
    Calls Tryd.prog 84 #[.pointer (some ⟨g, 0, none⟩), .string (strOfNums s)] w fun e w' => e = .returned (.tuple #[]) ∧ WSt w' g (addSt st (some s)) ∧ w.grownBy w' (some g) := by
  cases st with
  | none => exact (add_bad g _ w h).mono fun e w' ⟨h1, h2⟩ => by subst h2; exact ⟨h1, h, World.grownBy.refl _ _⟩
  | some l => exact add_good g l s w h hn
set_option maxRecDepth 100000 in
theorem number_any (g : Nat) (st : Option (List Int)) (n : Int) (h0 : 0 ≤ n) (h1 : n ≤ 18446744073709551615) (k : Int) (w : World) (h : WSt w g st) (hn : stLen st ≤ 100000000) :
    Calls Tryd.prog 61 #[.pointer (some ⟨g, 0, none⟩), .int .u64 n, .int .i64 k] w fun e w' => e = .returned (.tuple #[]) ∧ WSt w' g (addSt st (numSt n k)) ∧ w.grownBy w' (some g) := by
  cases hs : numSt n k with
  | none =>
    refine number_fail _ n h0 h1 k hs w _ ((wFail_any g st w h).mono ?_)
    rintro e w' ⟨rfl, h1, h2⟩
    refine ⟨rfl, rfl, ?_, h2⟩
    cases st <;> exact h1
  | some l =>
    obtain ⟨m, rfl, hm, hf, rfl⟩ := numSt_some hs
    refine number_walk _ n h0 h1 m hm hf w _ (fun w1 hb => (add_any g st _ w1 (h.below hb) (by rw [numB_length]; omega)).mono ?_)
    rintro e w' ⟨rfl, h1, h2⟩
    exact ⟨rfl, rfl, h1, grown_trans (grown_below hb _) h2⟩
set_option maxRecDepth 100000 in
theorem number_nil (n : Int) (h0 : 0 ≤ n) (h1 : n ≤ 18446744073709551615) (k : Int) (w : World) :
    Calls Tryd.prog 61 #[.pointer none, .int .u64 n, .int .i64 k] w fun e w' => e = .returned (.tuple #[]) ∧ Below w.heap.size w w' := by
  cases hs : numSt n k with
  | none =>
    refine number_fail _ n h0 h1 k hs w _ ((wFail_nil w).mono ?_)
    rintro e w' ⟨rfl, rfl⟩
    exact ⟨rfl, rfl, Below.refl _ _⟩
  | some l =>
    obtain ⟨m, rfl, hm, hf, rfl⟩ := numSt_some hs
    refine number_walk _ n h0 h1 m hm hf w _ (fun w1 hb => (add_nil _ w1).mono ?_)
    rintro e w' ⟨rfl, rfl⟩
    exact ⟨rfl, rfl, hb⟩
end Go.Proofs.YtplihbncmmggjaaDoor
namespace Go.Proofs.YtplihbncmmggjaaDoor
set_option linter.unusedSimpArgs false
set_option linter.unusedVariables false
open Go.RowKit
def pb : Value → Option Nat
  | .pointer (some a) => some a.block
  | _ => none
/-- A writer, or none. -/
def Hnd (w : World) (p : Value) (st : Option (List Int)) : Prop := (p = .pointer none ∧ st = none) ∨ ∃ g, p = .pointer (some ⟨g, 0, none⟩) ∧ WSt w g st
set_option maxRecDepth 100000 in
theorem Hnd.below {w w' : World} {p : Value} {st : Option (List Int)} (h : Hnd w p st) (hb : Below w.heap.size w w') : Hnd w' p st := by
  rcases h with h | ⟨g, h1, h2⟩
  · exact Or.inl h
  · exact Or.inr ⟨g, h1, h2.below hb⟩
set_option maxRecDepth 100000 in
theorem addSt_none (b : Option (List Int)) : addSt none b = none := by cases b <;> rfl
set_option maxRecDepth 100000 in
theorem grown_nil {a b : World} (h : Below a.heap.size a b) : a.grownBy b none := ⟨h.os, h.tape, h.output, h.size, fun k hk _ => h.block k hk⟩
/-- What a call on a writer leaves. -/
def Wrote (w : World) (p : Value) (st : Option (List Int)) (e : Ending) (w' : World) : Prop := e = .returned (.tuple #[]) ∧ Hnd w' p st ∧ w.grownBy w' (pb p)
set_option maxRecDepth 100000 in
theorem number_h (p : Value) (st : Option (List Int)) (n : Int) (h0 : 0 ≤ n) (h1 : n ≤ 18446744073709551615) (k : Int) (w : World) (h : Hnd w p st) (hn : stLen st ≤ 100000000) :
    Calls Tryd.prog 61 #[p, .int .u64 n, .int .i64 k] w (Wrote w p (addSt st (numSt n k))) := by
  rcases h with ⟨rfl, rfl⟩ | ⟨g, rfl, h⟩
  · refine (number_nil n h0 h1 k w).mono ?_
    rintro e w' ⟨rfl, hb⟩
    exact ⟨rfl, Or.inl ⟨rfl, addSt_none _⟩, grown_nil hb⟩
  · refine (number_any g st n h0 h1 k w h hn).mono ?_
    rintro e w' ⟨rfl, h1, h2⟩
    exact ⟨rfl, Or.inr ⟨g, rfl, h1⟩, h2⟩
set_option maxRecDepth 100000 in
theorem add_h (p : Value) (st : Option (List Int)) (s : List Int) (w : World) (h : Hnd w p st) (hn : stLen st + s.length ≤ 140737488355328) :
    Calls Tryd.prog 84 #[p, .string (strOfNums s)] w (Wrote w p (addSt st (some s))) := by
  rcases h with ⟨rfl, rfl⟩ | ⟨g, rfl, h⟩
  · refine (add_nil _ w).mono ?_
    rintro e w' ⟨rfl, rfl⟩
    exact ⟨rfl, Or.inl ⟨rfl, addSt_none _⟩, grown_nil (Below.refl _ _)⟩
  · refine (add_any g st s w h hn).mono ?_
    rintro e w' ⟨rfl, h1, h2⟩
    exact ⟨rfl, Or.inr ⟨g, rfl, h1⟩, h2⟩
set_option maxRecDepth 100000 in
theorem add_none (p : Value) (v : Value) (w : World) (h : Hnd w p none) : Calls Tryd.prog 84 #[p, v] w (Wrote w p none) := by
  rcases h with ⟨rfl, _⟩ | ⟨g, rfl, h⟩
  · refine (add_nil _ w).mono ?_
    rintro e w' ⟨rfl, rfl⟩
    exact ⟨rfl, Or.inl ⟨rfl, rfl⟩, grown_nil (Below.refl _ _)⟩
  · refine (add_bad g _ w h).mono ?_
    rintro e w' ⟨rfl, rfl⟩
    exact ⟨rfl, Or.inr ⟨g, rfl, h⟩, World.grownBy.refl _ _⟩
def truthSt (b : Bool) : Option (List Int) := numSt (if b then 1 else 0) 1
def textSt (s : ByteArray) : Option (List Int) := addSt (numSt s.size 2) (some (nB s))
set_option maxRecDepth 100000 in
theorem addSt_assoc (a b c : Option (List Int)) : addSt (addSt a b) c = addSt a (addSt b c) := by
  cases a <;> cases b <;> cases c <;> simp [addSt]
set_option maxRecDepth 100000 in
theorem stLen_add (a b : Option (List Int)) : stLen (addSt a b) ≤ stLen a + stLen b := by
  cases a <;> cases b <;> simp [addSt, stLen]
set_option maxRecDepth 100000 in
theorem stLen_num (n k : Int) : stLen (numSt n k) ≤ 8 := by
  cases h : numSt n k with
  | none => simp [stLen]
  | some l =>
    obtain ⟨m, _, hm, _, rfl⟩ := numSt_some h
    simp [stLen, numB_length]; omega
end Go.Proofs.YtplihbncmmggjaaDoor
