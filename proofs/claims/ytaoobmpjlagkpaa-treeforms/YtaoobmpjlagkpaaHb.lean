import Derived.Test.YtaoobmpjlagkpaaHa1
import Derived.Test.YtaoobmpjlagkpaaHa2
import Derived.Test.YtaoobmpjlagkpaaHa3
import Derived.Test.YtaoobmpjlagkpaaHa4
import Derived.Test.YtaoobmpjlagkpaaHa5
import Derived.Test.YtaoobmpjlagkpaaHa6
import Derived.Test.YtaoobmpjlagkpaaHa7
import Derived.Test.YtaoobmpjlagkpaaHa8
import Derived.Test.YtaoobmpjlagkpaaHa9
import Derived.Test.YtaoobmpjlagkpaaHa10
import Derived.Test.YtaoobmpjlagkpaaDn
import Derived.Test.YtaoobmpjlagkpaaTi
import Derived.Test.YtaoobmpjlagkpaaFf
namespace Go.Proofs.Ytaoobmpjlagkpaa
set_option linter.unusedSimpArgs false
set_option linter.unusedVariables false
open Go.RowKit
open Go.Deep
set_option maxHeartbeats 1000000 in
set_option maxRecDepth 100000 in
theorem plain_any (h : Hd) (l : List T) (u : Value) (w : World) (hu : SV AnyB w u l) : Calls Try.prog 76 #[vN h u] w fun e w' => e = .returned (.bool (plainB h l)) ∧ Below w.heap.size w w' := by
  obtain ⟨k, c, x0, x1, x2, x3, nn, lo, hi⟩ := h
  obtain ⟨av, cp, b, o, rfl, h1, h2, h3, h4⟩ := hu
  obtain ⟨n, hn0⟩ : ∃ n, n = l.length := ⟨_, rfl⟩
  have HN : Hid (n = l.length) := hn0
  have hn : n ≤ 9223372036854775807 := by omega
  rw [← hn0] at h1 ⊢
  clear hn0 h3 h4
  by_cases k1 : k = 1
  · subst k1; exact plain_1 c x0 x1 x2 x3 nn lo hi av n cp l HN hn w
  by_cases k2 : k = 2
  · subst k2; exact plain_2 c x0 x1 x2 x3 nn lo hi av n cp l HN hn w
  by_cases k3 : k = 3
  · subst k3; exact plain_3 c x0 x1 x2 x3 nn lo hi av n cp l HN hn w
  by_cases k4 : k = 4
  · subst k4; exact plain_4 c x0 x1 x2 x3 nn lo hi av n cp l HN hn w
  by_cases k5 : k = 5
  · subst k5; exact plain_5 c x0 x1 x2 x3 nn lo hi av n cp l HN hn w
  by_cases k6 : k = 6
  · subst k6; exact plain_6 c x0 x1 x2 x3 nn lo hi av n cp l HN hn w
  by_cases k7 : k = 7
  · subst k7; exact plain_7 c x0 x1 x2 x3 nn lo hi av n cp l HN hn w
  by_cases k8 : k = 8
  · subst k8; exact plain_8 c x0 x1 x2 x3 nn lo hi av n cp l HN hn w
  by_cases k9 : k = 9
  · subst k9; exact plain_9 c x0 x1 x2 x3 nn lo hi av n cp l HN hn w
  by_cases k10 : k = 10
  · subst k10; exact plain_10 c x0 x1 x2 x3 nn lo hi av n cp l HN hn w
  have b1 : (k == 1) = false := by simpa using k1
  have b2 : (k == 2) = false := by simpa using k2
  have b3 : (k == 3) = false := by simpa using k3
  have b4 : (k == 4) = false := by simpa using k4
  have b5 : (k == 5) = false := by simpa using k5
  have b6 : (k == 6) = false := by simpa using k6
  have b7 : (k == 7) = false := by simpa using k7
  have b8 : (k == 8) = false := by simpa using k8
  have b9 : (k == 9) = false := by simpa using k9
  have b10 : (k == 10) = false := by simpa using k10
  have HE : Hid (plainB ⟨k, c, x0, x1, x2, x3, nn, lo, hi⟩ l = false) := by
    unfold Hid plainB
    rw [decide_eq_false (by show ¬ (1 ≤ k ∧ k ≤ 10); omega)]; rfl
  rw [HE.out]
  clear HE k1 k2 k3 k4 k5 k6 k7 k8 k9 k10
  change Calls Try.prog 76 #[.agg #[.int .i64 k, .int .u8 (c : Int), .int .u64 (x0 : Int), .int .u64 x1, .int .u64 x2, .int .u64 x3, .int .i64 nn, .int .i64 lo, .int .i64 hi, .slice av n cp]] w _
  go_enter Try.func76, Try.ntmps76
  go_wp2
  go_ret
  exact ⟨rfl, ((Below.refl _ _).alloc (Nat.le_refl _) _).alloc (by simp) _⟩
theorem size76 : (Try.prog.info? 76).map (·.size) = some 10 := by kernel_rfl
/-- A box of ten bools. -/
def BoxA (w : World) (g : Nat) (e : List Bool) : Prop := w.heap[g]? = some (.cells (e.map Value.bool).toArray 76)
theorem BoxA.lt {w : World} {g : Nat} {e : List Bool} (k : BoxA w g e) : g < w.heap.size := (Array.getElem?_eq_some_iff.1 k).1
theorem BoxA.blk {w w' : World} {g : Nat} {e : List Bool} (k : BoxA w g e) (q : w'.heap[g]? = w.heap[g]?) : BoxA w' g e := by unfold BoxA; rw [q]; exact k
theorem BoxA.below {B : Nat} {w w' : World} {g : Nat} {e : List Bool} (k : BoxA w g e) (b : Below B w w') (hg : g < B) : BoxA w' g e := k.blk (b.block g hg)
theorem BoxA.range {w : World} {g : Nat} {e : List Bool} (k : BoxA w g e) : w.rangeAt g 0 (e.map Value.bool) := fun j v hv => by
  rw [Nat.zero_add, cell_of_row w g j _ 76 (0, 0) k]; simpa using hv
theorem BoxA.cell {w : World} {g : Nat} {e : List Bool} (k : BoxA w g e) (j : Nat) (v : Bool) (hv : e[j]? = some v) : w.cell? ⟨g, j, none⟩ = some (.bool v) := by
  rw [cell_of_row w g j _ 76 (0, 0) k]; simp [hv]
theorem BoxA.setE {w : World} {g : Nat} {e : List Bool} (k : BoxA w g e) (i : Nat) (v : Bool) : BoxA (w.setCell ⟨g, i, none⟩ (.bool v)) g (e.set i v) := by
  unfold BoxA at k ⊢
  rw [heap_setCell_same w g i _ 76 _ k, List.setIfInBounds_toArray, List.map_set]
theorem BoxA.row {w : World} {g : Nat} {e0 : List Bool} (k : BoxA w g e0) (e : List Bool) : BoxA (w.setRow g (e.map Value.bool).toArray) g e := setRow_heap w g _ _ 76 _ k
theorem bools_one (e : List Bool) : ∀ v ∈ e.map Value.bool, v.oneCell' = true := by
  intro v hv
  obtain ⟨x, _, rfl⟩ := List.mem_map.1 hv; rfl
theorem step_storeA {ops : Array Oper} {o : Oper} {a : Act} {w : World} {K : Act → World → Prop} {Q : Exit → Act → World → Prop} {Z : Prop} (hgd : o.guard = none) (x y : Operand) (ho : o.op = .store 76 x y) (g : Nat) (hx : a.eval x = .pointer (some ⟨g, 0, none⟩)) (e e0 : List Bool) (hl : e.length = 10) (hl0 : e0.length = 10) (hy : a.eval y = .agg (e.map Value.bool).toArray) (hb : BoxA w g e0)
    (h : K (a.put o.dst undef) (w.setRow g (e.map Value.bool).toArray)) : if Region.wanted o (yielded ops a.tmps) = true then Oper.wp Try.prog o a w K Q else Z := by
  have hw : Region.wanted o (yielded ops a.tmps) = true := by simp [Region.wanted, hgd]
  rw [if_pos hw]
  exact wp_store_row 76 x y ho g _ hx hy 76 _ hb (by rw [size76]; simp [hl]) (by simp [hl, hl0]) (all_oneCell_toArray (bools_one e)) h
theorem res55w {fn : Func} (h : fn.results = #[.tmp 6, .cell 7 76, .tmp 8]) (tmps : Array Value) (w : World) (g : Nat) (e : List Bool) (hl : e.length = 10) (hp : tmps.getD 7 undef = .pointer (some ⟨g, 0, none⟩)) (hb : BoxA w g e) :
    (results fn tmps).run Try.prog w = .ok (.tuple #[tmps.getD 6 undef, .agg (e.map Value.bool).toArray, tmps.getD 8 undef]) w := by
  have hr := run_loadVar_row (P := Try.prog) w g 76 76 (e.map Value.bool).toArray (0, 0) _ hb Try.underlying76 rfl (by rw [size76]; simp [hl])
  have hp' : tmps[7]?.getD undef = .pointer (some ⟨g, 0, none⟩) := by simpa using hp
  simp [results, h, hp', asAddr, hr]
/-- What walk hands back. -/
def WalkO (r : Option Gs) (w : World) (en : Ending) (w' : World) : Prop := ∃ (ok : Bool) (s' : Gs), en = .returned (.tuple #[.int .i64 s'.b, .agg (s'.e.map Value.bool).toArray, .bool ok]) ∧ s'.e.length = 10 ∧ (if ok = true then r = some s' else r = none) ∧ Below w.heap.size w w'
def WalkP (t : T) : Prop := ∀ (s : Gs) (w : World) (u : Value), GsOk s → SV AnyB w u t.kids → Calls Try.prog 55 #[vN t.hd u, .int .i64 s.b, .agg (s.e.map Value.bool).toArray] w (WalkO (walkT t s) w)
/-- walk's memory. -/
structure WkW (w W : World) (h : Hd) (u : Value) (l : List T) (e : List Bool) : Prop where
  a : BoxN 51 W w.heap.size h u
  d : BoxA W (w.heap.size + 1) e
  r : BoxA W (w.heap.size + 1 + 1) (List.replicate 10 false)
  bel : Below w.heap.size w W
  sv : SV AnyB W u l
theorem WkW.below {w W W' : World} {h : Hd} {u : Value} {l : List T} {e : List Bool} (k : WkW w W h u l e) (b : Below W.heap.size W W') : WkW w W' h u l e :=
  ⟨k.a.below b k.a.lt, k.d.below b k.d.lt, k.r.below b k.r.lt, k.bel.trans (b.mono k.bel.size), k.sv.below b⟩
theorem WkW.start (w : World) (h : Hd) (u : Value) (l : List T) (e : List Bool) (hu : SV AnyB w u l) :
    WkW w (((w.alloc (.cells (cN h u).toArray 51)).alloc (.cells (e.map Value.bool).toArray 76)).alloc (.cells ((List.replicate 10 false).map Value.bool).toArray 76)) h u l e := by
  have s1 : (w.alloc (.cells (cN h u).toArray 51)).heap.size = w.heap.size + 1 := by simp
  have s2 : ((w.alloc (.cells (cN h u).toArray 51)).alloc (.cells (e.map Value.bool).toArray 76)).heap.size = w.heap.size + 1 + 1 := by simp
  have k1 : BoxA ((w.alloc (.cells (cN h u).toArray 51)).alloc (.cells (e.map Value.bool).toArray 76)) (w.heap.size + 1) e := by
    have := heap_alloc_last (w.alloc (.cells (cN h u).toArray 51)) (.cells (e.map Value.bool).toArray 76)
    rw [s1] at this; exact this
  have k2 : BoxA (((w.alloc (.cells (cN h u).toArray 51)).alloc (.cells (e.map Value.bool).toArray 76)).alloc (.cells ((List.replicate 10 false).map Value.bool).toArray 76)) (w.heap.size + 1 + 1) (List.replicate 10 false) := by
    have := heap_alloc_last ((w.alloc (.cells (cN h u).toArray 51)).alloc (.cells (e.map Value.bool).toArray 76)) (.cells ((List.replicate 10 false).map Value.bool).toArray 76)
    rw [s2] at this; exact this
  have b3 : Below w.heap.size w (((w.alloc (.cells (cN h u).toArray 51)).alloc (.cells (e.map Value.bool).toArray 76)).alloc (.cells ((List.replicate 10 false).map Value.bool).toArray 76)) := (((Below.refl _ _).alloc (Nat.le_refl _) _).alloc (by simp) _).alloc (by simp; omega) _
  exact ⟨((BoxN.new 51 w h u).blk (Below.heap_alloc _ _ _ (by simp))).blk (Below.heap_alloc _ _ _ (by simp; omega)), k1.blk (Below.heap_alloc _ _ _ (by simp)), k2, b3, hu.below b3⟩
theorem WkW.fin {w W : World} {h : Hd} {u : Value} {l : List T} {e : List Bool} (k : WkW w W h u l e) : BoxA (W.setRow (w.heap.size + 1 + 1) (e.map Value.bool).toArray) (w.heap.size + 1 + 1) e ∧ Below w.heap.size w (W.setRow (w.heap.size + 1 + 1) (e.map Value.bool).toArray) ∧ BoxA (W.setRow (w.heap.size + 1 + 1) (e.map Value.bool).toArray) (w.heap.size + 1) e :=
  ⟨k.r.row e, below_row k.bel (by omega) _, k.d.blk (setRow_other _ _ _ _ (by omega))⟩
/-- Another row of bools in the box behind. -/
theorem WkW.next {w W : World} {h : Hd} {u : Value} {l : List T} {e : List Bool} (k : WkW w W h u l e) (hS : SV AnyB w u l) (e' : List Bool) : WkW w (W.setRow (w.heap.size + 1) (e'.map Value.bool).toArray) h u l e' :=
  have b := below_row k.bel (g := w.heap.size + 1) (by omega) (e'.map Value.bool).toArray
  ⟨k.a.blk (setRow_other _ _ _ _ (by omega)), k.d.row e', k.r.blk (setRow_other _ _ _ _ (by omega)), b, hS.below b⟩
theorem WkW.put {w W : World} {h : Hd} {u : Value} {l : List T} {e : List Bool} (k : WkW w W h u l e) (hS : SV AnyB w u l) (i : Nat) (v : Bool) : WkW w (W.setCell ⟨w.heap.size + 1, i, none⟩ (.bool v)) h u l (e.set i v) :=
  have b := k.bel.setCell (p := ⟨w.heap.size + 1, i, none⟩) (by show w.heap.size ≤ w.heap.size + 1; omega) (.bool v)
  ⟨k.a.blk (Below.heap_setCell _ _ _ _ (by show w.heap.size ≠ w.heap.size + 1; omega)), k.d.setE i v, k.r.blk (Below.heap_setCell _ _ _ _ (by show w.heap.size + 1 + 1 ≠ w.heap.size + 1; omega)), b, hS.below b⟩
theorem walkT_no {t : T} {s : Gs} (h : plainB t.hd t.kids = false ∨ switchB t.hd t.kids = false) : walkT t s = none := by unfold walkT; rw [if_pos h]
theorem walkT_num {t : T} {s : Gs} (h : stepN t.hd s = none) : walkT t s = none := by unfold walkT; rw [h]; split <;> rfl
theorem walkT_go {t : T} {s s1 : Gs} (h1 : plainB t.hd t.kids = true) (h2 : switchB t.hd t.kids = true) (h : stepN t.hd s = some s1) : walkT t s = (walkL t.kids t.hd.k s1).bind fun q => some (endN t.hd q) := by
  unfold walkT; rw [h, if_neg (by simp [h1, h2])]; rfl
end Go.Proofs.Ytaoobmpjlagkpaa
