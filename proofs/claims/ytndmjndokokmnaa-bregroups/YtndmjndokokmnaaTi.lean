import Derived.Test.YtndmjndokokmnaaTh
import Derived.Test.YtndmjndokokmnaaDm
namespace Go.Proofs.Ytndmjndokokmnaa
set_option linter.unusedSimpArgs false
set_option linter.unusedVariables false
open Go.RowKit
open Go.Deep
def hd0 : Hd := ⟨0, 0, 0, 0, 0, 0, 0, 0, 0⟩
theorem BoxN.blk {E : TypeId} {w w' : World} {g : Nat} {h : Hd} {u : Value} (k : BoxN E w g h u) (e : w'.heap[g]? = w.heap[g]?) : BoxN E w' g h u := by
  unfold BoxN; rw [e]; exact k
theorem BoxN.set9 {E : TypeId} {w : World} {g : Nat} {h : Hd} {u : Value} (k : BoxN E w g h u) (v : Value) : BoxN E (w.setCell ⟨g, 9, none⟩ v) g h v := by
  unfold BoxN at k ⊢
  rw [heap_setCell_same w g 9 _ E v k, List.setIfInBounds_toArray]; rfl
theorem BoxN.row {E : TypeId} {w : World} {g : Nat} {h0 : Hd} {u0 : Value} (k : BoxN E w g h0 u0) (h : Hd) (u : Value) : BoxN E (w.setRow g (cN h u).toArray) g h u := setRow_heap w g _ _ E _ k
theorem below_row {B : Nat} {a w : World} (h : Below B a w) {g : Nat} (hg : B ≤ g) (cs : Array Value) : Below B a (w.setRow g cs) :=
  h.trans ⟨rfl, rfl, rfl, by simp [World.setRow], fun k hk => setRow_other _ _ _ _ (by omega)⟩
theorem storeB55 {ops : Array Oper} {rest : List Oper} {o : Oper} {a : Act} {w : World} {Q : Exit → Act → World → Prop} (hgd : o.guard = none) (x y : Operand) (ho : o.op = .store 55 x y) (g : Nat) (hx : a.eval x = .pointer (some ⟨g, 0, none⟩)) (hd : Hd) (u : Value) (hu : u.oneCell' = true) (hy : a.eval y = vN hd u) (h0 : Hd) (u0 : Value) (hb : BoxN 55 w g h0 u0)
    (h : wpList Try.prog ops Q rest (a.put o.dst undef) (w.setRow g (cN hd u).toArray)) : wpList Try.prog ops Q (o :: rest) a w :=
  wpList_store_row hgd 55 x y ho g _ hx hy 55 _ hb size55 rfl (all_oneCell_toArray (cN_ok hu)) h
theorem storeB51 {ops : Array Oper} {rest : List Oper} {o : Oper} {a : Act} {w : World} {Q : Exit → Act → World → Prop} (hgd : o.guard = none) (x y : Operand) (ho : o.op = .store 51 x y) (g : Nat) (hx : a.eval x = .pointer (some ⟨g, 0, none⟩)) (hd : Hd) (u : Value) (hu : u.oneCell' = true) (hy : a.eval y = vN hd u) (h0 : Hd) (u0 : Value) (hb : BoxN 51 w g h0 u0)
    (h : wpList Try.prog ops Q rest (a.put o.dst undef) (w.setRow g (cN hd u).toArray)) : wpList Try.prog ops Q (o :: rest) a w :=
  wpList_store_row hgd 51 x y ho g _ hx hy 51 _ hb size51 rfl (all_oneCell_toArray (cN_ok hu)) h
theorem res55 {fn : Func} (p : Tmp) (h : fn.results = #[.cell p 55]) (tmps : Array Value) (w : World) (g : Nat) (hd : Hd) (u : Value) (hp : tmps.getD p undef = .pointer (some ⟨g, 0, none⟩)) (hb : BoxN 55 w g hd u) : (results fn tmps).run Try.prog w = .ok (vN hd u) w :=
  results_cell_row h tmps w g 55 _ (0, 0) _ hp hb Try.underlying55 rfl size55
theorem res51 {fn : Func} (p : Tmp) (h : fn.results = #[.cell p 51]) (tmps : Array Value) (w : World) (g : Nat) (hd : Hd) (u : Value) (hp : tmps.getD p undef = .pointer (some ⟨g, 0, none⟩)) (hb : BoxN 51 w g hd u) : (results fn tmps).run Try.prog w = .ok (vN hd u) w :=
  results_cell_row h tmps w g 51 _ (0, 0) _ hp hb Try.underlying51 rfl size51
/-- The memory of Theirs and Ours in their loop. -/
structure ThW (E E' : TypeId) (w wr : World) (hd : Hd) (u v : Value) (ls : List T) : Prop where
  b0 : BoxN E wr w.heap.size hd u
  b1 : BoxN E' wr (w.heap.size + 1) hd0 (.slice none 0 0)
  b2 : BoxN E' wr (w.heap.size + 1 + 1) hd v
  own : OwnT E' (fun b => w.heap.size + 1 + 1 + 1 ≤ b) (w.heap.size + 1 + 1 + 1) wr v ls
  bel : Below w.heap.size w wr
  sz : w.heap.size + 1 + 1 + 1 ≤ wr.heap.size
theorem ThW.start (E E' : TypeId) (w : World) (hd : Hd) (u : Value) :
    ThW E E' w (((w.alloc (.cells (cN hd u).toArray E)).alloc (.cells (cN hd0 (.slice none 0 0)).toArray E')).alloc (.cells (cN hd (.slice none 0 0)).toArray E')) hd u (.slice none 0 0) [] := by
  have s1 : (w.alloc (.cells (cN hd u).toArray E)).heap.size = w.heap.size + 1 := by simp
  have s2 : ((w.alloc (.cells (cN hd u).toArray E)).alloc (.cells (cN hd0 (.slice none 0 0)).toArray E')).heap.size = w.heap.size + 1 + 1 := by simp
  have k1 := BoxN.new E' (w.alloc (.cells (cN hd u).toArray E)) hd0 (.slice none 0 0)
  have k2 := BoxN.new E' ((w.alloc (.cells (cN hd u).toArray E)).alloc (.cells (cN hd0 (.slice none 0 0)).toArray E')) hd (.slice none 0 0)
  rw [s1] at k1
  rw [s2] at k2
  refine ⟨?_, ?_, k2, OwnT.nil _ _ _ _, (((Below.refl _ _).alloc (Nat.le_refl _) _).alloc (by simp) _).alloc (by simp; omega) _, by simp⟩
  · exact ((BoxN.new E w hd u).blk (Below.heap_alloc _ _ _ (by simp))).blk (Below.heap_alloc _ _ _ (by simp; omega))
  · exact k1.blk (Below.heap_alloc _ _ _ (by simp))
/-- What the loads of a round read. -/
def RdT (E E' : TypeId) (N : Nat) (hd : Hd) (u v : Value) (b i : Nat) (h' : Hd) (u' : Value) (W : World) : Prop := BoxN E W N hd u ∧ BoxN E' W (N + 1 + 1) hd v ∧ W.rangeAt b i (cN h' u')
theorem RdT.step {E E' : TypeId} {N : Nat} {hd : Hd} {u v : Value} {b i : Nat} {h' : Hd} {u' : Value} {W W' : World} (h : RdT E E' N hd u v b i h' u' W) (k : ∀ g, g = N ∨ g = N + 1 + 1 ∨ g = b → W'.heap[g]? = W.heap[g]?) : RdT E E' N hd u v b i h' u' W' :=
  ⟨h.1.blk (k _ (.inl rfl)), h.2.1.blk (k _ (.inr (.inl rfl))), range_block h.2.2 (k _ (.inr (.inr rfl)))⟩
theorem ThW.next {E E' : TypeId} {w wr w6 w7 : World} {hd : Hd} {u v v7 : Value} {ls ms : List T} (h : ThW E E' w wr hd u v ls) (b6 : Below wr.heap.size wr w6) (O : Obj) (O7 : OwnT E' (fun b => w.heap.size + 1 + 1 + 1 ≤ b) (w.heap.size + 1 + 1 + 1) w7 v7 ms) (g7 : (w6.alloc O).grownBy w7 v.ownBlock) :
    ThW E E' w (w7.setCell ⟨w.heap.size + 1 + 1, 9, none⟩ v7) hd u v7 ms := by
  have hz := h.sz
  have h6 := b6.size
  have hs6 : (w6.alloc O).heap.size = w6.heap.size + 1 := by simp
  have hlow : ∀ g, v.ownBlock = some g → w.heap.size + 1 + 1 + 1 ≤ g := fun g hg => (h.own.low g hg).1
  have far : ∀ g, g < w.heap.size + 1 + 1 + 1 → w7.heap[g]? = wr.heap[g]? := fun g hg => by
    rw [g7.block g (by omega) (fun e => by have := hlow g e.symm; omega), Below.heap_alloc _ _ _ (by omega), b6.block g (by omega)]
  have far2 : ∀ g, g ≠ w.heap.size + 1 + 1 → (w7.setCell ⟨w.heap.size + 1 + 1, 9, none⟩ v7).heap[g]? = w7.heap[g]? := fun g hg => Below.heap_setCell _ _ _ _ hg
  have hsz : w7.heap.size = (w7.setCell ⟨w.heap.size + 1 + 1, 9, none⟩ v7).heap.size := by simp [World.setCell]
  refine ⟨(h.b0.blk (far _ (by omega))).blk (far2 _ (by omega)), (h.b1.blk (far _ (by omega))).blk (far2 _ (by omega)), (h.b2.blk (far _ (by omega))).set9 v7, O7.keep (by omega) fun b hb _ => far2 b (by rcases hb with hb | hb <;> omega), ?_, by have := g7.size; omega⟩
  have a1 : Below w.heap.size w w6 := h.bel.trans (b6.mono h.bel.size)
  have a2 : Below w.heap.size w (w6.alloc O) := a1.alloc a1.size _
  have a3 : Below w.heap.size w w7 := a2.grown g7 a2.size (fun k hk => by have := hlow k hk; omega)
  exact a3.setCell (by show w.heap.size ≤ w.heap.size + 1 + 1; omega) _
theorem ThW.read {E E' : TypeId} {w wr w6 w7 : World} {hd : Hd} {u v : Value} {ls : List T} {b i : Nat} {h' : Hd} {u' : Value} (h : ThW E E' w wr hd u v ls) (b6 : Below wr.heap.size wr w6) (O : Obj) (g7 : (w6.alloc O).grownBy w7 v.ownBlock) (hb : b < w.heap.size) (k : RdT E E' w.heap.size hd u v b i h' u' w6) :
    RdT E E' w.heap.size hd u v b i h' u' w7 := by
  have hz := h.sz
  have h6 := b6.size
  have hs6 : (w6.alloc O).heap.size = w6.heap.size + 1 := by simp
  refine k.step fun g hg => ?_
  have hlt : g < w.heap.size + 1 + 1 + 1 := by omega
  rw [g7.block g (by omega) (fun e => by have := (h.own.low g e.symm).1; omega), Below.heap_alloc _ _ _ (by omega)]
end Go.Proofs.Ytndmjndokokmnaa
