import Derived.Test.YtffhjjgkoapioaaDoorMh
import Derived.Test.YtffhjjgkoapioaaDoorSpeh
import Derived.Maps.OwnIn
namespace Go.Proofs.YtffhjjgkoapioaaDoor
set_option linter.unusedSimpArgs false
set_option linter.unusedVariables false
open Go.RowKit Go.Shelf
attribute [local go_sem] Oper.semAt_some
/-- The value x is a slice of a block of its own, which holds the bytes l. -/
def ChunkAt (W : World) (x : Value) (l : List Int) : Prop := ∃ g, x = .slice (some ⟨g, 0, none⟩) l.length l.length ∧ W.heap[g]? = some (.cells (vB l) 5)
set_option maxRecDepth 100000 in
theorem ChunkAt.part {W : World} {x : Value} {l : List Int} (h : ChunkAt W x l) (hl : l.length ≤ 9223372036854775807) : PartAt W x l := by
  obtain ⟨g, rfl, h⟩ := h
  exact ⟨some ⟨g, 0, none⟩, g, 0, l.length, rfl, Nat.le_refl _, hl, fun _ => rfl, range_of_block h, (Array.getElem?_eq_some_iff.1 h).1, fun h => by cases h⟩
/-- The slice in the box at base + 1 has the chunks ls, each of a block of its own. -/
def ChunksIn (base : Nat) (ls : List (List Int)) (W : World) : Prop :=
  ∃ v vs, Boxed W (base + 1) 29 v ∧ W.ownsRow base 22 1 v ls.length vs ∧ (∀ k, v.ownBlock = some k → k = base ∨ base + 4 ≤ k) ∧ (∀ (i : Nat) (x : Value) (l : List Int), vs[i]? = some x → ls[i]? = some l → ChunkAt W x l)
set_option maxRecDepth 100000 in
theorem chunksIn_own {β : Type} (base B : Nat) (f : β → List (List Int)) : OwnFrom B (fun s W => ChunksIn base (f s) W) := by
  rintro s X Y row ⟨v, vs, hv, hr, hb, hc⟩ hg hrow'
  have hrow : ∀ r, row = some r → ∃ o : Obj, X.heap[r]? = some o ∧ o.isCells = false := fun r e => (hrow' r e).2
  refine ⟨v, vs, hv.kept hg (fun e' => ?_), hr.kept hg ?_, hb, fun i x l h1 h2 => ?_⟩
  · obtain ⟨o, ho, hc⟩ := hrow (base + 1) e'.symm
    rw [show X.heap[base + 1]? = _ from hv] at ho; cases ho; cases hc
  · rcases hr.2 with ⟨rfl, _⟩ | ⟨g, cap, cur, rfl, _, hgb, _⟩
    · exact .inl rfl
    · refine .inr fun e' => ?_
      obtain ⟨o, ho, hc⟩ := hrow g (by simpa [Value.ownBlock] using e'.symm)
      rw [hgb] at ho; cases ho; cases hc
  · obtain ⟨g, e, h⟩ := hc i x l h1 h2
    exact ⟨g, e, (grownBy_keeps_cells hg hrow h rfl).trans h⟩
set_option maxRecDepth 100000 in
/-- A chunk more. -/
theorem chunksIn_step {base : Nat} {ls : List (List Int)} {l : List Int} {W W2 w4 : World} {v v' x : Value} {vs : List Value} (hv : Boxed W (base + 1) 29 v) (hr : W.ownsRow base 22 1 v ls.length vs) (hb : ∀ k, v.ownBlock = some k → k = base ∨ base + 4 ≤ k)
    (hc : ∀ (i : Nat) (x : Value) (l : List Int), vs[i]? = some x → ls[i]? = some l → ChunkAt W x l) (hs : base + 4 ≤ W.heap.size)
    (g2 : W.grownBy W2 none) (s2 : W2.heap.size = W.heap.size + 1) (h2 : W2.heap[W.heap.size]? = some (.cells (vB l) 5)) (hx : x = .slice (some ⟨W.heap.size, 0, none⟩) l.length l.length)
    (hown : w4.ownsRow base 22 1 v' (ls.length + 1) (vs ++ [x])) (hg : (W2.alloc (.cells #[x] 22)).grownBy w4 v.ownBlock) (hd : v'.ownBlock = v.ownBlock ∨ v'.ownBlock = some (W2.alloc (.cells #[x] 22)).heap.size) :
    ChunksIn base (ls ++ [l]) (w4.setCell ⟨base + 1, 0, none⟩ v') ∧ KeepsOthers W (w4.setCell ⟨base + 1, 0, none⟩ v') ∧ Below base W (w4.setCell ⟨base + 1, 0, none⟩ v') ∧ Keep2 (base + 2) W (w4.setCell ⟨base + 1, 0, none⟩ v') ∧ w4.cell? ⟨base + 1, 0, none⟩ = some v ∧ w4.frozen? ⟨base + 1, 0, none⟩ = false := by
  have hv2 : Boxed W2 (base + 1) 29 v := hv.kept g2 (by simp)
  have hr2 : W2.ownsRow base 22 1 v ls.length vs := by
    refine hr.kept g2 ?_
    rcases hr.2 with ⟨rfl, _⟩ | ⟨g, cap, cur, rfl, _, hgb, _⟩
    · exact .inl rfl
    · exact .inr (by simp [Value.ownBlock])
  obtain ⟨a1, a2, a3, a4, a5⟩ := hv2.appended (by decide) hr2 (show base ≤ W2.heap.size by omega) (show base ≤ base + 1 by omega) hown hg
  have far : ∀ k, k < W2.heap.size → some k ≠ v.ownBlock → k ≠ base + 1 → (w4.setCell ⟨base + 1, 0, none⟩ v').heap[k]? = W2.heap[k]? := fun k h1 h3 h4 => by
    rw [(grownBy_setCell' w4 (base + 1) v').block k (Nat.lt_of_lt_of_le (by simp; omega) hg.size) (by intro e; injection e; omega), hg.block k (by simp; omega) h3, Below.heap_alloc _ _ _ h1]
  have typ : ∀ (g : Nat) (c : List Int), W2.heap[g]? = some (.cells (vB c) 5) → (w4.setCell ⟨base + 1, 0, none⟩ v').heap[g]? = some (.cells (vB c) 5) := fun g c hgc => by
    refine (far g (Array.getElem?_eq_some_iff.1 hgc).1 ?_ ?_).trans hgc
    · intro e
      rcases hr2.2 with ⟨rfl, _⟩ | ⟨g', cap, cur, rfl, _, hgb, _⟩
      · simp [Value.ownBlock] at e
      · obtain rfl : g = g' := by simpa [Value.ownBlock] using e
        rw [hgc] at hgb; cases hgb
    · intro e; subst e
      rw [show W2.heap[base + 1]? = _ from hv2] at hgc; simp at hgc
  have hvl : vs.length = ls.length := by simpa using hr.1
  refine ⟨⟨v', vs ++ [x], a2, by simpa using a3, fun k hk => ?_, fun i y m h1 h3 => ?_⟩, (KeepsOthers.of_grownBy g2 (fun j o e => by cases e)).trans a4, (Below.refl base W).trans ?_, fun k h1 h3 => ?_, a1.cell, a1.frozen⟩
  · rcases hd with hd | hd
    · exact hb k (hd ▸ hk)
    · rw [hd] at hk; injection hk with hk; simp at hk; omega
  · rcases Nat.lt_or_ge i vs.length with hi | hi
    · rw [List.getElem?_append_left hi] at h1
      rw [List.getElem?_append_left (by omega)] at h3
      obtain ⟨g, e, h⟩ := hc i y m h1 h3
      exact ⟨g, e, typ g m ((g2.block g (Array.getElem?_eq_some_iff.1 h).1 (by simp)).trans h)⟩
    · have hi' : i < vs.length + 1 := by have := (List.getElem?_eq_some_iff.1 h1).1; simpa using this
      obtain rfl : i = vs.length := by omega
      rw [List.getElem?_append_right (Nat.le_refl _)] at h1
      rw [List.getElem?_append_right (by omega), hvl] at h3
      simp at h1 h3
      subst h1 h3
      exact ⟨W.heap.size, hx, typ _ _ h2⟩
  · exact ((Below.refl base W).grown g2 (by omega) (fun k e => by cases e)).trans a5
  · rw [far k (by omega) ?_ (by omega), g2.block k (by omega) (by simp)]
    intro e
    have := hb k e.symm
    omega
/-- The value v is a slice of slices, which hold the texts ls. -/
def PartsAt (w : World) (v : Value) (ls : List (List Int)) : Prop := ∃ (av : Option Addr) (b o cp : Nat) (vs : List Value), v = .slice av ls.length cp ∧ ls.length ≤ cp ∧ cp ≤ 9223372036854775807 ∧ (0 < ls.length → av = some ⟨b, o, none⟩) ∧ vs.length = ls.length ∧ w.rangeAt b o vs ∧ b < w.heap.size ∧ (∀ (i : Nat) (x : Value) (l : List Int), vs[i]? = some x → ls[i]? = some l → PartAt w x l)
set_option maxRecDepth 100000 in
theorem PartsAt.below {w w' : World} {v : Value} {ls : List (List Int)} (h : PartsAt w v ls) (hb : Below w.heap.size w w') : PartsAt w' v ls := by
  obtain ⟨av, b, o, cp, vs, h1, h2, h3, h4, h5, h6, h7, h8⟩ := h
  exact ⟨av, b, o, cp, vs, h1, h2, h3, h4, h5, range_below h6 hb h7, Nat.lt_of_lt_of_le h7 hb.size, fun i x l k1 k2 => (h8 i x l k1 k2).below hb⟩
/-- The texts of a file's chunks. -/
def textOf (bs : List Int) (p : Nat × Nat) : List Int := (bs.drop p.1).take p.2
def chunksL (bs : List Int) : List (List Int) := (piecesTo bs.length ((bs.length + 31) / 32)).map (fun p => textOf bs p.1)
set_option maxRecDepth 100000 in
theorem chunksL_length (bs : List Int) : (chunksL bs).length = (bs.length + 31) / 32 := by simp [chunksL, piecesTo]
set_option maxRecDepth 100000 in
theorem textOf_length (bs : List Int) (p : Piece bs.length) : (textOf bs p.1).length = p.1.2 := by
  have := p.2
  simp [textOf]; omega
set_option maxRecDepth 100000 in
/-- What make and copy leave. -/
theorem made_copied {W : World} {b o : Nat} {bs : List Int} (hr : W.rangeAt b o (vB bs).toList) (hb : b < W.heap.size) (p m : Nat) (h : p + m ≤ bs.length) :
    ∃ W2, (Builtin.copy_ #[22, 22] 3 #[.slice (some ⟨W.heap.size, 0, none⟩) m m, .slice (some ⟨b, o + p, none⟩) m m]).run Tryd.prog (W.alloc (.cells (vB (zs m)) 5)) = .ok (goInt m) W2 ∧
      W.grownBy W2 none ∧ W2.heap.size = W.heap.size + 1 ∧ W2.heap[W.heap.size]? = some (.cells (vB (textOf bs (p, m))) 5) := by
  have hl : (textOf bs (p, m)).length = m := by simp [textOf]; omega
  have hn := heap_alloc_new W (.cells (vB (zs m)) 5)
  have hrun := run_copy_cells (P := Tryd.prog) (W.alloc (.cells (vB (zs m)) 5)) 22 22 3 5 W.heap.size 0 m m ⟨b, o + p, none⟩ m m (vB (textOf bs (p, m))).toList Tryd.underlying22 (by kernel_rfl) (by rw [Array.length_toList, vB_size, hl]; exact (Nat.min_self m).symm)
    (fun j v hv => by
      rw [Addr.add_mid]
      exact range_below (range_take (range_drop hr p) m) ((Below.refl _ _).alloc (Nat.le_refl _) _) hb j v hv) (fun j hj => by
      rw [Array.length_toList, vB_size, hl] at hj
      rw [Nat.zero_add, row_cell hn (vB_at (zs m) j (by rw [zs_length]; exact hj))]; rfl) (fun j hj => frozen_of_row _ _ _ _ _ hn) (fun v hv => by simp [vB] at hv; obtain ⟨y, _, rfl⟩ := hv; rfl)
  rw [show (vB (textOf bs (p, m))).toList.length = m by rw [Array.length_toList, vB_size, hl]] at hrun
  refine ⟨_, hrun, ?_, ?_, ?_⟩
  · have e := setCells_os W.heap.size (vB (textOf bs (p, m))).toList 0 (W.alloc (.cells (vB (zs m)) 5))
    exact ⟨e.1, e.2.1, e.2.2, by rw [setCells_size]; simp, fun k hk _ => by rw [setCells_far _ _ _ _ _ (by omega), Below.heap_alloc _ _ _ hk]⟩
  · rw [setCells_size]; simp
  · exact setCells_whole hn (by rw [hl, zs_length])
end Go.Proofs.YtffhjjgkoapioaaDoor
