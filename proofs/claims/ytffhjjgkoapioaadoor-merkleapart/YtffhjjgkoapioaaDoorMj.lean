import Derived.Test.YtffhjjgkoapioaaDoorMi
namespace Go.Proofs.YtffhjjgkoapioaaDoor
set_option linter.unusedSimpArgs false
set_option linter.unusedVariables false
open Go.RowKit Go.Shelf
attribute [local go_sem] Oper.semAt_some
set_option maxRecDepth 100000 in
theorem make29 (n : Nat) (h : n ≤ 4398046511104) (w : World) : (Instr.makeSlice 29 (.int .i64 0) (.int .i64 n)).run Tryd.prog w = .ok (.slice (some ⟨w.heap.size, 0, none⟩) 0 n) (w.alloc (.cells (madeCells #[.slice none 0 0] n) 22)) := by
  obtain ⟨i, hi, hz0, hz1, hz2⟩ := info_parts info22
  have := run_make (P := Tryd.prog) w 29 22 i (.slice none 0 0) Tryd.underlying29 hi hz0 .i64 .i64 0 n (by omega) (by omega) (by rw [hz2]; omega) (by omega)
  simpa [hz1, Value.cells] using this
set_option maxRecDepth 100000 in
theorem chunksL_small (bs : List Int) : ∀ l ∈ chunksL bs, l.length ≤ 32 := fun l hl => by
  obtain ⟨p, _, rfl⟩ := List.mem_map.1 hl
  rw [textOf_length]; exact p.2.2
set_option maxRecDepth 100000 in
theorem parts_of_own {W : World} {base : Nat} {v : Value} {vs : List Value} {ls : List (List Int)} (h : W.ownsRow base 22 1 v ls.length vs) (hc : ∀ (i : Nat) (x : Value) (l : List Int), vs[i]? = some x → ls[i]? = some l → ChunkAt W x l) (hl : ∀ l ∈ ls, l.length ≤ 32) (h0 : 0 < W.heap.size) : PartsAt W v ls := by
  have hvl : vs.length = ls.length := by simpa using h.1
  have hp : ∀ (i : Nat) (x : Value) (l : List Int), vs[i]? = some x → ls[i]? = some l → PartAt W x l := fun i x l h1 h2 => (hc i x l h1 h2).part (by have := hl l (List.mem_of_getElem? h2); omega)
  rcases h.2 with ⟨rfl, hn0⟩ | ⟨g, cap, cur, rfl, _, hgb, r1, r2, r3, r4⟩
  · have : vs = [] := List.eq_nil_of_length_eq_zero (by omega)
    subst this
    exact ⟨none, 0, 0, 0, [], by rw [hn0], by omega, by omega, fun h => by omega, hvl, fun j v hv => by simp at hv, h0, fun i x l h => by simp at h⟩
  · refine ⟨some ⟨g, 0, none⟩, g, 0, cap, vs, rfl, r1, r2, fun _ => rfl, hvl, fun j x hx => ?_, (Array.getElem?_eq_some_iff.1 hgb).1, hp⟩
    rw [Nat.zero_add, cell_of_row W g j cur 22 (0, 0) hgb]
    rw [← r4, List.getElem?_take] at hx
    split at hx
    · simpa using hx
    · cases hx
set_option maxRecDepth 100000 in
set_option maxHeartbeats 2000000 in
theorem chunks_any (v : Value) (bs : List Int) (w : World) (hp : PartAt w v bs) (hn : bs.length ≤ 1000000000000) :
    Calls Tryd.prog 28 #[v] w fun e w' => ∃ v', e = .returned v' ∧ PartsAt w' v' (chunksL bs) ∧ Below w.heap.size w w' := by
  obtain ⟨ii, hi, hz0, hz1, hz2⟩ := info_parts info22
  obtain ⟨av, b, o, cp, rfl, hcp, hcp2, hav, hr, hb, _⟩ := hp
  have hmk : ∀ (m : Nat) (w : World), m ≤ 32 → (Instr.makeSlice 22 (.int .i64 m) (.int .i64 m)).run Tryd.prog w = .ok (.slice (some ⟨w.heap.size, 0, none⟩) m m) (w.alloc (.cells (vB (zs m)) 5)) := fun m w h => makeB m (by omega) w
  have hm29 := fun w => make29 ((bs.length + 31) / 32) (by omega) w
  have CC : Hid (∀ w' : World, Calls Tryd.prog 61 #[.slice av bs.length cp] w' fun e w'' => e = .returned (.int .i64 ((bs.length + 31) / 32 : Nat)) ∧ w'' = w') := fun w' => count_any av bs.length cp (by omega) w'
  refine (callsIn_wide (n := 3)).1 ?_
  refine callsIn_of_wp_marks Tryd.func28 rfl trivial ?_ rfl
  simp only [Tryd.ntmps28, List.size_toArray, List.length_cons, List.length_nil, Nat.reduceAdd, Nat.reduceSub, Array.replicate_succ, Array.replicate_zero, List.push_toArray, List.append_toArray, List.nil_append, List.cons_append]
  obtain ⟨cnt, hcnt⟩ : ∃ c, c = (bs.length + 31) / 32 := ⟨_, rfl⟩
  rw [← hcnt] at CC hm29
  have HC : Hid (cnt = (bs.length + 31) / 32) := hcnt
  clear hcnt
  gi_wp2_with (first | (refine ⟨trivial, ?_⟩; gi_at_call 61; refine (callsIn_wide.2 (CC.out _)).mono ?_; rintro e w' ⟨rfl, hw'⟩; have hw'' := hw'.symm; clear hw'; subst hw'') | (refine ⟨trivial, ?_⟩; gi_at_call 62; refine (chunk_in Fence.wide _ trivial rfl _ _ _ _).mono ?_; rintro e w' ⟨rfl, rfl⟩))
  obtain ⟨W0, hW0⟩ : ∃ W0, ((((w.alloc (Obj.cells (madeCells #[Value.slice none 0 0] cnt) 22)).alloc (Obj.cells #[Value.slice (some ⟨w.heap.size, 0, none⟩) 0 cnt] 29)).alloc (Obj.cells #[Value.slice av bs.length cp] 22)).alloc (Obj.cells #[Value.int IntKind.i64 32] 3)) = W0 := ⟨_, rfl⟩
  rw [hW0]
  have s0 : W0.heap.size = w.heap.size + 4 := by rw [← hW0]; simp
  have B0 : Below w.heap.size w W0 := by rw [← hW0]; exact ((((Below.refl _ _).alloc (Nat.le_refl _) _).alloc (by simp) _).alloc (by simp; omega) _).alloc (by simp; omega) _
  have x1 : Boxed W0 (w.heap.size + 1) 29 (.slice (some ⟨w.heap.size, 0, none⟩) 0 cnt) := by
    rw [← hW0]; exact (Boxed.alloc (Boxed.alloc (by have := Boxed.new (w.alloc (Obj.cells (madeCells #[Value.slice none 0 0] cnt) 22)) 29 (.slice (some ⟨w.heap.size, 0, none⟩) 0 cnt); rwa [World.size_alloc] at this) _) _)
  have x2 : Boxed W0 (w.heap.size + 1 + 1) 22 (.slice av bs.length cp) := by
    rw [← hW0]; exact (Boxed.alloc (by have := Boxed.new ((w.alloc (Obj.cells (madeCells #[Value.slice none 0 0] cnt) 22)).alloc (Obj.cells #[Value.slice (some ⟨w.heap.size, 0, none⟩) 0 cnt] 29)) 22 (.slice av bs.length cp); rwa [World.size_alloc, World.size_alloc] at this) _)
  have x3 : Boxed W0 (w.heap.size + 1 + 1 + 1) 3 (.int .i64 32) := by
    rw [← hW0]; have := Boxed.new (((w.alloc (Obj.cells (madeCells #[Value.slice none 0 0] cnt) 22)).alloc (Obj.cells #[Value.slice (some ⟨w.heap.size, 0, none⟩) 0 cnt] 29)).alloc (Obj.cells #[Value.slice av bs.length cp] 22)) 3 (.int .i64 32); rwa [World.size_alloc, World.size_alloc, World.size_alloc] at this
  have r0 : W0.heap[w.heap.size]? = some (.cells (madeCells #[Value.slice none 0 0] cnt) 22) := by
    rw [← hW0, Below.heap_alloc _ _ _ (by simp; omega), Below.heap_alloc _ _ _ (by simp; omega), Below.heap_alloc _ _ _ (by simp)]; exact heap_alloc_new _ _
  have i0 : ChunksIn w.heap.size [] W0 := ⟨_, [], x1, ⟨rfl, Or.inr ⟨w.heap.size, cnt, _, rfl, Nat.le_refl _, r0, Nat.zero_le _, by have := HC.out; unfold maxLen; omega, by rw [size_madeCells]; omega, by simp⟩⟩, fun k hk => by simp [Value.ownBlock] at hk; omega, fun i x l h => by simp at h⟩
  clear hW0 x1 r0 hm29
  refine wpIn_rangeFunc_ownG (F := Fence.wide) rfl (by omega) (gf := 80) (lb := #[.pointer (some ⟨w.heap.size + 1 + 1, 0, none⟩), .pointer (some ⟨w.heap.size + 1 + 1 + 1, 0, none⟩)]) rfl trivial (enters_of Tryd.func80 (by kernel_rfl) rfl)
    (chunk_stops Fence.wide _ trivial rfl (by omega) (w.heap.size + 1 + 1) b o bs.length cp av hav (by omega) hcp hcp2 W0 (by omega) x2.cell x3.cell) (fun h k => h.trans k) (keep2_b (by omega)) (Below.refl _ _) (fun _ => rfl)
    (fun pre W => ChunksIn w.heap.size (pre.map (fun p => textOf bs p.1)) W ∧ (Below w.heap.size w W ∧ w.heap.size + 4 ≤ W.heap.size))
    (fun _ _ _ => False)
    (OwnFrom.and (chunksIn_own _ _ _) (OwnFrom.and (ownFrom_below (Nat.le_refl _) (by omega)) (fun s X Y row h hg _ => Nat.le_trans h hg.size)))
    (fun _ _ _ _ _ hs _ _ => hs)
    ⟨i0, B0, by omega⟩
    (fun x => { tmps := #[.slice av bs.length cp, undef, .slice none 0 0, .pointer (some ⟨w.heap.size + 1, 0, none⟩), .slice (some ⟨b, o + x.1.1, none⟩) x.1.2 x.1.2, undef, .slice av bs.length cp, .int .i64 cnt, .slice (some ⟨w.heap.size, 0, none⟩) 0 cnt, .slice av bs.length cp, .func (.func 80) #[] #[.pointer (some ⟨w.heap.size + 1 + 1, 0, none⟩), .pointer (some ⟨w.heap.size + 1 + 1 + 1, 0, none⟩)], .slice (some ⟨b, o + x.1.1, none⟩) x.1.2 x.1.2, undef, undef, undef, undef, undef, undef, undef, undef, undef, undef, undef], defers := [] }) ?assign ?body ?done ?stop
  case assign =>
    intro l x W K hK
    gi_wp2
    exact hK
  case body =>
    rintro l pre x W ⟨⟨v, vs, hv, hrow, hbk, hcs⟩, hB, hs4⟩ hlt
    have hx := x.2
    have hrW : W.rangeAt b o (vB bs).toList := range_below hr hB hb
    obtain ⟨W2, hcopy, g2, s2, h2⟩ := made_copied hrW (Nat.lt_of_lt_of_le hb hB.size) x.1.1 x.1.2 hx.1
    have htl := textOf_length bs x
    have hmk' := hmk x.1.2 W hx.2
    have hv2 : Boxed W2 (w.heap.size + 1) 29 v := hv.kept g2 (by simp)
    have hc2 := hv2.cell
    have hrow2 : W2.ownsRow w.heap.size 22 1 v (pre.map (fun p : Piece bs.length => textOf bs p.1)).length vs := by
      refine hrow.kept g2 ?_
      rcases hrow.2 with ⟨rfl, _⟩ | ⟨g, cap, cur, rfl, _, hgb, _⟩
      · exact .inl rfl
      · exact .inr (by simp [Value.ownBlock])
    have hkk : (pre.map (fun p : Piece bs.length => textOf bs p.1)).length ≤ 1000000000000 := by simp; omega
    have HST : Hid (∀ (w4 : World) (v' : Value), w4.ownsRow w.heap.size 22 1 v' ((pre.map (fun p : Piece bs.length => textOf bs p.1)).length + 1) (vs ++ [.slice (some ⟨W.heap.size, 0, none⟩) x.1.2 x.1.2]) → (W2.alloc (.cells #[.slice (some ⟨W.heap.size, 0, none⟩) x.1.2 x.1.2] 22)).grownBy w4 v.ownBlock → (v'.ownBlock = v.ownBlock ∨ v'.ownBlock = some (W2.alloc (.cells #[.slice (some ⟨W.heap.size, 0, none⟩) x.1.2 x.1.2] 22)).heap.size) → _) := fun w4 v' k1 k2 k3 => chunksIn_step (l := textOf bs x.1) hv hrow hbk hcs hs4 g2 s2 h2 (by rw [htl]) k1 k2 k3
    obtain ⟨⟨p, m⟩, hx'⟩ := x
    dsimp only at *
    have hbs := hB.size
    generalize (pre.map (fun p : Piece bs.length => textOf bs p.1)).length = kk at *
    have HS2 : Hid (W2.heap.size = W.heap.size + 1) := s2
    have hs24 : w.heap.size ≤ W2.heap.size := by omega
    clear hmk hrow hcs s2
    gi_wp2_with (first | (gi_at_builtin; refine copyIn rfl _ _ 22 22 rfl _ _ rfl rfl _ W2 hcopy ?_) | (gi_at_builtin; refine wpListIn_append_own_at _ rfl _ _ 29 rfl w.heap.size 22 ii (.slice none 0 0) 1 24 Tryd.underlying29 hi hz0 hz1 hz2 rfl (by decide) v kk vs rfl (hrow2.alloc _) ⟨W2.heap.size, 0, none⟩ 1 1 [.slice (some ⟨W.heap.size, 0, none⟩) m m] rfl rfl (cell_one_new _ _ _) (by simp [Value.oneCell']) (by unfold maxLen; omega) (by omega) (by simp; omega) ?_; intro v' w4 o4 g4 _ d4; obtain ⟨q1, q2, q3, q4, q5, q6⟩ := HST.out w4 v' o4 g4 d4; obtain ⟨g', cap', hv'⟩ := ownsRow_succ o4; clear o4 g4 d4; subst hv'))
    exact ⟨q2.from _, q4, by rw [List.map_append]; exact q1, hB.trans q3, Nat.le_trans hs4 q2.size⟩
  case done =>
    rintro D ys W hD rfl ⟨⟨v, vs, hv, hrow, hbk, hcs⟩, hB, hs4⟩ hK
    have hc := hv.cell
    gi_wp2
    refine ⟨by simp, .inl ⟨_, _, rfl, run_takeDeferred hK, ?_⟩⟩
    have hB' : Below w.heap.size w (W.putObj D (.deferred none)) := hB.trans (belowK_b (w := w) (Nat.le_refl _) W D _ _ (by omega) hK rfl rfl)
    have hrow' := ownsRow_putObj hrow (.deferred none) hK rfl
    have hcs' : ∀ (i : Nat) (x : Value) (l : List Int), vs[i]? = some x → (chunksL bs)[i]? = some l → ChunkAt (W.putObj D (.deferred none)) x l := fun i x l h1 h2 => by
      obtain ⟨g, e, h⟩ := hcs i x l h1 h2
      refine ⟨g, e, ((grownBy_putObj' W D (.deferred none)).block g (Array.getElem?_eq_some_iff.1 h).1 ?_).trans h⟩
      intro e'
      injection e' with e'
      subst e'
      rw [h] at hK; cases hK
    exact ⟨_, results_tmp rfl _ _ _, v, rfl, parts_of_own hrow' hcs' (chunksL_small bs) (by have := hB'.size; omega), hB'⟩
  case stop =>
    rintro D c pre W _ _ h _
    exact h.elim
end Go.Proofs.YtffhjjgkoapioaaDoor
