import Derived.Test.YtjhnnblilfddpaaDoorKx
namespace Go.Proofs.YtjhnnblilfddpaaDoor
set_option linter.unusedSimpArgs false
set_option linter.unusedVariables false
open Go.RowKit
set_option maxRecDepth 100000 in
theorem size5 : (Tryd.prog.info? 5).map (·.size) = some 1 := by kernel_rfl
set_option maxRecDepth 100000 in
theorem cells5 : Tryd.prog.cellsOf 5 = 1 := by kernel_rfl
set_option maxHeartbeats 1000000 in
set_option maxRecDepth 100000 in
theorem slClone_any (s : ByteArray) (w : World) (hlim : s.size ≤ 281474976710656) :
    Calls Tryd.prog 90 #[.string s] w fun e w' => e = .returned (.string s) ∧ Below w.heap.size w w' := by
  by_cases h0 : s.size = 0
  · have hs : s = ⟨#[]⟩ := by
      apply ByteArray.ext
      exact Array.eq_empty_of_size_eq_zero h0
    subst hs
    go_enter Tryd.func90, Tryd.ntmps90
    go_wp2
    go_ret
    exact ⟨rfl, Below.refl _ _⟩
  · have hmk := fun W : World => makeB s.size hlim W
    have hcp := Lib.run_copy_row_string (P := Tryd.prog) (w.alloc (.cells (vB (zs s.size)) 5)) 22 9 3 5 w.heap.size 0 s.size s.size s (vB (zs s.size)) 5 Tryd.underlying22 size5 (heap_alloc_new w _) (Nat.le_refl _) (by rw [vB_size, zs_length]; omega)
    obtain ⟨Y, hY⟩ : ∃ Y, Y = ((vB (zs s.size)).toList.take 0 ++ Lib.byteCells s.data.toList ++ (vB (zs s.size)).toList.drop (0 + s.size)).toArray := ⟨_, rfl⟩
    rw [← hY] at hcp
    have hYl : Y.toList = Lib.byteCells s.data.toList := by
      rw [hY, List.toList_toArray, List.take_zero, List.nil_append, List.drop_of_length_le (by rw [Array.length_toList, vB_size, zs_length]; omega), List.append_nil]
    have hYs : Y.size = s.size := by rw [← Array.length_toList, hYl, Lib.byteCells_length, ← Lib.size_eq]
    have hgY : ((w.alloc (.cells (vB (zs s.size)) 5)).setRow w.heap.size Y).heap[w.heap.size]? = some (.cells Y 5 (0, 0)) := setRow_heap _ _ _ _ 5 (0, 0) (heap_alloc_new w _)
    have hne : s.data.toList ≠ [] := fun e => h0 (by rw [Lib.size_eq, e]; rfl)
    have hUS := Lib.run_unsafeString_row (P := Tryd.prog) ((w.alloc (.cells (vB (zs s.size)) 5)).setRow w.heap.size Y) 125 3 9 5 Tryd.underlying125 cells5 w.heap.size Y.size (by unfold World.shape?; rw [hgY]) s.data.toList hne (by rw [← Lib.size_eq]; omega) (by rw [← Lib.size_eq]; omega)
      (fun j x hx => Lib.cells_of_row hgY Y.size j _ (by rw [List.take_of_length_le (by rw [Array.length_toList]; exact Nat.le_refl _), hYl]; simp [Lib.byteCells, hx]))
    rw [← Lib.size_eq] at hUS
    clear hY
    go_enter Tryd.func90, Tryd.ntmps90
    go_wp2
    go_ret
    have hb1 : Below w.heap.size w (w.alloc (.cells (vB (zs s.size)) 5)) := (Below.refl _ w).alloc (Nat.le_refl _) _
    exact ⟨rfl, Lib.below_freeze (below_setRow hb1 (Nat.le_refl _) Y) (p := ⟨w.heap.size, 0, none⟩) (Nat.le_refl _) _⟩
set_option maxRecDepth 100000 in
set_option maxHeartbeats 400000 in
theorem clone_any (s : ByteArray) (w : World) (hlim : s.size ≤ 281474976710656) :
    Calls Tryd.prog 82 #[.string s] w fun e w' => e = .returned (.string s) ∧ Below w.heap.size w w' := by
  go_enter Tryd.func82, Tryd.ntmps82
  go_wp2_with fail
  refine (slClone_any s w hlim).mono ?_
  rintro e w' ⟨rfl, hb⟩
  go_wp2
  go_ret
  exact ⟨rfl, hb⟩
/-- A pointer's place. -/
def pn : Value → Nat
  | .pointer (some a) => a.block + 1
  | _ => 0
/-- Pieces, from the last one back. -/
def ChainAt (w : World) : Value → List (List Int) → Prop
  | v, [] => v = .pointer none
  | v, s :: r => ∃ g b, v = .pointer (some ⟨g, 0, none⟩) ∧ w.heap[g]? = some (.cells #[b, .string (strOfNums s)] 111) ∧ pn b ≤ g ∧ ChainAt w b r
set_option maxRecDepth 100000 in
theorem ChainAt.pn_le {w : World} {v : Value} {ps : List (List Int)} (h : ChainAt w v ps) : pn v ≤ w.heap.size := by
  cases ps with
  | nil => rw [show v = .pointer none from h]; exact Nat.zero_le _
  | cons s r => obtain ⟨g, b, rfl, h2, _⟩ := h; exact (Array.getElem?_eq_some_iff.1 h2).1
set_option maxRecDepth 100000 in
theorem ChainAt.keep {w w' : World} (h : ∀ (k : Nat) (cs : Array Value), w.heap[k]? = some (.cells cs 111) → w'.heap[k]? = some (.cells cs 111)) : ∀ (ps : List (List Int)) (v : Value), ChainAt w v ps → ChainAt w' v ps
  | [], v, hv => hv
  | s :: r, v, ⟨g, b, h1, h2, h4, h3⟩ => ⟨g, b, h1, h _ _ h2, h4, ChainAt.keep h r b h3⟩
/-- A Writer that has written the bytes l; or a bad one. -/
def WSt (w : World) (g : Nat) : Option (List Int) → Prop
  | some l => ∃ v ps, w.heap[g]? = some (.cells #[v, .int .i64 l.length, .bool false] 87) ∧ ChainAt w v ps ∧ ps.reverse.flatten = l ∧ l.length ≤ 140737488355328
  | none => w.heap[g]? = some (.cells #[.pointer none, .int .i64 0, .bool true] 87)
set_option maxRecDepth 100000 in
theorem WSt.keep {w w' : World} {g : Nat} {st : Option (List Int)} (h : WSt w g st) (hg : w'.heap[g]? = w.heap[g]?) (hk : ∀ (k : Nat) (cs : Array Value), w.heap[k]? = some (.cells cs 111) → w'.heap[k]? = some (.cells cs 111)) : WSt w' g st := by
  cases st with
  | none => unfold WSt at *; rw [hg]; exact h
  | some l => obtain ⟨v, ps, h1, h2, h3⟩ := h; exact ⟨v, ps, by rw [hg]; exact h1, ChainAt.keep hk ps v h2, h3⟩
set_option maxRecDepth 100000 in
theorem WSt.below {w w' : World} {g : Nat} {st : Option (List Int)} (h : WSt w g st) (hb : Below w.heap.size w w') : WSt w' g st := by
  have hlt : g < w.heap.size := by
    cases st with
    | none => exact (Array.getElem?_eq_some_iff.1 h).1
    | some l => obtain ⟨v, ps, h1, _⟩ := h; exact (Array.getElem?_eq_some_iff.1 h1).1
  exact h.keep (hb.block g hlt) (fun k cs hk => by rw [hb.block k (Array.getElem?_eq_some_iff.1 hk).1]; exact hk)
set_option maxRecDepth 100000 in
/-- The other writer's turn leaves this one as it was. -/
theorem WSt.grown {w w' : World} {g g' : Nat} {st : Option (List Int)} (h : WSt w g st) {st' : Option (List Int)} (h' : WSt w g' st') (hne : g ≠ g') (hb : w.grownBy w' (some g')) : WSt w' g st := by
  have hlt : g < w.heap.size := by
    cases st with
    | none => exact (Array.getElem?_eq_some_iff.1 h).1
    | some l => obtain ⟨v, ps, h1, _⟩ := h; exact (Array.getElem?_eq_some_iff.1 h1).1
  have ht : ∀ cs : Array Value, w.heap[g']? ≠ some (.cells cs 111) := fun cs hc => by
    cases st' with
    | none => unfold WSt at h'; rw [hc] at h'; injection h' with e; injection e with _ e; cases e
    | some l => obtain ⟨v, ps, h1, _⟩ := h'; rw [hc] at h1; injection h1 with e; injection e with _ e; cases e
  exact h.keep (hb.block g hlt (by simp; omega)) (fun k cs hk => by rw [hb.block k (Array.getElem?_eq_some_iff.1 hk).1 (fun e => ht cs (by injection e with e; subst e; exact hk))]; exact hk)
def badB : Option (List Int) → Bool
  | some _ => false
  | none => true
set_option maxRecDepth 100000 in
set_option maxHeartbeats 400000 in
theorem wBad_nil (w : World) : Calls Tryd.prog 73 #[.pointer none] w fun e w' => e = .returned (.bool true) ∧ w' = w := by
  go_enter Tryd.func73, Tryd.ntmps73; go_wp2; go_ret; exact ⟨rfl, rfl⟩
set_option maxRecDepth 100000 in
set_option maxHeartbeats 400000 in
theorem wBad_any (g : Nat) (st : Option (List Int)) (w : World) (h : WSt w g st) : Calls Tryd.prog 73 #[.pointer (some ⟨g, 0, none⟩)] w fun e w' => e = .returned (.bool (badB st)) ∧ w' = w := by
  have hc : w.cell? ⟨g, 2, none⟩ = some (.bool (badB st)) := by
    cases st with
    | none => exact row_cell h rfl
    | some l => obtain ⟨v, ps, h1, _⟩ := h; exact row_cell h1 rfl
  clear h
  go_enter Tryd.func73, Tryd.ntmps73; go_wp2; go_ret; exact ⟨rfl, rfl⟩
set_option maxRecDepth 100000 in
/-- A function without results, at its end. -/
theorem fell {fn : Func} {R : Ending → World → Prop} {a : Act} {w : World} (hr : fn.results = #[]) (hd : a.defers = []) (hR : R (.returned (.tuple #[])) w) : bodyPost Tryd.prog fn R .normal a w :=
  bodyPost_end (v := .tuple #[]) (by simp [results, hr, go_sem]) hd hR
set_option maxRecDepth 100000 in
theorem fellR {fn : Func} {R : Ending → World → Prop} {a : Act} {w : World} (hr : fn.results = #[]) (hd : a.defers = []) (hR : R (.returned (.tuple #[])) w) : bodyPost Tryd.prog fn R .ret a w :=
  bodyPost_ret (v := .tuple #[]) (by simp [results, hr, go_sem]) hd hR
set_option maxRecDepth 100000 in
set_option maxHeartbeats 400000 in
theorem wFail_nil (w : World) : Calls Tryd.prog 71 #[.pointer none] w fun e w' => e = .returned (.tuple #[]) ∧ w' = w := by
  go_enter Tryd.func71, Tryd.ntmps71; go_wp2
  exact fell Tryd.results71 rfl ⟨rfl, rfl⟩
section
variable {ops : Array Oper} {rest : List Oper} {o : Oper} {a : Act} {w : World} {Q : Exit → Act → World → Prop}
set_option maxRecDepth 100000 in
theorem store27 (hgd : o.guard = none) (x y : Operand) (ho : o.op = .store 87 x y) (g : Nat) (u0 u1 u2 : Value) (hx : a.eval x = .pointer (some ⟨g, 0, none⟩)) (hy : a.eval y = .agg #[u0, u1, u2]) (hone : (#[u0, u1, u2] : Array Value).all (·.oneCell') = true) (v0 v1 v2 : Value) (hg : w.heap[g]? = some (.cells #[v0, v1, v2] 87))
    (h : wpList Tryd.prog ops Q rest (a.put o.dst undef) (w.setRow g #[u0, u1, u2])) : wpList Tryd.prog ops Q (o :: rest) a w :=
  wpList_store_row hgd 87 x y ho g _ hx hy 87 _ hg (by kernel_rfl) rfl hone h
end
set_option maxRecDepth 100000 in
theorem grown_setRow (w : World) (g : Nat) (cs : Array Value) : w.grownBy (w.setRow g cs) (some g) :=
  ⟨rfl, rfl, rfl, by simp, fun k _ h => setRow_far _ _ _ _ (fun e => h (by rw [e]))⟩
set_option maxRecDepth 100000 in
theorem WSt.cells {w : World} {g : Nat} {st : Option (List Int)} (h : WSt w g st) : ∃ v0 v1 v2, w.heap[g]? = some (.cells #[v0, v1, v2] 87) := by
  cases st with
  | none => exact ⟨_, _, _, h⟩
  | some l => obtain ⟨v, ps, h1, _⟩ := h; exact ⟨_, _, _, h1⟩
set_option maxRecDepth 100000 in
set_option maxHeartbeats 400000 in
theorem wFail_any (g : Nat) (st : Option (List Int)) (w : World) (h : WSt w g st) : Calls Tryd.prog 71 #[.pointer (some ⟨g, 0, none⟩)] w fun e w' => e = .returned (.tuple #[]) ∧ WSt w' g none ∧ w.grownBy w' (some g) := by
  obtain ⟨v0, v1, v2, hc⟩ := h.cells
  have hone : (#[.pointer none, .int .i64 0, .bool true] : Array Value).all (·.oneCell') = true := by
    apply all_oneCell_toArray; intro v hv; simp at hv; rcases hv with rfl | rfl | rfl <;> rfl
  go_enter Tryd.func71, Tryd.ntmps71
  go_wp2_with (first | (refine store27 rfl _ _ rfl g (.pointer none) (.int .i64 0) (.bool true) rfl rfl hone v0 v1 v2 hc ?_))
  exact fell Tryd.results71 rfl ⟨rfl, setRow_same hc, grown_setRow _ _ _⟩
end Go.Proofs.YtjhnnblilfddpaaDoor
