import Derived.Test.YtjhnnblilfddpaaDoorKc
namespace Go.Proofs.YtjhnnblilfddpaaDoor
set_option linter.unusedSimpArgs false
set_option linter.unusedVariables false
open Go.RowKit
set_option maxRecDepth 100000 in
set_option maxHeartbeats 400000 in
theorem add_nil (v : Value) (w : World) : Calls Tryd.prog 72 #[.pointer none, v] w fun e w' => e = .returned (.tuple #[]) ∧ w' = w := by
  go_enter Tryd.func72, Tryd.ntmps72
  go_wp2_with fail
  refine (wBad_nil w).mono ?_
  rintro e w' ⟨rfl, rfl⟩
  go_wp2
  exact fellR Tryd.results72 rfl ⟨rfl, rfl⟩
set_option maxRecDepth 100000 in
set_option maxHeartbeats 400000 in
theorem add_bad (g : Nat) (v : Value) (w : World) (h : WSt w g none) : Calls Tryd.prog 72 #[.pointer (some ⟨g, 0, none⟩), v] w fun e w' => e = .returned (.tuple #[]) ∧ w' = w := by
  go_enter Tryd.func72, Tryd.ntmps72
  go_wp2_with fail
  refine (wBad_any g none w h).mono ?_
  rintro e w' ⟨rfl, rfl⟩
  go_wp2
  exact fellR Tryd.results72 rfl ⟨rfl, rfl⟩
set_option maxRecDepth 100000 in
theorem unfrozen {w : World} {g j : Nat} {cs : Array Value} {t : TypeId} (hg : w.heap[g]? = some (.cells cs t)) : w.frozen? ⟨g, j, none⟩ = false := by
  simp [World.frozen?, hg]
set_option maxRecDepth 100000 in
theorem add_end {w w2 : World} {g : Nat} {q : Option Addr} {l s : List Int} {ps : List (List Int)} (h1 : w.heap[g]? = some (.cells #[.pointer q, .int .i64 l.length, .bool false] 87)) (h2 : ChainAt w (.pointer q) ps) (h3 : ps.reverse.flatten = l)
    (b2 : Below w.heap.size w w2) (hn : l.length + s.length ≤ 140737488355328) :
    WSt (((w2.alloc (Obj.cells #[Value.pointer q, Value.string (strOfNums s)] 111)).setCell ⟨g, 0, none⟩ (Value.pointer (some ⟨w2.heap.size, 0, none⟩))).setCell ⟨g, 1, none⟩ (.int .i64 ((l.length : Int) + (s.length : Int)))) g (some (l ++ s)) ∧
      w.grownBy (((w2.alloc (Obj.cells #[Value.pointer q, Value.string (strOfNums s)] 111)).setCell ⟨g, 0, none⟩ (Value.pointer (some ⟨w2.heap.size, 0, none⟩))).setCell ⟨g, 1, none⟩ (.int .i64 ((l.length : Int) + (s.length : Int)))) (some g) := by
  have hlt : g < w.heap.size := (Array.getElem?_eq_some_iff.1 h1).1
  have hs2 := b2.size
  have b3 : Below w.heap.size w (w2.alloc (Obj.cells #[Value.pointer q, Value.string (strOfNums s)] 111)) := b2.alloc b2.size _
  have k3 : (w2.alloc (Obj.cells #[Value.pointer q, Value.string (strOfNums s)] 111)).heap[g]? = some (.cells #[.pointer q, .int .i64 l.length, .bool false] 87) := by rw [b3.block g hlt]; exact h1
  have n3 := heap_alloc_new w2 (Obj.cells #[Value.pointer q, Value.string (strOfNums s)] 111)
  have k4 := heap_setCell_same _ g 0 _ 87 (Value.pointer (some ⟨w2.heap.size, 0, none⟩)) k3
  have k5 := heap_setCell_same _ g 1 _ 87 (Value.int .i64 ((l.length : Int) + (s.length : Int))) k4
  have hgr := grown_trans (grown_trans (grown_below b3 (some g)) (grown_setCell _ g 0 (Value.pointer (some ⟨w2.heap.size, 0, none⟩)))) (grown_setCell _ g 1 (.int .i64 ((l.length : Int) + (s.length : Int))))
  refine ⟨⟨Value.pointer (some ⟨w2.heap.size, 0, none⟩), s :: ps, ?_, ⟨w2.heap.size, .pointer q, rfl, ?_, Nat.le_trans h2.pn_le hs2, ?_⟩, ?_, ?_⟩, hgr⟩
  · rw [k5]; simp
  · have hne : w2.heap.size ≠ g := by omega
    rw [heap_setCell_other _ _ _ _ hne, heap_setCell_other _ _ _ _ hne]; exact n3
  · refine ChainAt.keep (fun k cs hk => ?_) ps _ h2
    rw [hgr.block k (Array.getElem?_eq_some_iff.1 hk).1 (fun e => ?_)]
    · exact hk
    · injection e with e; subst e; rw [h1] at hk; injection hk with e; injection e with _ e; cases e
  · simp [h3]
  · simp; exact hn
set_option maxHeartbeats 1000000 in
set_option maxRecDepth 100000 in
theorem add_good (g : Nat) (l : List Int) (s : List Int) (w : World) (h : WSt w g (some l)) (hn : l.length + s.length ≤ 140737488355328) :
    Calls Tryd.prog 72 #[.pointer (some ⟨g, 0, none⟩), .string (strOfNums s)] w fun e w' => e = .returned (.tuple #[]) ∧ WSt w' g (some (l ++ s)) ∧ w.grownBy w' (some g) := by
  go_enter Tryd.func72, Tryd.ntmps72
  go_wp2_with fail
  refine (wBad_any g (some l) w h).mono ?_
  rintro e w' ⟨rfl, rfl⟩
  obtain ⟨v, ps, h1, h2, h3, h4⟩ := h
  obtain ⟨q, rfl⟩ : ∃ q, v = .pointer q := by
    cases ps with
    | nil => exact ⟨none, h2⟩
    | cons x r => obtain ⟨g', b, e, _⟩ := h2; exact ⟨_, e⟩
  have hz := strOfNums_size s
  have hc0 := row_cell (j := 0) h1 rfl
  have hf0 := unfrozen (j := 0) h1
  have C : Hid (∀ W : World, Below w'.heap.size w' W → Calls Tryd.prog 82 #[.string (strOfNums s)] W fun e w2 => e = .returned (.string (strOfNums s)) ∧ Below w'.heap.size w' w2 ∧ w2.heap[g]? = some (.cells #[.pointer q, .int .i64 l.length, .bool false] 87)) := fun W hW =>
    (clone_any _ W (by omega)).mono fun e w2 ⟨he, hb⟩ => ⟨he, hW.trans (hb.mono hW.size), by rw [(hW.trans (hb.mono hW.size)).block g (Array.getElem?_eq_some_iff.1 h1).1]; exact h1⟩
  have B0 : Hid (Below w'.heap.size w' w') := Below.refl _ _
  have B1 : Hid (Below w'.heap.size w' w'.drew) := (Below.refl _ _).drew
  have H1 : Hid (w'.heap[g]? = some (.cells #[.pointer q, .int .i64 l.length, .bool false] 87)) := h1
  have H2 : Hid (ChainAt w' (.pointer q) ps) := h2
  have H3 : Hid (ps.reverse.flatten = l) := h3
  clear h2 h3 h4 h1
  obtain ⟨S, hS⟩ : ∃ S, S = strOfNums s := ⟨_, rfl⟩
  have HS : Hid (S = strOfNums s) := hS
  rw [← hS] at hz C
  rw [← hS]
  clear hS
  have hi : (l.length : Int) + (S.size : Int) ≤ 9223372036854775807 := by omega
  go_wp2_with fail
  go_region_with (first | (go_at_call 82; refine (C.out _ (by first | exact B0.out | exact B1.out)).mono ?_; rintro e w2 ⟨rfl, b2, k2⟩; have d0 := row_cell (j := 0) k2 rfl; have g0 := unfrozen (j := 0) k2; have k3 : (w2.alloc (Obj.cells #[Value.pointer q, Value.string S] 111)).heap[g]? = some (.cells #[.pointer q, .int .i64 l.length, .bool false] 87) := (by rw [Below.heap_alloc _ _ _ (Array.getElem?_eq_some_iff.1 k2).1]; exact k2); have d1 := row_cell (j := 0) k3 rfl; have g1 := unfrozen (j := 0) k3))
  all_goals
    have k4 := heap_setCell_same _ g 0 _ 87 (Value.pointer (some { block := w2.heap.size, off := 0 })) k3
    have B2 : Hid (Below w'.heap.size w' w2) := b2
    clear k2 d0 g0 d1 g1 k3 b2
    generalize hW : (w2.alloc (Obj.cells #[Value.pointer q, Value.string S] 111)).setCell { block := g, off := 0 } (Value.pointer (some { block := w2.heap.size, off := 0 })) = W at *
    have hWs := hW.symm
    have HW : Hid (W = (w2.alloc (Obj.cells #[Value.pointer q, Value.string S] 111)).setCell { block := g, off := 0 } (Value.pointer (some { block := w2.heap.size, off := 0 }))) := hWs
    clear hW hWs
    have d4 := row_cell (j := 1) (v := .int .i64 l.length) k4 (by rfl)
    have g4 := unfrozen (j := 1) k4
    go_wp2
    refine fell Tryd.results72 rfl ⟨rfl, ?_⟩
    rw [HW.out, HS.out]
    exact add_end H1.out H2.out H3.out B2.out hn
end Go.Proofs.YtjhnnblilfddpaaDoor
