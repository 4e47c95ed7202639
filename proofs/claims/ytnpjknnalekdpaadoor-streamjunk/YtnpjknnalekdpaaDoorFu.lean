import Derived.Test.YtnpjknnalekdpaaDoorBb
namespace Go.Proofs.YtnpjknnalekdpaaDoor
set_option linter.unusedSimpArgs false
set_option linter.unusedVariables false
open Go.RowKit
set_option maxHeartbeats 1000000 in
set_option maxRecDepth 100000 in
/-- Same, of two alike. -/
theorem same_any (x : Int) (u u' : Value) (l : List Int) (w : World) (hp : PartAt w u l) (hq : PartAt w u' l) : Calls Tryd.prog 34 #[.agg #[.int .u8 x, u], .agg #[.int .u8 x, u']] w fun e w' => e = .returned (.bool true) ∧ Below w.heap.size w w' := by
  have p0 := hp
  have q0 := hq
  obtain ⟨a1, b1, o1, c1, rfl, _⟩ := hp
  obtain ⟨a2, b2, o2, c2, rfl, _⟩ := hq
  obtain ⟨W, hW⟩ : ∃ W, W = (w.alloc (.cells #[.int .u8 x, .slice a1 l.length c1] 46)).alloc (.cells #[.int .u8 x, .slice a2 l.length c2] 48) := ⟨_, rfl⟩
  have k1 : Below w.heap.size w (w.alloc (.cells #[.int .u8 x, .slice a1 l.length c1] 46)) := (Below.refl _ _).alloc (Nat.le_refl _) _
  have k2 : Below w.heap.size w W := by rw [hW]; exact k1.alloc k1.size _
  have hg2 := heap_alloc_new (w.alloc (.cells #[.int .u8 x, .slice a1 l.length c1] 46)) (.cells #[.int .u8 x, .slice a2 l.length c2] 48)
  have hg1 : W.heap[w.heap.size]? = some (.cells #[.int .u8 x, .slice a1 l.length c1] 46) := by rw [hW, Below.heap_alloc _ _ _ (by simp)]; exact heap_alloc_new _ _
  rw [← hW] at hg2
  rw [show (w.alloc (.cells #[.int .u8 x, .slice a1 l.length c1] 46)).heap.size = w.heap.size + 1 by simp] at hg2
  have e0 := row_cell (j := 0) hg1 rfl
  have e1 := row_cell (j := 1) hg1 rfl
  have e2 := row_cell (j := 0) hg2 rfl
  have e3 := row_cell (j := 1) hg2 rfl
  have v1 := run_conv (p0.below k2)
  have v2 := run_conv (q0.below k2)
  have K2 : Hid (Below w.heap.size w W) := k2
  have HW : Hid (W = (w.alloc (.cells #[.int .u8 x, .slice a1 l.length c1] 46)).alloc (.cells #[.int .u8 x, .slice a2 l.length c2] 48)) := hW
  generalize strOfNums l = S at *
  clear hg1 hg2 p0 q0 k1 k2 hW
  go_enter Tryd.func34, Tryd.ntmps34
  refine wp_seq ?_
  go_wp2_with fail
  rw [← HW.out]
  go_wp2_with fail
  rw [v1]
  go_wp2_with fail
  go_ret
  exact ⟨rfl, K2.out⟩
/-- What Encode answers, in one form. -/
def encC (t : Int) (b : List Int) : Int := if t = 0 then 1 else if 1000 < b.length then 5 else 0
def encL (t : Int) (b : List Int) : List Int := if t = 0 then [] else if 1000 < b.length then [] else encB t b
theorem EncOf.u {t : Int} {b : List Int} {w : World} {e : Ending} {w' : World} (h : EncOf t b w e w') (h0 : 0 < w.heap.size) : ∃ av L cp, e = .returned (.tuple #[.slice av L cp, .int .i64 (encC t b)]) ∧ PartAt w' (.slice av L cp) (encL t b) ∧ Below w.heap.size w w' := by
  obtain ⟨h1, h2⟩ := h
  have hz : 0 < w'.heap.size := by have := h1.size; omega
  unfold encC encL
  by_cases ht : t = 0
  · rw [if_pos ht] at h2
    rw [if_pos ht, if_pos ht]
    exact ⟨none, 0, 0, h2, part_none w' hz, h1⟩
  · rw [if_neg ht] at h2
    rw [if_neg ht, if_neg ht]
    by_cases hl : 1000 < b.length
    · rw [if_pos hl] at h2
      rw [if_pos hl, if_pos hl]
      exact ⟨none, 0, 0, h2, part_none w' hz, h1⟩
    · rw [if_neg hl] at h2
      rw [if_neg hl, if_neg hl]
      obtain ⟨u, r1, r2⟩ := h2
      have r2' := r2
      obtain ⟨av, b', o', cp, rfl, _⟩ := r2'
      exact ⟨av, _, cp, r1, r2, h1⟩
end Go.Proofs.YtnpjknnalekdpaaDoor
