import Derived.Test.YtplihbncmmggjaaDoorGa
namespace Go.Proofs.YtplihbncmmggjaaDoor
set_option linter.unusedSimpArgs false
set_option linter.unusedVariables false
open Go.RowKit
def kindB (k : Int) : Bool := decide (1 ≤ k ∧ k ≤ 6)
def nodeB (k : Int) : Bool := decide (0 ≤ k ∧ k ≤ 16)
def inB (m : Msg) : Bool := if m.kind = 1 then decide (m.base ≤ 4294967295 ∧ m.s.size ≤ 500) else if m.kind = 2 then (m.yes || decide (1 ≤ m.code ∧ m.code ≤ 17)) else true
set_option maxRecDepth 100000 in
theorem isKind_any (k : Int) (w : World) : Calls Tryd.prog 72 #[.int .i64 k] w fun e w' => e = .returned (.bool (kindB k)) ∧ w' = w := by
  by_cases h1 : 1 ≤ k <;> by_cases h2 : k ≤ 6
  all_goals
    have HK : Hid (kindB k = decide (1 ≤ k ∧ k ≤ 6)) := rfl
    go_enter Tryd.func72, Tryd.ntmps72
    go_wp2
    go_ret
    exact ⟨by rw [HK.out]; simp [h1, h2] <;> rfl, rfl⟩
set_option maxRecDepth 100000 in
theorem isNode_any (k : Int) (w : World) : Calls Tryd.prog 73 #[.int .i64 k] w fun e w' => e = .returned (.bool (nodeB k)) ∧ w' = w := by
  by_cases h1 : 0 ≤ k <;> by_cases h2 : k ≤ 16
  all_goals
    have HK : Hid (nodeB k = decide (0 ≤ k ∧ k ≤ 16)) := rfl
    go_enter Tryd.func73, Tryd.ntmps73
    go_wp2
    go_ret
    exact ⟨by rw [HK.out]; simp [h1, h2] <;> rfl, rfl⟩
set_option maxHeartbeats 1000000 in
set_option maxRecDepth 100000 in
theorem inBounds_any (m : Msg) (hm : m.Ok) (w : World) : Calls Tryd.prog 75 #[.agg (mC m).toArray] w fun e w' => e = .returned (.bool (inB m)) ∧ Below w.heap.size w w' := by
  have hg := heap_alloc_new w (.cells (mC m).toArray 68)
  have c0 := row_cell hg (mC_0 m)
  have c4 := row_cell hg (mC_4 m)
  have c5 := row_cell hg (mC_5 m)
  have c40 := row_cell hg (mC_40 m hm)
  have c41 := row_cell hg (mC_41 m hm)
  have B1 : Hid (Below w.heap.size w (w.alloc (.cells (mC m).toArray 68))) := (Below.refl _ _).alloc (Nat.le_refl _) _
  have hs := hm.s
  have HI : Hid (inB m = if m.kind = 1 then decide (m.base ≤ 4294967295 ∧ m.s.size ≤ 500) else if m.kind = 2 then (m.yes || decide (1 ≤ m.code ∧ m.code ≤ 17)) else true) := rfl
  generalize inB m = R at *
  generalize (mC m).toArray = C at *
  obtain ⟨k, f, t, i, b, s, q, x, h, y, c, v, r, z⟩ := m
  simp only at *
  clear hg hm
  by_cases h1 : k = 1
  · subst h1
    rw [if_pos rfl] at HI
    by_cases a1 : b ≤ 4294967295 <;> by_cases a2 : (s.size : Int) ≤ 500
    all_goals
      have a3 : s.size ≤ 500 ↔ (s.size : Int) ≤ 500 := by omega
      go_enter Tryd.func75, Tryd.ntmps75
      go_wp2
      go_ret
      exact ⟨by rw [HI.out]; simp [a1, a2, a3] <;> rfl, B1.out⟩
  · have h1b : (k == 1) = false := by simpa using h1
    rw [if_neg h1] at HI
    by_cases h2 : k = 2
    · subst h2
      rw [if_pos rfl] at HI
      cases y <;> by_cases a1 : 1 ≤ c <;> by_cases a2 : c ≤ 17
      all_goals first
        | (exfalso; omega)
        | (go_enter Tryd.func75, Tryd.ntmps75
           go_wp2
           go_ret
           exact ⟨by rw [HI.out]; simp [a1, a2] <;> rfl, B1.out⟩)
    · have h2b : (k == 2) = false := by simpa using h2
      rw [if_neg h2] at HI
      go_enter Tryd.func75, Tryd.ntmps75
      go_wp2
      go_ret
      exact ⟨by rw [HI.out]; rfl, B1.out⟩
end Go.Proofs.YtplihbncmmggjaaDoor
