import Derived.Test.YtffhjjgkoapioaaDoorPa
namespace Go.Proofs.YtffhjjgkoapioaaDoor
set_option linter.unusedSimpArgs false
set_option linter.unusedVariables false
open Go.RowKit
set_option maxRecDepth 100000 in
theorem depthN_small (m : Nat) : ∀ n i, n ≤ m → depthN n i ≤ n := by
  induction m with
  | zero => intro n i h; rw [depthN_one n i (by omega)]; omega
  | succ m ih =>
    intro n i h
    rcases Nat.lt_or_ge n 2 with h2 | h2
    · rw [depthN_one n i h2]; omega
    · have k1 := halfN_pos n
      have k2 := halfN_lt n h2
      by_cases hk : i < halfN n
      · rw [depthN_lo n i h2 hk]
        have := ih (halfN n) i (by omega)
        omega
      · rw [depthN_hi n i h2 hk]
        have := ih (n - halfN n) (i - halfN n) (by omega)
        omega
set_option maxRecDepth 100000 in
theorem leavesL_length (bs : List Int) : (leavesL bs).length = (bs.length + 31) / 32 := by unfold leavesL; rw [List.length_map, chunksL_length]
set_option maxRecDepth 100000 in
set_option maxHeartbeats 600000 in
/-- The reference's Proof, of an index that is there. -/
theorem rproof_in (v : Value) (bs : List Int) (i : Nat) (w : World) (h0 : 0 < w.heap.size) (hp : PartAt w v bs) (hn : bs.length ≤ 30000) (hby : Bytes bs) (hi : i < (leavesL bs).length) :
    Calls Tryd.prog 39 #[v, .int .i64 i] w fun e w' => ∃ u, e = .returned (.tuple #[u, .int .i64 0]) ∧ HashRow w.heap.size (pathD (depthN (leavesL bs).length i) (leavesL bs) i) u w' ∧ Below w.heap.size w w' := by
  have hl := leavesL_length bs
  have hd := depthN_small _ (leavesL bs).length i (Nat.le_refl _)
  have C1 : Hid (Calls Tryd.prog 64 #[v] w fun e w' => ∃ v', e = .returned v' ∧ ListAt w' v' (leavesL bs) ∧ Below w.heap.size w w') := rleaves_any v bs w h0 hp (by omega) hby
  have C2 : Hid (∀ w' x, 0 < w'.heap.size → ListAt w' x (leavesL bs) → Calls Tryd.prog 67 #[x, .int .i64 i] w' fun e w'' => ∃ u, e = .returned u ∧ HashRow w'.heap.size (pathD (depthN (leavesL bs).length i) (leavesL bs) i) u w'' ∧ Below w'.heap.size w' w'') := fun w' x q hx => path_any _ (leavesL bs) i x w' rfl hi (by omega) (by omega) (leavesL_hashes bs) q hx
  have hsm : (leavesL bs).length ≤ 1000 := by omega
  generalize pathD (depthN (leavesL bs).length i) (leavesL bs) i = P at *
  generalize leavesL bs = ls at *
  clear hl hd hby
  obtain ⟨av, _, _, cp, rfl, _⟩ := hp
  go_enter Tryd.func39, Tryd.ntmps39
  go_wp2_with fail
  refine C1.out.mono ?_
  rintro e w2 ⟨x, rfl, px, b2⟩
  have px0 := px
  obtain ⟨avx, bx, ox, cpx, rfl, _⟩ := px
  have i1 : ¬ (i : Int) < 0 := by omega
  have i2 : ¬ (ls.length : Int) ≤ (i : Int) := by omega
  have D2 := C2.out w2 _ (by have := b2.size; omega) px0
  have HD2 : Hid (Calls Tryd.prog 67 #[.slice avx ls.length cpx, .int .i64 i] w2 fun e w'' => ∃ u, e = .returned u ∧ HashRow w2.heap.size P u w'' ∧ Below w2.heap.size w2 w'') := D2
  clear D2 C1 C2 px0
  go_wp2_with (first | (go_at_call 67; refine HD2.out.mono ?_; rintro e w3 ⟨u, rfl, o3, b3⟩))
  go_ret2
  exact ⟨u, rfl, own_mono o3 b2.size, b2.trans (b3.mono b2.size)⟩
set_option maxRecDepth 100000 in
set_option maxHeartbeats 600000 in
/-- The reference's Proof, of an index that is not. -/
theorem rproof_out (v : Value) (bs : List Int) (i : Int) (w : World) (h0 : 0 < w.heap.size) (hp : PartAt w v bs) (hn : bs.length ≤ 30000) (hby : Bytes bs) (hi : i < 0 ∨ (leavesL bs).length ≤ i) :
    Calls Tryd.prog 39 #[v, .int .i64 i] w fun e w' => e = .returned (.tuple #[.slice none 0 0, .int .i64 1]) ∧ Below w.heap.size w w' := by
  have hl := leavesL_length bs
  have C1 : Hid (Calls Tryd.prog 64 #[v] w fun e w' => ∃ v', e = .returned v' ∧ ListAt w' v' (leavesL bs) ∧ Below w.heap.size w w') := rleaves_any v bs w h0 hp (by omega) hby
  have hsm : (leavesL bs).length ≤ 1000 := by omega
  generalize leavesL bs = ls at *
  clear hl hby
  obtain ⟨av, _, _, cp, rfl, _⟩ := hp
  by_cases hneg : i < 0
  all_goals go_enter Tryd.func39, Tryd.ntmps39
  all_goals go_wp2_with fail
  all_goals refine C1.out.mono ?_
  all_goals rintro e w2 ⟨x, rfl, px, b2⟩
  all_goals obtain ⟨avx, bx, ox, cpx, rfl, _⟩ := px
  · go_wp2
    go_ret2
    exact ⟨rfl, b2⟩
  · have i2 : (ls.length : Int) ≤ i := by omega
    go_wp2
    go_ret2
    exact ⟨rfl, b2⟩
end Go.Proofs.YtffhjjgkoapioaaDoor
