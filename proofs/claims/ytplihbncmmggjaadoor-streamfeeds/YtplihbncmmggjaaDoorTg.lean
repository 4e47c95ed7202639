import Derived.Test.YtplihbncmmggjaaDoorTf
import Derived.Test.YtplihbncmmggjaaDoorFu
namespace Go.Proofs.YtplihbncmmggjaaDoor
set_option linter.unusedSimpArgs false
set_option linter.unusedVariables false
open Go.RowKit
/-- Frames in a row, read at place k. -/
theorem cellsF_at : ∀ (fs : List (Int × List Int)) (us : List Value) (k : Nat) (f : Int × List Int) (u : Value), fs[k]? = some f → us[k]? = some u → (cellsF fs us)[k * 2]? = some (.int .u8 f.1) ∧ (cellsF fs us)[k * 2 + 1]? = some u
  | [], _, k, f, u, h, _ => by simp at h
  | _ :: _, [], k, f, u, _, h => by simp at h
  | f0 :: fs, u0 :: us, 0, f, u, h, h' => by
    simp at h h'; subst h h'; exact ⟨rfl, rfl⟩
  | f0 :: fs, u0 :: us, k + 1, f, u, h, h' => by
    have ih := cellsF_at fs us k f u (by simpa using h) (by simpa using h')
    rw [show (k + 1) * 2 = k * 2 + 1 + 1 by omega]
    exact ih
set_option maxHeartbeats 1000000 in
set_option maxRecDepth 100000 in
/-- same, of frames that are alike. -/
theorem samef_pos (b o cp b2 o2 cp2 n : Nat) (hn : n ≤ 1000000) (w : World) (hC : ∀ k, k < n → ∃ (t : Int) (l : List Int) (u v : Value), ∀ W, Below w.heap.size w W → W.rangeAt b (o + k * 2) [.int .u8 t, u] ∧ W.rangeAt b2 (o2 + k * 2) [.int .u8 t, v] ∧ PartAt W u l ∧ PartAt W v l) :
    Calls Tryd.prog 50 #[.slice (some ⟨b, o, none⟩) n cp, .slice (some ⟨b2, o2, none⟩) n cp2] w fun e w' => e = .returned (.bool true) ∧ Below w.heap.size w w' := by
  have CELL : Hid (∀ k, k < n → ∃ (t : Int) (l : List Int) (u v : Value), ∀ W, Below w.heap.size w W → W.rangeAt b (o + k * 2) [.int .u8 t, u] ∧ W.rangeAt b2 (o2 + k * 2) [.int .u8 t, v] ∧ PartAt W u l ∧ PartAt W v l) := hC
  clear hC
  go_enter Tryd.func50, Tryd.ntmps50
  go_wp2
  go_loopw [13] (fun i wr => ∃ k : Nat, k ≤ n ∧ i = .int .i64 k ∧ Below w.heap.size w wr) (fun i _ => n - (intOf i).toNat)
  case atStart => exact ⟨0, by omega, rfl, Below.refl _ _⟩
  case round =>
    obtain ⟨k, hk, rfl, bw0⟩ := hrel
    have BW : Hid (Below w.heap.size w wr) := bw0
    clear bw0
    by_cases hlt : k < n
    · obtain ⟨t, l, u, v, c⟩ := CELL.out k hlt
      have i1 : (k : Int) < (n : Int) := by omega
      have i3 : (0 : Int) ≤ (k : Int) := by omega
      have HLT : Hid (k < n) := hlt
      have C1 : Hid (∀ W, Below w.heap.size w W → W.rangeAt b (o + k * 2) [.int .u8 t, u]) := fun W q => (c W q).1
      have C2 : Hid (∀ W, Below w.heap.size w W → W.rangeAt b2 (o2 + k * 2) [.int .u8 t, v]) := fun W q => (c W q).2.1
      have SM : Hid (∀ W, Below w.heap.size w W → Calls Tryd.prog 34 #[.agg #[.int .u8 t, u], .agg #[.int .u8 t, v]] W fun e w' => e = .returned (.bool true) ∧ Below w.heap.size w w') := fun W q => (same_any t u v l _ (c W q).2.2.1 (c W q).2.2.2).mono fun e w' ⟨r1, r2⟩ => ⟨r1, q.trans (r2.mono q.size)⟩
      clear c hlt CELL
      go_wp2
      refine wp_region_noPanic ?_
      refine wp_region_held_drew (S := fun w' => Below w.heap.size w w') (by kernel_rfl) (BW.out.drew) (fun hHeld => ?_)
      try simp only [Act.put, List.setIfInBounds_toArray, List.set_cons_zero, List.set_cons_succ]
      refine wpAnyH_take (i := 0) (oi := { dst := some 16, op := Go.Op.move (Go.Operand.tmp 0), type := 79, pos := "law.go:34", after := #[], guard := none }) (v := ?_) rfl (by kernel_rfl) (by kernel_rfl) (by kernel_rfl) (fun _ _ _ h => h) (Or.inl ⟨by rfl, ?_⟩) hHeld ?_
      rotate_left 1
      · (intro wq hSq; (try dsimp only at hSq); go_simp; first | done | with_reducible rfl)
      try simp only [Act.put, List.setIfInBounds_toArray, List.set_cons_zero, List.set_cons_succ]
      refine wpAnyH_take (i := 1) (oi := { dst := some 17, op := Go.Op.move (Go.Operand.tmp 5), type := 3, pos := "law.go:34", after := #[], guard := none }) (v := ?_) rfl (by kernel_rfl) (by kernel_rfl) (by kernel_rfl) (fun _ _ _ h => h) (Or.inl ⟨by rfl, ?_⟩) hHeld ?_
      rotate_left 1
      · (intro wq hSq; (try dsimp only at hSq); go_simp; first | done | with_reducible rfl)
      try simp only [Act.put, List.setIfInBounds_toArray, List.set_cons_zero, List.set_cons_succ]
      refine wpAnyH_take (i := 2) (oi := { dst := some 18, op := Go.Op.indexAddr 79 (Go.Operand.tmp 16) (Go.Operand.tmp 17), type := 0, pos := "law.go:34", after := #[{ on := 0, ground := Go.Ground.data }, { on := 1, ground := Go.Ground.data }], guard := none }) (v := ?_) rfl (by kernel_rfl) (by kernel_rfl) (by kernel_rfl) (fun _ _ _ h => h) (Or.inl ⟨by rfl, ?_⟩) hHeld ?_
      rotate_left 1
      · (intro wq hSq; (try dsimp only at hSq); go_simp; first | done | with_reducible rfl)
      try simp only [Act.put, List.setIfInBounds_toArray, List.set_cons_zero, List.set_cons_succ]
      refine wpAnyH_take (i := 3) (oi := { dst := some 19, op := Go.Op.load 46 (Go.Operand.tmp 18), type := 46, pos := "law.go:34", after := #[{ on := 2, ground := Go.Ground.data }], guard := none }) (v := .agg (List.toArray (.int .u8 t :: u :: []))) rfl (by kernel_rfl) (by kernel_rfl) (by kernel_rfl) (fun _ _ _ h => h) (yieldsIf_load_mid rfl 46 _ rfl b (o + k * 2) rfl [.int .u8 t, u] _ (fun wq hSq => (C1.out _ hSq)) Tryd.underlying46 rfl (by kernel_rfl)) hHeld ?_
      try simp only [Act.put, List.setIfInBounds_toArray, List.set_cons_zero, List.set_cons_succ]
      refine wpAnyH_take (i := 4) (oi := { dst := some 20, op := Go.Op.move (Go.Operand.tmp 1), type := 81, pos := "law.go:34", after := #[], guard := none }) (v := ?_) rfl (by kernel_rfl) (by kernel_rfl) (by kernel_rfl) (fun _ _ _ h => h) (Or.inl ⟨by rfl, ?_⟩) hHeld ?_
      rotate_left 1
      · (intro wq hSq; (try dsimp only at hSq); go_simp; first | done | with_reducible rfl)
      try simp only [Act.put, List.setIfInBounds_toArray, List.set_cons_zero, List.set_cons_succ]
      refine wpAnyH_take (i := 5) (oi := { dst := some 21, op := Go.Op.move (Go.Operand.tmp 5), type := 3, pos := "law.go:34", after := #[], guard := none }) (v := ?_) rfl (by kernel_rfl) (by kernel_rfl) (by kernel_rfl) (fun _ _ _ h => h) (Or.inl ⟨by rfl, ?_⟩) hHeld ?_
      rotate_left 1
      · (intro wq hSq; (try dsimp only at hSq); go_simp; first | done | with_reducible rfl)
      try simp only [Act.put, List.setIfInBounds_toArray, List.set_cons_zero, List.set_cons_succ]
      refine wpAnyH_take (i := 6) (oi := { dst := some 22, op := Go.Op.indexAddr 81 (Go.Operand.tmp 20) (Go.Operand.tmp 21), type := 0, pos := "law.go:34", after := #[{ on := 4, ground := Go.Ground.data }, { on := 5, ground := Go.Ground.data }], guard := none }) (v := ?_) rfl (by kernel_rfl) (by kernel_rfl) (by kernel_rfl) (fun _ _ _ h => h) (Or.inl ⟨by rfl, ?_⟩) hHeld ?_
      rotate_left 1
      · (intro wq hSq; (try dsimp only at hSq); go_simp; first | done | with_reducible rfl)
      try simp only [Act.put, List.setIfInBounds_toArray, List.set_cons_zero, List.set_cons_succ]
      refine wpAnyH_take (i := 7) (oi := { dst := some 23, op := Go.Op.load 48 (Go.Operand.tmp 22), type := 48, pos := "law.go:34", after := #[{ on := 6, ground := Go.Ground.data }], guard := none }) (v := .agg (List.toArray (.int .u8 t :: v :: []))) rfl (by kernel_rfl) (by kernel_rfl) (by kernel_rfl) (fun _ _ _ h => h) (yieldsIf_load_mid rfl 48 _ rfl b2 (o2 + k * 2) rfl [.int .u8 t, v] _ (fun wq hSq => (C2.out _ hSq)) Tryd.underlying48 rfl (by kernel_rfl)) hHeld ?_
      try simp only [Act.put, List.setIfInBounds_toArray, List.set_cons_zero, List.set_cons_succ]
      refine wpAnyH_ready (rs := [8]) (by kernel_rfl) (by simp) ?_
      refine AllReadyH.cons (o := { dst := some 24, op := Go.Op.call { callee := Go.Callee.value (Go.Operand.func 34), args := #[Go.Operand.tmp 19, Go.Operand.tmp 23], argTypes := #[46, 48] }, type := 4, pos := "law.go:34", after := #[{ on := 3, ground := Go.Ground.data }, { on := 7, ground := Go.Ground.data }], guard := none }) rfl (fun K hK => ?_) AllReadyH.nil
      go_simp
      refine (SM.out _ (by assumption)).mono ?_
      rintro e w6 ⟨rfl, b6⟩
      refine hK.out _ _ (b6) (fun hHeld1 => ?_)
      clear hK K hHeld
      try simp only [Act.put, List.setIfInBounds_toArray, List.set_cons_zero, List.set_cons_succ]
      refine wpAnyH_take (i := 9) (oi := { dst := some 25, op := Go.Op.unOp Go.UnOp.not 4 (Go.Operand.tmp 24), type := 4, pos := "law.go:34", after := #[{ on := 8, ground := Go.Ground.data }], guard := none }) (v := ?_) rfl (by kernel_rfl) (by kernel_rfl) (by kernel_rfl) (fun _ _ _ h => h) (Or.inl ⟨by rfl, ?_⟩) hHeld1 ?_
      rotate_left 1
      · (intro wq hSq; (try dsimp only at hSq); go_simp; first | done | with_reducible rfl)
      try simp only [Act.put, List.setIfInBounds_toArray, List.set_cons_zero, List.set_cons_succ]
      refine wpAnyH_done (by kernel_rfl) ?_ _
      refine NoPanic.normal ?_
      go_wp2
      go_roundw
      case rel => exact ⟨k + 1, by have := HLT.out; omega, by go_num, b6⟩
      case measure => have := HLT.out; simp [intOf]; omega
    · have i1 : ¬ (k : Int) < (n : Int) := by omega
      clear hlt CELL
      go_wp2
      go_ret
      exact ⟨rfl, BW.out⟩
end Go.Proofs.YtplihbncmmggjaaDoor
