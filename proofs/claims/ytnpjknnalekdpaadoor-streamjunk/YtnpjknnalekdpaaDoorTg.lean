import Derived.Test.YtnpjknnalekdpaaDoorTf
import Derived.Test.YtnpjknnalekdpaaDoorFu
namespace Go.Proofs.YtnpjknnalekdpaaDoor
set_option linter.unusedSimpArgs false
set_option linter.unusedVariables false
open Go.RowKit
/-- Frames in a row, read at place k. -/
theorem cellsF_at : ∀ (fs : List (Int × List Int)) (us : List Value) (k : Nat) (f : Int × List Int) (u : Value), fs[k]? = some f → us[k]? = some u → (cellsF fs us)[k * 2]? = some (.int .u8 f.1) ∧ (cellsF fs us)[k * 2 + 1]? = some u
  | [], _, k, f, u, h, _ => by simp at h
  | _ :: _, [], k, f, u, _, h => by simp at h
  | f0 :: fs, u0 :: us, 0, f, u, h, h' => by
    simp at h h'; subst h h'; exact ⟨rfl, rfl⟩
  | f0 :: fs, u0 :: us, k + 1, f, u, h, h' => by
    have ih := cellsF_at fs us k f u (by simpa using h) (by simpa using h')
    rw [show (k + 1) * 2 = k * 2 + 1 + 1 by omega]
    exact ih
set_option maxHeartbeats 1000000 in
set_option maxRecDepth 100000 in
/-- same, of frames that are alike. -/
theorem samef_pos (b o cp b2 o2 cp2 n : Nat) (hn : n ≤ 1000000) (w : World) (hC : ∀ k, k < n → ∃ (t : Int) (l : List Int) (u v : Value), ∀ W, Below w.heap.size w W → W.rangeAt b (o + k * 2) [.int .u8 t, u] ∧ W.rangeAt b2 (o2 + k * 2) [.int .u8 t, v] ∧ PartAt W u l ∧ PartAt W v l) :
    Calls Tryd.prog 50 #[.slice (some ⟨b, o, none⟩) n cp, .slice (some ⟨b2, o2, none⟩) n cp2] w fun e w' => e = .returned (.bool true) ∧ Below w.heap.size w w' := by
  have CELL : Hid (∀ k, k < n → ∃ (t : Int) (l : List Int) (u v : Value), ∀ W, Below w.heap.size w W → W.rangeAt b (o + k * 2) [.int .u8 t, u] ∧ W.rangeAt b2 (o2 + k * 2) [.int .u8 t, v] ∧ PartAt W u l ∧ PartAt W v l) := hC
  clear hC
  go_enter Tryd.func50, Tryd.ntmps50
  go_wp2
  go_loopw [13] (fun i wr => ∃ k : Nat, k ≤ n ∧ i = .int .i64 k ∧ Below w.heap.size w wr) (fun i _ => n - (intOf i).toNat)
  case atStart => exact ⟨0, by omega, rfl, Below.refl _ _⟩
  case round =>
    obtain ⟨k, hk, rfl, bw0⟩ := hrel
    have BW : Hid (Below w.heap.size w wr) := bw0
    clear bw0
    by_cases hlt : k < n
    · obtain ⟨t, l, u, v, c⟩ := CELL.out k hlt
      have i1 : (k : Int) < (n : Int) := by omega
      have i3 : (0 : Int) ≤ (k : Int) := by omega
      have HLT : Hid (k < n) := hlt
      have C1 : Hid (∀ W, Below w.heap.size w W → W.rangeAt b (o + k * 2) [.int .u8 t, u]) := fun W q => (c W q).1
      have C2 : Hid (∀ W, Below w.heap.size w W → W.rangeAt b2 (o2 + k * 2) [.int .u8 t, v]) := fun W q => (c W q).2.1
      have SM : Hid (∀ W, Below w.heap.size w W → Calls Tryd.prog 34 #[.agg #[.int .u8 t, u], .agg #[.int .u8 t, v]] W fun e w' => e = .returned (.bool true) ∧ Below w.heap.size w w') := fun W q => (same_any t u v l _ (c W q).2.2.1 (c W q).2.2.2).mono fun e w' ⟨r1, r2⟩ => ⟨r1, q.trans (r2.mono q.size)⟩
      clear c hlt CELL
      go_wp2
      refine wp_region_noPanic ?_
      refine wp_region_held_drew (S := fun w' => Below w.heap.size w w') (by kernel_rfl) (BW.out.drew) (fun hHeld => ?_)
      try simp only [Act.put, List.setIfInBounds_toArray, List.set_cons_zero, List.set_cons_succ]
      refine wpAnyH_take (i := 0) (oi := ⟨some 16, .move (.tmp 0), 79, "law.go:34", #[], none⟩) (v := ?_) rfl (by kernel_rfl) (by kernel_rfl) (by kernel_rfl) (fun _ _ _ h => h) (Or.inl ⟨by rfl, ?_⟩) hHeld ?_
      rotate_left 1
      · (intro wq hSq; (try dsimp only at hSq); go_simp; first | done | with_reducible rfl)
      try simp only [Act.put, List.setIfInBounds_toArray, List.set_cons_zero, List.set_cons_succ]
      refine wpAnyH_take (i := 1) (oi := ⟨some 17, .move (.tmp 5), 3, "law.go:34", #[], none⟩) (v := ?_) rfl (by kernel_rfl) (by kernel_rfl) (by kernel_rfl) (fun _ _ _ h => h) (Or.inl ⟨by rfl, ?_⟩) hHeld ?_
      rotate_left 1
      · (intro wq hSq; (try dsimp only at hSq); go_simp; first | done | with_reducible rfl)
      try simp only [Act.put, List.setIfInBounds_toArray, List.set_cons_zero, List.set_cons_succ]
      refine wpAnyH_take (i := 2) (oi := ⟨some 18, .indexAddr 79 (.tmp 16) (.tmp 17), 0, "law.go:34", #[⟨0, .data⟩, ⟨1, .data⟩], none⟩) (v := ?_) rfl (by kernel_rfl) (by kernel_rfl) (by kernel_rfl) (fun _ _ _ h => h) (Or.inl ⟨by rfl, ?_⟩) hHeld ?_
      rotate_left 1
      · (intro wq hSq; (try dsimp only at hSq); go_simp; first | done | with_reducible rfl)
      try simp only [Act.put, List.setIfInBounds_toArray, List.set_cons_zero, List.set_cons_succ]
      refine wpAnyH_take (i := 3) (oi := ⟨some 19, .load 46 (.tmp 18), 46, "law.go:34", #[⟨2, .data⟩], none⟩) (v := .agg (List.toArray (.int .u8 t :: u :: []))) rfl (by kernel_rfl) (by kernel_rfl) (by kernel_rfl) (fun _ _ _ h => h) (yieldsIf_load_mid rfl 46 _ rfl b (o + k * 2) rfl [.int .u8 t, u] _ (fun wq hSq => (C1.out _ hSq)) Tryd.underlying46 rfl (by kernel_rfl)) hHeld ?_
      try simp only [Act.put, List.setIfInBounds_toArray, List.set_cons_zero, List.set_cons_succ]
      refine wpAnyH_take (i := 4) (oi := ⟨some 20, .move (.tmp 1), 81, "law.go:34", #[], none⟩) (v := ?_) rfl (by kernel_rfl) (by kernel_rfl) (by kernel_rfl) (fun _ _ _ h => h) (Or.inl ⟨by rfl, ?_⟩) hHeld ?_
      rotate_left 1
      · (intro wq hSq; (try dsimp only at hSq); go_simp; first | done | with_reducible rfl)
      try simp only [Act.put, List.setIfInBounds_toArray, List.set_cons_zero, List.set_cons_succ]
      refine wpAnyH_take (i := 5) (oi := ⟨some 21, .move (.tmp 5), 3, "law.go:34", #[], none⟩) (v := ?_) rfl (by kernel_rfl) (by kernel_rfl) (by kernel_rfl) (fun _ _ _ h => h) (Or.inl ⟨by rfl, ?_⟩) hHeld ?_
      rotate_left 1
      · (intro wq hSq; (try dsimp only at hSq); go_simp; first | done | with_reducible rfl)
      try simp only [Act.put, List.setIfInBounds_toArray, List.set_cons_zero, List.set_cons_succ]
      refine wpAnyH_take (i := 6) (oi := ⟨some 22, .indexAddr 81 (.tmp 20) (.tmp 21), 0, "law.go:34", #[⟨4, .data⟩, ⟨5, .data⟩], none⟩) (v := ?_) rfl (by kernel_rfl) (by kernel_rfl) (by kernel_rfl) (fun _ _ _ h => h) (Or.inl ⟨by rfl, ?_⟩) hHeld ?_
      rotate_left 1
      · (intro wq hSq; (try dsimp only at hSq); go_simp; first | done | with_reducible rfl)
      try simp only [Act.put, List.setIfInBounds_toArray, List.set_cons_zero, List.set_cons_succ]
      refine wpAnyH_take (i := 7) (oi := ⟨some 23, .load 48 (.tmp 22), 48, "law.go:34", #[⟨6, .data⟩], none⟩) (v := .agg (List.toArray (.int .u8 t :: v :: []))) rfl (by kernel_rfl) (by kernel_rfl) (by kernel_rfl) (fun _ _ _ h => h) (yieldsIf_load_mid rfl 48 _ rfl b2 (o2 + k * 2) rfl [.int .u8 t, v] _ (fun wq hSq => (C2.out _ hSq)) Tryd.underlying48 rfl (by kernel_rfl)) hHeld ?_
      try simp only [Act.put, List.setIfInBounds_toArray, List.set_cons_zero, List.set_cons_succ]
      refine wpAnyH_ready (rs := [8]) (by kernel_rfl) (by simp) ?_
      refine AllReadyH.cons (o := ⟨some 24, .call ⟨.value (.func 34), #[.tmp 19, .tmp 23], #[46, 48]⟩, 4, "law.go:34", #[⟨3, .data⟩, ⟨7, .data⟩], none⟩) rfl (fun K hK => ?_) AllReadyH.nil
      go_simp
      refine (SM.out _ (by assumption)).mono ?_
      rintro e w6 ⟨rfl, b6⟩
      refine hK.out _ _ (b6) (fun hHeld1 => ?_)
      clear hK K hHeld
      try simp only [Act.put, List.setIfInBounds_toArray, List.set_cons_zero, List.set_cons_succ]
      refine wpAnyH_take (i := 9) (oi := ⟨some 25, .unOp .not 4 (.tmp 24), 4, "law.go:34", #[⟨8, .data⟩], none⟩) (v := ?_) rfl (by kernel_rfl) (by kernel_rfl) (by kernel_rfl) (fun _ _ _ h => h) (Or.inl ⟨by rfl, ?_⟩) hHeld1 ?_
      rotate_left 1
      · (intro wq hSq; (try dsimp only at hSq); go_simp; first | done | with_reducible rfl)
      try simp only [Act.put, List.setIfInBounds_toArray, List.set_cons_zero, List.set_cons_succ]
      refine wpAnyH_done (by kernel_rfl) ?_ _
      refine NoPanic.normal ?_
      go_wp2
      go_roundw
      case rel => exact ⟨k + 1, by have := HLT.out; omega, by go_num, b6⟩
      case measure => have := HLT.out; simp [intOf]; omega
    · have i1 : ¬ (k : Int) < (n : Int) := by omega
      clear hlt CELL
      go_wp2
      go_ret
      exact ⟨rfl, BW.out⟩
end Go.Proofs.YtnpjknnalekdpaaDoor
