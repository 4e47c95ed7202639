import Derived.Test.YtplihbncmmggjaaDoorBc
namespace Go.Proofs.YtplihbncmmggjaaDoor
set_option linter.unusedSimpArgs false
set_option linter.unusedVariables false
open Go.RowKit
/-- What the reference's Decode has in hand between. -/
def PhiD (x3 : Int) (B : List Int) (M n0 : Nat) (d : Nat) (v : Value) (w : World) : Prop :=
  match d with
  | 28 => ∃ g, v = .slice (some ⟨g, 0, none⟩) 0 0
  | 33 => ∃ av cp, v = .slice av M cp ∧ PartT w v B
  | 34 => ∃ av cp, v = .agg #[.int .u8 x3, .slice av M cp] ∧ PartT w (.slice av M cp) B
  | 6 => ∃ g, v = .pointer (some ⟨g, 0, none⟩) ∧ n0 ≤ g ∧ w.heap[g]? = some (.cells #[.int .u8 0, .slice none 0 0] 48)
  | _ => True
theorem phiD_below (x3 : Int) (B : List Int) (M n0 d : Nat) (v : Value) (w w' : World) (h : PhiD x3 B M n0 d v w) (k : Below w.heap.size w w') : PhiD x3 B M n0 d v w' := by
  unfold PhiD at h ⊢
  split
  · exact h
  · obtain ⟨g, c, h1, h2⟩ := h; exact ⟨g, c, h1, h2.below k⟩
  · obtain ⟨g, c, h1, h2⟩ := h; exact ⟨g, c, h1, h2.below k⟩
  · obtain ⟨g, h1, h2, h3⟩ := h; exact ⟨g, h1, h2, by rw [k.block _ (Array.getElem?_eq_some_iff.1 h3).1]; exact h3⟩
  · trivial
set_option maxHeartbeats 1000000 in
set_option maxRecDepth 100000 in
theorem rdec_ok_a (b o L cp : Nat) (bs : List Int) (x3 : Int) (M : Nat) (w : World) (hp : PartAt w (.slice (some ⟨b, o, none⟩) L cp) bs) (hL : bs.length = L) (hb : Bytes bs) (h : beginsB bs = true) (hl : 10 ≤ L) (h3 : gi bs 3 = x3) (hx3 : 0 ≤ x3 ∧ x3 ≤ 255) (hM : gi bs 4 * 256 + gi bs 5 = (M : Int)) (hM1 : M ≤ 1000) (hs : 10 + M ≤ L) (hc10 : ¬ cp = 10) (hr : w.rangeAt b o (vB bs).toList) (hbl : b < w.heap.size) (hcp : L ≤ cp) (h63 : cp ≤ 9223372036854775807) (Bd : List Int) (hBl : Bd.length = M) (hBb : Bytes Bd) (hBody : ∀ W, Below w.heap.size w W → PartAt W (.slice (some ⟨b, o + 10, none⟩) M (cp - 10)) Bd) (heq : sum4 x3 Bd = (bs.drop 6).take 4) : Calls Tryd.prog 33 #[.slice (some ⟨b, o, none⟩) L cp] w fun e w' => ∃ u, e = .returned (.tuple #[.agg #[.int .u8 x3, u], .int .i64 (10 + (M : Int)), .int .i64 0]) ∧ PartAt w' u Bd ∧ Below w.heap.size w w' := by
  have BG : Hid (Calls Tryd.prog 36 #[.slice (some ⟨b, o, none⟩) L cp] (w.alloc (.cells #[.int .u8 0, .slice none 0 0] 48)) fun e w' => e = .returned (.bool true) ∧ Below w.heap.size w w' ∧ w'.heap[w.heap.size]? = some (.cells #[.int .u8 0, .slice none 0 0] 48)) := rbegins_box _ bs w hp hb true h
  have OF : Hid (∀ W, Below w.heap.size w W → Calls Tryd.prog 56 #[.slice (some ⟨b, o + 4, none⟩) 2 (cp - 4)] W fun e w' => e = .returned (.int .u64 M) ∧ W = w') := rof_at b o L cp bs M w hL (by omega) hr hbl (by omega) (by omega) hb hM
  have CX : Hid (∀ W, Below w.heap.size w W → W.cell? ⟨b, o + 3, none⟩ = some (.int .u8 x3)) := fun W q => by rw [← h3]; exact rangeB (range_below hr q hbl) 3 (by omega)
  have P4 : Hid (∀ W, Below w.heap.size w W → PartAt W (.slice (some ⟨b, o + 6, none⟩) 4 (cp - 6)) ((bs.drop 6).take 4)) := fun W q => (sub_part (cp := cp) hL (by omega) (by omega) hr hbl 6 4 (by omega)).below q
  have BODY : Hid (∀ W, Below w.heap.size w W → PartAt W (.slice (some ⟨b, o + 10, none⟩) M (cp - 10)) Bd) := hBody
  have SM : Hid (∀ (W : World) (u : Value), PartAt W u Bd → Calls Tryd.prog 65 #[.int .u8 x3, u] W fun e w' => ∃ av4 cp4, e = .returned (.slice av4 4 cp4) ∧ PartAt w' (.slice av4 4 cp4) (sum4 x3 Bd) ∧ Below W.heap.size W w') := fun W u q =>
    (rsum4_any x3 hx3 _ Bd W q hBb (by omega)).mono fun e w' ⟨u, r1, r2, r3⟩ => by
      have r2' := r2
      obtain ⟨a4, b4, o4, c4, hu, _⟩ := r2'
      rw [sum4_length] at hu
      subst hu
      exact ⟨a4, c4, r1, r2, r3⟩
  have HSB : Bytes (sum4 x3 Bd) := sum4_bytes _ _
  have HB4 : Bytes ((bs.drop 6).take 4) := fun y hy => hb y (List.mem_of_mem_drop (List.mem_of_mem_take hy))
  have HBL : Hid (Bd.length = M) := hBl
  have HW0 : Hid (b < w.heap.size) := hbl
  have HEQ : Hid (strOfNums (sum4 x3 Bd) = strOfNums ((bs.drop 6).take 4)) := by unfold Hid; rw [heq]
  have g1 : ¬ (L : Int) < 10 := by omega
  have g2 : (6 : Int) ≤ (cp : Int) := by omega
  have g3 : ¬ cp = 4 := by omega
  have g4 : ¬ (L : Int) < 10 + (M : Int) := by omega
  have g5 : (3 : Int) < (L : Int) := by omega
  have g6 : (10 : Int) ≤ 10 + (M : Int) := by omega
  have g7 : 10 + (M : Int) ≤ (cp : Int) := by omega
  have g8 : (10 + (M : Int)).toNat - 10 = M := by omega
  have g9 : ¬ cp = 6 := by omega
  have g10 : (10 : Int) ≤ (cp : Int) := by omega
  have g11 : IntKind.i64.wrap (10 + (M : Int)) = 10 + (M : Int) := by exact IntWalk.i64_in _ (by omega)
  have g12 : M ≤ 1000 := hM1
  generalize sum4 x3 Bd = S4 at *
  generalize (bs.drop 6).take 4 = Q4 at *
  clear hp hr hM h h3 hBody hBb hBl heq HSB HB4 hb hL hs hM1
  go_enter Tryd.func33, Tryd.ntmps33
  go_wp2_with fail
  refine BG.out.mono ?_
  rintro e w2 ⟨rfl, b2, k2⟩
  have K2 : Hid (w2.heap[w.heap.size]? = some (.cells #[.int .u8 0, .slice none 0 0] 48)) := k2
  have B2 : Hid (Below w.heap.size w w2) := b2
  clear k2 BG b2
  go_wp2_with (first | (go_at_call 56; refine (OF.out _ B2.out).mono ?_; rintro e w5 ⟨rfl, q5⟩; subst q5; clear OF))
  have BD : Hid (Below w2.heap.size w2 w2.drew) := (Below.refl _ _).drew
  refine wp_region_noPanic ?_
  refine wp_region_held_drew (S := fun w' => Below w2.heap.size w2 w') (by kernel_rfl) (BD.out) (fun hHeld => ?_)
  try simp only [Act.put, List.setIfInBounds_toArray, List.set_cons_zero, List.set_cons_succ]
  refine wpAnyH_take (i := 0) (oi := ⟨some 25, .move (.tmp 0), 22, "ref.go:236", #[], none⟩) (v := ?_) rfl (by kernel_rfl) (by kernel_rfl) (by kernel_rfl) (fun _ _ _ h => h) (Or.inl ⟨by rfl, ?_⟩) hHeld ?_
  rotate_left 1
  · (intro wq hSq; (try dsimp only at hSq); go_simp; first | done | with_reducible rfl)
  try simp only [Act.put, List.setIfInBounds_toArray, List.set_cons_zero, List.set_cons_succ]
  refine wpAnyH_take (i := 1) (oi := ⟨some 26, .indexAddr 22 (.tmp 25) (.const (.int .i64 3)), 0, "ref.go:236", #[⟨0, .data⟩], none⟩) (v := ?_) rfl (by kernel_rfl) (by kernel_rfl) (by kernel_rfl) (fun _ _ _ h => h) (Or.inl ⟨by rfl, ?_⟩) hHeld ?_
  rotate_left 1
  · (intro wq hSq; (try dsimp only at hSq); go_simp; first | done | with_reducible rfl)
  try simp only [Act.put, List.setIfInBounds_toArray, List.set_cons_zero, List.set_cons_succ]
  refine wpAnyH_take (i := 2) (oi := ⟨some 27, .load 5 (.tmp 26), 5, "ref.go:236", #[⟨1, .data⟩], none⟩) (v := ?_) rfl (by kernel_rfl) (by kernel_rfl) (by kernel_rfl) (fun _ _ _ h => h) (Or.inl ⟨by rfl, ?_⟩) hHeld ?_
  rotate_left 1
  · (intro wq hSq; (try dsimp only at hSq); have hq := CX.out _ (B2.out.trans (hSq.mono B2.out.size)); go_simp; first | done | with_reducible rfl)
  try simp only [Act.put, List.setIfInBounds_toArray, List.set_cons_zero, List.set_cons_succ]
  refine wpAnyH_take (i := 4) (oi := ⟨some 29, .move (.tmp 0), 22, "ref.go:236", #[], none⟩) (v := ?_) rfl (by kernel_rfl) (by kernel_rfl) (by kernel_rfl) (fun _ _ _ h => h) (Or.inl ⟨by rfl, ?_⟩) hHeld ?_
  rotate_left 1
  · (intro wq hSq; (try dsimp only at hSq); go_simp; first | done | with_reducible rfl)
  try simp only [Act.put, List.setIfInBounds_toArray, List.set_cons_zero, List.set_cons_succ]
  refine wpAnyH_take (i := 5) (oi := ⟨some 30, .move (.tmp 5), 3, "ref.go:236", #[], none⟩) (v := ?_) rfl (by kernel_rfl) (by kernel_rfl) (by kernel_rfl) (fun _ _ _ h => h) (Or.inl ⟨by rfl, ?_⟩) hHeld ?_
  rotate_left 1
  · (intro wq hSq; (try dsimp only at hSq); go_simp; first | done | with_reducible rfl)
  try simp only [Act.put, List.setIfInBounds_toArray, List.set_cons_zero, List.set_cons_succ]
  refine wpAnyH_take (i := 6) (oi := ⟨some 31, .binOp .add 3 (.const (.int .i64 10)) (.tmp 30) 3, 3, "ref.go:236", #[⟨5, .data⟩], none⟩) (v := ?_) rfl (by kernel_rfl) (by kernel_rfl) (by kernel_rfl) (fun _ _ _ h => h) (Or.inl ⟨by rfl, ?_⟩) hHeld ?_
  rotate_left 1
  · (intro wq hSq; (try dsimp only at hSq); go_simp; first | done | with_reducible rfl)
  try simp only [Act.put, List.setIfInBounds_toArray, List.set_cons_zero, List.set_cons_succ]
  refine wpAnyH_take (i := 7) (oi := ⟨some 32, .slice 22 (.tmp 29) (some (.const (.int .i64 10))) (some (.tmp 31)) none, 22, "ref.go:236", #[⟨4, .data⟩, ⟨6, .data⟩], none⟩) (v := ?_) rfl (by kernel_rfl) (by kernel_rfl) (by kernel_rfl) (fun _ _ _ h => h) (Or.inl ⟨by rfl, ?_⟩) hHeld ?_
  rotate_left 1
  · (intro wq hSq; (try dsimp only at hSq); go_simp; first | done | with_reducible rfl)
  try simp only [Act.put, List.setIfInBounds_toArray, List.set_cons_zero, List.set_cons_succ]
  refine wpAnyH_batch (B := [(3, 28, []), (8, 33, [28]), (9, 34, [33]), (10, 6, [])]) (R := fun w w' => Below w.heap.size w w') (Φ := PhiD x3 Bd M w2.heap.size) 1 (by kernel_rfl) (fun _ _ _ _ h => h) (Below.refl _ _) (fun _ _ h1 h2 => h1.trans (h2.mono h1.size)) (fun _ _ _ _ _ h k => phiD_below _ _ _ _ _ _ _ _ h k) (fun _ h => BD.out.trans h) ⟨StepB.mk (⟨some 28, .buildSlice 22 0 #[], 22, "ref.go:236", #[], none⟩ : Oper) rfl ?_, StepB.mk (⟨some 33, .call ⟨.builtin .append, #[.tmp 28, .tmp 32], #[22, 22]⟩, 22, "ref.go:236", #[⟨3, .data⟩, ⟨7, .data⟩], none⟩ : Oper) rfl ?_, StepB.mk (⟨some 34, .build 48 #[(0, .tmp 27), (1, .tmp 33)], 48, "ref.go:236", #[⟨2, .data⟩, ⟨8, .data⟩], none⟩ : Oper) rfl ?_, StepB.mk (⟨some 6, .alloc 48, 0, "ref.go:236", #[], none⟩ : Oper) rfl ?_, trivial⟩ ?_
  · intro f wS hRS hFS K hK
    simp only [putT, Act.put, List.setIfInBounds_toArray, List.set_cons_zero, List.set_cons_succ] at hK ⊢
    go_simp
    exact hK.out _ _ ((Below.refl _ _).alloc (Nat.le_refl _) _) ⟨_, rfl⟩
  · intro f wS hRS hFS K hK
    simp only [putT, Act.put, List.setIfInBounds_toArray, List.set_cons_zero, List.set_cons_succ] at hK ⊢
    have hs := hRS.size
    obtain ⟨g28, e28⟩ := hFS 28 (by simp)
    rw [e28] at hK ⊢
    have b0S : Below w.heap.size w wS := B2.out.trans ((BD.out.trans (hRS.mono (Nat.le_refl _))).mono B2.out.size)
    obtain ⟨av, cpA, wA, hA, pA, bA⟩ := append_empty wS ⟨g28, 0, none⟩ _ Bd (BODY.out wS b0S) (by have := HBL.out; omega)
    rw [HBL.out] at hA pA
    refine Lib.wp_append_run_sl wS _ _ 22 rfl _ _ rfl rfl hA ?_
    exact hK.out _ _ bA ⟨av, cpA, rfl, pA⟩
  · intro f wS hRS hFS K hK
    simp only [putT, Act.put, List.setIfInBounds_toArray, List.set_cons_zero, List.set_cons_succ] at hK ⊢
    obtain ⟨av, cpA, e33, p33⟩ := hFS 33 (by simp)
    rw [e33] at hK p33 ⊢
    go_simp
    exact hK.out _ _ (Below.refl _ _) ⟨av, cpA, rfl, p33⟩
  · intro f wS hRS hFS K hK
    simp only [putT, Act.put, List.setIfInBounds_toArray, List.set_cons_zero, List.set_cons_succ] at hK ⊢
    have hs := hRS.size
    go_simp
    exact hK.out _ _ ((Below.refl _ _).alloc (Nat.le_refl _) _) ⟨wS.heap.size, rfl, hs, heap_alloc_new _ _⟩
  intro f wB hRB hFB
  simp only [List.map, setL, putT, Act.put, List.setIfInBounds_toArray, List.set_cons_zero, List.set_cons_succ]
  obtain ⟨av8, cp8, e34, p34⟩ := hFB 34 (by simp)
  obtain ⟨g6, e6, n6, k6⟩ := hFB 6 (by simp)
  have hHeldB1 : Below w2.heap.size w2 wB := BD.out.trans hRB
  have HB1 : Hid (Below w2.heap.size w2 wB) := hHeldB1
  rw [e34, e6]
  generalize f 28 = u28
  generalize f 33 = u33
  clear hFB hRB e34 e6
  have P8 : Hid (PartT wB (.slice av8 M cp8) Bd) := p34
  have K6 : Hid (wB.heap[g6]? = some (.cells #[.int .u8 0, .slice none 0 0] 48)) := k6
  have N6 : Hid (w2.heap.size ≤ g6) := n6
  clear p34 k6 n6
  refine wpAnyH_ready (rs := [11]) (by kernel_rfl) (by simp) ?_
  refine AllReadyH.cons (o := ⟨none, .store 48 (.tmp 6) (.tmp 34), 0, "ref.go:236", #[⟨10, .data⟩, ⟨9, .data⟩, ⟨8, .chain⟩, ⟨0, .phase⟩, ⟨1, .phase⟩, ⟨2, .phase⟩, ⟨3, .phase⟩, ⟨4, .phase⟩, ⟨5, .phase⟩, ⟨6, .phase⟩, ⟨7, .phase⟩, ⟨8, .phase⟩, ⟨9, .phase⟩, ⟨10, .phase⟩], none⟩) rfl (fun K hK => ?_) AllReadyH.nil
  refine (if_pos rfl).mpr ?_
  refine store63w _ _ rfl g6 (.int .u8 x3) (.slice av8 M cp8) rfl rfl (one61 _ _ _ _) (.int .u8 0) (.slice none 0 0) K6.out ?_
  refine hK.out _ _ (below_setRow hHeldB1 N6.out _) (fun hHeld2 => ?_)
  clear hK K hHeldB1
  try simp only [Act.put, List.setIfInBounds_toArray, List.set_cons_zero, List.set_cons_succ]
  refine wpAnyH_done (by kernel_rfl) ?_ _
  refine NoPanic.normal ?_
  obtain ⟨w7, hw7⟩ : ∃ W, W = wB.setRow g6 #[Value.int IntKind.u8 x3, Value.slice av8 M cp8] := ⟨_, rfl⟩
  have k7 : w7.heap[g6]? = some (.cells #[.int .u8 x3, .slice av8 M cp8] 48) := by rw [hw7]; exact setRow_same K6.out
  have kB : Hid (∀ k, k ≠ g6 → w7.heap[k]? = wB.heap[k]?) := fun k hk => by rw [hw7]; exact setRow_far _ _ _ _ hk
  have B27 : Hid (Below w2.heap.size w2 w7) := by rw [hw7]; exact below_setRow HB1.out N6.out _
  have P7 : Hid (PartT w7 (.slice av8 M cp8) Bd) := by rw [hw7]; exact P8.out.set48 K6.out _
  rw [← hw7]
  clear hw7 HB1 hHeld2 kB P8 K6
  have L0 : Hid (∀ W, Below w7.heap.size w7 W → W.cell? ⟨g6, 0, none⟩ = some (.int .u8 x3)) := fun W q => by rw [q.cell (show g6 < w7.heap.size from (Array.getElem?_eq_some_iff.1 k7).1)]; exact row_cell (j := 0) k7 rfl
  have L1 : Hid (∀ W, Below w7.heap.size w7 W → W.cell? ⟨g6, 1, none⟩ = some (.slice av8 M cp8)) := fun W q => by rw [q.cell (show g6 < w7.heap.size from (Array.getElem?_eq_some_iff.1 k7).1)]; exact row_cell (j := 1) k7 rfl
  have K7 : Hid (w7.heap[w.heap.size]? = some (.cells #[.int .u8 0, .slice none 0 0] 48)) := by unfold Hid; rw [B27.out.block _ (Array.getElem?_eq_some_iff.1 K2.out).1]; exact K2.out
  have B7 : Hid (Below w.heap.size w w7) := B2.out.trans (B27.out.mono B2.out.size)
  have BD7 : Hid (Below w7.heap.size w7 w7.drew) := (Below.refl _ _).drew
  have G6 : Hid (w.heap.size < g6) := by have := N6.out; have := (Array.getElem?_eq_some_iff.1 K2.out).1; unfold Hid; omega
  clear k7 B27 N6 K2 CX BODY
  go_wp2_with fail
  refine wp_region_noPanic ?_
  refine wp_region_held_drew (S := fun w' => Below w7.heap.size w7 w') (by kernel_rfl) (BD7.out) (fun hHeld => ?_)
  try simp only [Act.put, List.setIfInBounds_toArray, List.set_cons_zero, List.set_cons_succ]
  refine wpAnyH_take (i := 0) (oi := ⟨some 35, .fieldAddr 48 (.tmp 6) 0, 0, "ref.go:237", #[], none⟩) (v := ?_) rfl (by kernel_rfl) (by kernel_rfl) (by kernel_rfl) (fun _ _ _ h => h) (Or.inl ⟨by rfl, ?_⟩) hHeld ?_
  rotate_left 1
  · (intro wq hSq; (try dsimp only at hSq); go_simp; first | done | with_reducible rfl)
  try simp only [Act.put, List.setIfInBounds_toArray, List.set_cons_zero, List.set_cons_succ]
  refine wpAnyH_take (i := 1) (oi := ⟨some 36, .load 5 (.tmp 35), 5, "ref.go:237", #[⟨0, .data⟩], none⟩) (v := ?_) rfl (by kernel_rfl) (by kernel_rfl) (by kernel_rfl) (fun _ _ _ h => h) (Or.inl ⟨by rfl, ?_⟩) hHeld ?_
  rotate_left 1
  · (intro wq hSq; (try dsimp only at hSq); have hq := L0.out _ hSq; go_simp; first | done | with_reducible rfl)
  try simp only [Act.put, List.setIfInBounds_toArray, List.set_cons_zero, List.set_cons_succ]
  refine wpAnyH_take (i := 2) (oi := ⟨some 37, .fieldAddr 48 (.tmp 6) 1, 0, "ref.go:237", #[], none⟩) (v := ?_) rfl (by kernel_rfl) (by kernel_rfl) (by kernel_rfl) (fun _ _ _ h => h) (Or.inl ⟨by rfl, ?_⟩) hHeld ?_
  rotate_left 1
  · (intro wq hSq; (try dsimp only at hSq); go_simp; first | done | with_reducible rfl)
  try simp only [Act.put, List.setIfInBounds_toArray, List.set_cons_zero, List.set_cons_succ]
  refine wpAnyH_take (i := 3) (oi := ⟨some 38, .load 22 (.tmp 37), 22, "ref.go:237", #[⟨2, .data⟩], none⟩) (v := ?_) rfl (by kernel_rfl) (by kernel_rfl) (by kernel_rfl) (fun _ _ _ h => h) (Or.inl ⟨by rfl, ?_⟩) hHeld ?_
  rotate_left 1
  · (intro wq hSq; (try dsimp only at hSq); have hq := L1.out _ hSq; go_simp; first | done | with_reducible rfl)
  try simp only [Act.put, List.setIfInBounds_toArray, List.set_cons_zero, List.set_cons_succ]
  refine wpAnyH_take (i := 6) (oi := ⟨some 41, .move (.tmp 0), 22, "ref.go:237", #[], none⟩) (v := ?_) rfl (by kernel_rfl) (by kernel_rfl) (by kernel_rfl) (fun _ _ _ h => h) (Or.inl ⟨by rfl, ?_⟩) hHeld ?_
  rotate_left 1
  · (intro wq hSq; (try dsimp only at hSq); go_simp; first | done | with_reducible rfl)
  try simp only [Act.put, List.setIfInBounds_toArray, List.set_cons_zero, List.set_cons_succ]
  refine wpAnyH_take (i := 7) (oi := ⟨some 42, .slice 22 (.tmp 41) (some (.const (.int .i64 6))) (some (.const (.int .i64 10))) none, 22, "ref.go:237", #[⟨6, .data⟩], none⟩) (v := ?_) rfl (by kernel_rfl) (by kernel_rfl) (by kernel_rfl) (fun _ _ _ h => h) (Or.inl ⟨by rfl, ?_⟩) hHeld ?_
  rotate_left 1
  · (intro wq hSq; (try dsimp only at hSq); go_simp; first | done | with_reducible rfl)
  try simp only [Act.put, List.setIfInBounds_toArray, List.set_cons_zero, List.set_cons_succ]
  refine wpAnyH_take (i := 8) (oi := ⟨some 43, .convert 22 9 (.tmp 42), 9, "ref.go:237", #[⟨7, .data⟩], none⟩) (v := ?_) rfl (by kernel_rfl) (by kernel_rfl) (by kernel_rfl) (fun _ _ _ h => h) (Or.inl ⟨by rfl, ?_⟩) hHeld ?_
  rotate_left 1
  · (intro wq hSq; (try dsimp only at hSq); have hq := run_conv (P4.out _ (B7.out.trans (hSq.mono B7.out.size))); go_simp; first | done | with_reducible rfl)
  try simp only [Act.put, List.setIfInBounds_toArray, List.set_cons_zero, List.set_cons_succ]
  refine wpAnyH_ready (rs := [4]) (by kernel_rfl) (by simp) ?_
  refine AllReadyH.cons (o := ⟨some 39, .call ⟨.value (.func 65), #[.tmp 36, .tmp 38], #[5, 22]⟩, 22, "ref.go:237", #[⟨1, .data⟩, ⟨3, .data⟩], none⟩) rfl (fun K hK => ?_) AllReadyH.nil
  go_simp
  refine (SM.out w7.drew _ (P7.out.below BD7.out).part).mono ?_
  rintro e w9 ⟨av9, cp9, rfl, p9, b9⟩
  have P9 : Hid (PartAt w9 (.slice av9 4 cp9) S4) := p9
  have B79 : Hid (Below w7.heap.size w7 w9) := BD7.out.trans b9
  clear p9 b9
  refine hK.out _ _ (B79.out) (fun hHeld1 => ?_)
  clear hK K hHeld
  refine wpAnyH_grow (S' := fun w' => Below w9.heap.size w9 w') (fun _ h => B79.out.trans (h.mono B79.out.size)) (Below.refl _ _) (fun hGrow1 => ?_)
  clear hHeld1
  try simp only [Act.put, List.setIfInBounds_toArray, List.set_cons_zero, List.set_cons_succ]
  refine wpAnyH_take (i := 5) (oi := ⟨some 40, .convert 22 9 (.tmp 39), 9, "ref.go:237", #[⟨4, .data⟩], none⟩) (v := ?_) rfl (by kernel_rfl) (by kernel_rfl) (by kernel_rfl) (fun _ _ _ h => h) (Or.inl ⟨by rfl, ?_⟩) hGrow1 ?_
  rotate_left 1
  · (intro wq hSq; (try dsimp only at hSq); have hq := run_conv (P9.out.below hSq); rw [HEQ.out] at hq; go_simp; first | done | with_reducible rfl)
  try simp only [Act.put, List.setIfInBounds_toArray, List.set_cons_zero, List.set_cons_succ]
  refine wpAnyH_take (i := 9) (oi := ⟨some 44, .binOp .neq 9 (.tmp 40) (.tmp 43) 9, 4, "ref.go:237", #[⟨5, .data⟩, ⟨8, .data⟩], none⟩) (v := ?_) rfl (by kernel_rfl) (by kernel_rfl) (by kernel_rfl) (fun _ _ _ h => h) (Or.inl ⟨by rfl, ?_⟩) hGrow1 ?_
  rotate_left 1
  · (intro wq hSq; (try dsimp only at hSq); go_simp; first | done | with_reducible rfl)
  try simp only [Act.put, List.setIfInBounds_toArray, List.set_cons_zero, List.set_cons_succ]
  refine wpAnyH_done (by kernel_rfl) ?_ _
  refine NoPanic.normal ?_
  have K9 : Hid (w9.heap[w.heap.size]? = some (.cells #[.int .u8 0, .slice none 0 0] 48)) := by unfold Hid; rw [B79.out.block _ (Array.getElem?_eq_some_iff.1 K7.out).1]; exact K7.out
  have B9 : Hid (Below w.heap.size w w9) := B7.out.trans (B79.out.mono B7.out.size)
  have l0 := L0.out _ B79.out
  have l1 := L1.out _ B79.out
  have P9B : Hid (∀ cs, PartAt (w9.setRow w.heap.size cs) (.slice av8 M cp8) Bd) := fun cs => ((P7.out.below B79.out).set48 K9.out cs).part
  clear hGrow1 L0 L1 P7 P9 P4 SM BD7 B7 K7
  go_wp2_with (first | (refine store63 rfl _ _ rfl w.heap.size (.int .u8 x3) (.slice av8 M cp8) rfl rfl (one61 _ _ _ _) (.int .u8 0) (.slice none 0 0) K9.out ?_))
  refine rdec_end rfl rfl rfl (setRow_same K9.out) ⟨_, rfl, P9B.out _, below_setRow B9.out (Nat.le_refl _) _⟩
set_option maxHeartbeats 1000000 in
set_option maxRecDepth 100000 in
theorem rdec_sum_a (b o L cp : Nat) (bs : List Int) (x3 : Int) (M : Nat) (w : World) (hp : PartAt w (.slice (some ⟨b, o, none⟩) L cp) bs) (hL : bs.length = L) (hb : Bytes bs) (h : beginsB bs = true) (hl : 10 ≤ L) (h3 : gi bs 3 = x3) (hx3 : 0 ≤ x3 ∧ x3 ≤ 255) (hM : gi bs 4 * 256 + gi bs 5 = (M : Int)) (hM1 : M ≤ 1000) (hs : 10 + M ≤ L) (hc10 : ¬ cp = 10) (hr : w.rangeAt b o (vB bs).toList) (hbl : b < w.heap.size) (hcp : L ≤ cp) (h63 : cp ≤ 9223372036854775807) (Bd : List Int) (hBl : Bd.length = M) (hBb : Bytes Bd) (hBody : ∀ W, Below w.heap.size w W → PartAt W (.slice (some ⟨b, o + 10, none⟩) M (cp - 10)) Bd) (heq : sum4 x3 Bd ≠ (bs.drop 6).take 4) : Calls Tryd.prog 33 #[.slice (some ⟨b, o, none⟩) L cp] w fun e w' => e = .returned (.tuple #[.agg #[.int .u8 0, .slice none 0 0], .int .i64 0, .int .i64 3]) ∧ Below w.heap.size w w' := by
  have BG : Hid (Calls Tryd.prog 36 #[.slice (some ⟨b, o, none⟩) L cp] (w.alloc (.cells #[.int .u8 0, .slice none 0 0] 48)) fun e w' => e = .returned (.bool true) ∧ Below w.heap.size w w' ∧ w'.heap[w.heap.size]? = some (.cells #[.int .u8 0, .slice none 0 0] 48)) := rbegins_box _ bs w hp hb true h
  have OF : Hid (∀ W, Below w.heap.size w W → Calls Tryd.prog 56 #[.slice (some ⟨b, o + 4, none⟩) 2 (cp - 4)] W fun e w' => e = .returned (.int .u64 M) ∧ W = w') := rof_at b o L cp bs M w hL (by omega) hr hbl (by omega) (by omega) hb hM
  have CX : Hid (∀ W, Below w.heap.size w W → W.cell? ⟨b, o + 3, none⟩ = some (.int .u8 x3)) := fun W q => by rw [← h3]; exact rangeB (range_below hr q hbl) 3 (by omega)
  have P4 : Hid (∀ W, Below w.heap.size w W → PartAt W (.slice (some ⟨b, o + 6, none⟩) 4 (cp - 6)) ((bs.drop 6).take 4)) := fun W q => (sub_part (cp := cp) hL (by omega) (by omega) hr hbl 6 4 (by omega)).below q
  have BODY : Hid (∀ W, Below w.heap.size w W → PartAt W (.slice (some ⟨b, o + 10, none⟩) M (cp - 10)) Bd) := hBody
  have SM : Hid (∀ (W : World) (u : Value), PartAt W u Bd → Calls Tryd.prog 65 #[.int .u8 x3, u] W fun e w' => ∃ av4 cp4, e = .returned (.slice av4 4 cp4) ∧ PartAt w' (.slice av4 4 cp4) (sum4 x3 Bd) ∧ Below W.heap.size W w') := fun W u q =>
    (rsum4_any x3 hx3 _ Bd W q hBb (by omega)).mono fun e w' ⟨u, r1, r2, r3⟩ => by
      have r2' := r2
      obtain ⟨a4, b4, o4, c4, hu, _⟩ := r2'
      rw [sum4_length] at hu
      subst hu
      exact ⟨a4, c4, r1, r2, r3⟩
  have HSB : Bytes (sum4 x3 Bd) := sum4_bytes _ _
  have HB4 : Bytes ((bs.drop 6).take 4) := fun y hy => hb y (List.mem_of_mem_drop (List.mem_of_mem_take hy))
  have HBL : Hid (Bd.length = M) := hBl
  have HW0 : Hid (b < w.heap.size) := hbl
  have HNE : Hid (((strOfNums (sum4 x3 Bd)).toList == (strOfNums ((bs.drop 6).take 4)).toList) = false) := str_neF _ _ HSB HB4 heq
  have g1 : ¬ (L : Int) < 10 := by omega
  have g2 : (6 : Int) ≤ (cp : Int) := by omega
  have g3 : ¬ cp = 4 := by omega
  have g4 : ¬ (L : Int) < 10 + (M : Int) := by omega
  have g5 : (3 : Int) < (L : Int) := by omega
  have g6 : (10 : Int) ≤ 10 + (M : Int) := by omega
  have g7 : 10 + (M : Int) ≤ (cp : Int) := by omega
  have g8 : (10 + (M : Int)).toNat - 10 = M := by omega
  have g9 : ¬ cp = 6 := by omega
  have g10 : (10 : Int) ≤ (cp : Int) := by omega
  have g11 : IntKind.i64.wrap (10 + (M : Int)) = 10 + (M : Int) := by exact IntWalk.i64_in _ (by omega)
  have g12 : M ≤ 1000 := hM1
  generalize sum4 x3 Bd = S4 at *
  generalize (bs.drop 6).take 4 = Q4 at *
  clear hp hr hM h h3 hBody hBb hBl heq HSB HB4 hb hL hs hM1
  go_enter Tryd.func33, Tryd.ntmps33
  go_wp2_with fail
  refine BG.out.mono ?_
  rintro e w2 ⟨rfl, b2, k2⟩
  have K2 : Hid (w2.heap[w.heap.size]? = some (.cells #[.int .u8 0, .slice none 0 0] 48)) := k2
  have B2 : Hid (Below w.heap.size w w2) := b2
  clear k2 BG b2
  go_wp2_with (first | (go_at_call 56; refine (OF.out _ B2.out).mono ?_; rintro e w5 ⟨rfl, q5⟩; subst q5; clear OF))
  have BD : Hid (Below w2.heap.size w2 w2.drew) := (Below.refl _ _).drew
  refine wp_region_noPanic ?_
  refine wp_region_held_drew (S := fun w' => Below w2.heap.size w2 w') (by kernel_rfl) (BD.out) (fun hHeld => ?_)
  try simp only [Act.put, List.setIfInBounds_toArray, List.set_cons_zero, List.set_cons_succ]
  refine wpAnyH_take (i := 0) (oi := ⟨some 25, .move (.tmp 0), 22, "ref.go:236", #[], none⟩) (v := ?_) rfl (by kernel_rfl) (by kernel_rfl) (by kernel_rfl) (fun _ _ _ h => h) (Or.inl ⟨by rfl, ?_⟩) hHeld ?_
  rotate_left 1
  · (intro wq hSq; (try dsimp only at hSq); go_simp; first | done | with_reducible rfl)
  try simp only [Act.put, List.setIfInBounds_toArray, List.set_cons_zero, List.set_cons_succ]
  refine wpAnyH_take (i := 1) (oi := ⟨some 26, .indexAddr 22 (.tmp 25) (.const (.int .i64 3)), 0, "ref.go:236", #[⟨0, .data⟩], none⟩) (v := ?_) rfl (by kernel_rfl) (by kernel_rfl) (by kernel_rfl) (fun _ _ _ h => h) (Or.inl ⟨by rfl, ?_⟩) hHeld ?_
  rotate_left 1
  · (intro wq hSq; (try dsimp only at hSq); go_simp; first | done | with_reducible rfl)
  try simp only [Act.put, List.setIfInBounds_toArray, List.set_cons_zero, List.set_cons_succ]
  refine wpAnyH_take (i := 2) (oi := ⟨some 27, .load 5 (.tmp 26), 5, "ref.go:236", #[⟨1, .data⟩], none⟩) (v := ?_) rfl (by kernel_rfl) (by kernel_rfl) (by kernel_rfl) (fun _ _ _ h => h) (Or.inl ⟨by rfl, ?_⟩) hHeld ?_
  rotate_left 1
  · (intro wq hSq; (try dsimp only at hSq); have hq := CX.out _ (B2.out.trans (hSq.mono B2.out.size)); go_simp; first | done | with_reducible rfl)
  try simp only [Act.put, List.setIfInBounds_toArray, List.set_cons_zero, List.set_cons_succ]
  refine wpAnyH_take (i := 4) (oi := ⟨some 29, .move (.tmp 0), 22, "ref.go:236", #[], none⟩) (v := ?_) rfl (by kernel_rfl) (by kernel_rfl) (by kernel_rfl) (fun _ _ _ h => h) (Or.inl ⟨by rfl, ?_⟩) hHeld ?_
  rotate_left 1
  · (intro wq hSq; (try dsimp only at hSq); go_simp; first | done | with_reducible rfl)
  try simp only [Act.put, List.setIfInBounds_toArray, List.set_cons_zero, List.set_cons_succ]
  refine wpAnyH_take (i := 5) (oi := ⟨some 30, .move (.tmp 5), 3, "ref.go:236", #[], none⟩) (v := ?_) rfl (by kernel_rfl) (by kernel_rfl) (by kernel_rfl) (fun _ _ _ h => h) (Or.inl ⟨by rfl, ?_⟩) hHeld ?_
  rotate_left 1
  · (intro wq hSq; (try dsimp only at hSq); go_simp; first | done | with_reducible rfl)
  try simp only [Act.put, List.setIfInBounds_toArray, List.set_cons_zero, List.set_cons_succ]
  refine wpAnyH_take (i := 6) (oi := ⟨some 31, .binOp .add 3 (.const (.int .i64 10)) (.tmp 30) 3, 3, "ref.go:236", #[⟨5, .data⟩], none⟩) (v := ?_) rfl (by kernel_rfl) (by kernel_rfl) (by kernel_rfl) (fun _ _ _ h => h) (Or.inl ⟨by rfl, ?_⟩) hHeld ?_
  rotate_left 1
  · (intro wq hSq; (try dsimp only at hSq); go_simp; first | done | with_reducible rfl)
  try simp only [Act.put, List.setIfInBounds_toArray, List.set_cons_zero, List.set_cons_succ]
  refine wpAnyH_take (i := 7) (oi := ⟨some 32, .slice 22 (.tmp 29) (some (.const (.int .i64 10))) (some (.tmp 31)) none, 22, "ref.go:236", #[⟨4, .data⟩, ⟨6, .data⟩], none⟩) (v := ?_) rfl (by kernel_rfl) (by kernel_rfl) (by kernel_rfl) (fun _ _ _ h => h) (Or.inl ⟨by rfl, ?_⟩) hHeld ?_
  rotate_left 1
  · (intro wq hSq; (try dsimp only at hSq); go_simp; first | done | with_reducible rfl)
  try simp only [Act.put, List.setIfInBounds_toArray, List.set_cons_zero, List.set_cons_succ]
  refine wpAnyH_batch (B := [(3, 28, []), (8, 33, [28]), (9, 34, [33]), (10, 6, [])]) (R := fun w w' => Below w.heap.size w w') (Φ := PhiD x3 Bd M w2.heap.size) 1 (by kernel_rfl) (fun _ _ _ _ h => h) (Below.refl _ _) (fun _ _ h1 h2 => h1.trans (h2.mono h1.size)) (fun _ _ _ _ _ h k => phiD_below _ _ _ _ _ _ _ _ h k) (fun _ h => BD.out.trans h) ⟨StepB.mk (⟨some 28, .buildSlice 22 0 #[], 22, "ref.go:236", #[], none⟩ : Oper) rfl ?_, StepB.mk (⟨some 33, .call ⟨.builtin .append, #[.tmp 28, .tmp 32], #[22, 22]⟩, 22, "ref.go:236", #[⟨3, .data⟩, ⟨7, .data⟩], none⟩ : Oper) rfl ?_, StepB.mk (⟨some 34, .build 48 #[(0, .tmp 27), (1, .tmp 33)], 48, "ref.go:236", #[⟨2, .data⟩, ⟨8, .data⟩], none⟩ : Oper) rfl ?_, StepB.mk (⟨some 6, .alloc 48, 0, "ref.go:236", #[], none⟩ : Oper) rfl ?_, trivial⟩ ?_
  · intro f wS hRS hFS K hK
    simp only [putT, Act.put, List.setIfInBounds_toArray, List.set_cons_zero, List.set_cons_succ] at hK ⊢
    go_simp
    exact hK.out _ _ ((Below.refl _ _).alloc (Nat.le_refl _) _) ⟨_, rfl⟩
  · intro f wS hRS hFS K hK
    simp only [putT, Act.put, List.setIfInBounds_toArray, List.set_cons_zero, List.set_cons_succ] at hK ⊢
    have hs := hRS.size
    obtain ⟨g28, e28⟩ := hFS 28 (by simp)
    rw [e28] at hK ⊢
    have b0S : Below w.heap.size w wS := B2.out.trans ((BD.out.trans (hRS.mono (Nat.le_refl _))).mono B2.out.size)
    obtain ⟨av, cpA, wA, hA, pA, bA⟩ := append_empty wS ⟨g28, 0, none⟩ _ Bd (BODY.out wS b0S) (by have := HBL.out; omega)
    rw [HBL.out] at hA pA
    refine Lib.wp_append_run_sl wS _ _ 22 rfl _ _ rfl rfl hA ?_
    exact hK.out _ _ bA ⟨av, cpA, rfl, pA⟩
  · intro f wS hRS hFS K hK
    simp only [putT, Act.put, List.setIfInBounds_toArray, List.set_cons_zero, List.set_cons_succ] at hK ⊢
    obtain ⟨av, cpA, e33, p33⟩ := hFS 33 (by simp)
    rw [e33] at hK p33 ⊢
    go_simp
    exact hK.out _ _ (Below.refl _ _) ⟨av, cpA, rfl, p33⟩
  · intro f wS hRS hFS K hK
    simp only [putT, Act.put, List.setIfInBounds_toArray, List.set_cons_zero, List.set_cons_succ] at hK ⊢
    have hs := hRS.size
    go_simp
    exact hK.out _ _ ((Below.refl _ _).alloc (Nat.le_refl _) _) ⟨wS.heap.size, rfl, hs, heap_alloc_new _ _⟩
  intro f wB hRB hFB
  simp only [List.map, setL, putT, Act.put, List.setIfInBounds_toArray, List.set_cons_zero, List.set_cons_succ]
  obtain ⟨av8, cp8, e34, p34⟩ := hFB 34 (by simp)
  obtain ⟨g6, e6, n6, k6⟩ := hFB 6 (by simp)
  have hHeldB1 : Below w2.heap.size w2 wB := BD.out.trans hRB
  have HB1 : Hid (Below w2.heap.size w2 wB) := hHeldB1
  rw [e34, e6]
  generalize f 28 = u28
  generalize f 33 = u33
  clear hFB hRB e34 e6
  have P8 : Hid (PartT wB (.slice av8 M cp8) Bd) := p34
  have K6 : Hid (wB.heap[g6]? = some (.cells #[.int .u8 0, .slice none 0 0] 48)) := k6
  have N6 : Hid (w2.heap.size ≤ g6) := n6
  clear p34 k6 n6
  refine wpAnyH_ready (rs := [11]) (by kernel_rfl) (by simp) ?_
  refine AllReadyH.cons (o := ⟨none, .store 48 (.tmp 6) (.tmp 34), 0, "ref.go:236", #[⟨10, .data⟩, ⟨9, .data⟩, ⟨8, .chain⟩, ⟨0, .phase⟩, ⟨1, .phase⟩, ⟨2, .phase⟩, ⟨3, .phase⟩, ⟨4, .phase⟩, ⟨5, .phase⟩, ⟨6, .phase⟩, ⟨7, .phase⟩, ⟨8, .phase⟩, ⟨9, .phase⟩, ⟨10, .phase⟩], none⟩) rfl (fun K hK => ?_) AllReadyH.nil
  refine (if_pos rfl).mpr ?_
  refine store63w _ _ rfl g6 (.int .u8 x3) (.slice av8 M cp8) rfl rfl (one61 _ _ _ _) (.int .u8 0) (.slice none 0 0) K6.out ?_
  refine hK.out _ _ (below_setRow hHeldB1 N6.out _) (fun hHeld2 => ?_)
  clear hK K hHeldB1
  try simp only [Act.put, List.setIfInBounds_toArray, List.set_cons_zero, List.set_cons_succ]
  refine wpAnyH_done (by kernel_rfl) ?_ _
  refine NoPanic.normal ?_
  obtain ⟨w7, hw7⟩ : ∃ W, W = wB.setRow g6 #[Value.int IntKind.u8 x3, Value.slice av8 M cp8] := ⟨_, rfl⟩
  have k7 : w7.heap[g6]? = some (.cells #[.int .u8 x3, .slice av8 M cp8] 48) := by rw [hw7]; exact setRow_same K6.out
  have kB : Hid (∀ k, k ≠ g6 → w7.heap[k]? = wB.heap[k]?) := fun k hk => by rw [hw7]; exact setRow_far _ _ _ _ hk
  have B27 : Hid (Below w2.heap.size w2 w7) := by rw [hw7]; exact below_setRow HB1.out N6.out _
  have P7 : Hid (PartT w7 (.slice av8 M cp8) Bd) := by rw [hw7]; exact P8.out.set48 K6.out _
  rw [← hw7]
  clear hw7 HB1 hHeld2 kB P8 K6
  have L0 : Hid (∀ W, Below w7.heap.size w7 W → W.cell? ⟨g6, 0, none⟩ = some (.int .u8 x3)) := fun W q => by rw [q.cell (show g6 < w7.heap.size from (Array.getElem?_eq_some_iff.1 k7).1)]; exact row_cell (j := 0) k7 rfl
  have L1 : Hid (∀ W, Below w7.heap.size w7 W → W.cell? ⟨g6, 1, none⟩ = some (.slice av8 M cp8)) := fun W q => by rw [q.cell (show g6 < w7.heap.size from (Array.getElem?_eq_some_iff.1 k7).1)]; exact row_cell (j := 1) k7 rfl
  have K7 : Hid (w7.heap[w.heap.size]? = some (.cells #[.int .u8 0, .slice none 0 0] 48)) := by unfold Hid; rw [B27.out.block _ (Array.getElem?_eq_some_iff.1 K2.out).1]; exact K2.out
  have B7 : Hid (Below w.heap.size w w7) := B2.out.trans (B27.out.mono B2.out.size)
  have BD7 : Hid (Below w7.heap.size w7 w7.drew) := (Below.refl _ _).drew
  have G6 : Hid (w.heap.size < g6) := by have := N6.out; have := (Array.getElem?_eq_some_iff.1 K2.out).1; unfold Hid; omega
  clear k7 B27 N6 K2 CX BODY
  go_wp2_with fail
  refine wp_region_noPanic ?_
  refine wp_region_held_drew (S := fun w' => Below w7.heap.size w7 w') (by kernel_rfl) (BD7.out) (fun hHeld => ?_)
  try simp only [Act.put, List.setIfInBounds_toArray, List.set_cons_zero, List.set_cons_succ]
  refine wpAnyH_take (i := 0) (oi := ⟨some 35, .fieldAddr 48 (.tmp 6) 0, 0, "ref.go:237", #[], none⟩) (v := ?_) rfl (by kernel_rfl) (by kernel_rfl) (by kernel_rfl) (fun _ _ _ h => h) (Or.inl ⟨by rfl, ?_⟩) hHeld ?_
  rotate_left 1
  · (intro wq hSq; (try dsimp only at hSq); go_simp; first | done | with_reducible rfl)
  try simp only [Act.put, List.setIfInBounds_toArray, List.set_cons_zero, List.set_cons_succ]
  refine wpAnyH_take (i := 1) (oi := ⟨some 36, .load 5 (.tmp 35), 5, "ref.go:237", #[⟨0, .data⟩], none⟩) (v := ?_) rfl (by kernel_rfl) (by kernel_rfl) (by kernel_rfl) (fun _ _ _ h => h) (Or.inl ⟨by rfl, ?_⟩) hHeld ?_
  rotate_left 1
  · (intro wq hSq; (try dsimp only at hSq); have hq := L0.out _ hSq; go_simp; first | done | with_reducible rfl)
  try simp only [Act.put, List.setIfInBounds_toArray, List.set_cons_zero, List.set_cons_succ]
  refine wpAnyH_take (i := 2) (oi := ⟨some 37, .fieldAddr 48 (.tmp 6) 1, 0, "ref.go:237", #[], none⟩) (v := ?_) rfl (by kernel_rfl) (by kernel_rfl) (by kernel_rfl) (fun _ _ _ h => h) (Or.inl ⟨by rfl, ?_⟩) hHeld ?_
  rotate_left 1
  · (intro wq hSq; (try dsimp only at hSq); go_simp; first | done | with_reducible rfl)
  try simp only [Act.put, List.setIfInBounds_toArray, List.set_cons_zero, List.set_cons_succ]
  refine wpAnyH_take (i := 3) (oi := ⟨some 38, .load 22 (.tmp 37), 22, "ref.go:237", #[⟨2, .data⟩], none⟩) (v := ?_) rfl (by kernel_rfl) (by kernel_rfl) (by kernel_rfl) (fun _ _ _ h => h) (Or.inl ⟨by rfl, ?_⟩) hHeld ?_
  rotate_left 1
  · (intro wq hSq; (try dsimp only at hSq); have hq := L1.out _ hSq; go_simp; first | done | with_reducible rfl)
  try simp only [Act.put, List.setIfInBounds_toArray, List.set_cons_zero, List.set_cons_succ]
  refine wpAnyH_take (i := 6) (oi := ⟨some 41, .move (.tmp 0), 22, "ref.go:237", #[], none⟩) (v := ?_) rfl (by kernel_rfl) (by kernel_rfl) (by kernel_rfl) (fun _ _ _ h => h) (Or.inl ⟨by rfl, ?_⟩) hHeld ?_
  rotate_left 1
  · (intro wq hSq; (try dsimp only at hSq); go_simp; first | done | with_reducible rfl)
  try simp only [Act.put, List.setIfInBounds_toArray, List.set_cons_zero, List.set_cons_succ]
  refine wpAnyH_take (i := 7) (oi := ⟨some 42, .slice 22 (.tmp 41) (some (.const (.int .i64 6))) (some (.const (.int .i64 10))) none, 22, "ref.go:237", #[⟨6, .data⟩], none⟩) (v := ?_) rfl (by kernel_rfl) (by kernel_rfl) (by kernel_rfl) (fun _ _ _ h => h) (Or.inl ⟨by rfl, ?_⟩) hHeld ?_
  rotate_left 1
  · (intro wq hSq; (try dsimp only at hSq); go_simp; first | done | with_reducible rfl)
  try simp only [Act.put, List.setIfInBounds_toArray, List.set_cons_zero, List.set_cons_succ]
  refine wpAnyH_take (i := 8) (oi := ⟨some 43, .convert 22 9 (.tmp 42), 9, "ref.go:237", #[⟨7, .data⟩], none⟩) (v := ?_) rfl (by kernel_rfl) (by kernel_rfl) (by kernel_rfl) (fun _ _ _ h => h) (Or.inl ⟨by rfl, ?_⟩) hHeld ?_
  rotate_left 1
  · (intro wq hSq; (try dsimp only at hSq); have hq := run_conv (P4.out _ (B7.out.trans (hSq.mono B7.out.size))); go_simp; first | done | with_reducible rfl)
  try simp only [Act.put, List.setIfInBounds_toArray, List.set_cons_zero, List.set_cons_succ]
  refine wpAnyH_ready (rs := [4]) (by kernel_rfl) (by simp) ?_
  refine AllReadyH.cons (o := ⟨some 39, .call ⟨.value (.func 65), #[.tmp 36, .tmp 38], #[5, 22]⟩, 22, "ref.go:237", #[⟨1, .data⟩, ⟨3, .data⟩], none⟩) rfl (fun K hK => ?_) AllReadyH.nil
  go_simp
  refine (SM.out w7.drew _ (P7.out.below BD7.out).part).mono ?_
  rintro e w9 ⟨av9, cp9, rfl, p9, b9⟩
  have P9 : Hid (PartAt w9 (.slice av9 4 cp9) S4) := p9
  have B79 : Hid (Below w7.heap.size w7 w9) := BD7.out.trans b9
  clear p9 b9
  refine hK.out _ _ (B79.out) (fun hHeld1 => ?_)
  clear hK K hHeld
  refine wpAnyH_grow (S' := fun w' => Below w9.heap.size w9 w') (fun _ h => B79.out.trans (h.mono B79.out.size)) (Below.refl _ _) (fun hGrow1 => ?_)
  clear hHeld1
  try simp only [Act.put, List.setIfInBounds_toArray, List.set_cons_zero, List.set_cons_succ]
  refine wpAnyH_take (i := 5) (oi := ⟨some 40, .convert 22 9 (.tmp 39), 9, "ref.go:237", #[⟨4, .data⟩], none⟩) (v := ?_) rfl (by kernel_rfl) (by kernel_rfl) (by kernel_rfl) (fun _ _ _ h => h) (Or.inl ⟨by rfl, ?_⟩) hGrow1 ?_
  rotate_left 1
  · (intro wq hSq; (try dsimp only at hSq); have hq := run_conv (P9.out.below hSq); go_simp; first | done | with_reducible rfl)
  try simp only [Act.put, List.setIfInBounds_toArray, List.set_cons_zero, List.set_cons_succ]
  refine wpAnyH_take (i := 9) (oi := ⟨some 44, .binOp .neq 9 (.tmp 40) (.tmp 43) 9, 4, "ref.go:237", #[⟨5, .data⟩, ⟨8, .data⟩], none⟩) (v := ?_) rfl (by kernel_rfl) (by kernel_rfl) (by kernel_rfl) (fun _ _ _ h => h) (Or.inl ⟨by rfl, ?_⟩) hGrow1 ?_
  rotate_left 1
  · (intro wq hSq; (try dsimp only at hSq); have hz1 := HNE.out; go_simp; first | done | with_reducible rfl)
  try simp only [Act.put, List.setIfInBounds_toArray, List.set_cons_zero, List.set_cons_succ]
  refine wpAnyH_done (by kernel_rfl) ?_ _
  refine NoPanic.normal ?_
  have K9 : Hid (w9.heap[w.heap.size]? = some (.cells #[.int .u8 0, .slice none 0 0] 48)) := by unfold Hid; rw [B79.out.block _ (Array.getElem?_eq_some_iff.1 K7.out).1]; exact K7.out
  have B9 : Hid (Below w.heap.size w w9) := B7.out.trans (B79.out.mono B7.out.size)
  clear hGrow1 L0 L1 P7 P9 P4 SM BD7 B7 K7
  go_wp2_with (first | (refine store63 rfl _ _ rfl w.heap.size (.int .u8 0) (.slice none 0 0) rfl rfl (one61 _ _ _ _) (.int .u8 0) (.slice none 0 0) K9.out ?_))
  exact rdec_end rfl rfl rfl (setRow_same K9.out) ⟨rfl, below_setRow B9.out (Nat.le_refl _) _⟩
set_option maxHeartbeats 1000000 in
set_option maxRecDepth 100000 in
theorem rdec_ok_b (b o : Nat) (bs : List Int) (x3 : Int) (w : World) (hp : PartAt w (.slice (some ⟨b, o, none⟩) 10 10) bs) (hL : bs.length = 10) (hb : Bytes bs) (h : beginsB bs = true) (h3 : gi bs 3 = x3) (hx3 : 0 ≤ x3 ∧ x3 ≤ 255) (hM : gi bs 4 * 256 + gi bs 5 = ((0 : Nat) : Int)) (hr : w.rangeAt b o (vB bs).toList) (hbl : b < w.heap.size) (Bd : List Int) (hBl : Bd.length = 0) (hBb : Bytes Bd) (hBody : ∀ W, Below w.heap.size w W → PartAt W (.slice (some ⟨b, o, none⟩) 0 0) Bd) (heq : sum4 x3 Bd = (bs.drop 6).take 4) : Calls Tryd.prog 33 #[.slice (some ⟨b, o, none⟩) 10 10] w fun e w' => ∃ u, e = .returned (.tuple #[.agg #[.int .u8 x3, u], .int .i64 10, .int .i64 0]) ∧ PartAt w' u Bd ∧ Below w.heap.size w w' := by
  have BG : Hid (Calls Tryd.prog 36 #[.slice (some ⟨b, o, none⟩) 10 10] (w.alloc (.cells #[.int .u8 0, .slice none 0 0] 48)) fun e w' => e = .returned (.bool true) ∧ Below w.heap.size w w' ∧ w'.heap[w.heap.size]? = some (.cells #[.int .u8 0, .slice none 0 0] 48)) := rbegins_box _ bs w hp hb true h
  have OF : Hid (∀ W, Below w.heap.size w W → Calls Tryd.prog 56 #[.slice (some ⟨b, o + 4, none⟩) 2 6] W fun e w' => e = .returned (.int .u64 0) ∧ W = w') := rof_at b o 10 10 bs 0 w hL (by omega) hr hbl (by omega) (by omega) hb hM
  have CX : Hid (∀ W, Below w.heap.size w W → W.cell? ⟨b, o + 3, none⟩ = some (.int .u8 x3)) := fun W q => by rw [← h3]; exact rangeB (range_below hr q hbl) 3 (by omega)
  have P4 : Hid (∀ W, Below w.heap.size w W → PartAt W (.slice (some ⟨b, o + 6, none⟩) 4 4) ((bs.drop 6).take 4)) := fun W q => (sub_part (cp := 10) hL (by omega) (by omega) hr hbl 6 4 (by omega)).below q
  have BODY : Hid (∀ W, Below w.heap.size w W → PartAt W (.slice (some ⟨b, o, none⟩) 0 0) Bd) := hBody
  have SM : Hid (∀ (W : World) (u : Value), PartAt W u Bd → Calls Tryd.prog 65 #[.int .u8 x3, u] W fun e w' => ∃ av4 cp4, e = .returned (.slice av4 4 cp4) ∧ PartAt w' (.slice av4 4 cp4) (sum4 x3 Bd) ∧ Below W.heap.size W w') := fun W u q =>
    (rsum4_any x3 hx3 _ Bd W q hBb (by omega)).mono fun e w' ⟨u, r1, r2, r3⟩ => by
      have r2' := r2
      obtain ⟨a4, b4, o4, c4, hu, _⟩ := r2'
      rw [sum4_length] at hu
      subst hu
      exact ⟨a4, c4, r1, r2, r3⟩
  have HSB : Bytes (sum4 x3 Bd) := sum4_bytes _ _
  have HB4 : Bytes ((bs.drop 6).take 4) := fun y hy => hb y (List.mem_of_mem_drop (List.mem_of_mem_take hy))
  have HBL : Hid (Bd.length = 0) := hBl
  have HW0 : Hid (b < w.heap.size) := hbl
  have HEQ : Hid (strOfNums (sum4 x3 Bd) = strOfNums ((bs.drop 6).take 4)) := by unfold Hid; rw [heq]
  have gw : IntKind.i64.wrap 10 = 10 := by exact IntWalk.i64_in _ (by omega)
  generalize sum4 x3 Bd = S4 at *
  generalize (bs.drop 6).take 4 = Q4 at *
  clear hp hr hM h h3 hBody hBb hBl heq HSB HB4 hb hL
  go_enter Tryd.func33, Tryd.ntmps33
  go_wp2_with fail
  refine BG.out.mono ?_
  rintro e w2 ⟨rfl, b2, k2⟩
  have K2 : Hid (w2.heap[w.heap.size]? = some (.cells #[.int .u8 0, .slice none 0 0] 48)) := k2
  have B2 : Hid (Below w.heap.size w w2) := b2
  clear k2 BG b2
  go_wp2_with (first | (go_at_call 56; refine (OF.out _ B2.out).mono ?_; rintro e w5 ⟨rfl, q5⟩; subst q5; clear OF))
  have BD : Hid (Below w2.heap.size w2 w2.drew) := (Below.refl _ _).drew
  refine wp_region_noPanic ?_
  refine wp_region_held_drew (S := fun w' => Below w2.heap.size w2 w') (by kernel_rfl) (BD.out) (fun hHeld => ?_)
  try simp only [Act.put, List.setIfInBounds_toArray, List.set_cons_zero, List.set_cons_succ]
  refine wpAnyH_take (i := 0) (oi := ⟨some 25, .move (.tmp 0), 22, "ref.go:236", #[], none⟩) (v := ?_) rfl (by kernel_rfl) (by kernel_rfl) (by kernel_rfl) (fun _ _ _ h => h) (Or.inl ⟨by rfl, ?_⟩) hHeld ?_
  rotate_left 1
  · (intro wq hSq; (try dsimp only at hSq); go_simp; first | done | with_reducible rfl)
  try simp only [Act.put, List.setIfInBounds_toArray, List.set_cons_zero, List.set_cons_succ]
  refine wpAnyH_take (i := 1) (oi := ⟨some 26, .indexAddr 22 (.tmp 25) (.const (.int .i64 3)), 0, "ref.go:236", #[⟨0, .data⟩], none⟩) (v := ?_) rfl (by kernel_rfl) (by kernel_rfl) (by kernel_rfl) (fun _ _ _ h => h) (Or.inl ⟨by rfl, ?_⟩) hHeld ?_
  rotate_left 1
  · (intro wq hSq; (try dsimp only at hSq); go_simp; first | done | with_reducible rfl)
  try simp only [Act.put, List.setIfInBounds_toArray, List.set_cons_zero, List.set_cons_succ]
  refine wpAnyH_take (i := 2) (oi := ⟨some 27, .load 5 (.tmp 26), 5, "ref.go:236", #[⟨1, .data⟩], none⟩) (v := ?_) rfl (by kernel_rfl) (by kernel_rfl) (by kernel_rfl) (fun _ _ _ h => h) (Or.inl ⟨by rfl, ?_⟩) hHeld ?_
  rotate_left 1
  · (intro wq hSq; (try dsimp only at hSq); have hq := CX.out _ (B2.out.trans (hSq.mono B2.out.size)); go_simp; first | done | with_reducible rfl)
  try simp only [Act.put, List.setIfInBounds_toArray, List.set_cons_zero, List.set_cons_succ]
  refine wpAnyH_take (i := 4) (oi := ⟨some 29, .move (.tmp 0), 22, "ref.go:236", #[], none⟩) (v := ?_) rfl (by kernel_rfl) (by kernel_rfl) (by kernel_rfl) (fun _ _ _ h => h) (Or.inl ⟨by rfl, ?_⟩) hHeld ?_
  rotate_left 1
  · (intro wq hSq; (try dsimp only at hSq); go_simp; first | done | with_reducible rfl)
  try simp only [Act.put, List.setIfInBounds_toArray, List.set_cons_zero, List.set_cons_succ]
  refine wpAnyH_take (i := 5) (oi := ⟨some 30, .move (.tmp 5), 3, "ref.go:236", #[], none⟩) (v := ?_) rfl (by kernel_rfl) (by kernel_rfl) (by kernel_rfl) (fun _ _ _ h => h) (Or.inl ⟨by rfl, ?_⟩) hHeld ?_
  rotate_left 1
  · (intro wq hSq; (try dsimp only at hSq); go_simp; first | done | with_reducible rfl)
  try simp only [Act.put, List.setIfInBounds_toArray, List.set_cons_zero, List.set_cons_succ]
  refine wpAnyH_take (i := 6) (oi := ⟨some 31, .binOp .add 3 (.const (.int .i64 10)) (.tmp 30) 3, 3, "ref.go:236", #[⟨5, .data⟩], none⟩) (v := ?_) rfl (by kernel_rfl) (by kernel_rfl) (by kernel_rfl) (fun _ _ _ h => h) (Or.inl ⟨by rfl, ?_⟩) hHeld ?_
  rotate_left 1
  · (intro wq hSq; (try dsimp only at hSq); go_simp; first | done | with_reducible rfl)
  try simp only [Act.put, List.setIfInBounds_toArray, List.set_cons_zero, List.set_cons_succ]
  refine wpAnyH_take (i := 7) (oi := ⟨some 32, .slice 22 (.tmp 29) (some (.const (.int .i64 10))) (some (.tmp 31)) none, 22, "ref.go:236", #[⟨4, .data⟩, ⟨6, .data⟩], none⟩) (v := ?_) rfl (by kernel_rfl) (by kernel_rfl) (by kernel_rfl) (fun _ _ _ h => h) (Or.inl ⟨by rfl, ?_⟩) hHeld ?_
  rotate_left 1
  · (intro wq hSq; (try dsimp only at hSq); go_simp; first | done | with_reducible rfl)
  try simp only [Act.put, List.setIfInBounds_toArray, List.set_cons_zero, List.set_cons_succ]
  refine wpAnyH_batch (B := [(3, 28, []), (8, 33, [28]), (9, 34, [33]), (10, 6, [])]) (R := fun w w' => Below w.heap.size w w') (Φ := PhiD x3 Bd 0 w2.heap.size) 1 (by kernel_rfl) (fun _ _ _ _ h => h) (Below.refl _ _) (fun _ _ h1 h2 => h1.trans (h2.mono h1.size)) (fun _ _ _ _ _ h k => phiD_below _ _ _ _ _ _ _ _ h k) (fun _ h => BD.out.trans h) ⟨StepB.mk (⟨some 28, .buildSlice 22 0 #[], 22, "ref.go:236", #[], none⟩ : Oper) rfl ?_, StepB.mk (⟨some 33, .call ⟨.builtin .append, #[.tmp 28, .tmp 32], #[22, 22]⟩, 22, "ref.go:236", #[⟨3, .data⟩, ⟨7, .data⟩], none⟩ : Oper) rfl ?_, StepB.mk (⟨some 34, .build 48 #[(0, .tmp 27), (1, .tmp 33)], 48, "ref.go:236", #[⟨2, .data⟩, ⟨8, .data⟩], none⟩ : Oper) rfl ?_, StepB.mk (⟨some 6, .alloc 48, 0, "ref.go:236", #[], none⟩ : Oper) rfl ?_, trivial⟩ ?_
  · intro f wS hRS hFS K hK
    simp only [putT, Act.put, List.setIfInBounds_toArray, List.set_cons_zero, List.set_cons_succ] at hK ⊢
    go_simp
    exact hK.out _ _ ((Below.refl _ _).alloc (Nat.le_refl _) _) ⟨_, rfl⟩
  · intro f wS hRS hFS K hK
    simp only [putT, Act.put, List.setIfInBounds_toArray, List.set_cons_zero, List.set_cons_succ] at hK ⊢
    have hs := hRS.size
    obtain ⟨g28, e28⟩ := hFS 28 (by simp)
    rw [e28] at hK ⊢
    have b0S : Below w.heap.size w wS := B2.out.trans ((BD.out.trans (hRS.mono (Nat.le_refl _))).mono B2.out.size)
    obtain ⟨av, cpA, wA, hA, pA, bA⟩ := append_empty wS ⟨g28, 0, none⟩ _ Bd (BODY.out wS b0S) (by have := HBL.out; omega)
    rw [HBL.out] at hA pA
    refine Lib.wp_append_run_sl wS _ _ 22 rfl _ _ rfl rfl hA ?_
    exact hK.out _ _ bA ⟨av, cpA, rfl, pA⟩
  · intro f wS hRS hFS K hK
    simp only [putT, Act.put, List.setIfInBounds_toArray, List.set_cons_zero, List.set_cons_succ] at hK ⊢
    obtain ⟨av, cpA, e33, p33⟩ := hFS 33 (by simp)
    rw [e33] at hK p33 ⊢
    go_simp
    exact hK.out _ _ (Below.refl _ _) ⟨av, cpA, rfl, p33⟩
  · intro f wS hRS hFS K hK
    simp only [putT, Act.put, List.setIfInBounds_toArray, List.set_cons_zero, List.set_cons_succ] at hK ⊢
    have hs := hRS.size
    go_simp
    exact hK.out _ _ ((Below.refl _ _).alloc (Nat.le_refl _) _) ⟨wS.heap.size, rfl, hs, heap_alloc_new _ _⟩
  intro f wB hRB hFB
  simp only [List.map, setL, putT, Act.put, List.setIfInBounds_toArray, List.set_cons_zero, List.set_cons_succ]
  obtain ⟨av8, cp8, e34, p34⟩ := hFB 34 (by simp)
  obtain ⟨g6, e6, n6, k6⟩ := hFB 6 (by simp)
  have hHeldB1 : Below w2.heap.size w2 wB := BD.out.trans hRB
  have HB1 : Hid (Below w2.heap.size w2 wB) := hHeldB1
  rw [e34, e6]
  generalize f 28 = u28
  generalize f 33 = u33
  clear hFB hRB e34 e6
  have P8 : Hid (PartT wB (.slice av8 0 cp8) Bd) := p34
  have K6 : Hid (wB.heap[g6]? = some (.cells #[.int .u8 0, .slice none 0 0] 48)) := k6
  have N6 : Hid (w2.heap.size ≤ g6) := n6
  clear p34 k6 n6
  refine wpAnyH_ready (rs := [11]) (by kernel_rfl) (by simp) ?_
  refine AllReadyH.cons (o := ⟨none, .store 48 (.tmp 6) (.tmp 34), 0, "ref.go:236", #[⟨10, .data⟩, ⟨9, .data⟩, ⟨8, .chain⟩, ⟨0, .phase⟩, ⟨1, .phase⟩, ⟨2, .phase⟩, ⟨3, .phase⟩, ⟨4, .phase⟩, ⟨5, .phase⟩, ⟨6, .phase⟩, ⟨7, .phase⟩, ⟨8, .phase⟩, ⟨9, .phase⟩, ⟨10, .phase⟩], none⟩) rfl (fun K hK => ?_) AllReadyH.nil
  refine (if_pos rfl).mpr ?_
  refine store63w _ _ rfl g6 (.int .u8 x3) (.slice av8 0 cp8) rfl rfl (one61 _ _ _ _) (.int .u8 0) (.slice none 0 0) K6.out ?_
  refine hK.out _ _ (below_setRow hHeldB1 N6.out _) (fun hHeld2 => ?_)
  clear hK K hHeldB1
  try simp only [Act.put, List.setIfInBounds_toArray, List.set_cons_zero, List.set_cons_succ]
  refine wpAnyH_done (by kernel_rfl) ?_ _
  refine NoPanic.normal ?_
  obtain ⟨w7, hw7⟩ : ∃ W, W = wB.setRow g6 #[Value.int IntKind.u8 x3, Value.slice av8 0 cp8] := ⟨_, rfl⟩
  have k7 : w7.heap[g6]? = some (.cells #[.int .u8 x3, .slice av8 0 cp8] 48) := by rw [hw7]; exact setRow_same K6.out
  have kB : Hid (∀ k, k ≠ g6 → w7.heap[k]? = wB.heap[k]?) := fun k hk => by rw [hw7]; exact setRow_far _ _ _ _ hk
  have B27 : Hid (Below w2.heap.size w2 w7) := by rw [hw7]; exact below_setRow HB1.out N6.out _
  have P7 : Hid (PartT w7 (.slice av8 0 cp8) Bd) := by rw [hw7]; exact P8.out.set48 K6.out _
  rw [← hw7]
  clear hw7 HB1 hHeld2 kB P8 K6
  have L0 : Hid (∀ W, Below w7.heap.size w7 W → W.cell? ⟨g6, 0, none⟩ = some (.int .u8 x3)) := fun W q => by rw [q.cell (show g6 < w7.heap.size from (Array.getElem?_eq_some_iff.1 k7).1)]; exact row_cell (j := 0) k7 rfl
  have L1 : Hid (∀ W, Below w7.heap.size w7 W → W.cell? ⟨g6, 1, none⟩ = some (.slice av8 0 cp8)) := fun W q => by rw [q.cell (show g6 < w7.heap.size from (Array.getElem?_eq_some_iff.1 k7).1)]; exact row_cell (j := 1) k7 rfl
  have K7 : Hid (w7.heap[w.heap.size]? = some (.cells #[.int .u8 0, .slice none 0 0] 48)) := by unfold Hid; rw [B27.out.block _ (Array.getElem?_eq_some_iff.1 K2.out).1]; exact K2.out
  have B7 : Hid (Below w.heap.size w w7) := B2.out.trans (B27.out.mono B2.out.size)
  have BD7 : Hid (Below w7.heap.size w7 w7.drew) := (Below.refl _ _).drew
  have G6 : Hid (w.heap.size < g6) := by have := N6.out; have := (Array.getElem?_eq_some_iff.1 K2.out).1; unfold Hid; omega
  clear k7 B27 N6 K2 CX BODY
  go_wp2_with fail
  refine wp_region_noPanic ?_
  refine wp_region_held_drew (S := fun w' => Below w7.heap.size w7 w') (by kernel_rfl) (BD7.out) (fun hHeld => ?_)
  try simp only [Act.put, List.setIfInBounds_toArray, List.set_cons_zero, List.set_cons_succ]
  refine wpAnyH_take (i := 0) (oi := ⟨some 35, .fieldAddr 48 (.tmp 6) 0, 0, "ref.go:237", #[], none⟩) (v := ?_) rfl (by kernel_rfl) (by kernel_rfl) (by kernel_rfl) (fun _ _ _ h => h) (Or.inl ⟨by rfl, ?_⟩) hHeld ?_
  rotate_left 1
  · (intro wq hSq; (try dsimp only at hSq); go_simp; first | done | with_reducible rfl)
  try simp only [Act.put, List.setIfInBounds_toArray, List.set_cons_zero, List.set_cons_succ]
  refine wpAnyH_take (i := 1) (oi := ⟨some 36, .load 5 (.tmp 35), 5, "ref.go:237", #[⟨0, .data⟩], none⟩) (v := ?_) rfl (by kernel_rfl) (by kernel_rfl) (by kernel_rfl) (fun _ _ _ h => h) (Or.inl ⟨by rfl, ?_⟩) hHeld ?_
  rotate_left 1
  · (intro wq hSq; (try dsimp only at hSq); have hq := L0.out _ hSq; go_simp; first | done | with_reducible rfl)
  try simp only [Act.put, List.setIfInBounds_toArray, List.set_cons_zero, List.set_cons_succ]
  refine wpAnyH_take (i := 2) (oi := ⟨some 37, .fieldAddr 48 (.tmp 6) 1, 0, "ref.go:237", #[], none⟩) (v := ?_) rfl (by kernel_rfl) (by kernel_rfl) (by kernel_rfl) (fun _ _ _ h => h) (Or.inl ⟨by rfl, ?_⟩) hHeld ?_
  rotate_left 1
  · (intro wq hSq; (try dsimp only at hSq); go_simp; first | done | with_reducible rfl)
  try simp only [Act.put, List.setIfInBounds_toArray, List.set_cons_zero, List.set_cons_succ]
  refine wpAnyH_take (i := 3) (oi := ⟨some 38, .load 22 (.tmp 37), 22, "ref.go:237", #[⟨2, .data⟩], none⟩) (v := ?_) rfl (by kernel_rfl) (by kernel_rfl) (by kernel_rfl) (fun _ _ _ h => h) (Or.inl ⟨by rfl, ?_⟩) hHeld ?_
  rotate_left 1
  · (intro wq hSq; (try dsimp only at hSq); have hq := L1.out _ hSq; go_simp; first | done | with_reducible rfl)
  try simp only [Act.put, List.setIfInBounds_toArray, List.set_cons_zero, List.set_cons_succ]
  refine wpAnyH_take (i := 6) (oi := ⟨some 41, .move (.tmp 0), 22, "ref.go:237", #[], none⟩) (v := ?_) rfl (by kernel_rfl) (by kernel_rfl) (by kernel_rfl) (fun _ _ _ h => h) (Or.inl ⟨by rfl, ?_⟩) hHeld ?_
  rotate_left 1
  · (intro wq hSq; (try dsimp only at hSq); go_simp; first | done | with_reducible rfl)
  try simp only [Act.put, List.setIfInBounds_toArray, List.set_cons_zero, List.set_cons_succ]
  refine wpAnyH_take (i := 7) (oi := ⟨some 42, .slice 22 (.tmp 41) (some (.const (.int .i64 6))) (some (.const (.int .i64 10))) none, 22, "ref.go:237", #[⟨6, .data⟩], none⟩) (v := ?_) rfl (by kernel_rfl) (by kernel_rfl) (by kernel_rfl) (fun _ _ _ h => h) (Or.inl ⟨by rfl, ?_⟩) hHeld ?_
  rotate_left 1
  · (intro wq hSq; (try dsimp only at hSq); go_simp; first | done | with_reducible rfl)
  try simp only [Act.put, List.setIfInBounds_toArray, List.set_cons_zero, List.set_cons_succ]
  refine wpAnyH_take (i := 8) (oi := ⟨some 43, .convert 22 9 (.tmp 42), 9, "ref.go:237", #[⟨7, .data⟩], none⟩) (v := ?_) rfl (by kernel_rfl) (by kernel_rfl) (by kernel_rfl) (fun _ _ _ h => h) (Or.inl ⟨by rfl, ?_⟩) hHeld ?_
  rotate_left 1
  · (intro wq hSq; (try dsimp only at hSq); have hq := run_conv (P4.out _ (B7.out.trans (hSq.mono B7.out.size))); go_simp; first | done | with_reducible rfl)
  try simp only [Act.put, List.setIfInBounds_toArray, List.set_cons_zero, List.set_cons_succ]
  refine wpAnyH_ready (rs := [4]) (by kernel_rfl) (by simp) ?_
  refine AllReadyH.cons (o := ⟨some 39, .call ⟨.value (.func 65), #[.tmp 36, .tmp 38], #[5, 22]⟩, 22, "ref.go:237", #[⟨1, .data⟩, ⟨3, .data⟩], none⟩) rfl (fun K hK => ?_) AllReadyH.nil
  go_simp
  refine (SM.out w7.drew _ (P7.out.below BD7.out).part).mono ?_
  rintro e w9 ⟨av9, cp9, rfl, p9, b9⟩
  have P9 : Hid (PartAt w9 (.slice av9 4 cp9) S4) := p9
  have B79 : Hid (Below w7.heap.size w7 w9) := BD7.out.trans b9
  clear p9 b9
  refine hK.out _ _ (B79.out) (fun hHeld1 => ?_)
  clear hK K hHeld
  refine wpAnyH_grow (S' := fun w' => Below w9.heap.size w9 w') (fun _ h => B79.out.trans (h.mono B79.out.size)) (Below.refl _ _) (fun hGrow1 => ?_)
  clear hHeld1
  try simp only [Act.put, List.setIfInBounds_toArray, List.set_cons_zero, List.set_cons_succ]
  refine wpAnyH_take (i := 5) (oi := ⟨some 40, .convert 22 9 (.tmp 39), 9, "ref.go:237", #[⟨4, .data⟩], none⟩) (v := ?_) rfl (by kernel_rfl) (by kernel_rfl) (by kernel_rfl) (fun _ _ _ h => h) (Or.inl ⟨by rfl, ?_⟩) hGrow1 ?_
  rotate_left 1
  · (intro wq hSq; (try dsimp only at hSq); have hq := run_conv (P9.out.below hSq); rw [HEQ.out] at hq; go_simp; first | done | with_reducible rfl)
  try simp only [Act.put, List.setIfInBounds_toArray, List.set_cons_zero, List.set_cons_succ]
  refine wpAnyH_take (i := 9) (oi := ⟨some 44, .binOp .neq 9 (.tmp 40) (.tmp 43) 9, 4, "ref.go:237", #[⟨5, .data⟩, ⟨8, .data⟩], none⟩) (v := ?_) rfl (by kernel_rfl) (by kernel_rfl) (by kernel_rfl) (fun _ _ _ h => h) (Or.inl ⟨by rfl, ?_⟩) hGrow1 ?_
  rotate_left 1
  · (intro wq hSq; (try dsimp only at hSq); go_simp; first | done | with_reducible rfl)
  try simp only [Act.put, List.setIfInBounds_toArray, List.set_cons_zero, List.set_cons_succ]
  refine wpAnyH_done (by kernel_rfl) ?_ _
  refine NoPanic.normal ?_
  have K9 : Hid (w9.heap[w.heap.size]? = some (.cells #[.int .u8 0, .slice none 0 0] 48)) := by unfold Hid; rw [B79.out.block _ (Array.getElem?_eq_some_iff.1 K7.out).1]; exact K7.out
  have B9 : Hid (Below w.heap.size w w9) := B7.out.trans (B79.out.mono B7.out.size)
  have l0 := L0.out _ B79.out
  have l1 := L1.out _ B79.out
  have P9B : Hid (∀ cs, PartAt (w9.setRow w.heap.size cs) (.slice av8 0 cp8) Bd) := fun cs => ((P7.out.below B79.out).set48 K9.out cs).part
  clear hGrow1 L0 L1 P7 P9 P4 SM BD7 B7 K7
  go_wp2_with (first | (refine store63 rfl _ _ rfl w.heap.size (.int .u8 x3) (.slice av8 0 cp8) rfl rfl (one61 _ _ _ _) (.int .u8 0) (.slice none 0 0) K9.out ?_))
  refine rdec_end rfl rfl rfl (setRow_same K9.out) ⟨_, rfl, P9B.out _, below_setRow B9.out (Nat.le_refl _) _⟩
set_option maxHeartbeats 1000000 in
set_option maxRecDepth 100000 in
theorem rdec_sum_b (b o : Nat) (bs : List Int) (x3 : Int) (w : World) (hp : PartAt w (.slice (some ⟨b, o, none⟩) 10 10) bs) (hL : bs.length = 10) (hb : Bytes bs) (h : beginsB bs = true) (h3 : gi bs 3 = x3) (hx3 : 0 ≤ x3 ∧ x3 ≤ 255) (hM : gi bs 4 * 256 + gi bs 5 = ((0 : Nat) : Int)) (hr : w.rangeAt b o (vB bs).toList) (hbl : b < w.heap.size) (Bd : List Int) (hBl : Bd.length = 0) (hBb : Bytes Bd) (hBody : ∀ W, Below w.heap.size w W → PartAt W (.slice (some ⟨b, o, none⟩) 0 0) Bd) (heq : sum4 x3 Bd ≠ (bs.drop 6).take 4) : Calls Tryd.prog 33 #[.slice (some ⟨b, o, none⟩) 10 10] w fun e w' => e = .returned (.tuple #[.agg #[.int .u8 0, .slice none 0 0], .int .i64 0, .int .i64 3]) ∧ Below w.heap.size w w' := by
  have BG : Hid (Calls Tryd.prog 36 #[.slice (some ⟨b, o, none⟩) 10 10] (w.alloc (.cells #[.int .u8 0, .slice none 0 0] 48)) fun e w' => e = .returned (.bool true) ∧ Below w.heap.size w w' ∧ w'.heap[w.heap.size]? = some (.cells #[.int .u8 0, .slice none 0 0] 48)) := rbegins_box _ bs w hp hb true h
  have OF : Hid (∀ W, Below w.heap.size w W → Calls Tryd.prog 56 #[.slice (some ⟨b, o + 4, none⟩) 2 6] W fun e w' => e = .returned (.int .u64 0) ∧ W = w') := rof_at b o 10 10 bs 0 w hL (by omega) hr hbl (by omega) (by omega) hb hM
  have CX : Hid (∀ W, Below w.heap.size w W → W.cell? ⟨b, o + 3, none⟩ = some (.int .u8 x3)) := fun W q => by rw [← h3]; exact rangeB (range_below hr q hbl) 3 (by omega)
  have P4 : Hid (∀ W, Below w.heap.size w W → PartAt W (.slice (some ⟨b, o + 6, none⟩) 4 4) ((bs.drop 6).take 4)) := fun W q => (sub_part (cp := 10) hL (by omega) (by omega) hr hbl 6 4 (by omega)).below q
  have BODY : Hid (∀ W, Below w.heap.size w W → PartAt W (.slice (some ⟨b, o, none⟩) 0 0) Bd) := hBody
  have SM : Hid (∀ (W : World) (u : Value), PartAt W u Bd → Calls Tryd.prog 65 #[.int .u8 x3, u] W fun e w' => ∃ av4 cp4, e = .returned (.slice av4 4 cp4) ∧ PartAt w' (.slice av4 4 cp4) (sum4 x3 Bd) ∧ Below W.heap.size W w') := fun W u q =>
    (rsum4_any x3 hx3 _ Bd W q hBb (by omega)).mono fun e w' ⟨u, r1, r2, r3⟩ => by
      have r2' := r2
      obtain ⟨a4, b4, o4, c4, hu, _⟩ := r2'
      rw [sum4_length] at hu
      subst hu
      exact ⟨a4, c4, r1, r2, r3⟩
  have HSB : Bytes (sum4 x3 Bd) := sum4_bytes _ _
  have HB4 : Bytes ((bs.drop 6).take 4) := fun y hy => hb y (List.mem_of_mem_drop (List.mem_of_mem_take hy))
  have HBL : Hid (Bd.length = 0) := hBl
  have HW0 : Hid (b < w.heap.size) := hbl
  have HNE : Hid (((strOfNums (sum4 x3 Bd)).toList == (strOfNums ((bs.drop 6).take 4)).toList) = false) := str_neF _ _ HSB HB4 heq
  have gw : IntKind.i64.wrap 10 = 10 := by exact IntWalk.i64_in _ (by omega)
  generalize sum4 x3 Bd = S4 at *
  generalize (bs.drop 6).take 4 = Q4 at *
  clear hp hr hM h h3 hBody hBb hBl heq HSB HB4 hb hL
  go_enter Tryd.func33, Tryd.ntmps33
  go_wp2_with fail
  refine BG.out.mono ?_
  rintro e w2 ⟨rfl, b2, k2⟩
  have K2 : Hid (w2.heap[w.heap.size]? = some (.cells #[.int .u8 0, .slice none 0 0] 48)) := k2
  have B2 : Hid (Below w.heap.size w w2) := b2
  clear k2 BG b2
  go_wp2_with (first | (go_at_call 56; refine (OF.out _ B2.out).mono ?_; rintro e w5 ⟨rfl, q5⟩; subst q5; clear OF))
  have BD : Hid (Below w2.heap.size w2 w2.drew) := (Below.refl _ _).drew
  refine wp_region_noPanic ?_
  refine wp_region_held_drew (S := fun w' => Below w2.heap.size w2 w') (by kernel_rfl) (BD.out) (fun hHeld => ?_)
  try simp only [Act.put, List.setIfInBounds_toArray, List.set_cons_zero, List.set_cons_succ]
  refine wpAnyH_take (i := 0) (oi := ⟨some 25, .move (.tmp 0), 22, "ref.go:236", #[], none⟩) (v := ?_) rfl (by kernel_rfl) (by kernel_rfl) (by kernel_rfl) (fun _ _ _ h => h) (Or.inl ⟨by rfl, ?_⟩) hHeld ?_
  rotate_left 1
  · (intro wq hSq; (try dsimp only at hSq); go_simp; first | done | with_reducible rfl)
  try simp only [Act.put, List.setIfInBounds_toArray, List.set_cons_zero, List.set_cons_succ]
  refine wpAnyH_take (i := 1) (oi := ⟨some 26, .indexAddr 22 (.tmp 25) (.const (.int .i64 3)), 0, "ref.go:236", #[⟨0, .data⟩], none⟩) (v := ?_) rfl (by kernel_rfl) (by kernel_rfl) (by kernel_rfl) (fun _ _ _ h => h) (Or.inl ⟨by rfl, ?_⟩) hHeld ?_
  rotate_left 1
  · (intro wq hSq; (try dsimp only at hSq); go_simp; first | done | with_reducible rfl)
  try simp only [Act.put, List.setIfInBounds_toArray, List.set_cons_zero, List.set_cons_succ]
  refine wpAnyH_take (i := 2) (oi := ⟨some 27, .load 5 (.tmp 26), 5, "ref.go:236", #[⟨1, .data⟩], none⟩) (v := ?_) rfl (by kernel_rfl) (by kernel_rfl) (by kernel_rfl) (fun _ _ _ h => h) (Or.inl ⟨by rfl, ?_⟩) hHeld ?_
  rotate_left 1
  · (intro wq hSq; (try dsimp only at hSq); have hq := CX.out _ (B2.out.trans (hSq.mono B2.out.size)); go_simp; first | done | with_reducible rfl)
  try simp only [Act.put, List.setIfInBounds_toArray, List.set_cons_zero, List.set_cons_succ]
  refine wpAnyH_take (i := 4) (oi := ⟨some 29, .move (.tmp 0), 22, "ref.go:236", #[], none⟩) (v := ?_) rfl (by kernel_rfl) (by kernel_rfl) (by kernel_rfl) (fun _ _ _ h => h) (Or.inl ⟨by rfl, ?_⟩) hHeld ?_
  rotate_left 1
  · (intro wq hSq; (try dsimp only at hSq); go_simp; first | done | with_reducible rfl)
  try simp only [Act.put, List.setIfInBounds_toArray, List.set_cons_zero, List.set_cons_succ]
  refine wpAnyH_take (i := 5) (oi := ⟨some 30, .move (.tmp 5), 3, "ref.go:236", #[], none⟩) (v := ?_) rfl (by kernel_rfl) (by kernel_rfl) (by kernel_rfl) (fun _ _ _ h => h) (Or.inl ⟨by rfl, ?_⟩) hHeld ?_
  rotate_left 1
  · (intro wq hSq; (try dsimp only at hSq); go_simp; first | done | with_reducible rfl)
  try simp only [Act.put, List.setIfInBounds_toArray, List.set_cons_zero, List.set_cons_succ]
  refine wpAnyH_take (i := 6) (oi := ⟨some 31, .binOp .add 3 (.const (.int .i64 10)) (.tmp 30) 3, 3, "ref.go:236", #[⟨5, .data⟩], none⟩) (v := ?_) rfl (by kernel_rfl) (by kernel_rfl) (by kernel_rfl) (fun _ _ _ h => h) (Or.inl ⟨by rfl, ?_⟩) hHeld ?_
  rotate_left 1
  · (intro wq hSq; (try dsimp only at hSq); go_simp; first | done | with_reducible rfl)
  try simp only [Act.put, List.setIfInBounds_toArray, List.set_cons_zero, List.set_cons_succ]
  refine wpAnyH_take (i := 7) (oi := ⟨some 32, .slice 22 (.tmp 29) (some (.const (.int .i64 10))) (some (.tmp 31)) none, 22, "ref.go:236", #[⟨4, .data⟩, ⟨6, .data⟩], none⟩) (v := ?_) rfl (by kernel_rfl) (by kernel_rfl) (by kernel_rfl) (fun _ _ _ h => h) (Or.inl ⟨by rfl, ?_⟩) hHeld ?_
  rotate_left 1
  · (intro wq hSq; (try dsimp only at hSq); go_simp; first | done | with_reducible rfl)
  try simp only [Act.put, List.setIfInBounds_toArray, List.set_cons_zero, List.set_cons_succ]
  refine wpAnyH_batch (B := [(3, 28, []), (8, 33, [28]), (9, 34, [33]), (10, 6, [])]) (R := fun w w' => Below w.heap.size w w') (Φ := PhiD x3 Bd 0 w2.heap.size) 1 (by kernel_rfl) (fun _ _ _ _ h => h) (Below.refl _ _) (fun _ _ h1 h2 => h1.trans (h2.mono h1.size)) (fun _ _ _ _ _ h k => phiD_below _ _ _ _ _ _ _ _ h k) (fun _ h => BD.out.trans h) ⟨StepB.mk (⟨some 28, .buildSlice 22 0 #[], 22, "ref.go:236", #[], none⟩ : Oper) rfl ?_, StepB.mk (⟨some 33, .call ⟨.builtin .append, #[.tmp 28, .tmp 32], #[22, 22]⟩, 22, "ref.go:236", #[⟨3, .data⟩, ⟨7, .data⟩], none⟩ : Oper) rfl ?_, StepB.mk (⟨some 34, .build 48 #[(0, .tmp 27), (1, .tmp 33)], 48, "ref.go:236", #[⟨2, .data⟩, ⟨8, .data⟩], none⟩ : Oper) rfl ?_, StepB.mk (⟨some 6, .alloc 48, 0, "ref.go:236", #[], none⟩ : Oper) rfl ?_, trivial⟩ ?_
  · intro f wS hRS hFS K hK
    simp only [putT, Act.put, List.setIfInBounds_toArray, List.set_cons_zero, List.set_cons_succ] at hK ⊢
    go_simp
    exact hK.out _ _ ((Below.refl _ _).alloc (Nat.le_refl _) _) ⟨_, rfl⟩
  · intro f wS hRS hFS K hK
    simp only [putT, Act.put, List.setIfInBounds_toArray, List.set_cons_zero, List.set_cons_succ] at hK ⊢
    have hs := hRS.size
    obtain ⟨g28, e28⟩ := hFS 28 (by simp)
    rw [e28] at hK ⊢
    have b0S : Below w.heap.size w wS := B2.out.trans ((BD.out.trans (hRS.mono (Nat.le_refl _))).mono B2.out.size)
    obtain ⟨av, cpA, wA, hA, pA, bA⟩ := append_empty wS ⟨g28, 0, none⟩ _ Bd (BODY.out wS b0S) (by have := HBL.out; omega)
    rw [HBL.out] at hA pA
    refine Lib.wp_append_run_sl wS _ _ 22 rfl _ _ rfl rfl hA ?_
    exact hK.out _ _ bA ⟨av, cpA, rfl, pA⟩
  · intro f wS hRS hFS K hK
    simp only [putT, Act.put, List.setIfInBounds_toArray, List.set_cons_zero, List.set_cons_succ] at hK ⊢
    obtain ⟨av, cpA, e33, p33⟩ := hFS 33 (by simp)
    rw [e33] at hK p33 ⊢
    go_simp
    exact hK.out _ _ (Below.refl _ _) ⟨av, cpA, rfl, p33⟩
  · intro f wS hRS hFS K hK
    simp only [putT, Act.put, List.setIfInBounds_toArray, List.set_cons_zero, List.set_cons_succ] at hK ⊢
    have hs := hRS.size
    go_simp
    exact hK.out _ _ ((Below.refl _ _).alloc (Nat.le_refl _) _) ⟨wS.heap.size, rfl, hs, heap_alloc_new _ _⟩
  intro f wB hRB hFB
  simp only [List.map, setL, putT, Act.put, List.setIfInBounds_toArray, List.set_cons_zero, List.set_cons_succ]
  obtain ⟨av8, cp8, e34, p34⟩ := hFB 34 (by simp)
  obtain ⟨g6, e6, n6, k6⟩ := hFB 6 (by simp)
  have hHeldB1 : Below w2.heap.size w2 wB := BD.out.trans hRB
  have HB1 : Hid (Below w2.heap.size w2 wB) := hHeldB1
  rw [e34, e6]
  generalize f 28 = u28
  generalize f 33 = u33
  clear hFB hRB e34 e6
  have P8 : Hid (PartT wB (.slice av8 0 cp8) Bd) := p34
  have K6 : Hid (wB.heap[g6]? = some (.cells #[.int .u8 0, .slice none 0 0] 48)) := k6
  have N6 : Hid (w2.heap.size ≤ g6) := n6
  clear p34 k6 n6
  refine wpAnyH_ready (rs := [11]) (by kernel_rfl) (by simp) ?_
  refine AllReadyH.cons (o := ⟨none, .store 48 (.tmp 6) (.tmp 34), 0, "ref.go:236", #[⟨10, .data⟩, ⟨9, .data⟩, ⟨8, .chain⟩, ⟨0, .phase⟩, ⟨1, .phase⟩, ⟨2, .phase⟩, ⟨3, .phase⟩, ⟨4, .phase⟩, ⟨5, .phase⟩, ⟨6, .phase⟩, ⟨7, .phase⟩, ⟨8, .phase⟩, ⟨9, .phase⟩, ⟨10, .phase⟩], none⟩) rfl (fun K hK => ?_) AllReadyH.nil
  refine (if_pos rfl).mpr ?_
  refine store63w _ _ rfl g6 (.int .u8 x3) (.slice av8 0 cp8) rfl rfl (one61 _ _ _ _) (.int .u8 0) (.slice none 0 0) K6.out ?_
  refine hK.out _ _ (below_setRow hHeldB1 N6.out _) (fun hHeld2 => ?_)
  clear hK K hHeldB1
  try simp only [Act.put, List.setIfInBounds_toArray, List.set_cons_zero, List.set_cons_succ]
  refine wpAnyH_done (by kernel_rfl) ?_ _
  refine NoPanic.normal ?_
  obtain ⟨w7, hw7⟩ : ∃ W, W = wB.setRow g6 #[Value.int IntKind.u8 x3, Value.slice av8 0 cp8] := ⟨_, rfl⟩
  have k7 : w7.heap[g6]? = some (.cells #[.int .u8 x3, .slice av8 0 cp8] 48) := by rw [hw7]; exact setRow_same K6.out
  have kB : Hid (∀ k, k ≠ g6 → w7.heap[k]? = wB.heap[k]?) := fun k hk => by rw [hw7]; exact setRow_far _ _ _ _ hk
  have B27 : Hid (Below w2.heap.size w2 w7) := by rw [hw7]; exact below_setRow HB1.out N6.out _
  have P7 : Hid (PartT w7 (.slice av8 0 cp8) Bd) := by rw [hw7]; exact P8.out.set48 K6.out _
  rw [← hw7]
  clear hw7 HB1 hHeld2 kB P8 K6
  have L0 : Hid (∀ W, Below w7.heap.size w7 W → W.cell? ⟨g6, 0, none⟩ = some (.int .u8 x3)) := fun W q => by rw [q.cell (show g6 < w7.heap.size from (Array.getElem?_eq_some_iff.1 k7).1)]; exact row_cell (j := 0) k7 rfl
  have L1 : Hid (∀ W, Below w7.heap.size w7 W → W.cell? ⟨g6, 1, none⟩ = some (.slice av8 0 cp8)) := fun W q => by rw [q.cell (show g6 < w7.heap.size from (Array.getElem?_eq_some_iff.1 k7).1)]; exact row_cell (j := 1) k7 rfl
  have K7 : Hid (w7.heap[w.heap.size]? = some (.cells #[.int .u8 0, .slice none 0 0] 48)) := by unfold Hid; rw [B27.out.block _ (Array.getElem?_eq_some_iff.1 K2.out).1]; exact K2.out
  have B7 : Hid (Below w.heap.size w w7) := B2.out.trans (B27.out.mono B2.out.size)
  have BD7 : Hid (Below w7.heap.size w7 w7.drew) := (Below.refl _ _).drew
  have G6 : Hid (w.heap.size < g6) := by have := N6.out; have := (Array.getElem?_eq_some_iff.1 K2.out).1; unfold Hid; omega
  clear k7 B27 N6 K2 CX BODY
  go_wp2_with fail
  refine wp_region_noPanic ?_
  refine wp_region_held_drew (S := fun w' => Below w7.heap.size w7 w') (by kernel_rfl) (BD7.out) (fun hHeld => ?_)
  try simp only [Act.put, List.setIfInBounds_toArray, List.set_cons_zero, List.set_cons_succ]
  refine wpAnyH_take (i := 0) (oi := ⟨some 35, .fieldAddr 48 (.tmp 6) 0, 0, "ref.go:237", #[], none⟩) (v := ?_) rfl (by kernel_rfl) (by kernel_rfl) (by kernel_rfl) (fun _ _ _ h => h) (Or.inl ⟨by rfl, ?_⟩) hHeld ?_
  rotate_left 1
  · (intro wq hSq; (try dsimp only at hSq); go_simp; first | done | with_reducible rfl)
  try simp only [Act.put, List.setIfInBounds_toArray, List.set_cons_zero, List.set_cons_succ]
  refine wpAnyH_take (i := 1) (oi := ⟨some 36, .load 5 (.tmp 35), 5, "ref.go:237", #[⟨0, .data⟩], none⟩) (v := ?_) rfl (by kernel_rfl) (by kernel_rfl) (by kernel_rfl) (fun _ _ _ h => h) (Or.inl ⟨by rfl, ?_⟩) hHeld ?_
  rotate_left 1
  · (intro wq hSq; (try dsimp only at hSq); have hq := L0.out _ hSq; go_simp; first | done | with_reducible rfl)
  try simp only [Act.put, List.setIfInBounds_toArray, List.set_cons_zero, List.set_cons_succ]
  refine wpAnyH_take (i := 2) (oi := ⟨some 37, .fieldAddr 48 (.tmp 6) 1, 0, "ref.go:237", #[], none⟩) (v := ?_) rfl (by kernel_rfl) (by kernel_rfl) (by kernel_rfl) (fun _ _ _ h => h) (Or.inl ⟨by rfl, ?_⟩) hHeld ?_
  rotate_left 1
  · (intro wq hSq; (try dsimp only at hSq); go_simp; first | done | with_reducible rfl)
  try simp only [Act.put, List.setIfInBounds_toArray, List.set_cons_zero, List.set_cons_succ]
  refine wpAnyH_take (i := 3) (oi := ⟨some 38, .load 22 (.tmp 37), 22, "ref.go:237", #[⟨2, .data⟩], none⟩) (v := ?_) rfl (by kernel_rfl) (by kernel_rfl) (by kernel_rfl) (fun _ _ _ h => h) (Or.inl ⟨by rfl, ?_⟩) hHeld ?_
  rotate_left 1
  · (intro wq hSq; (try dsimp only at hSq); have hq := L1.out _ hSq; go_simp; first | done | with_reducible rfl)
  try simp only [Act.put, List.setIfInBounds_toArray, List.set_cons_zero, List.set_cons_succ]
  refine wpAnyH_take (i := 6) (oi := ⟨some 41, .move (.tmp 0), 22, "ref.go:237", #[], none⟩) (v := ?_) rfl (by kernel_rfl) (by kernel_rfl) (by kernel_rfl) (fun _ _ _ h => h) (Or.inl ⟨by rfl, ?_⟩) hHeld ?_
  rotate_left 1
  · (intro wq hSq; (try dsimp only at hSq); go_simp; first | done | with_reducible rfl)
  try simp only [Act.put, List.setIfInBounds_toArray, List.set_cons_zero, List.set_cons_succ]
  refine wpAnyH_take (i := 7) (oi := ⟨some 42, .slice 22 (.tmp 41) (some (.const (.int .i64 6))) (some (.const (.int .i64 10))) none, 22, "ref.go:237", #[⟨6, .data⟩], none⟩) (v := ?_) rfl (by kernel_rfl) (by kernel_rfl) (by kernel_rfl) (fun _ _ _ h => h) (Or.inl ⟨by rfl, ?_⟩) hHeld ?_
  rotate_left 1
  · (intro wq hSq; (try dsimp only at hSq); go_simp; first | done | with_reducible rfl)
  try simp only [Act.put, List.setIfInBounds_toArray, List.set_cons_zero, List.set_cons_succ]
  refine wpAnyH_take (i := 8) (oi := ⟨some 43, .convert 22 9 (.tmp 42), 9, "ref.go:237", #[⟨7, .data⟩], none⟩) (v := ?_) rfl (by kernel_rfl) (by kernel_rfl) (by kernel_rfl) (fun _ _ _ h => h) (Or.inl ⟨by rfl, ?_⟩) hHeld ?_
  rotate_left 1
  · (intro wq hSq; (try dsimp only at hSq); have hq := run_conv (P4.out _ (B7.out.trans (hSq.mono B7.out.size))); go_simp; first | done | with_reducible rfl)
  try simp only [Act.put, List.setIfInBounds_toArray, List.set_cons_zero, List.set_cons_succ]
  refine wpAnyH_ready (rs := [4]) (by kernel_rfl) (by simp) ?_
  refine AllReadyH.cons (o := ⟨some 39, .call ⟨.value (.func 65), #[.tmp 36, .tmp 38], #[5, 22]⟩, 22, "ref.go:237", #[⟨1, .data⟩, ⟨3, .data⟩], none⟩) rfl (fun K hK => ?_) AllReadyH.nil
  go_simp
  refine (SM.out w7.drew _ (P7.out.below BD7.out).part).mono ?_
  rintro e w9 ⟨av9, cp9, rfl, p9, b9⟩
  have P9 : Hid (PartAt w9 (.slice av9 4 cp9) S4) := p9
  have B79 : Hid (Below w7.heap.size w7 w9) := BD7.out.trans b9
  clear p9 b9
  refine hK.out _ _ (B79.out) (fun hHeld1 => ?_)
  clear hK K hHeld
  refine wpAnyH_grow (S' := fun w' => Below w9.heap.size w9 w') (fun _ h => B79.out.trans (h.mono B79.out.size)) (Below.refl _ _) (fun hGrow1 => ?_)
  clear hHeld1
  try simp only [Act.put, List.setIfInBounds_toArray, List.set_cons_zero, List.set_cons_succ]
  refine wpAnyH_take (i := 5) (oi := ⟨some 40, .convert 22 9 (.tmp 39), 9, "ref.go:237", #[⟨4, .data⟩], none⟩) (v := ?_) rfl (by kernel_rfl) (by kernel_rfl) (by kernel_rfl) (fun _ _ _ h => h) (Or.inl ⟨by rfl, ?_⟩) hGrow1 ?_
  rotate_left 1
  · (intro wq hSq; (try dsimp only at hSq); have hq := run_conv (P9.out.below hSq); go_simp; first | done | with_reducible rfl)
  try simp only [Act.put, List.setIfInBounds_toArray, List.set_cons_zero, List.set_cons_succ]
  refine wpAnyH_take (i := 9) (oi := ⟨some 44, .binOp .neq 9 (.tmp 40) (.tmp 43) 9, 4, "ref.go:237", #[⟨5, .data⟩, ⟨8, .data⟩], none⟩) (v := ?_) rfl (by kernel_rfl) (by kernel_rfl) (by kernel_rfl) (fun _ _ _ h => h) (Or.inl ⟨by rfl, ?_⟩) hGrow1 ?_
  rotate_left 1
  · (intro wq hSq; (try dsimp only at hSq); have hz1 := HNE.out; go_simp; first | done | with_reducible rfl)
  try simp only [Act.put, List.setIfInBounds_toArray, List.set_cons_zero, List.set_cons_succ]
  refine wpAnyH_done (by kernel_rfl) ?_ _
  refine NoPanic.normal ?_
  have K9 : Hid (w9.heap[w.heap.size]? = some (.cells #[.int .u8 0, .slice none 0 0] 48)) := by unfold Hid; rw [B79.out.block _ (Array.getElem?_eq_some_iff.1 K7.out).1]; exact K7.out
  have B9 : Hid (Below w.heap.size w w9) := B7.out.trans (B79.out.mono B7.out.size)
  clear hGrow1 L0 L1 P7 P9 P4 SM BD7 B7 K7
  go_wp2_with (first | (refine store63 rfl _ _ rfl w.heap.size (.int .u8 0) (.slice none 0 0) rfl rfl (one61 _ _ _ _) (.int .u8 0) (.slice none 0 0) K9.out ?_))
  exact rdec_end rfl rfl rfl (setRow_same K9.out) ⟨rfl, below_setRow B9.out (Nat.le_refl _) _⟩
theorem numB_two (x y : Int) (M : Nat) (hx : 0 ≤ x ∧ x ≤ 255) (hy : 0 ≤ y ∧ y ≤ 255) (h : x * 256 + y = (M : Int)) (h1 : M ≤ 1000) : numB (M : Int) 2 = [x, y] := by
  rw [numB2 M h1]
  congr 1
  · omega
  · congr 1; omega
theorem rdecode_any (v : Value) (bs : List Int) (w : World) (h0 : 0 < w.heap.size) (hp : PartAt w v bs) (hb : Bytes bs) : Calls Tryd.prog 33 #[v] w (DecE (decR bs) w) := by
  have fault : ∀ c : Int, Calls Tryd.prog 33 #[v] w (fun e w' => e = .returned (.tuple #[.agg #[.int .u8 0, .slice none 0 0], .int .i64 0, .int .i64 c]) ∧ Below w.heap.size w w') → Calls Tryd.prog 33 #[v] w (DecE (0, [], 0, c) w) := fun c q =>
    q.mono fun e w' ⟨r1, r2⟩ => ⟨_, r1, part_none w' (by have := r2.size; omega), r2⟩
  unfold decR
  by_cases h : beginsB bs = false
  · rw [if_pos h]; exact fault _ (rdec_form v bs w hp hb h)
  rw [if_neg h]
  have h : beginsB bs = true := by simpa using h
  by_cases hl : bs.length < 10
  · rw [if_pos hl, if_pos (by omega)]
    have hp' := hp
    obtain ⟨av, b, o, cp, rfl, _⟩ := hp'
    exact fault _ (rdec_short av _ cp bs w hl hp hb h)
  rw [if_neg hl]
  have hM := lenD_le bs (by omega) h hb
  obtain ⟨av, b, o, cp, hv, q1, q2, q3, q4, q5, q6⟩ := hp
  have hav := q3 (by omega)
  subst hav
  subst hv
  have hp : PartAt w (.slice (some ⟨b, o, none⟩) bs.length cp) bs := ⟨_, b, o, cp, rfl, q1, q2, q3, q4, q5, q6⟩
  by_cases hs : bs.length < 10 + lenD bs
  · rw [if_pos hs]; exact fault _ (rdec_short2 b o _ cp bs (lenD bs) w hp rfl hb h (by omega) hM.1 hM.2 hs q4 q5 q1 q2)
  rw [if_neg hs]
  have hgb : ∀ i, i < bs.length → 0 ≤ gi bs i ∧ gi bs i ≤ 255 := fun i hi => hb _ (by unfold gi; rw [List.getD_eq_getElem?_getD, List.getElem?_eq_getElem hi]; exact List.getElem_mem _)
  have hBl : ((bs.drop 10).take (lenD bs)).length = lenD bs := by simp; omega
  have hBb : Bytes ((bs.drop 10).take (lenD bs)) := fun y hy => hb y (List.mem_of_mem_drop (List.mem_of_mem_take hy))
  have hS : (hashOf ([gi bs 3, gi bs 4, gi bs 5] ++ (bs.drop 10).take (lenD bs))).take 4 = sum4 (gi bs 3) ((bs.drop 10).take (lenD bs)) := by
    unfold sum4
    rw [hBl, numB_two (gi bs 4) (gi bs 5) (lenD bs) (hgb 4 (by omega)) (hgb 5 (by omega)) hM.1 hM.2]
  rw [hS]
  by_cases hc : cp = 10
  · subst hc
    have h10 : bs.length = 10 := by omega
    have hM0 : lenD bs = 0 := by omega
    rw [hM0] at hM hBl hBb ⊢
    rw [h10] at hp ⊢
    have hbody : ∀ W, Below w.heap.size w W → PartAt W (.slice (some ⟨b, o, none⟩) 0 0) ((bs.drop 10).take 0) := fun W q =>
      ⟨some ⟨b, o, none⟩, b, o, 0, rfl, by simp, by omega, fun h => by simp at h, fun j v hv => by simp [vB] at hv, Nat.lt_of_lt_of_le q5 q.size, fun h => by cases h⟩
    by_cases heq : sum4 (gi bs 3) ((bs.drop 10).take 0) = (bs.drop 6).take 4
    · rw [if_pos heq]
      exact rdec_ok_b b o bs _ w hp h10 hb h rfl (hgb 3 (by omega)) hM.1 q4 q5 _ hBl hBb hbody heq
    · rw [if_neg heq]
      have fault' : ∀ c : Int, Calls Tryd.prog 33 #[.slice (some ⟨b, o, none⟩) 10 10] w (fun e w' => e = .returned (.tuple #[.agg #[.int .u8 0, .slice none 0 0], .int .i64 0, .int .i64 c]) ∧ Below w.heap.size w w') → Calls Tryd.prog 33 #[.slice (some ⟨b, o, none⟩) 10 10] w (DecE (0, [], 0, c) w) := fun c q =>
        q.mono fun e w' ⟨r1, r2⟩ => ⟨_, r1, part_none w' (by have := r2.size; omega), r2⟩
      exact fault' _ (rdec_sum_b b o bs _ w hp h10 hb h rfl (hgb 3 (by omega)) hM.1 q4 q5 _ hBl hBb hbody heq)
  · have hbody : ∀ W, Below w.heap.size w W → PartAt W (.slice (some ⟨b, o + 10, none⟩) (lenD bs) (cp - 10)) ((bs.drop 10).take (lenD bs)) := fun W q => (sub_part rfl q1 q2 q4 q5 10 (lenD bs) (by omega)).below q
    by_cases heq : sum4 (gi bs 3) ((bs.drop 10).take (lenD bs)) = (bs.drop 6).take 4
    · rw [if_pos heq]
      exact rdec_ok_a b o _ cp bs _ (lenD bs) w hp rfl hb h (by omega) rfl (hgb 3 (by omega)) hM.1 hM.2 (by omega) hc q4 q5 q1 q2 _ hBl hBb hbody heq
    · rw [if_neg heq]
      exact fault _ (rdec_sum_a b o _ cp bs _ (lenD bs) w hp rfl hb h (by omega) rfl (hgb 3 (by omega)) hM.1 hM.2 (by omega) hc q4 q5 q1 q2 _ hBl hBb hbody heq)
end Go.Proofs.YtplihbncmmggjaaDoor
