import Derived.Test.YtffhjjgkoapioaaDoorOa
import Derived.Test.YtffhjjgkoapioaaDoorOverWalk
namespace Go.Proofs.YtffhjjgkoapioaaDoor
set_option linter.unusedSimpArgs false
set_option linter.unusedVariables false
open Go.RowKit
attribute [local go_sem ↓] Go.wp_at_zero Go.wp_at_succ
/-- While lead carries on: all that lay ahead of it, the leaf's place, and its answer's. -/
def LeadIn (w : World) (leaf : List Int) (w' : World) : Prop := Below w.heap.size w w' ∧ w'.heap[w.heap.size]? = some (.cells (vB leaf) 24) ∧ ∃ c : List Int, c.length = 32 ∧ w'.heap[w.heap.size + 1]? = some (.cells (vB c) 24)
set_option maxRecDepth 100000 in
theorem LeadIn.lt {w w' : World} {leaf : List Int} (h : LeadIn w leaf w') : w.heap.size + 1 < w'.heap.size := by obtain ⟨_, _, c, _, h5⟩ := h; exact (Array.getElem?_eq_some_iff.1 h5).1
set_option maxRecDepth 100000 in
theorem LeadIn.new (w : World) (leaf : List Int) : LeadIn w leaf ((w.alloc (.cells (vB leaf) 24)).alloc (.cells (vB (zs 32)) 24)) := ⟨((Below.refl _ _).alloc (Nat.le_refl _) _).alloc (by simp) _, heap_alloc2_old _ _ _, zs 32, rfl, heap_alloc2_new _ _ _⟩
set_option maxRecDepth 100000 in
theorem LeadIn.drew {w w' : World} {leaf : List Int} (h : LeadIn w leaf w') : LeadIn w leaf w'.drew := ⟨⟨h.1.os, h.1.tape, h.1.output, h.1.size, h.1.block⟩, h.2⟩
set_option maxRecDepth 100000 in
theorem LeadIn.below {w w' w'' : World} {leaf : List Int} (h : LeadIn w leaf w') (k : Below w'.heap.size w' w'') : LeadIn w leaf w'' := by
  have hl := h.lt
  obtain ⟨h1, h2, c, hc, h5⟩ := h
  exact ⟨h1.trans (k.mono h1.size), by rw [k.block _ (by omega)]; exact h2, c, hc, by rw [k.block _ hl]; exact h5⟩
set_option maxRecDepth 100000 in
theorem LeadIn.store {w w' : World} {leaf : List Int} (h : LeadIn w leaf w') (l : List Int) (hl : l.length = 32) : LeadIn w leaf (w'.setCells (w.heap.size + 1) 0 (vB l).toList) := by
  obtain ⟨h1, h2, c, hc, h5⟩ := h
  exact ⟨below_setCells h1 (by omega) _, by rw [setCells_far _ _ _ _ _ (by omega)]; exact h2, l, hl, setCells_whole h5 (by omega)⟩
set_option maxRecDepth 100000 in
theorem LeadIn.st {w w' : World} {leaf : List Int} {b o : Nat} {cs : List Value} (h : LeadIn w leaf w') (hr : w.rangeAt b o cs) (hb : b < w.heap.size) :
    LeadIn w leaf w' ∧ w'.rangeAt w.heap.size 0 (List.map (Value.int .u8) leaf) ∧ w'.rangeAt b o cs ∧ w'.there (w.heap.size + 1) 0 32 := by
  have h' := h
  obtain ⟨h1, h2, c, hc, h5⟩ := h
  exact ⟨h', range_of_block h2, range_below hr h1 hb, there_of_block h5 (by rw [vB_size]; omega)⟩
set_option maxRecDepth 100000 in
set_option maxHeartbeats 1000000 in
theorem lead_zero (leaf : List Int) (n i : Int) (av : Option Addr) (cp : Nat) (w : World) (hl : leaf.length = 32) :
    Calls Tryd.prog 68 #[.agg (vB leaf), .int .i64 n, .int .i64 i, .slice av 0 cp] w fun e w' => e = .returned (.agg (vB leaf)) ∧ Below w.heap.size w w' := by
  have hN := LeadIn.new w leaf
  have h5 : ((w.alloc (Obj.cells (vB leaf) 24)).alloc (Obj.cells (vB (zs 32)) 24)).heap[w.heap.size + 1]? = some (.cells (vB (zs 32)) 24) := heap_alloc2_new _ _ _
  have H5 : Hid (((w.alloc (Obj.cells (vB leaf) 24)).alloc (Obj.cells (vB (zs 32)) 24)).heap[w.heap.size + 1]? = some (.cells (vB (zs 32)) 24)) := h5
  have H4 : Hid (((w.alloc (Obj.cells (vB leaf) 24)).alloc (Obj.cells (vB (zs 32)) 24)).heap[w.heap.size]? = some (.cells (vB leaf) 24)) := heap_alloc2_old _ _ _
  clear h5
  go_enter Tryd.func68, Tryd.ntmps68
  go_wp2_with (first | (refine load24 rfl _ rfl w.heap.size (by rfl) leaf hl 24 H4.out ?_) | (refine store24 rfl _ _ rfl (w.heap.size + 1) leaf (by rfl) (by rfl) hl 24 (zs 32) rfl H5.out ?_))
  exact bodyPost_ret (v := .agg (vB leaf)) (results_cell_row (p := 8) (ty := 24) Tryd.results68 _ _ (w.heap.size + 1) 24 _ (0, 0) _ rfl (setRow_same H5.out) Tryd.underlying24 rfl (by rw [vB_size, hl]; kernel_rfl)) rfl ⟨rfl, below_setRow hN.1 (by omega) _⟩
set_option maxRecDepth 100000 in
set_option maxHeartbeats 2000000 in
theorem lead_lo (d : Nat) (leaf T L : List Int) (n i k b o cp : Nat) (w : World) (hl : leaf.length = 32) (hT : T.length = 32) (hLl : L.length = 32) (hik : i < k) (hkn : k < n) (hn : n ≤ 1073741824) (hcp : d + 1 ≤ cp) (hcp2 : cp ≤ 9223372036854775807) (hd : d < 4611686018427387904)
    (hL : Laid w) (hb : b < w.heap.size) (hr : w.rangeAt b (o + d * 32) (List.map (Value.int .u8) T))
    (C0 : ∀ w' : World, Calls Tryd.prog 65 #[.int .i64 n] w' fun e w'' => e = .returned (.int .i64 k) ∧ w'' = w')
    (C1 : ∀ w', LeadIn w leaf w' → Calls Tryd.prog 68 #[.agg (vB leaf), .int .i64 k, .int .i64 i, .slice (some ⟨b, o, none⟩) d cp] w' fun e w'' => e = .returned (.agg (vB L)) ∧ LeadIn w leaf w'') :
    Calls Tryd.prog 68 #[.agg (vB leaf), .int .i64 n, .int .i64 i, .slice (some ⟨b, o, none⟩) (d + 1) cp] w fun e w' => e = .returned (.agg (vB (nodeH L T))) ∧ Below w.heap.size w w' := by
  have h2 := hL.two
  obtain ⟨HB, hHB⟩ : ∃ HB, HB = nodeH L T := ⟨_, rfl⟩
  have hlen : HB.length = 32 := by rw [hHB]; exact nodeH_length _ _
  have D0 : Hid (∀ w' : World, Calls Tryd.prog 65 #[.int .i64 n] w' fun e w'' => e = .returned (.int .i64 k) ∧ w'' = w') := C0
  have D1 : Hid (∀ w', LeadIn w leaf w' → Calls Tryd.prog 68 #[.agg (vB leaf), .int .i64 k, .int .i64 i, .slice (some ⟨b, o, none⟩) d cp] w' fun e w'' => e = .returned (.agg (vB L)) ∧ LeadIn w leaf w'') := C1
  have D2 : Hid (∀ w', LeadIn w leaf w' → Calls Tryd.prog 34 #[.agg (vB L), .agg (vB T)] w' fun e w'' => e = .returned (.agg (vB HB)) ∧ LeadIn w leaf w'') := fun w' q => by
    rw [hHB]; exact (node_any L T hLl hT w' (hL.below q.1 h2)).mono (fun e w5 h => ⟨h.1, q.below h.2⟩)
  rw [← hHB]
  have c1 : (List.map (Value.int .u8) leaf).length = 32 := by simpa using hl
  have c2 : (List.map (Value.int .u8) T).length = 32 := by simpa using hT
  have i1 : (Tryd.prog.info? 24).map (·.size) = some (List.map (Value.int .u8) leaf).length := by rw [c1]; kernel_rfl
  have i2 : (Tryd.prog.info? 24).map (·.size) = some (List.map (Value.int .u8) T).length := by rw [c2]; kernel_rfl
  have HR : Hid (w.rangeAt b (o + d * 32) (List.map (Value.int .u8) T)) := hr
  have j1 : (0 : Int) ≤ (d : Int) := by omega
  have j2 : (d : Int) ≤ (cp : Int) := by omega
  have j3 : (d : Int) < (d : Int) + 1 := by omega
  clear hHB C0 C1 hr
  go_enter Tryd.func68, Tryd.ntmps68
  go_wp2_with (first | (go_at_call 65; refine (D0.out _).mono ?_; rintro e w' ⟨rfl, hw'⟩; have hw'' := hw'.symm; clear hw'; subst hw''))
  have hN := LeadIn.new w leaf
  obtain ⟨W, hW⟩ : ∃ W, (w.alloc (Obj.cells (vB leaf) 24)).alloc (Obj.cells (vB (zs 32)) 24) = W := ⟨_, rfl⟩
  change Code.wp _ _ _ _ ((w.alloc (Obj.cells (vB leaf) 24)).alloc (Obj.cells (vB (zs 32)) 24))
  rw [hW] at hN ⊢
  clear hW
  have hS := hN.drew.st HR.out hb
  refine wp_region_noPanic ?_
  refine wp_region_held_drew (S := fun w' => LeadIn w leaf w' ∧ w'.rangeAt w.heap.size 0 (List.map (Value.int .u8) leaf) ∧ w'.rangeAt b (o + d * 32) (List.map (Value.int .u8) T) ∧ w'.there (w.heap.size + 1) 0 32) (by kernel_rfl) (hS) (fun hHeld => ?_)
  try simp only [Act.put, List.setIfInBounds_toArray, List.set_cons_zero, List.set_cons_succ]
  refine wpAnyH_take (i := 0) (oi := { dst := some 23, op := Go.Op.load 24 (Go.Operand.tmp 4), type := 24, pos := "merkle.go:117", after := #[], guard := none }) (v := .agg (List.toArray (List.map (Value.int .u8) leaf))) rfl (by kernel_rfl) (by kernel_rfl) (by kernel_rfl) (fun _ _ _ h => h) (yieldsIf_load_mid (by rfl) _ _ rfl (w.heap.size) (0) rfl (List.map (Value.int .u8) leaf) _ (fun _ h => h.2.1) Tryd.underlying24 rfl (i1)) hHeld ?_
  try simp only [Act.put, List.setIfInBounds_toArray, List.set_cons_zero, List.set_cons_succ]
  refine wpAnyH_take (i := 1) (oi := { dst := some 24, op := Go.Op.move (Go.Operand.tmp 9), type := 3, pos := "merkle.go:117", after := #[], guard := none }) (v := ?_) rfl (by kernel_rfl) (by kernel_rfl) (by kernel_rfl) (fun _ _ _ h => h) (Or.inl ⟨by rfl, ?_⟩) hHeld ?_
  rotate_left 1
  · (intro wq hSq; (try dsimp only at hSq); go_simp; first | done | with_reducible rfl)
  try simp only [Act.put, List.setIfInBounds_toArray, List.set_cons_zero, List.set_cons_succ]
  refine wpAnyH_take (i := 2) (oi := { dst := some 25, op := Go.Op.move (Go.Operand.tmp 2), type := 3, pos := "merkle.go:117", after := #[], guard := none }) (v := ?_) rfl (by kernel_rfl) (by kernel_rfl) (by kernel_rfl) (fun _ _ _ h => h) (Or.inl ⟨by rfl, ?_⟩) hHeld ?_
  rotate_left 1
  · (intro wq hSq; (try dsimp only at hSq); go_simp; first | done | with_reducible rfl)
  try simp only [Act.put, List.setIfInBounds_toArray, List.set_cons_zero, List.set_cons_succ]
  refine wpAnyH_take (i := 3) (oi := { dst := some 26, op := Go.Op.move (Go.Operand.tmp 3), type := 44, pos := "merkle.go:117", after := #[], guard := none }) (v := ?_) rfl (by kernel_rfl) (by kernel_rfl) (by kernel_rfl) (fun _ _ _ h => h) (Or.inl ⟨by rfl, ?_⟩) hHeld ?_
  rotate_left 1
  · (intro wq hSq; (try dsimp only at hSq); go_simp; first | done | with_reducible rfl)
  try simp only [Act.put, List.setIfInBounds_toArray, List.set_cons_zero, List.set_cons_succ]
  refine wpAnyH_take (i := 4) (oi := { dst := some 27, op := Go.Op.move (Go.Operand.tmp 10), type := 3, pos := "merkle.go:117", after := #[], guard := none }) (v := ?_) rfl (by kernel_rfl) (by kernel_rfl) (by kernel_rfl) (fun _ _ _ h => h) (Or.inl ⟨by rfl, ?_⟩) hHeld ?_
  rotate_left 1
  · (intro wq hSq; (try dsimp only at hSq); go_simp; first | done | with_reducible rfl)
  try simp only [Act.put, List.setIfInBounds_toArray, List.set_cons_zero, List.set_cons_succ]
  refine wpAnyH_take (i := 5) (oi := { dst := some 28, op := Go.Op.slice 44 (Go.Operand.tmp 26) none (some (Go.Operand.tmp 27)) none, type := 44, pos := "merkle.go:117", after := #[{ on := 3, ground := Go.Ground.data }, { on := 4, ground := Go.Ground.data }], guard := none }) (v := ?_) rfl (by kernel_rfl) (by kernel_rfl) (by kernel_rfl) (fun _ _ _ h => h) (Or.inl ⟨by rfl, ?_⟩) hHeld ?_
  rotate_left 1
  · (intro wq hSq; (try dsimp only at hSq); go_simp; first | done | with_reducible rfl)
  try simp only [Act.put, List.setIfInBounds_toArray, List.set_cons_zero, List.set_cons_succ]
  refine wpAnyH_take (i := 7) (oi := { dst := some 30, op := Go.Op.move (Go.Operand.tmp 3), type := 44, pos := "merkle.go:117", after := #[], guard := none }) (v := ?_) rfl (by kernel_rfl) (by kernel_rfl) (by kernel_rfl) (fun _ _ _ h => h) (Or.inl ⟨by rfl, ?_⟩) hHeld ?_
  rotate_left 1
  · (intro wq hSq; (try dsimp only at hSq); go_simp; first | done | with_reducible rfl)
  try simp only [Act.put, List.setIfInBounds_toArray, List.set_cons_zero, List.set_cons_succ]
  refine wpAnyH_take (i := 8) (oi := { dst := some 31, op := Go.Op.move (Go.Operand.tmp 10), type := 3, pos := "merkle.go:117", after := #[], guard := none }) (v := ?_) rfl (by kernel_rfl) (by kernel_rfl) (by kernel_rfl) (fun _ _ _ h => h) (Or.inl ⟨by rfl, ?_⟩) hHeld ?_
  rotate_left 1
  · (intro wq hSq; (try dsimp only at hSq); go_simp; first | done | with_reducible rfl)
  try simp only [Act.put, List.setIfInBounds_toArray, List.set_cons_zero, List.set_cons_succ]
  refine wpAnyH_take (i := 9) (oi := { dst := some 32, op := Go.Op.indexAddr 44 (Go.Operand.tmp 30) (Go.Operand.tmp 31), type := 0, pos := "merkle.go:117", after := #[{ on := 7, ground := Go.Ground.data }, { on := 8, ground := Go.Ground.data }], guard := none }) (v := ?_) rfl (by kernel_rfl) (by kernel_rfl) (by kernel_rfl) (fun _ _ _ h => h) (Or.inl ⟨by rfl, ?_⟩) hHeld ?_
  rotate_left 1
  · (intro wq hSq; (try dsimp only at hSq); go_simp; first | done | with_reducible rfl)
  try simp only [Act.put, List.setIfInBounds_toArray, List.set_cons_zero, List.set_cons_succ]
  refine wpAnyH_take (i := 10) (oi := { dst := some 33, op := Go.Op.load 24 (Go.Operand.tmp 32), type := 24, pos := "merkle.go:117", after := #[{ on := 9, ground := Go.Ground.data }], guard := none }) (v := .agg (List.toArray (List.map (Value.int .u8) T))) rfl (by kernel_rfl) (by kernel_rfl) (by kernel_rfl) (fun _ _ _ h => h) (yieldsIf_load_mid (by rfl) _ _ rfl (b) (o + d * 32) rfl (List.map (Value.int .u8) T) _ (fun _ h => h.2.2.1) Tryd.underlying24 rfl (i2)) hHeld ?_
  try simp only [Act.put, List.setIfInBounds_toArray, List.set_cons_zero, List.set_cons_succ]
  refine wpAnyH_ready (rs := [6]) (by kernel_rfl) (by simp) ?_
  refine AllReadyH.cons (o := { dst := some 29, op := Go.Op.call { callee := Go.Callee.value (Go.Operand.func 68), args := #[Go.Operand.tmp 23, Go.Operand.tmp 24, Go.Operand.tmp 25, Go.Operand.tmp 28], argTypes := #[24, 3, 3, 44] }, type := 24, pos := "merkle.go:117", after := #[{ on := 0, ground := Go.Ground.data }, { on := 1, ground := Go.Ground.data }, { on := 2, ground := Go.Ground.data }, { on := 5, ground := Go.Ground.data }], guard := none }) rfl (fun K hK => ?_) AllReadyH.nil
  go_simp
  refine (D1.out _ hN.drew).mono ?_
  rintro e w4 ⟨rfl, n4⟩
  refine hK.out _ _ (n4.st HR.out hb) (fun hHeld1 => ?_)
  clear hK K hHeld
  try simp only [Act.put, List.setIfInBounds_toArray, List.set_cons_zero, List.set_cons_succ]
  refine wpAnyH_ready (rs := [11]) (by kernel_rfl) (by simp) ?_
  refine AllReadyH.cons (o := { dst := some 34, op := Go.Op.call { callee := Go.Callee.value (Go.Operand.func 34), args := #[Go.Operand.tmp 29, Go.Operand.tmp 33], argTypes := #[24, 24] }, type := 24, pos := "merkle.go:117", after := #[{ on := 6, ground := Go.Ground.data }, { on := 10, ground := Go.Ground.data }, { on := 6, ground := Go.Ground.chain }], guard := none }) rfl (fun K hK => ?_) AllReadyH.nil
  go_simp
  refine (D2.out _ n4).mono ?_
  rintro e w5 ⟨rfl, n5⟩
  refine hK.out _ _ (n5.st HR.out hb) (fun hHeld2 => ?_)
  clear hK K hHeld1
  try simp only [Act.put, List.setIfInBounds_toArray, List.set_cons_zero, List.set_cons_succ]
  refine wpAnyH_ready (rs := [12]) (by kernel_rfl) (by simp) ?_
  refine AllReadyH.cons (o := { dst := none, op := Go.Op.store 24 (Go.Operand.tmp 8) (Go.Operand.tmp 34), type := 0, pos := "merkle.go:117", after := #[{ on := 11, ground := Go.Ground.data }, { on := 11, ground := Go.Ground.chain }, { on := 0, ground := Go.Ground.phase }, { on := 1, ground := Go.Ground.phase }, { on := 2, ground := Go.Ground.phase }, { on := 3, ground := Go.Ground.phase }, { on := 4, ground := Go.Ground.phase }, { on := 5, ground := Go.Ground.phase }, { on := 6, ground := Go.Ground.phase }, { on := 7, ground := Go.Ground.phase }, { on := 8, ground := Go.Ground.phase }, { on := 9, ground := Go.Ground.phase }, { on := 10, ground := Go.Ground.phase }, { on := 11, ground := Go.Ground.phase }], guard := none }) rfl (fun K hK => ?_) AllReadyH.nil
  rw [if_pos (by rfl)]
  refine wp_store_mid 24 _ _ rfl (w.heap.size + 1) 0 (vB HB) (by rfl) (by rfl) (by rw [vB_size, hlen]; exact (n5.st HR.out hb).2.2.2) (by rw [vB_size, hlen]; kernel_rfl) (vB_all HB) ?_
  refine hK.out _ _ ((n5.store HB hlen).st HR.out hb) (fun hHeld3 => ?_)
  clear hK K hHeld2
  try simp only [Act.put, List.setIfInBounds_toArray, List.set_cons_zero, List.set_cons_succ]
  refine wpAnyH_done (by kernel_rfl) ?_ _
  refine NoPanic.normal ?_
  obtain ⟨h51, _, c, hc, h55⟩ := n5
  have h6 : (w5.setCells (w.heap.size + 1) 0 (vB HB).toList).heap[w.heap.size + 1]? = some (.cells (vB HB) 24) := setCells_whole h55 (by omega)
  have b6 : Below w.heap.size w (w5.setCells (w.heap.size + 1) 0 (vB HB).toList) := below_setCells h51 (by omega) _
  clear h55
  generalize w5.setCells (w.heap.size + 1) 0 (vB HB).toList = w6 at *
  go_wp2
  exact bodyPost_ret (v := .agg (vB HB)) (results_cell_row (p := 8) (ty := 24) Tryd.results68 _ _ (w.heap.size + 1) 24 _ (0, 0) _ rfl h6 Tryd.underlying24 rfl (by rw [vB_size, hlen]; kernel_rfl)) rfl ⟨rfl, b6⟩
set_option maxRecDepth 100000 in
set_option maxHeartbeats 2000000 in
theorem lead_hi (d : Nat) (leaf T L : List Int) (n i k b o cp : Nat) (w : World) (hl : leaf.length = 32) (hT : T.length = 32) (hLl : L.length = 32) (hik : ¬ i < k) (hin : i < n) (hkn : k < n) (hn : n ≤ 1073741824) (hcp : d + 1 ≤ cp) (hcp2 : cp ≤ 9223372036854775807) (hd : d < 4611686018427387904)
    (hL : Laid w) (hb : b < w.heap.size) (hr : w.rangeAt b (o + d * 32) (List.map (Value.int .u8) T))
    (C0 : ∀ w' : World, Calls Tryd.prog 65 #[.int .i64 n] w' fun e w'' => e = .returned (.int .i64 k) ∧ w'' = w')
    (C1 : ∀ w', LeadIn w leaf w' → Calls Tryd.prog 68 #[.agg (vB leaf), .int .i64 ((n : Int) - (k : Int)), .int .i64 ((i : Int) - (k : Int)), .slice (some ⟨b, o, none⟩) d cp] w' fun e w'' => e = .returned (.agg (vB L)) ∧ LeadIn w leaf w'') :
    Calls Tryd.prog 68 #[.agg (vB leaf), .int .i64 n, .int .i64 i, .slice (some ⟨b, o, none⟩) (d + 1) cp] w fun e w' => e = .returned (.agg (vB (nodeH T L))) ∧ Below w.heap.size w w' := by
  have h2 := hL.two
  obtain ⟨HB, hHB⟩ : ∃ HB, HB = nodeH T L := ⟨_, rfl⟩
  have hlen : HB.length = 32 := by rw [hHB]; exact nodeH_length _ _
  have D0 : Hid (∀ w' : World, Calls Tryd.prog 65 #[.int .i64 n] w' fun e w'' => e = .returned (.int .i64 k) ∧ w'' = w') := C0
  have D1 : Hid (∀ w', LeadIn w leaf w' → Calls Tryd.prog 68 #[.agg (vB leaf), .int .i64 ((n : Int) - (k : Int)), .int .i64 ((i : Int) - (k : Int)), .slice (some ⟨b, o, none⟩) d cp] w' fun e w'' => e = .returned (.agg (vB L)) ∧ LeadIn w leaf w'') := C1
  have D2 : Hid (∀ w', LeadIn w leaf w' → Calls Tryd.prog 34 #[.agg (vB T), .agg (vB L)] w' fun e w'' => e = .returned (.agg (vB HB)) ∧ LeadIn w leaf w'') := fun w' q => by
    rw [hHB]; exact (node_any T L hT hLl w' (hL.below q.1 h2)).mono (fun e w5 h => ⟨h.1, q.below h.2⟩)
  rw [← hHB]
  have c1 : (List.map (Value.int .u8) leaf).length = 32 := by simpa using hl
  have c2 : (List.map (Value.int .u8) T).length = 32 := by simpa using hT
  have i1 : (Tryd.prog.info? 24).map (·.size) = some (List.map (Value.int .u8) leaf).length := by rw [c1]; kernel_rfl
  have i2 : (Tryd.prog.info? 24).map (·.size) = some (List.map (Value.int .u8) T).length := by rw [c2]; kernel_rfl
  have HR : Hid (w.rangeAt b (o + d * 32) (List.map (Value.int .u8) T)) := hr
  have j1 : (0 : Int) ≤ (d : Int) := by omega
  have j2 : (d : Int) ≤ (cp : Int) := by omega
  have j3 : (d : Int) < (d : Int) + 1 := by omega
  have j4 : IntKind.i64.wrap ((n : Int) - (k : Int)) = (n : Int) - (k : Int) := by rw [IntKind.wrap_i64]; omega
  have j5 : IntKind.i64.wrap ((i : Int) - (k : Int)) = (i : Int) - (k : Int) := by rw [IntKind.wrap_i64]; omega
  clear hHB C0 C1 hr
  go_enter Tryd.func68, Tryd.ntmps68
  go_wp2_with (first | (go_at_call 65; refine (D0.out _).mono ?_; rintro e w' ⟨rfl, hw'⟩; have hw'' := hw'.symm; clear hw'; subst hw''))
  have hN := LeadIn.new w leaf
  obtain ⟨W, hW⟩ : ∃ W, (w.alloc (Obj.cells (vB leaf) 24)).alloc (Obj.cells (vB (zs 32)) 24) = W := ⟨_, rfl⟩
  change Code.wp _ _ _ _ ((w.alloc (Obj.cells (vB leaf) 24)).alloc (Obj.cells (vB (zs 32)) 24))
  rw [hW] at hN ⊢
  clear hW
  have hS := hN.drew.st HR.out hb
  refine wp_region_noPanic ?_
  refine wp_region_held_drew (S := fun w' => LeadIn w leaf w' ∧ w'.rangeAt w.heap.size 0 (List.map (Value.int .u8) leaf) ∧ w'.rangeAt b (o + d * 32) (List.map (Value.int .u8) T) ∧ w'.there (w.heap.size + 1) 0 32) (by kernel_rfl) (hS) (fun hHeld => ?_)
  try simp only [Act.put, List.setIfInBounds_toArray, List.set_cons_zero, List.set_cons_succ]
  refine wpAnyH_take (i := 0) (oi := { dst := some 35, op := Go.Op.move (Go.Operand.tmp 3), type := 44, pos := "merkle.go:119", after := #[], guard := none }) (v := ?_) rfl (by kernel_rfl) (by kernel_rfl) (by kernel_rfl) (fun _ _ _ h => h) (Or.inl ⟨by rfl, ?_⟩) hHeld ?_
  rotate_left 1
  · (intro wq hSq; (try dsimp only at hSq); go_simp; first | done | with_reducible rfl)
  try simp only [Act.put, List.setIfInBounds_toArray, List.set_cons_zero, List.set_cons_succ]
  refine wpAnyH_take (i := 1) (oi := { dst := some 36, op := Go.Op.move (Go.Operand.tmp 10), type := 3, pos := "merkle.go:119", after := #[], guard := none }) (v := ?_) rfl (by kernel_rfl) (by kernel_rfl) (by kernel_rfl) (fun _ _ _ h => h) (Or.inl ⟨by rfl, ?_⟩) hHeld ?_
  rotate_left 1
  · (intro wq hSq; (try dsimp only at hSq); go_simp; first | done | with_reducible rfl)
  try simp only [Act.put, List.setIfInBounds_toArray, List.set_cons_zero, List.set_cons_succ]
  refine wpAnyH_take (i := 2) (oi := { dst := some 37, op := Go.Op.indexAddr 44 (Go.Operand.tmp 35) (Go.Operand.tmp 36), type := 0, pos := "merkle.go:119", after := #[{ on := 0, ground := Go.Ground.data }, { on := 1, ground := Go.Ground.data }], guard := none }) (v := ?_) rfl (by kernel_rfl) (by kernel_rfl) (by kernel_rfl) (fun _ _ _ h => h) (Or.inl ⟨by rfl, ?_⟩) hHeld ?_
  rotate_left 1
  · (intro wq hSq; (try dsimp only at hSq); go_simp; first | done | with_reducible rfl)
  try simp only [Act.put, List.setIfInBounds_toArray, List.set_cons_zero, List.set_cons_succ]
  refine wpAnyH_take (i := 3) (oi := { dst := some 38, op := Go.Op.load 24 (Go.Operand.tmp 37), type := 24, pos := "merkle.go:119", after := #[{ on := 2, ground := Go.Ground.data }], guard := none }) (v := .agg (List.toArray (List.map (Value.int .u8) T))) rfl (by kernel_rfl) (by kernel_rfl) (by kernel_rfl) (fun _ _ _ h => h) (yieldsIf_load_mid (by rfl) _ _ rfl (b) (o + d * 32) rfl (List.map (Value.int .u8) T) _ (fun _ h => h.2.2.1) Tryd.underlying24 rfl (i2)) hHeld ?_
  try simp only [Act.put, List.setIfInBounds_toArray, List.set_cons_zero, List.set_cons_succ]
  refine wpAnyH_take (i := 4) (oi := { dst := some 39, op := Go.Op.load 24 (Go.Operand.tmp 4), type := 24, pos := "merkle.go:119", after := #[], guard := none }) (v := .agg (List.toArray (List.map (Value.int .u8) leaf))) rfl (by kernel_rfl) (by kernel_rfl) (by kernel_rfl) (fun _ _ _ h => h) (yieldsIf_load_mid (by rfl) _ _ rfl (w.heap.size) (0) rfl (List.map (Value.int .u8) leaf) _ (fun _ h => h.2.1) Tryd.underlying24 rfl (i1)) hHeld ?_
  try simp only [Act.put, List.setIfInBounds_toArray, List.set_cons_zero, List.set_cons_succ]
  refine wpAnyH_take (i := 5) (oi := { dst := some 40, op := Go.Op.move (Go.Operand.tmp 1), type := 3, pos := "merkle.go:119", after := #[], guard := none }) (v := ?_) rfl (by kernel_rfl) (by kernel_rfl) (by kernel_rfl) (fun _ _ _ h => h) (Or.inl ⟨by rfl, ?_⟩) hHeld ?_
  rotate_left 1
  · (intro wq hSq; (try dsimp only at hSq); go_simp; first | done | with_reducible rfl)
  try simp only [Act.put, List.setIfInBounds_toArray, List.set_cons_zero, List.set_cons_succ]
  refine wpAnyH_take (i := 6) (oi := { dst := some 41, op := Go.Op.move (Go.Operand.tmp 9), type := 3, pos := "merkle.go:119", after := #[], guard := none }) (v := ?_) rfl (by kernel_rfl) (by kernel_rfl) (by kernel_rfl) (fun _ _ _ h => h) (Or.inl ⟨by rfl, ?_⟩) hHeld ?_
  rotate_left 1
  · (intro wq hSq; (try dsimp only at hSq); go_simp; first | done | with_reducible rfl)
  try simp only [Act.put, List.setIfInBounds_toArray, List.set_cons_zero, List.set_cons_succ]
  refine wpAnyH_take (i := 7) (oi := { dst := some 42, op := Go.Op.binOp Go.BinOp.sub 3 (Go.Operand.tmp 40) (Go.Operand.tmp 41) 3, type := 3, pos := "merkle.go:119", after := #[{ on := 5, ground := Go.Ground.data }, { on := 6, ground := Go.Ground.data }], guard := none }) (v := ?_) rfl (by kernel_rfl) (by kernel_rfl) (by kernel_rfl) (fun _ _ _ h => h) (Or.inl ⟨by rfl, ?_⟩) hHeld ?_
  rotate_left 1
  · (intro wq hSq; (try dsimp only at hSq); go_simp; first | done | with_reducible rfl)
  try simp only [Act.put, List.setIfInBounds_toArray, List.set_cons_zero, List.set_cons_succ]
  refine wpAnyH_take (i := 8) (oi := { dst := some 43, op := Go.Op.move (Go.Operand.tmp 2), type := 3, pos := "merkle.go:119", after := #[], guard := none }) (v := ?_) rfl (by kernel_rfl) (by kernel_rfl) (by kernel_rfl) (fun _ _ _ h => h) (Or.inl ⟨by rfl, ?_⟩) hHeld ?_
  rotate_left 1
  · (intro wq hSq; (try dsimp only at hSq); go_simp; first | done | with_reducible rfl)
  try simp only [Act.put, List.setIfInBounds_toArray, List.set_cons_zero, List.set_cons_succ]
  refine wpAnyH_take (i := 9) (oi := { dst := some 44, op := Go.Op.move (Go.Operand.tmp 9), type := 3, pos := "merkle.go:119", after := #[], guard := none }) (v := ?_) rfl (by kernel_rfl) (by kernel_rfl) (by kernel_rfl) (fun _ _ _ h => h) (Or.inl ⟨by rfl, ?_⟩) hHeld ?_
  rotate_left 1
  · (intro wq hSq; (try dsimp only at hSq); go_simp; first | done | with_reducible rfl)
  try simp only [Act.put, List.setIfInBounds_toArray, List.set_cons_zero, List.set_cons_succ]
  refine wpAnyH_take (i := 10) (oi := { dst := some 45, op := Go.Op.binOp Go.BinOp.sub 3 (Go.Operand.tmp 43) (Go.Operand.tmp 44) 3, type := 3, pos := "merkle.go:119", after := #[{ on := 8, ground := Go.Ground.data }, { on := 9, ground := Go.Ground.data }], guard := none }) (v := ?_) rfl (by kernel_rfl) (by kernel_rfl) (by kernel_rfl) (fun _ _ _ h => h) (Or.inl ⟨by rfl, ?_⟩) hHeld ?_
  rotate_left 1
  · (intro wq hSq; (try dsimp only at hSq); go_simp; first | done | with_reducible rfl)
  try simp only [Act.put, List.setIfInBounds_toArray, List.set_cons_zero, List.set_cons_succ]
  refine wpAnyH_take (i := 11) (oi := { dst := some 46, op := Go.Op.move (Go.Operand.tmp 3), type := 44, pos := "merkle.go:119", after := #[], guard := none }) (v := ?_) rfl (by kernel_rfl) (by kernel_rfl) (by kernel_rfl) (fun _ _ _ h => h) (Or.inl ⟨by rfl, ?_⟩) hHeld ?_
  rotate_left 1
  · (intro wq hSq; (try dsimp only at hSq); go_simp; first | done | with_reducible rfl)
  try simp only [Act.put, List.setIfInBounds_toArray, List.set_cons_zero, List.set_cons_succ]
  refine wpAnyH_take (i := 12) (oi := { dst := some 47, op := Go.Op.move (Go.Operand.tmp 10), type := 3, pos := "merkle.go:119", after := #[], guard := none }) (v := ?_) rfl (by kernel_rfl) (by kernel_rfl) (by kernel_rfl) (fun _ _ _ h => h) (Or.inl ⟨by rfl, ?_⟩) hHeld ?_
  rotate_left 1
  · (intro wq hSq; (try dsimp only at hSq); go_simp; first | done | with_reducible rfl)
  try simp only [Act.put, List.setIfInBounds_toArray, List.set_cons_zero, List.set_cons_succ]
  refine wpAnyH_take (i := 13) (oi := { dst := some 48, op := Go.Op.slice 44 (Go.Operand.tmp 46) none (some (Go.Operand.tmp 47)) none, type := 44, pos := "merkle.go:119", after := #[{ on := 11, ground := Go.Ground.data }, { on := 12, ground := Go.Ground.data }], guard := none }) (v := ?_) rfl (by kernel_rfl) (by kernel_rfl) (by kernel_rfl) (fun _ _ _ h => h) (Or.inl ⟨by rfl, ?_⟩) hHeld ?_
  rotate_left 1
  · (intro wq hSq; (try dsimp only at hSq); go_simp; first | done | with_reducible rfl)
  try simp only [Act.put, List.setIfInBounds_toArray, List.set_cons_zero, List.set_cons_succ]
  refine wpAnyH_ready (rs := [14]) (by kernel_rfl) (by simp) ?_
  refine AllReadyH.cons (o := { dst := some 49, op := Go.Op.call { callee := Go.Callee.value (Go.Operand.func 68), args := #[Go.Operand.tmp 39, Go.Operand.tmp 42, Go.Operand.tmp 45, Go.Operand.tmp 48], argTypes := #[24, 3, 3, 44] }, type := 24, pos := "merkle.go:119", after := #[{ on := 4, ground := Go.Ground.data }, { on := 7, ground := Go.Ground.data }, { on := 10, ground := Go.Ground.data }, { on := 13, ground := Go.Ground.data }], guard := none }) rfl (fun K hK => ?_) AllReadyH.nil
  go_simp
  refine (D1.out _ hN.drew).mono ?_
  rintro e w4 ⟨rfl, n4⟩
  refine hK.out _ _ (n4.st HR.out hb) (fun hHeld1 => ?_)
  clear hK K hHeld
  try simp only [Act.put, List.setIfInBounds_toArray, List.set_cons_zero, List.set_cons_succ]
  refine wpAnyH_ready (rs := [15]) (by kernel_rfl) (by simp) ?_
  refine AllReadyH.cons (o := { dst := some 50, op := Go.Op.call { callee := Go.Callee.value (Go.Operand.func 34), args := #[Go.Operand.tmp 38, Go.Operand.tmp 49], argTypes := #[24, 24] }, type := 24, pos := "merkle.go:119", after := #[{ on := 3, ground := Go.Ground.data }, { on := 14, ground := Go.Ground.data }, { on := 14, ground := Go.Ground.chain }], guard := none }) rfl (fun K hK => ?_) AllReadyH.nil
  go_simp
  refine (D2.out _ n4).mono ?_
  rintro e w5 ⟨rfl, n5⟩
  refine hK.out _ _ (n5.st HR.out hb) (fun hHeld2 => ?_)
  clear hK K hHeld1
  try simp only [Act.put, List.setIfInBounds_toArray, List.set_cons_zero, List.set_cons_succ]
  refine wpAnyH_ready (rs := [16]) (by kernel_rfl) (by simp) ?_
  refine AllReadyH.cons (o := { dst := none, op := Go.Op.store 24 (Go.Operand.tmp 8) (Go.Operand.tmp 50), type := 0, pos := "merkle.go:119", after := #[{ on := 15, ground := Go.Ground.data }, { on := 15, ground := Go.Ground.chain }, { on := 0, ground := Go.Ground.phase }, { on := 1, ground := Go.Ground.phase }, { on := 2, ground := Go.Ground.phase }, { on := 3, ground := Go.Ground.phase }, { on := 4, ground := Go.Ground.phase }, { on := 5, ground := Go.Ground.phase }, { on := 6, ground := Go.Ground.phase }, { on := 7, ground := Go.Ground.phase }, { on := 8, ground := Go.Ground.phase }, { on := 9, ground := Go.Ground.phase }, { on := 10, ground := Go.Ground.phase }, { on := 11, ground := Go.Ground.phase }, { on := 12, ground := Go.Ground.phase }, { on := 13, ground := Go.Ground.phase }, { on := 14, ground := Go.Ground.phase }, { on := 15, ground := Go.Ground.phase }], guard := none }) rfl (fun K hK => ?_) AllReadyH.nil
  rw [if_pos (by rfl)]
  refine wp_store_mid 24 _ _ rfl (w.heap.size + 1) 0 (vB HB) (by rfl) (by rfl) (by rw [vB_size, hlen]; exact (n5.st HR.out hb).2.2.2) (by rw [vB_size, hlen]; kernel_rfl) (vB_all HB) ?_
  refine hK.out _ _ ((n5.store HB hlen).st HR.out hb) (fun hHeld3 => ?_)
  clear hK K hHeld2
  try simp only [Act.put, List.setIfInBounds_toArray, List.set_cons_zero, List.set_cons_succ]
  refine wpAnyH_done (by kernel_rfl) ?_ _
  refine NoPanic.normal ?_
  obtain ⟨h51, _, c, hc, h55⟩ := n5
  have h6 : (w5.setCells (w.heap.size + 1) 0 (vB HB).toList).heap[w.heap.size + 1]? = some (.cells (vB HB) 24) := setCells_whole h55 (by omega)
  have b6 : Below w.heap.size w (w5.setCells (w.heap.size + 1) 0 (vB HB).toList) := below_setCells h51 (by omega) _
  clear h55
  generalize w5.setCells (w.heap.size + 1) 0 (vB HB).toList = w6 at *
  go_wp2
  exact bodyPost_ret (v := .agg (vB HB)) (results_cell_row (p := 8) (ty := 24) Tryd.results68 _ _ (w.heap.size + 1) 24 _ (0, 0) _ rfl h6 Tryd.underlying24 rfl (by rw [vB_size, hlen]; kernel_rfl)) rfl ⟨rfl, b6⟩
set_option maxRecDepth 100000 in
theorem lead_any (d : Nat) : ∀ (leaf : List Int) (n i : Nat) (v : Value) (pr : List (List Int)) (w : World), leaf.length = 32 ∧ Bytes leaf → pr.length = d → depthN n i = d → i < n → n ≤ 1073741824 → d < 1000000 → Hashes pr → Laid w → ListAt w v pr →
    Calls Tryd.prog 68 #[.agg (vB leaf), .int .i64 n, .int .i64 i, v] w fun e w' => e = .returned (.agg (vB (leadD d leaf n i pr))) ∧ Below w.heap.size w w' := by
  induction d with
  | zero =>
    intro leaf n i v pr w hl hp _ _ _ _ _ _ hv
    obtain ⟨av, b, o, cp, rfl, _⟩ := hv
    rw [hp]
    exact lead_zero leaf n i av cp w hl.1
  | succ d ih =>
    intro leaf n i v pr w hl hp hdep hin hn hd hH hL hv
    obtain ⟨av, b, o, cp, rfl, hcp, hcp2, hav, hr, hb, _⟩ := hv
    obtain rfl := hav (by omega)
    have h2n : 2 ≤ n := by
      rcases Nat.lt_or_ge n 2 with h | h
      · rw [depthN_one n i h] at hdep; omega
      · exact h
    have hk1 := halfN_pos n
    have hk2 := halfN_lt n h2n
    have hT := hash_at hH d (by omega)
    have hrT := range_at hr hH d (by omega)
    have hC0 : ∀ w' : World, Calls Tryd.prog 65 #[.int .i64 n] w' fun e w'' => e = .returned (.int .i64 (halfN n)) ∧ w'' = w' := fun w' => left_any n h2n (by omega) w'
    rw [hp]
    have sub : ∀ (m j : Nat), depthN m j = d → j < m → m ≤ 1073741824 → ∀ w', LeadIn w leaf w' → Calls Tryd.prog 68 #[.agg (vB leaf), .int .i64 m, .int .i64 j, .slice (some ⟨b, o, none⟩) d cp] w' fun e w'' => e = .returned (.agg (vB (leadD d leaf m j pr))) ∧ LeadIn w leaf w'' := fun m j h1 h3 h4 w' q => by
      have hp1 := ListAt.take hp (range_below hr q.1 hb) hH (Nat.lt_of_lt_of_le hb q.1.size) hcp2 (by omega) d (by omega)
      refine (ih leaf m j _ (pr.take d) w' hl (by simp; omega) h1 h3 h4 (by omega) (hH.take _) (hL.below q.1 hL.two) hp1).mono ?_
      rintro e w5 ⟨rfl, b5⟩
      exact ⟨by rw [leadD_take d d _ _ _ _ (Nat.le_refl _)], q.below b5⟩
    unfold leadD
    by_cases hik : i < halfN n
    · rw [if_pos hik]
      rw [depthN_lo n i h2n hik] at hdep
      exact lead_lo d leaf _ _ n i (halfN n) b o cp w hl.1 hT.1 (leadD_hash d leaf _ _ _ hl).1 hik hk2 hn (by omega) hcp2 (by omega) hL hb hrT hC0 (sub (halfN n) i (by omega) hik (by omega))
    · rw [if_neg hik]
      rw [depthN_hi n i h2n hik] at hdep
      have hs := sub (n - halfN n) (i - halfN n) (by omega) (by omega) (by omega)
      rw [show ((n - halfN n : Nat) : Int) = (n : Int) - (halfN n : Int) by omega, show ((i - halfN n : Nat) : Int) = (i : Int) - (halfN n : Int) by omega] at hs
      exact lead_hi d leaf _ _ n i (halfN n) b o cp w hl.1 hT.1 (leadD_hash d leaf _ _ _ hl).1 hik hin hk2 hn (by omega) hcp2 (by omega) hL hb hrT hC0 hs
end Go.Proofs.YtffhjjgkoapioaaDoor
