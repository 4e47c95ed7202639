import Derived.Test.YtffhjjgkoapioaaDoorOb
namespace Go.Proofs.YtffhjjgkoapioaaDoor
set_option linter.unusedSimpArgs false
set_option linter.unusedVariables false
open Go.RowKit
attribute [local go_sem ↓] Go.wp_at_zero Go.wp_at_succ
/-- Whether a proof is checked. -/
def chkB (R : List Int) (n i : Int) (bs : List Int) (pr : List (List Int)) : Bool := decide (depthI n i = pr.length) && decide (leadD pr.length (leafH bs) n.toNat i.toNat pr = R)
set_option maxRecDepth 100000 in
theorem eq24_dec (l m : List Int) (hl : l.length = 32) (hm : m.length = 32) : ∀ w' : World, (Op.equalIn 10000 24 (.agg (vB l)) (.agg (List.map (Value.int .u8) m).toArray)).run Tryd.prog w' = .ok (decide (l = m)) w' := fun w' => eq24_any 9998 l m hl hm w'
set_option maxRecDepth 100000 in
theorem depthI_of {n i : Int} {d : Nat} (h : depthI n i = d) : ∃ N I : Nat, n = N ∧ i = I ∧ I < N ∧ N ≤ 1073741824 ∧ depthN N I = d := by
  unfold depthI at h
  split at h
  · omega
  · rename_i hb
    refine ⟨n.toNat, i.toNat, by omega, by omega, by omega, by omega, by omega⟩
set_option maxRecDepth 100000 in
set_option maxHeartbeats 1000000 in
theorem check_no (R : List Int) (n i : Int) (v : Value) (av : Option Addr) (m cp : Nat) (w : World) (hd : depthI n i ≠ m) (hm : m ≤ 4611686018427387904) :
    Calls Tryd.prog 41 #[.agg (vB R), .int .i64 n, .int .i64 i, v, .slice av m cp] w fun e w' => e = .returned (.bool false) ∧ Below w.heap.size w w' := by
  have C : Hid (∀ w' : World, Calls Tryd.prog 40 #[.int .i64 n, .int .i64 i] w' fun e w'' => e = .returned (.int .i64 (depthI n i)) ∧ w'' = w') := fun w' => depth_any n i w'
  generalize depthI n i = D at *
  have hd' : ¬ (m : Int) = D := fun h => hd h.symm
  clear hd
  go_enter Tryd.func41, Tryd.ntmps41
  go_wp2_with (first | (go_at_call 40; refine (C.out _).mono ?_; rintro e w' ⟨rfl, hw'⟩; have hw'' := hw'.symm; clear hw'; subst hw''))
  all_goals go_ret
  all_goals exact ⟨rfl, (Below.refl _ _).alloc (Nat.le_refl _) _⟩
set_option maxRecDepth 100000 in
set_option maxHeartbeats 2000000 in
theorem check_yes (R L H : List Int) (n i : Int) (v : Value) (av : Option Addr) (m cp : Nat) (w : World) (hR : R.length = 32) (hLl : L.length = 32) (hm : m ≤ 4611686018427387904)
    (C0 : ∀ w' : World, Calls Tryd.prog 40 #[.int .i64 n, .int .i64 i] w' fun e w'' => e = .returned (.int .i64 m) ∧ w'' = w')
    (C1 : ∀ w', Below w.heap.size w w' → Calls Tryd.prog 30 #[v] w' fun e w'' => e = .returned (.agg (vB H)) ∧ Below w'.heap.size w' w'')
    (C2 : ∀ w', Below w.heap.size w w' → Calls Tryd.prog 68 #[.agg (vB H), .int .i64 n, .int .i64 i, .slice av m cp] w' fun e w'' => e = .returned (.agg (vB L)) ∧ Below w'.heap.size w' w'') :
    Calls Tryd.prog 41 #[.agg (vB R), .int .i64 n, .int .i64 i, v, .slice av m cp] w fun e w' => e = .returned (.bool (decide (L = R))) ∧ Below w.heap.size w w' := by
  have D0 : Hid (∀ w' : World, Calls Tryd.prog 40 #[.int .i64 n, .int .i64 i] w' fun e w'' => e = .returned (.int .i64 m) ∧ w'' = w') := C0
  obtain ⟨W, hW⟩ : ∃ W, w.alloc (Obj.cells (vB R) 24) = W := ⟨_, rfl⟩
  have bW : Below w.heap.size w W := by rw [← hW]; exact (Below.refl _ _).alloc (Nat.le_refl _) _
  have f1 : W.heap[w.heap.size]? = some (.cells (vB R) 24) := by rw [← hW]; exact heap_alloc_new _ _
  have D1 : Hid (∀ w', Below W.heap.size W w' → Calls Tryd.prog 30 #[v] w' fun e w'' => e = .returned (.agg (vB H)) ∧ Below W.heap.size W w'') := fun w' q => (C1 w' (bW.trans (q.mono bW.size))).mono (fun e w5 h => ⟨h.1, q.trans (h.2.mono q.size)⟩)
  have D2 : Hid (∀ w', Below W.heap.size W w' → Calls Tryd.prog 68 #[.agg (vB H), .int .i64 n, .int .i64 i, .slice av m cp] w' fun e w'' => e = .returned (.agg (vB L)) ∧ Below W.heap.size W w'') := fun w' q => (C2 w' (bW.trans (q.mono bW.size))).mono (fun e w5 h => ⟨h.1, q.trans (h.2.mono q.size)⟩)
  have HR : Hid (W.rangeAt w.heap.size 0 (List.map (Value.int .u8) R)) := range_of_block f1
  have hbl : w.heap.size < W.heap.size := (Array.getElem?_eq_some_iff.1 f1).1
  have e24 := eq24_dec L R hLl hR
  obtain ⟨B, hB⟩ : ∃ B : Bool, B = decide (L = R) := ⟨_, rfl⟩
  rw [← hB]
  rw [← hB] at e24
  have hcl : (List.map (Value.int .u8) R).length = 32 := by simpa using hR
  have hi : (Tryd.prog.info? 24).map (·.size) = some (List.map (Value.int .u8) R).length := by rw [hcl]; kernel_rfl
  clear C0 C1 C2 f1 hB
  go_enter Tryd.func41, Tryd.ntmps41
  go_wp2_with (first | (go_at_call 40; refine (D0.out _).mono ?_; rintro e w' ⟨rfl, hw'⟩; have hw'' := hw'.symm; clear hw'; subst hw''))
  try rw [hW]
  clear hW
  have hS := Held.of HR.out hbl (below_drew (Below.refl W.heap.size W))
  refine wp_region_noPanic ?_
  refine wp_region_held_drew (S := fun w' => Below W.heap.size W w' ∧ w'.rangeAt w.heap.size 0 (List.map (Value.int .u8) R)) (by kernel_rfl) (hS) (fun hHeld => ?_)
  try simp only [Act.put, List.setIfInBounds_toArray, List.set_cons_zero, List.set_cons_succ]
  refine wpAnyH_take (i := 0) (oi := { dst := some 17, op := Go.Op.move (Go.Operand.tmp 3), type := 22, pos := "merkle.go:87", after := #[], guard := none }) (v := ?_) rfl (by kernel_rfl) (by kernel_rfl) (by kernel_rfl) (fun _ _ _ h => h) (Or.inl ⟨by rfl, ?_⟩) hHeld ?_
  rotate_left 1
  · (intro wq hSq; (try dsimp only at hSq); go_simp; first | done | with_reducible rfl)
  try simp only [Act.put, List.setIfInBounds_toArray, List.set_cons_zero, List.set_cons_succ]
  refine wpAnyH_take (i := 2) (oi := { dst := some 19, op := Go.Op.move (Go.Operand.tmp 1), type := 3, pos := "merkle.go:87", after := #[], guard := none }) (v := ?_) rfl (by kernel_rfl) (by kernel_rfl) (by kernel_rfl) (fun _ _ _ h => h) (Or.inl ⟨by rfl, ?_⟩) hHeld ?_
  rotate_left 1
  · (intro wq hSq; (try dsimp only at hSq); go_simp; first | done | with_reducible rfl)
  try simp only [Act.put, List.setIfInBounds_toArray, List.set_cons_zero, List.set_cons_succ]
  refine wpAnyH_take (i := 3) (oi := { dst := some 20, op := Go.Op.move (Go.Operand.tmp 2), type := 3, pos := "merkle.go:87", after := #[], guard := none }) (v := ?_) rfl (by kernel_rfl) (by kernel_rfl) (by kernel_rfl) (fun _ _ _ h => h) (Or.inl ⟨by rfl, ?_⟩) hHeld ?_
  rotate_left 1
  · (intro wq hSq; (try dsimp only at hSq); go_simp; first | done | with_reducible rfl)
  try simp only [Act.put, List.setIfInBounds_toArray, List.set_cons_zero, List.set_cons_succ]
  refine wpAnyH_take (i := 4) (oi := { dst := some 21, op := Go.Op.move (Go.Operand.tmp 4), type := 44, pos := "merkle.go:87", after := #[], guard := none }) (v := ?_) rfl (by kernel_rfl) (by kernel_rfl) (by kernel_rfl) (fun _ _ _ h => h) (Or.inl ⟨by rfl, ?_⟩) hHeld ?_
  rotate_left 1
  · (intro wq hSq; (try dsimp only at hSq); go_simp; first | done | with_reducible rfl)
  try simp only [Act.put, List.setIfInBounds_toArray, List.set_cons_zero, List.set_cons_succ]
  refine wpAnyH_take (i := 6) (oi := { dst := some 23, op := Go.Op.load 24 (Go.Operand.tmp 5), type := 24, pos := "merkle.go:87", after := #[], guard := none }) (v := .agg (List.toArray (List.map (Value.int .u8) R))) rfl (by kernel_rfl) (by kernel_rfl) (by kernel_rfl) (fun _ _ _ h => h) (yieldsIf_load_mid (by rfl) _ _ rfl (w.heap.size) (0) rfl (List.map (Value.int .u8) R) _ (fun _ h => h.2) Tryd.underlying24 rfl (hi)) hHeld ?_
  try simp only [Act.put, List.setIfInBounds_toArray, List.set_cons_zero, List.set_cons_succ]
  refine wpAnyH_ready (rs := [1]) (by kernel_rfl) (by simp) ?_
  refine AllReadyH.cons (o := { dst := some 18, op := Go.Op.call { callee := Go.Callee.value (Go.Operand.func 30), args := #[Go.Operand.tmp 17], argTypes := #[22] }, type := 24, pos := "merkle.go:87", after := #[{ on := 0, ground := Go.Ground.data }], guard := none }) rfl (fun K hK => ?_) AllReadyH.nil
  go_simp
  refine (D1.out _ (below_drew (Below.refl W.heap.size W))).mono ?_
  rintro e w4 ⟨rfl, b4⟩
  refine hK.out _ _ (Held.of HR.out hbl b4) (fun hHeld1 => ?_)
  clear hK K hHeld
  try simp only [Act.put, List.setIfInBounds_toArray, List.set_cons_zero, List.set_cons_succ]
  refine wpAnyH_ready (rs := [5]) (by kernel_rfl) (by simp) ?_
  refine AllReadyH.cons (o := { dst := some 22, op := Go.Op.call { callee := Go.Callee.value (Go.Operand.func 68), args := #[Go.Operand.tmp 18, Go.Operand.tmp 19, Go.Operand.tmp 20, Go.Operand.tmp 21], argTypes := #[24, 3, 3, 44] }, type := 24, pos := "merkle.go:87", after := #[{ on := 1, ground := Go.Ground.data }, { on := 2, ground := Go.Ground.data }, { on := 3, ground := Go.Ground.data }, { on := 4, ground := Go.Ground.data }, { on := 1, ground := Go.Ground.chain }], guard := none }) rfl (fun K hK => ?_) AllReadyH.nil
  go_simp
  refine (D2.out _ b4).mono ?_
  rintro e w5 ⟨rfl, b5⟩
  refine hK.out _ _ (Held.of HR.out hbl b5) (fun hHeld2 => ?_)
  clear hK K hHeld1
  try simp only [Act.put, List.setIfInBounds_toArray, List.set_cons_zero, List.set_cons_succ]
  refine wpAnyH_take (i := 7) (oi := { dst := some 24, op := Go.Op.binOp Go.BinOp.eql 24 (Go.Operand.tmp 22) (Go.Operand.tmp 23) 24, type := 4, pos := "merkle.go:87", after := #[{ on := 5, ground := Go.Ground.data }, { on := 6, ground := Go.Ground.data }], guard := none }) (v := ?_) rfl (by kernel_rfl) (by kernel_rfl) (by kernel_rfl) (fun _ _ _ h => h) (Or.inl ⟨by rfl, ?_⟩) hHeld2 ?_
  rotate_left 1
  · (intro wq hSq; (try dsimp only at hSq); go_simp; first | done | with_reducible rfl)
  try simp only [Act.put, List.setIfInBounds_toArray, List.set_cons_zero, List.set_cons_succ]
  refine wpAnyH_take (i := 8) (oi := { dst := some 10, op := Go.Op.assign (Go.Operand.tmp 24), type := 4, pos := "merkle.go:87", after := #[{ on := 7, ground := Go.Ground.data }, { on := 5, ground := Go.Ground.chain }, { on := 0, ground := Go.Ground.phase }, { on := 1, ground := Go.Ground.phase }, { on := 2, ground := Go.Ground.phase }, { on := 3, ground := Go.Ground.phase }, { on := 4, ground := Go.Ground.phase }, { on := 5, ground := Go.Ground.phase }, { on := 6, ground := Go.Ground.phase }, { on := 7, ground := Go.Ground.phase }], guard := none }) (v := ?_) rfl (by kernel_rfl) (by kernel_rfl) (by kernel_rfl) (fun _ _ _ h => h) (Or.inl ⟨by rfl, ?_⟩) hHeld2 ?_
  rotate_left 1
  · (intro wq hSq; (try dsimp only at hSq); go_simp; first | done | with_reducible rfl)
  try simp only [Act.put, List.setIfInBounds_toArray, List.set_cons_zero, List.set_cons_succ]
  refine wpAnyH_done (by kernel_rfl) ?_ _
  refine NoPanic.normal ?_
  go_wp2
  go_ret
  exact ⟨rfl, bW.trans (b5.mono bW.size)⟩
set_option maxRecDepth 100000 in
theorem check_any (R : List Int) (n i : Int) (v pv : Value) (bs : List Int) (pr : List (List Int)) (w : World) (hR : R.length = 32) (hL : Laid w) (hv : PartAt w v bs) (hbs : bs.length ≤ 140737488351232) (hp : ListAt w pv pr) (hH : Hashes pr) (hm : pr.length ≤ 1000) :
    Calls Tryd.prog 41 #[.agg (vB R), .int .i64 n, .int .i64 i, v, pv] w fun e w' => e = .returned (.bool (chkB R n i bs pr)) ∧ Below w.heap.size w w' := by
  have hp0 := hp
  obtain ⟨av, b, o, cp, rfl, _⟩ := hp
  unfold chkB
  by_cases hd : depthI n i = pr.length
  · rw [decide_eq_true hd, Bool.true_and]
    obtain ⟨N, I, rfl, rfl, h1, h3, h4⟩ := depthI_of hd
    refine check_yes R _ (leafH bs) N I v av pr.length cp w hR (leadD_hash _ _ _ _ _ ⟨leafH_length bs, hashOf_bytes _⟩).1 (by omega) (fun w' => by have := depth_any N I w'; rw [hd] at this; exact this) (fun w' q => leaf_any v bs w' (hL.below q hL.two) (hv.below q) hbs) (fun w' q => ?_)
    have := lead_any pr.length (leafH bs) N I _ pr w' ⟨leafH_length bs, hashOf_bytes _⟩ rfl h4 h1 h3 (by omega) hH (hL.below q hL.two) (hp0.below q)
    simpa using this
  · rw [decide_eq_false hd, Bool.false_and]
    exact check_no R n i v av pr.length cp w hd (by omega)
end Go.Proofs.YtffhjjgkoapioaaDoor
