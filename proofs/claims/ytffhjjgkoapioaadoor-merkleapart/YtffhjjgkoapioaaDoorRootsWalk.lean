import Derived.Test.YtffhjjgkoapioaaDoorNd
namespace Go.Proofs.YtffhjjgkoapioaaDoor
set_option linter.unusedSimpArgs false
set_option linter.unusedVariables false
open Go.RowKit
attribute [local go_sem ↓] Go.wp_at_zero Go.wp_at_succ
set_option maxRecDepth 100000 in
set_option maxHeartbeats 1000000 in
theorem root_any (v : Value) (bs : List Int) (w : World) (hL : Laid w) (hp : PartAt w v bs) (hn : bs.length ≤ 1000000000000) :
    Calls Tryd.prog 32 #[v] w fun e w' => e = .returned (.agg (vB (overH (leavesL bs)))) ∧ Below w.heap.size w w' := by
  have h2 := hL.two
  have hcl : (leavesL bs).length ≤ 1000000000000 := by unfold leavesL; rw [List.length_map, chunksL_length]; omega
  have hHs := leavesL_hashes bs
  have C : Hid (∀ w', Below w.heap.size w w' → Calls Tryd.prog 63 #[v] w' fun e w'' => ∃ v', e = .returned v' ∧ ListAt w'' v' (leavesL bs) ∧ Below w'.heap.size w' w'') := fun w' k => leaves_any v bs w' (hL.below k h2) (hp.below k) hn
  obtain ⟨HB, hHB⟩ : ∃ HB, HB = overH (leavesL bs) := ⟨_, rfl⟩
  have hlen : HB.length = 32 := by rw [hHB]; exact (overH_hash _ hHs).1
  have C2 : Hid (∀ w' x, Laid w' → ListAt w' x (leavesL bs) → Calls Tryd.prog 36 #[x] w' fun e w'' => e = .returned (.agg (vB HB)) ∧ Below w'.heap.size w' w'') := fun w' x q hx => by
    rw [hHB]; exact over_any _ x (leavesL bs) w' (Nat.le_refl _) (by omega) hHs q hx
  rw [← hHB]
  clear hHB hHs
  generalize leavesL bs = ls at *
  obtain ⟨av, _, _, cp, rfl, _⟩ := hp
  go_enter Tryd.func32, Tryd.ntmps32
  go_wp2_with fail
  have hN := OneIn.new w
  refine (C.out _ hN.1).mono ?_
  rintro e w2 ⟨x, rfl, px, b2⟩
  have n2 := hN.below b2
  have hL2 := hL.below n2.1 h2
  clear hN b2
  go_wp2_with fail
  refine (C2.out _ x hL2 px).mono ?_
  rintro e w3 ⟨rfl, b3⟩
  obtain ⟨b03, c, hc, h50⟩ := n2.below b3
  clear b3 n2
  go_wp2_with (first | (refine store24 rfl _ _ rfl _ HB rfl rfl hlen 24 c hc h50 ?_))
  exact bodyPost_ret (v := .agg (vB HB)) (results_cell_row (p := 2) (ty := 24) Tryd.results32 _ _ w.heap.size 24 _ (0, 0) _ rfl (setRow_same h50) Tryd.underlying24 rfl (by rw [vB_size, hlen]; kernel_rfl)) rfl ⟨rfl, below_setRow b03 (Nat.le_refl _) _⟩
/-- Both texts at a place, and what they are as strings. -/
def TwoAt (W : World) (p q : Addr) (x y : Value) (s : ByteArray) (w' : World) : Prop := Below W.heap.size W w' ∧ w'.cell? p = some x ∧ w'.cell? q = some y ∧ (convert 22 9 x).run Tryd.prog w' = .ok (.string s) w' ∧ (convert 22 9 y).run Tryd.prog w' = .ok (.string s) w'
set_option maxRecDepth 100000 in
theorem two_at {W w' : World} {p q : Addr} {x y : Value} {l : List Int} (hp : W.cell? p = some x) (hq : W.cell? q = some y) (hx : PartAt W x l) (hy : PartAt W y l) (k : Below W.heap.size W w') :
    Below W.heap.size W w' ∧ w'.cell? p = some x ∧ w'.cell? q = some y ∧ (convert 22 9 x).run Tryd.prog w' = .ok (.string (strOfNums l)) w' ∧ (convert 22 9 y).run Tryd.prog w' = .ok (.string (strOfNums l)) w' :=
  ⟨k, by rw [k.cell (block_lt_of_cell hp)]; exact hp, by rw [k.cell (block_lt_of_cell hq)]; exact hq, run_conv (hx.below k), run_conv (hy.below k)⟩
set_option maxRecDepth 100000 in
theorem kept_drew {B : Nat} {w w' : World} (h : Below B w w') : Below B w w'.drew := ⟨h.os, h.tape, h.output, h.size, h.block⟩
set_option maxRecDepth 100000 in
set_option maxHeartbeats 2000000 in
theorem roots_in (v : Value) (bs : List Int) (w : World) (hL : Laid w) (hp : PartAt w v bs) (hn : bs.length ≤ 4000) (hby : Bytes bs) :
    Calls Tryd.prog 6 #[v] w fun e w' => e = .returned (.bool true) ∧ Below w.heap.size w w' := by
  have h2 := hL.two
  have hcl : (chunksL bs).length ≤ 200 := by rw [chunksL_length]; omega
  have hcs := chunksL_small bs
  have hcb := chunksL_bytes bs hby
  obtain ⟨R, hR⟩ : ∃ R, R = overH (leavesL bs) := ⟨_, rfl⟩
  have hRl : R.length = 32 := by rw [hR]; exact (overH_hash _ (leavesL_hashes bs)).1
  have CA : Hid (∀ w', Below w.heap.size w w' → Calls Tryd.prog 28 #[v] w' fun e w'' => ∃ v', e = .returned v' ∧ PartsAt w'' v' (chunksL bs) ∧ Below w'.heap.size w' w'') := fun w' k => chunks_any v bs w' (hp.below k) (by omega)
  have CB : Hid (∀ w', Below w.heap.size w w' → Calls Tryd.prog 29 #[v] w' fun e w'' => ∃ v', e = .returned v' ∧ PartsAt w'' v' (chunksL bs) ∧ Below w'.heap.size w' w'') := fun w' k => rchunks_any v bs w' (by have := k.size; omega) (hp.below k) (by omega)
  have RA : Hid (∀ w', Below w.heap.size w w' → Calls Tryd.prog 32 #[v] w' fun e w'' => e = .returned (.agg (vB R)) ∧ Below w'.heap.size w' w'') := fun w' k => by rw [hR]; exact root_any v bs w' (hL.below k h2) (hp.below k) (by omega)
  have RB : Hid (∀ w', Below w.heap.size w w' → Calls Tryd.prog 33 #[v] w' fun e w'' => e = .returned (.agg (vB R)) ∧ Below w'.heap.size w' w'') := fun w' k => by rw [hR]; exact rroot_any v bs w' (by have := k.size; omega) (hp.below k) (by omega) hby
  have E24 : Hid (∀ w' : World, (Op.equalIn 10000 24 (.agg (vB R)) (.agg (vB R))).run Tryd.prog w' = .ok true w') := fun w' => eq24_self 9998 R hRl w'
  clear hR hby
  generalize chunksL bs = ls at *
  have HCS : Hid (∀ l ∈ ls, l.length ≤ 32) := hcs
  have HCB : Hid (∀ l ∈ ls, Bytes l) := hcb
  clear hcs hcb
  obtain ⟨av0, _, _, cp0, rfl, _⟩ := hp
  go_enter Tryd.func6, Tryd.ntmps6
  go_wp2_with fail
  refine (awake2_any _).mono ?_
  rintro e w1 ⟨rfl, b1⟩
  go_wp2_with fail
  refine (CA.out _ b1).mono ?_
  rintro e w2 ⟨va, rfl, pa2, b2⟩
  have b02 := b1.trans (b2.mono b1.size)
  go_wp2_with fail
  refine (CB.out _ b02).mono ?_
  rintro e w3 ⟨vc, rfl, pc3, b3⟩
  have b03 := b02.trans (b3.mono b02.size)
  have pa3 := pa2.below b3
  obtain ⟨ava, ba, oa, cpa, vsa, rfl, a1, a2, a3, a4, a5, a6, a7⟩ := pa3
  obtain ⟨avc, bc, oc, cpc, vsc, rfl, c1, c2, c3, c4, c5, c6, c7⟩ := pc3
  have A5 : Hid (w3.rangeAt ba oa vsa) := a5
  have C5 : Hid (w3.rangeAt bc oc vsc) := c5
  have A7 : Hid (∀ (i : Nat) (x : Value) (l : List Int), vsa[i]? = some x → ls[i]? = some l → PartAt w3 x l) := a7
  have C7 : Hid (∀ (i : Nat) (x : Value) (l : List Int), vsc[i]? = some x → ls[i]? = some l → PartAt w3 x l) := c7
  clear a5 a7 c5 c7 pa2 CA CB
  go_wp2_with fail
  go_loopw [25] (fun i wr => ∃ k : Nat, k ≤ ls.length ∧ i = .int .i64 k ∧ Below w3.heap.size w3 wr) (fun i _ => ls.length - (intOf i).toNat)
  case atStart => exact ⟨0, by omega, rfl, Below.refl _ _⟩
  case round =>
    obtain ⟨k, hk, rfl, bl⟩ := hrel
    have bw := b03.trans (bl.mono b03.size)
    by_cases hlt : k < ls.length
    · obtain rfl := a3 (by omega)
      obtain rfl := c3 (by omega)
      obtain ⟨x, hx⟩ : ∃ x, vsa[k]? = some x := ⟨vsa[k], List.getElem?_eq_getElem (by omega)⟩
      obtain ⟨y, hy⟩ : ∃ y, vsc[k]? = some y := ⟨vsc[k], List.getElem?_eq_getElem (by omega)⟩
      obtain ⟨l, hlk⟩ : ∃ l, ls[k]? = some l := ⟨ls[k], List.getElem?_eq_getElem hlt⟩
      have hmem := List.mem_of_getElem? hlk
      have hl32 := HCS.out l hmem
      have hlb := HCB.out l hmem
      have px := (A7.out k x l hx hlk).below bl
      have py := (C7.out k y l hy hlk).below bl
      have qx : wr.cell? ⟨ba, oa + k, none⟩ = some x := by rw [bl.cell (show ba < w3.heap.size from a6)]; exact A5.out k x hx
      have qy : wr.cell? ⟨bc, oc + k, none⟩ = some y := by rw [bl.cell (show bc < w3.heap.size from c6)]; exact C5.out k y hy
      obtain ⟨H, hH⟩ : ∃ H, H = leafH l := ⟨_, rfl⟩
      have hHl : H.length = 32 := by rw [hH]; exact leafH_length l
      have LA : Hid (∀ w', Below wr.heap.size wr w' → Calls Tryd.prog 30 #[x] w' fun e w'' => e = .returned (.agg (vB H)) ∧ Below wr.heap.size wr w'') := fun w' q => by
        rw [hH]
        exact (leaf_any x l w' (hL.below (bw.trans (q.mono bw.size)) h2) (px.below q) (by omega)).mono (fun e w5 h => ⟨h.1, q.trans (h.2.mono q.size)⟩)
      have LB : Hid (∀ w', Below wr.heap.size wr w' → Calls Tryd.prog 31 #[x] w' fun e w'' => e = .returned (.agg (vB H)) ∧ Below wr.heap.size wr w'') := fun w' q => by
        rw [hH]
        exact (rleaf_any x l w' (by have := q.size; have := bw.size; omega) (px.below q) (by omega) hlb).mono (fun e w5 h => ⟨h.1, q.trans (h.2.mono q.size)⟩)
      have TA : Hid (∀ w', Below wr.heap.size wr w' → Below wr.heap.size wr w' ∧ w'.cell? ⟨ba, oa + k, none⟩ = some x ∧ w'.cell? ⟨bc, oc + k, none⟩ = some y ∧ (convert 22 9 x).run Tryd.prog w' = .ok (.string (strOfNums l)) w' ∧ (convert 22 9 y).run Tryd.prog w' = .ok (.string (strOfNums l)) w') := fun w' q => two_at qx qy px py q
      have e24 : ∀ w' : World, (Op.equalIn 10000 24 (.agg (vB H)) (.agg (vB H))).run Tryd.prog w' = .ok true w' := fun w' => eq24_self 9998 H hHl w'
      generalize strOfNums l = s at *
      have j1 : (0 : Int) ≤ (k : Int) := by omega
      have j2 : (k : Int) < (ls.length : Int) := by omega
      obtain ⟨avx, _, _, cpx, hxv, _⟩ := px
      obtain ⟨avy, _, _, cpy, hyv, _⟩ := py
      subst hxv hyv
      clear hH hlb hmem hx hy hlk qx qy A5 C5 A7 C7 HCS HCB RA RB E24
      go_wp2
      have hS := TA.out _ (kept_drew (Below.refl wr.heap.size wr))
      refine wp_region_noPanic ?_
      refine wp_region_held_drew (S := fun w' => Below wr.heap.size wr w' ∧ w'.cell? ⟨ba, oa + k, none⟩ = some (Value.slice avx l.length cpx) ∧ w'.cell? ⟨bc, oc + k, none⟩ = some (Value.slice avy l.length cpy) ∧ (convert 22 9 (Value.slice avx l.length cpx)).run Tryd.prog w' = .ok (.string s) w' ∧ (convert 22 9 (Value.slice avy l.length cpy)).run Tryd.prog w' = .ok (.string s) w') (by kernel_rfl) (hS) (fun hHeld => ?_)
      try simp only [Act.put, List.setIfInBounds_toArray, List.set_cons_zero, List.set_cons_succ]
      refine wpAnyH_take (i := 0) (oi := { dst := some 28, op := Go.Op.move (Go.Operand.tmp 3), type := 29, pos := "law.go:25", after := #[], guard := none }) (v := ?_) rfl (by kernel_rfl) (by kernel_rfl) (by kernel_rfl) (fun _ _ _ h => h) (Or.inl ⟨by rfl, ?_⟩) hHeld ?_
      rotate_left 1
      · (intro wq hSq; (try dsimp only at hSq); go_simp; first | done | with_reducible rfl)
      try simp only [Act.put, List.setIfInBounds_toArray, List.set_cons_zero, List.set_cons_succ]
      refine wpAnyH_take (i := 1) (oi := { dst := some 29, op := Go.Op.move (Go.Operand.tmp 5), type := 3, pos := "law.go:25", after := #[], guard := none }) (v := ?_) rfl (by kernel_rfl) (by kernel_rfl) (by kernel_rfl) (fun _ _ _ h => h) (Or.inl ⟨by rfl, ?_⟩) hHeld ?_
      rotate_left 1
      · (intro wq hSq; (try dsimp only at hSq); go_simp; first | done | with_reducible rfl)
      try simp only [Act.put, List.setIfInBounds_toArray, List.set_cons_zero, List.set_cons_succ]
      refine wpAnyH_take (i := 2) (oi := { dst := some 30, op := Go.Op.indexAddr 29 (Go.Operand.tmp 28) (Go.Operand.tmp 29), type := 0, pos := "law.go:25", after := #[{ on := 0, ground := Go.Ground.data }, { on := 1, ground := Go.Ground.data }], guard := none }) (v := ?_) rfl (by kernel_rfl) (by kernel_rfl) (by kernel_rfl) (fun _ _ _ h => h) (Or.inl ⟨by rfl, ?_⟩) hHeld ?_
      rotate_left 1
      · (intro wq hSq; (try dsimp only at hSq); go_simp; first | done | with_reducible rfl)
      try simp only [Act.put, List.setIfInBounds_toArray, List.set_cons_zero, List.set_cons_succ]
      refine wpAnyH_take (i := 3) (oi := { dst := some 31, op := Go.Op.load 22 (Go.Operand.tmp 30), type := 22, pos := "law.go:25", after := #[{ on := 2, ground := Go.Ground.data }], guard := none }) (v := ?_) rfl (by kernel_rfl) (by kernel_rfl) (by kernel_rfl) (fun _ _ _ h => h) (Or.inl ⟨by rfl, ?_⟩) hHeld ?_
      rotate_left 1
      · (intro wq hSq; (try dsimp only at hSq); go_simp; first | done | with_reducible rfl)
      try simp only [Act.put, List.setIfInBounds_toArray, List.set_cons_zero, List.set_cons_succ]
      refine wpAnyH_take (i := 4) (oi := { dst := some 32, op := Go.Op.convert 22 9 (Go.Operand.tmp 31), type := 9, pos := "law.go:25", after := #[{ on := 3, ground := Go.Ground.data }], guard := none }) (v := ?_) rfl (by kernel_rfl) (by kernel_rfl) (by kernel_rfl) (fun _ _ _ h => h) (Or.inl ⟨by rfl, ?_⟩) hHeld ?_
      rotate_left 1
      · (intro wq hSq; (try dsimp only at hSq); go_simp; first | done | with_reducible rfl)
      try simp only [Act.put, List.setIfInBounds_toArray, List.set_cons_zero, List.set_cons_succ]
      refine wpAnyH_take (i := 5) (oi := { dst := some 33, op := Go.Op.move (Go.Operand.tmp 4), type := 29, pos := "law.go:25", after := #[], guard := none }) (v := ?_) rfl (by kernel_rfl) (by kernel_rfl) (by kernel_rfl) (fun _ _ _ h => h) (Or.inl ⟨by rfl, ?_⟩) hHeld ?_
      rotate_left 1
      · (intro wq hSq; (try dsimp only at hSq); go_simp; first | done | with_reducible rfl)
      try simp only [Act.put, List.setIfInBounds_toArray, List.set_cons_zero, List.set_cons_succ]
      refine wpAnyH_take (i := 6) (oi := { dst := some 34, op := Go.Op.move (Go.Operand.tmp 5), type := 3, pos := "law.go:25", after := #[], guard := none }) (v := ?_) rfl (by kernel_rfl) (by kernel_rfl) (by kernel_rfl) (fun _ _ _ h => h) (Or.inl ⟨by rfl, ?_⟩) hHeld ?_
      rotate_left 1
      · (intro wq hSq; (try dsimp only at hSq); go_simp; first | done | with_reducible rfl)
      try simp only [Act.put, List.setIfInBounds_toArray, List.set_cons_zero, List.set_cons_succ]
      refine wpAnyH_take (i := 7) (oi := { dst := some 35, op := Go.Op.indexAddr 29 (Go.Operand.tmp 33) (Go.Operand.tmp 34), type := 0, pos := "law.go:25", after := #[{ on := 5, ground := Go.Ground.data }, { on := 6, ground := Go.Ground.data }], guard := none }) (v := ?_) rfl (by kernel_rfl) (by kernel_rfl) (by kernel_rfl) (fun _ _ _ h => h) (Or.inl ⟨by rfl, ?_⟩) hHeld ?_
      rotate_left 1
      · (intro wq hSq; (try dsimp only at hSq); go_simp; first | done | with_reducible rfl)
      try simp only [Act.put, List.setIfInBounds_toArray, List.set_cons_zero, List.set_cons_succ]
      refine wpAnyH_take (i := 8) (oi := { dst := some 36, op := Go.Op.load 22 (Go.Operand.tmp 35), type := 22, pos := "law.go:25", after := #[{ on := 7, ground := Go.Ground.data }], guard := none }) (v := ?_) rfl (by kernel_rfl) (by kernel_rfl) (by kernel_rfl) (fun _ _ _ h => h) (Or.inl ⟨by rfl, ?_⟩) hHeld ?_
      rotate_left 1
      · (intro wq hSq; (try dsimp only at hSq); go_simp; first | done | with_reducible rfl)
      try simp only [Act.put, List.setIfInBounds_toArray, List.set_cons_zero, List.set_cons_succ]
      refine wpAnyH_take (i := 9) (oi := { dst := some 37, op := Go.Op.convert 22 9 (Go.Operand.tmp 36), type := 9, pos := "law.go:25", after := #[{ on := 8, ground := Go.Ground.data }], guard := none }) (v := ?_) rfl (by kernel_rfl) (by kernel_rfl) (by kernel_rfl) (fun _ _ _ h => h) (Or.inl ⟨by rfl, ?_⟩) hHeld ?_
      rotate_left 1
      · (intro wq hSq; (try dsimp only at hSq); go_simp; first | done | with_reducible rfl)
      try simp only [Act.put, List.setIfInBounds_toArray, List.set_cons_zero, List.set_cons_succ]
      refine wpAnyH_take (i := 10) (oi := { dst := some 38, op := Go.Op.binOp Go.BinOp.neq 9 (Go.Operand.tmp 32) (Go.Operand.tmp 37) 9, type := 4, pos := "law.go:25", after := #[{ on := 4, ground := Go.Ground.data }, { on := 9, ground := Go.Ground.data }], guard := none }) (v := ?_) rfl (by kernel_rfl) (by kernel_rfl) (by kernel_rfl) (fun _ _ _ h => h) (Or.inl ⟨by rfl, ?_⟩) hHeld ?_
      rotate_left 1
      · (intro wq hSq; (try dsimp only at hSq); go_simp; first | done | with_reducible rfl)
      try simp only [Act.put, List.setIfInBounds_toArray, List.set_cons_zero, List.set_cons_succ]
      refine wpAnyH_take (i := 11) (oi := { dst := some 39, op := Go.Op.move (Go.Operand.tmp 38), type := 4, pos := "law.go:25", after := #[{ on := 10, ground := Go.Ground.data }], guard := none }) (v := ?_) rfl (by kernel_rfl) (by kernel_rfl) (by kernel_rfl) (fun _ _ _ h => h) (Or.inl ⟨by rfl, ?_⟩) hHeld ?_
      rotate_left 1
      · (intro wq hSq; (try dsimp only at hSq); go_simp; first | done | with_reducible rfl)
      try simp only [Act.put, List.setIfInBounds_toArray, List.set_cons_zero, List.set_cons_succ]
      refine wpAnyH_take (i := 12) (oi := { dst := some 40, op := Go.Op.move (Go.Operand.tmp 3), type := 29, pos := "law.go:25", after := #[{ on := 11, ground := Go.Ground.guard }], guard := some (11, false) }) (v := ?_) rfl (by kernel_rfl) (by kernel_rfl) (by kernel_rfl) (fun _ _ _ h => h) (Or.inl ⟨by rfl, ?_⟩) hHeld ?_
      rotate_left 1
      · (intro wq hSq; (try dsimp only at hSq); go_simp; first | done | with_reducible rfl)
      try simp only [Act.put, List.setIfInBounds_toArray, List.set_cons_zero, List.set_cons_succ]
      refine wpAnyH_take (i := 13) (oi := { dst := some 41, op := Go.Op.move (Go.Operand.tmp 5), type := 3, pos := "law.go:25", after := #[{ on := 11, ground := Go.Ground.guard }], guard := some (11, false) }) (v := ?_) rfl (by kernel_rfl) (by kernel_rfl) (by kernel_rfl) (fun _ _ _ h => h) (Or.inl ⟨by rfl, ?_⟩) hHeld ?_
      rotate_left 1
      · (intro wq hSq; (try dsimp only at hSq); go_simp; first | done | with_reducible rfl)
      try simp only [Act.put, List.setIfInBounds_toArray, List.set_cons_zero, List.set_cons_succ]
      refine wpAnyH_take (i := 14) (oi := { dst := some 42, op := Go.Op.indexAddr 29 (Go.Operand.tmp 40) (Go.Operand.tmp 41), type := 0, pos := "law.go:25", after := #[{ on := 12, ground := Go.Ground.data }, { on := 13, ground := Go.Ground.data }, { on := 11, ground := Go.Ground.guard }], guard := some (11, false) }) (v := ?_) rfl (by kernel_rfl) (by kernel_rfl) (by kernel_rfl) (fun _ _ _ h => h) (Or.inl ⟨by rfl, ?_⟩) hHeld ?_
      rotate_left 1
      · (intro wq hSq; (try dsimp only at hSq); go_simp; first | done | with_reducible rfl)
      try simp only [Act.put, List.setIfInBounds_toArray, List.set_cons_zero, List.set_cons_succ]
      refine wpAnyH_take (i := 15) (oi := { dst := some 43, op := Go.Op.load 22 (Go.Operand.tmp 42), type := 22, pos := "law.go:25", after := #[{ on := 14, ground := Go.Ground.data }, { on := 11, ground := Go.Ground.guard }], guard := some (11, false) }) (v := ?_) rfl (by kernel_rfl) (by kernel_rfl) (by kernel_rfl) (fun _ _ _ h => h) (Or.inl ⟨by rfl, ?_⟩) hHeld ?_
      rotate_left 1
      · (intro wq hSq; (try dsimp only at hSq); go_simp; first | done | with_reducible rfl)
      try simp only [Act.put, List.setIfInBounds_toArray, List.set_cons_zero, List.set_cons_succ]
      refine wpAnyH_take (i := 17) (oi := { dst := some 45, op := Go.Op.move (Go.Operand.tmp 3), type := 29, pos := "law.go:25", after := #[{ on := 11, ground := Go.Ground.guard }], guard := some (11, false) }) (v := ?_) rfl (by kernel_rfl) (by kernel_rfl) (by kernel_rfl) (fun _ _ _ h => h) (Or.inl ⟨by rfl, ?_⟩) hHeld ?_
      rotate_left 1
      · (intro wq hSq; (try dsimp only at hSq); go_simp; first | done | with_reducible rfl)
      try simp only [Act.put, List.setIfInBounds_toArray, List.set_cons_zero, List.set_cons_succ]
      refine wpAnyH_take (i := 18) (oi := { dst := some 46, op := Go.Op.move (Go.Operand.tmp 5), type := 3, pos := "law.go:25", after := #[{ on := 11, ground := Go.Ground.guard }], guard := some (11, false) }) (v := ?_) rfl (by kernel_rfl) (by kernel_rfl) (by kernel_rfl) (fun _ _ _ h => h) (Or.inl ⟨by rfl, ?_⟩) hHeld ?_
      rotate_left 1
      · (intro wq hSq; (try dsimp only at hSq); go_simp; first | done | with_reducible rfl)
      try simp only [Act.put, List.setIfInBounds_toArray, List.set_cons_zero, List.set_cons_succ]
      refine wpAnyH_take (i := 19) (oi := { dst := some 47, op := Go.Op.indexAddr 29 (Go.Operand.tmp 45) (Go.Operand.tmp 46), type := 0, pos := "law.go:25", after := #[{ on := 17, ground := Go.Ground.data }, { on := 18, ground := Go.Ground.data }, { on := 11, ground := Go.Ground.guard }], guard := some (11, false) }) (v := ?_) rfl (by kernel_rfl) (by kernel_rfl) (by kernel_rfl) (fun _ _ _ h => h) (Or.inl ⟨by rfl, ?_⟩) hHeld ?_
      rotate_left 1
      · (intro wq hSq; (try dsimp only at hSq); go_simp; first | done | with_reducible rfl)
      try simp only [Act.put, List.setIfInBounds_toArray, List.set_cons_zero, List.set_cons_succ]
      refine wpAnyH_take (i := 20) (oi := { dst := some 48, op := Go.Op.load 22 (Go.Operand.tmp 47), type := 22, pos := "law.go:25", after := #[{ on := 19, ground := Go.Ground.data }, { on := 11, ground := Go.Ground.guard }], guard := some (11, false) }) (v := ?_) rfl (by kernel_rfl) (by kernel_rfl) (by kernel_rfl) (fun _ _ _ h => h) (Or.inl ⟨by rfl, ?_⟩) hHeld ?_
      rotate_left 1
      · (intro wq hSq; (try dsimp only at hSq); go_simp; first | done | with_reducible rfl)
      try simp only [Act.put, List.setIfInBounds_toArray, List.set_cons_zero, List.set_cons_succ]
      refine wpAnyH_ready (rs := [16]) (by kernel_rfl) (by simp) ?_
      refine AllReadyH.cons (o := { dst := some 44, op := Go.Op.call { callee := Go.Callee.value (Go.Operand.func 30), args := #[Go.Operand.tmp 43], argTypes := #[22] }, type := 24, pos := "law.go:25", after := #[{ on := 15, ground := Go.Ground.data }, { on := 11, ground := Go.Ground.chain }, { on := 11, ground := Go.Ground.guard }], guard := some (11, false) }) rfl (fun K hK => ?_) AllReadyH.nil
      go_simp
      refine (LA.out _ (kept_drew (Below.refl wr.heap.size wr))).mono ?_
      rintro e w4 ⟨rfl, b4⟩
      refine hK.out _ _ (TA.out _ b4) (fun hHeld1 => ?_)
      clear hK K hHeld
      try simp only [Act.put, List.setIfInBounds_toArray, List.set_cons_zero, List.set_cons_succ]
      refine wpAnyH_ready (rs := [21]) (by kernel_rfl) (by simp) ?_
      refine AllReadyH.cons (o := { dst := some 49, op := Go.Op.call { callee := Go.Callee.value (Go.Operand.func 31), args := #[Go.Operand.tmp 48], argTypes := #[22] }, type := 24, pos := "law.go:25", after := #[{ on := 20, ground := Go.Ground.data }, { on := 16, ground := Go.Ground.chain }, { on := 11, ground := Go.Ground.guard }], guard := some (11, false) }) rfl (fun K hK => ?_) AllReadyH.nil
      go_simp
      refine (LB.out _ b4).mono ?_
      rintro e w5 ⟨rfl, b5⟩
      refine hK.out _ _ (TA.out _ b5) (fun hHeld2 => ?_)
      clear hK K hHeld1
      try simp only [Act.put, List.setIfInBounds_toArray, List.set_cons_zero, List.set_cons_succ]
      refine wpAnyH_take (i := 22) (oi := { dst := some 50, op := Go.Op.binOp Go.BinOp.neq 24 (Go.Operand.tmp 44) (Go.Operand.tmp 49) 24, type := 4, pos := "law.go:25", after := #[{ on := 16, ground := Go.Ground.data }, { on := 21, ground := Go.Ground.data }, { on := 11, ground := Go.Ground.guard }], guard := some (11, false) }) (v := ?_) rfl (by kernel_rfl) (by kernel_rfl) (by kernel_rfl) (fun _ _ _ h => h) (Or.inl ⟨by rfl, ?_⟩) hHeld2 ?_
      rotate_left 1
      · (intro wq hSq; (try dsimp only at hSq); go_simp; first | done | with_reducible rfl)
      try simp only [Act.put, List.setIfInBounds_toArray, List.set_cons_zero, List.set_cons_succ]
      refine wpAnyH_take (i := 23) (oi := { dst := some 51, op := Go.Op.pick (Go.Operand.tmp 39) (Go.Operand.const (Go.Value.bool true)) (Go.Operand.tmp 50), type := 4, pos := "law.go:25", after := #[{ on := 11, ground := Go.Ground.data }, { on := 22, ground := Go.Ground.data }], guard := none }) (v := ?_) rfl (by kernel_rfl) (by kernel_rfl) (by kernel_rfl) (fun _ _ _ h => h) (Or.inl ⟨by rfl, ?_⟩) hHeld2 ?_
      rotate_left 1
      · (intro wq hSq; (try dsimp only at hSq); go_simp; first | done | with_reducible rfl)
      try simp only [Act.put, List.setIfInBounds_toArray, List.set_cons_zero, List.set_cons_succ]
      refine wpAnyH_done (by kernel_rfl) ?_ _
      refine NoPanic.normal ?_
      go_wp2
      go_roundw
      case rel => exact ⟨k + 1, by omega, by go_num, bl.trans (b5.mono bl.size)⟩
      case measure => simp [intOf]; omega
    · clear A5 C5 A7 C7 HCS HCB
      go_wp2_with fail
      refine (RA.out _ bw).mono ?_
      rintro e w4 ⟨rfl, b4⟩
      have b04 := bw.trans (b4.mono bw.size)
      go_wp2_with fail
      refine (RB.out _ b04).mono ?_
      rintro e w5 ⟨rfl, b5⟩
      have b05 := b04.trans (b5.mono b04.size)
      have e24 := E24.out w5
      go_wp2_with fail
      go_ret
      exact ⟨rfl, b05⟩
set_option maxRecDepth 100000 in
set_option maxHeartbeats 1000000 in
theorem roots_out (av : Option Addr) (n cp : Nat) (w : World) (hn : 4000 < n) (hcp : n ≤ 4611686018427387904) :
    Calls Tryd.prog 6 #[.slice av n cp] w fun e w' => e = .returned (.bool true) ∧ Below w.heap.size w w' := by
  go_enter Tryd.func6, Tryd.ntmps6
  go_wp2_with fail
  refine (awake2_any _).mono ?_
  rintro e w1 ⟨rfl, b1⟩
  go_wp2_with fail
  refine (awake2_any _).mono ?_
  rintro e w2 ⟨rfl, b2⟩
  go_wp2
  go_ret
  exact ⟨rfl, b1.trans (b2.mono b1.size)⟩
set_option maxRecDepth 100000 in
theorem merkleRoots_walk (v : Value) (bs : List Int) (w : World) (hL : Laid w) (hp : PartAt w v bs) (hn : bs.length ≤ 140737488351232) (hby : ∀ x ∈ bs, 0 ≤ x ∧ x ≤ 255) :
    Calls Tryd.prog 6 #[v] w fun e w' => e = .returned (.bool true) ∧ Below w.heap.size w w' := by
  by_cases h : 4000 < bs.length
  · obtain ⟨av, b, o, cp, rfl, _⟩ := hp
    exact roots_out av bs.length cp w h (by omega)
  · exact roots_in v bs w hL hp (by omega) hby
end Go.Proofs.YtffhjjgkoapioaaDoor
