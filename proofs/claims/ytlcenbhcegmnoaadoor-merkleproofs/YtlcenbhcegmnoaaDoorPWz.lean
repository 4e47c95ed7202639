import Derived.Test.YtlcenbhcegmnoaaDoorNz
import Derived.Test.YtlcenbhcegmnoaaDoorPz
namespace Go.Proofs.YtlcenbhcegmnoaaDoor
set_option linter.unusedSimpArgs false
set_option linter.unusedVariables false
open Go.RowKit
attribute [local go_sem ↓] Go.wp_at_zero Go.wp_at_succ
set_option maxRecDepth 100000 in
set_option maxHeartbeats 1000000 in
theorem root_any (v : Value) (bs : List Int) (w : World) (hL : Laid w) (hp : PartAt w v bs) (hn : bs.length ≤ 1000000000000) :
    Calls Tryd.prog 28 #[v] w fun e w' => e = .returned (.agg (vB (overH (leavesL bs)))) ∧ Below w.heap.size w w' := by
  have h2 := hL.two
  have hcl : (leavesL bs).length ≤ 1000000000000 := by unfold leavesL; rw [List.length_map, chunksL_length]; omega
  have hHs := leavesL_hashes bs
  have C : Hid (∀ w', Below w.heap.size w w' → Calls Tryd.prog 51 #[v] w' fun e w'' => ∃ v', e = .returned v' ∧ ListAt w'' v' (leavesL bs) ∧ Below w'.heap.size w' w'') := fun w' k => leaves_any v bs w' (hL.below k h2) (hp.below k) hn
  obtain ⟨HB, hHB⟩ : ∃ HB, HB = overH (leavesL bs) := ⟨_, rfl⟩
  have hlen : HB.length = 32 := by rw [hHB]; exact (overH_hash _ hHs).1
  have C2 : Hid (∀ w' x, Laid w' → ListAt w' x (leavesL bs) → Calls Tryd.prog 32 #[x] w' fun e w'' => e = .returned (.agg (vB HB)) ∧ Below w'.heap.size w' w'') := fun w' x q hx => by
    rw [hHB]; exact over_any _ x (leavesL bs) w' (Nat.le_refl _) (by omega) hHs q hx
  rw [← hHB]
  clear hHB hHs
  generalize leavesL bs = ls at *
  obtain ⟨av, _, _, cp, rfl, _⟩ := hp
  go_enter Tryd.func28, Tryd.ntmps28
  go_wp2_with fail
  have hN := OneIn.new w
  refine (C.out _ hN.1).mono ?_
  rintro e w2 ⟨x, rfl, px, b2⟩
  have n2 := hN.below b2
  have hL2 := hL.below n2.1 h2
  clear hN b2
  go_wp2_with fail
  refine (C2.out _ x hL2 px).mono ?_
  rintro e w3 ⟨rfl, b3⟩
  obtain ⟨b03, c, hc, h50⟩ := n2.below b3
  clear b3 n2
  go_wp2_with (first | (refine store24 rfl _ _ rfl _ HB rfl rfl hlen 24 c hc h50 ?_))
  exact bodyPost_ret (v := .agg (vB HB)) (results_cell_row (p := 2) (ty := 24) Tryd.results28 _ _ w.heap.size 24 _ (0, 0) _ rfl (setRow_same h50) Tryd.underlying24 rfl (by rw [vB_size, hlen]; kernel_rfl)) rfl ⟨rfl, below_setRow b03 (Nat.le_refl _) _⟩
/-- Both texts at a place, and what they are as strings. -/
def TwoAt (W : World) (p q : Addr) (x y : Value) (s : ByteArray) (w' : World) : Prop := Below W.heap.size W w' ∧ w'.cell? p = some x ∧ w'.cell? q = some y ∧ (convert 22 9 x).run Tryd.prog w' = .ok (.string s) w' ∧ (convert 22 9 y).run Tryd.prog w' = .ok (.string s) w'
theorem two_at {W w' : World} {p q : Addr} {x y : Value} {l : List Int} (hp : W.cell? p = some x) (hq : W.cell? q = some y) (hx : PartAt W x l) (hy : PartAt W y l) (k : Below W.heap.size W w') :
    Below W.heap.size W w' ∧ w'.cell? p = some x ∧ w'.cell? q = some y ∧ (convert 22 9 x).run Tryd.prog w' = .ok (.string (strOfNums l)) w' ∧ (convert 22 9 y).run Tryd.prog w' = .ok (.string (strOfNums l)) w' :=
  ⟨k, by rw [k.cell (block_lt_of_cell hp)]; exact hp, by rw [k.cell (block_lt_of_cell hq)]; exact hq, run_conv (hx.below k), run_conv (hy.below k)⟩
theorem kept_drew {B : Nat} {w w' : World} (h : Below B w w') : Below B w w'.drew := ⟨h.os, h.tape, h.output, h.size, h.block⟩
set_option maxRecDepth 100000 in
set_option maxHeartbeats 2000000 in
theorem roots_in (v : Value) (bs : List Int) (w : World) (hL : Laid w) (hp : PartAt w v bs) (hn : bs.length ≤ 4000) (hby : Bytes bs) :
    Calls Tryd.prog 6 #[v] w fun e w' => e = .returned (.bool true) ∧ Below w.heap.size w w' := by
  have h2 := hL.two
  have hcl : (chunksL bs).length ≤ 200 := by rw [chunksL_length]; omega
  have hcs := chunksL_small bs
  have hcb := chunksL_bytes bs hby
  obtain ⟨R, hR⟩ : ∃ R, R = overH (leavesL bs) := ⟨_, rfl⟩
  have hRl : R.length = 32 := by rw [hR]; exact (overH_hash _ (leavesL_hashes bs)).1
  have CA : Hid (∀ w', Below w.heap.size w w' → Calls Tryd.prog 24 #[v] w' fun e w'' => ∃ v', e = .returned v' ∧ PartsAt w'' v' (chunksL bs) ∧ Below w'.heap.size w' w'') := fun w' k => chunks_any v bs w' (hp.below k) (by omega)
  have CB : Hid (∀ w', Below w.heap.size w w' → Calls Tryd.prog 25 #[v] w' fun e w'' => ∃ v', e = .returned v' ∧ PartsAt w'' v' (chunksL bs) ∧ Below w'.heap.size w' w'') := fun w' k => rchunks_any v bs w' (by have := k.size; omega) (hp.below k) (by omega)
  have RA : Hid (∀ w', Below w.heap.size w w' → Calls Tryd.prog 28 #[v] w' fun e w'' => e = .returned (.agg (vB R)) ∧ Below w'.heap.size w' w'') := fun w' k => by rw [hR]; exact root_any v bs w' (hL.below k h2) (hp.below k) (by omega)
  have RB : Hid (∀ w', Below w.heap.size w w' → Calls Tryd.prog 29 #[v] w' fun e w'' => e = .returned (.agg (vB R)) ∧ Below w'.heap.size w' w'') := fun w' k => by rw [hR]; exact rroot_any v bs w' (by have := k.size; omega) (hp.below k) (by omega) hby
  have E24 : Hid (∀ w' : World, (Op.equalIn 10000 24 (.agg (vB R)) (.agg (vB R))).run Tryd.prog w' = .ok true w') := fun w' => eq24_self 9998 R hRl w'
  clear hR hby
  generalize chunksL bs = ls at *
  have HCS : Hid (∀ l ∈ ls, l.length ≤ 32) := hcs
  have HCB : Hid (∀ l ∈ ls, Bytes l) := hcb
  clear hcs hcb
  obtain ⟨av0, _, _, cp0, rfl, _⟩ := hp
  go_enter Tryd.func6, Tryd.ntmps6
  go_wp2_with fail
  refine (awake2_any _).mono ?_
  rintro e w1 ⟨rfl, b1⟩
  go_wp2_with fail
  refine (CA.out _ b1).mono ?_
  rintro e w2 ⟨va, rfl, pa2, b2⟩
  have b02 := b1.trans (b2.mono b1.size)
  go_wp2_with fail
  refine (CB.out _ b02).mono ?_
  rintro e w3 ⟨vc, rfl, pc3, b3⟩
  have b03 := b02.trans (b3.mono b02.size)
  have pa3 := pa2.below b3
  obtain ⟨ava, ba, oa, cpa, vsa, rfl, a1, a2, a3, a4, a5, a6, a7⟩ := pa3
  obtain ⟨avc, bc, oc, cpc, vsc, rfl, c1, c2, c3, c4, c5, c6, c7⟩ := pc3
  have A5 : Hid (w3.rangeAt ba oa vsa) := a5
  have C5 : Hid (w3.rangeAt bc oc vsc) := c5
  have A7 : Hid (∀ (i : Nat) (x : Value) (l : List Int), vsa[i]? = some x → ls[i]? = some l → PartAt w3 x l) := a7
  have C7 : Hid (∀ (i : Nat) (x : Value) (l : List Int), vsc[i]? = some x → ls[i]? = some l → PartAt w3 x l) := c7
  clear a5 a7 c5 c7 pa2 CA CB
  go_wp2_with fail
  go_loopw [25] (fun i wr => ∃ k : Nat, k ≤ ls.length ∧ i = .int .i64 k ∧ Below w3.heap.size w3 wr) (fun i _ => ls.length - (intOf i).toNat)
  case atStart => exact ⟨0, by omega, rfl, Below.refl _ _⟩
  case round =>
    obtain ⟨k, hk, rfl, bl⟩ := hrel
    have bw := b03.trans (bl.mono b03.size)
    by_cases hlt : k < ls.length
    · obtain rfl := a3 (by omega)
      obtain rfl := c3 (by omega)
      obtain ⟨x, hx⟩ : ∃ x, vsa[k]? = some x := ⟨vsa[k], List.getElem?_eq_getElem (by omega)⟩
      obtain ⟨y, hy⟩ : ∃ y, vsc[k]? = some y := ⟨vsc[k], List.getElem?_eq_getElem (by omega)⟩
      obtain ⟨l, hlk⟩ : ∃ l, ls[k]? = some l := ⟨ls[k], List.getElem?_eq_getElem hlt⟩
      have hmem := List.mem_of_getElem? hlk
      have hl32 := HCS.out l hmem
      have hlb := HCB.out l hmem
      have px := (A7.out k x l hx hlk).below bl
      have py := (C7.out k y l hy hlk).below bl
      have qx : wr.cell? ⟨ba, oa + k, none⟩ = some x := by rw [bl.cell (show ba < w3.heap.size from a6)]; exact A5.out k x hx
      have qy : wr.cell? ⟨bc, oc + k, none⟩ = some y := by rw [bl.cell (show bc < w3.heap.size from c6)]; exact C5.out k y hy
      obtain ⟨H, hH⟩ : ∃ H, H = leafH l := ⟨_, rfl⟩
      have hHl : H.length = 32 := by rw [hH]; exact leafH_length l
      have LA : Hid (∀ w', Below wr.heap.size wr w' → Calls Tryd.prog 26 #[x] w' fun e w'' => e = .returned (.agg (vB H)) ∧ Below wr.heap.size wr w'') := fun w' q => by
        rw [hH]
        exact (leaf_any x l w' (hL.below (bw.trans (q.mono bw.size)) h2) (px.below q) (by omega)).mono (fun e w5 h => ⟨h.1, q.trans (h.2.mono q.size)⟩)
      have LB : Hid (∀ w', Below wr.heap.size wr w' → Calls Tryd.prog 27 #[x] w' fun e w'' => e = .returned (.agg (vB H)) ∧ Below wr.heap.size wr w'') := fun w' q => by
        rw [hH]
        exact (rleaf_any x l w' (by have := q.size; have := bw.size; omega) (px.below q) (by omega) hlb).mono (fun e w5 h => ⟨h.1, q.trans (h.2.mono q.size)⟩)
      have TA : Hid (∀ w', Below wr.heap.size wr w' → Below wr.heap.size wr w' ∧ w'.cell? ⟨ba, oa + k, none⟩ = some x ∧ w'.cell? ⟨bc, oc + k, none⟩ = some y ∧ (convert 22 9 x).run Tryd.prog w' = .ok (.string (strOfNums l)) w' ∧ (convert 22 9 y).run Tryd.prog w' = .ok (.string (strOfNums l)) w') := fun w' q => two_at qx qy px py q
      have e24 : ∀ w' : World, (Op.equalIn 10000 24 (.agg (vB H)) (.agg (vB H))).run Tryd.prog w' = .ok true w' := fun w' => eq24_self 9998 H hHl w'
      generalize strOfNums l = s at *
      have j1 : (0 : Int) ≤ (k : Int) := by omega
      have j2 : (k : Int) < (ls.length : Int) := by omega
      obtain ⟨avx, _, _, cpx, hxv, _⟩ := px
      obtain ⟨avy, _, _, cpy, hyv, _⟩ := py
      subst hxv hyv
      clear hH hlb hmem hx hy hlk qx qy A5 C5 A7 C7 HCS HCB RA RB E24
      go_wp2
      have hS := TA.out _ (kept_drew (Below.refl wr.heap.size wr))
      refine wp_region_noPanic ?_
      refine wp_region_held_drew (S := fun w' => Below wr.heap.size wr w' ∧ w'.cell? ⟨ba, oa + k, none⟩ = some (Value.slice avx l.length cpx) ∧ w'.cell? ⟨bc, oc + k, none⟩ = some (Value.slice avy l.length cpy) ∧ (convert 22 9 (Value.slice avx l.length cpx)).run Tryd.prog w' = .ok (.string s) w' ∧ (convert 22 9 (Value.slice avy l.length cpy)).run Tryd.prog w' = .ok (.string s) w') (by kernel_rfl) (hS) (fun hHeld => ?_)
      try simp only [Act.put, List.setIfInBounds_toArray, List.set_cons_zero, List.set_cons_succ]
      refine wpAnyH_take (i := 0) (oi := { dst := some 28, op := Go.Op.move (Go.Operand.tmp 3), type := 29, pos := "law.go:25", after := #[], guard := none }) (v := ?_) rfl (by kernel_rfl) (by kernel_rfl) (by kernel_rfl) (fun _ _ _ h => h) (Or.inl ⟨by rfl, ?_⟩) hHeld ?_
      rotate_left 1
      · (intro wq hSq; (try dsimp only at hSq); go_simp; first | done | with_reducible rfl)
      try simp only [Act.put, List.setIfInBounds_toArray, List.set_cons_zero, List.set_cons_succ]
      refine wpAnyH_take (i := 1) (oi := { dst := some 29, op := Go.Op.move (Go.Operand.tmp 5), type := 3, pos := "law.go:25", after := #[], guard := none }) (v := ?_) rfl (by kernel_rfl) (by kernel_rfl) (by kernel_rfl) (fun _ _ _ h => h) (Or.inl ⟨by rfl, ?_⟩) hHeld ?_
      rotate_left 1
      · (intro wq hSq; (try dsimp only at hSq); go_simp; first | done | with_reducible rfl)
      try simp only [Act.put, List.setIfInBounds_toArray, List.set_cons_zero, List.set_cons_succ]
      refine wpAnyH_take (i := 2) (oi := { dst := some 30, op := Go.Op.indexAddr 29 (Go.Operand.tmp 28) (Go.Operand.tmp 29), type := 0, pos := "law.go:25", after := #[{ on := 0, ground := Go.Ground.data }, { on := 1, ground := Go.Ground.data }], guard := none }) (v := ?_) rfl (by kernel_rfl) (by kernel_rfl) (by kernel_rfl) (fun _ _ _ h => h) (Or.inl ⟨by rfl, ?_⟩) hHeld ?_
      rotate_left 1
      · (intro wq hSq; (try dsimp only at hSq); go_simp; first | done | with_reducible rfl)
      try simp only [Act.put, List.setIfInBounds_toArray, List.set_cons_zero, List.set_cons_succ]
      refine wpAnyH_take (i := 3) (oi := { dst := some 31, op := Go.Op.load 22 (Go.Operand.tmp 30), type := 22, pos := "law.go:25", after := #[{ on := 2, ground := Go.Ground.data }], guard := none }) (v := ?_) rfl (by kernel_rfl) (by kernel_rfl) (by kernel_rfl) (fun _ _ _ h => h) (Or.inl ⟨by rfl, ?_⟩) hHeld ?_
      rotate_left 1
      · (intro wq hSq; (try dsimp only at hSq); go_simp; first | done | with_reducible rfl)
      try simp only [Act.put, List.setIfInBounds_toArray, List.set_cons_zero, List.set_cons_succ]
      refine wpAnyH_take (i := 4) (oi := { dst := some 32, op := Go.Op.convert 22 9 (Go.Operand.tmp 31), type := 9, pos := "law.go:25", after := #[{ on := 3, ground := Go.Ground.data }], guard := none }) (v := ?_) rfl (by kernel_rfl) (by kernel_rfl) (by kernel_rfl) (fun _ _ _ h => h) (Or.inl ⟨by rfl, ?_⟩) hHeld ?_
      rotate_left 1
      · (intro wq hSq; (try dsimp only at hSq); go_simp; first | done | with_reducible rfl)
      try simp only [Act.put, List.setIfInBounds_toArray, List.set_cons_zero, List.set_cons_succ]
      refine wpAnyH_take (i := 5) (oi := { dst := some 33, op := Go.Op.move (Go.Operand.tmp 4), type := 29, pos := "law.go:25", after := #[], guard := none }) (v := ?_) rfl (by kernel_rfl) (by kernel_rfl) (by kernel_rfl) (fun _ _ _ h => h) (Or.inl ⟨by rfl, ?_⟩) hHeld ?_
      rotate_left 1
      · (intro wq hSq; (try dsimp only at hSq); go_simp; first | done | with_reducible rfl)
      try simp only [Act.put, List.setIfInBounds_toArray, List.set_cons_zero, List.set_cons_succ]
      refine wpAnyH_take (i := 6) (oi := { dst := some 34, op := Go.Op.move (Go.Operand.tmp 5), type := 3, pos := "law.go:25", after := #[], guard := none }) (v := ?_) rfl (by kernel_rfl) (by kernel_rfl) (by kernel_rfl) (fun _ _ _ h => h) (Or.inl ⟨by rfl, ?_⟩) hHeld ?_
      rotate_left 1
      · (intro wq hSq; (try dsimp only at hSq); go_simp; first | done | with_reducible rfl)
      try simp only [Act.put, List.setIfInBounds_toArray, List.set_cons_zero, List.set_cons_succ]
      refine wpAnyH_take (i := 7) (oi := { dst := some 35, op := Go.Op.indexAddr 29 (Go.Operand.tmp 33) (Go.Operand.tmp 34), type := 0, pos := "law.go:25", after := #[{ on := 5, ground := Go.Ground.data }, { on := 6, ground := Go.Ground.data }], guard := none }) (v := ?_) rfl (by kernel_rfl) (by kernel_rfl) (by kernel_rfl) (fun _ _ _ h => h) (Or.inl ⟨by rfl, ?_⟩) hHeld ?_
      rotate_left 1
      · (intro wq hSq; (try dsimp only at hSq); go_simp; first | done | with_reducible rfl)
      try simp only [Act.put, List.setIfInBounds_toArray, List.set_cons_zero, List.set_cons_succ]
      refine wpAnyH_take (i := 8) (oi := { dst := some 36, op := Go.Op.load 22 (Go.Operand.tmp 35), type := 22, pos := "law.go:25", after := #[{ on := 7, ground := Go.Ground.data }], guard := none }) (v := ?_) rfl (by kernel_rfl) (by kernel_rfl) (by kernel_rfl) (fun _ _ _ h => h) (Or.inl ⟨by rfl, ?_⟩) hHeld ?_
      rotate_left 1
      · (intro wq hSq; (try dsimp only at hSq); go_simp; first | done | with_reducible rfl)
      try simp only [Act.put, List.setIfInBounds_toArray, List.set_cons_zero, List.set_cons_succ]
      refine wpAnyH_take (i := 9) (oi := { dst := some 37, op := Go.Op.convert 22 9 (Go.Operand.tmp 36), type := 9, pos := "law.go:25", after := #[{ on := 8, ground := Go.Ground.data }], guard := none }) (v := ?_) rfl (by kernel_rfl) (by kernel_rfl) (by kernel_rfl) (fun _ _ _ h => h) (Or.inl ⟨by rfl, ?_⟩) hHeld ?_
      rotate_left 1
      · (intro wq hSq; (try dsimp only at hSq); go_simp; first | done | with_reducible rfl)
      try simp only [Act.put, List.setIfInBounds_toArray, List.set_cons_zero, List.set_cons_succ]
      refine wpAnyH_take (i := 10) (oi := { dst := some 38, op := Go.Op.binOp Go.BinOp.neq 9 (Go.Operand.tmp 32) (Go.Operand.tmp 37) 9, type := 4, pos := "law.go:25", after := #[{ on := 4, ground := Go.Ground.data }, { on := 9, ground := Go.Ground.data }], guard := none }) (v := ?_) rfl (by kernel_rfl) (by kernel_rfl) (by kernel_rfl) (fun _ _ _ h => h) (Or.inl ⟨by rfl, ?_⟩) hHeld ?_
      rotate_left 1
      · (intro wq hSq; (try dsimp only at hSq); go_simp; first | done | with_reducible rfl)
      try simp only [Act.put, List.setIfInBounds_toArray, List.set_cons_zero, List.set_cons_succ]
      refine wpAnyH_take (i := 11) (oi := { dst := some 39, op := Go.Op.move (Go.Operand.tmp 38), type := 4, pos := "law.go:25", after := #[{ on := 10, ground := Go.Ground.data }], guard := none }) (v := ?_) rfl (by kernel_rfl) (by kernel_rfl) (by kernel_rfl) (fun _ _ _ h => h) (Or.inl ⟨by rfl, ?_⟩) hHeld ?_
      rotate_left 1
      · (intro wq hSq; (try dsimp only at hSq); go_simp; first | done | with_reducible rfl)
      try simp only [Act.put, List.setIfInBounds_toArray, List.set_cons_zero, List.set_cons_succ]
      refine wpAnyH_take (i := 12) (oi := { dst := some 40, op := Go.Op.move (Go.Operand.tmp 3), type := 29, pos := "law.go:25", after := #[{ on := 11, ground := Go.Ground.guard }], guard := some (11, false) }) (v := ?_) rfl (by kernel_rfl) (by kernel_rfl) (by kernel_rfl) (fun _ _ _ h => h) (Or.inl ⟨by rfl, ?_⟩) hHeld ?_
      rotate_left 1
      · (intro wq hSq; (try dsimp only at hSq); go_simp; first | done | with_reducible rfl)
      try simp only [Act.put, List.setIfInBounds_toArray, List.set_cons_zero, List.set_cons_succ]
      refine wpAnyH_take (i := 13) (oi := { dst := some 41, op := Go.Op.move (Go.Operand.tmp 5), type := 3, pos := "law.go:25", after := #[{ on := 11, ground := Go.Ground.guard }], guard := some (11, false) }) (v := ?_) rfl (by kernel_rfl) (by kernel_rfl) (by kernel_rfl) (fun _ _ _ h => h) (Or.inl ⟨by rfl, ?_⟩) hHeld ?_
      rotate_left 1
      · (intro wq hSq; (try dsimp only at hSq); go_simp; first | done | with_reducible rfl)
      try simp only [Act.put, List.setIfInBounds_toArray, List.set_cons_zero, List.set_cons_succ]
      refine wpAnyH_take (i := 14) (oi := { dst := some 42, op := Go.Op.indexAddr 29 (Go.Operand.tmp 40) (Go.Operand.tmp 41), type := 0, pos := "law.go:25", after := #[{ on := 12, ground := Go.Ground.data }, { on := 13, ground := Go.Ground.data }, { on := 11, ground := Go.Ground.guard }], guard := some (11, false) }) (v := ?_) rfl (by kernel_rfl) (by kernel_rfl) (by kernel_rfl) (fun _ _ _ h => h) (Or.inl ⟨by rfl, ?_⟩) hHeld ?_
      rotate_left 1
      · (intro wq hSq; (try dsimp only at hSq); go_simp; first | done | with_reducible rfl)
      try simp only [Act.put, List.setIfInBounds_toArray, List.set_cons_zero, List.set_cons_succ]
      refine wpAnyH_take (i := 15) (oi := { dst := some 43, op := Go.Op.load 22 (Go.Operand.tmp 42), type := 22, pos := "law.go:25", after := #[{ on := 14, ground := Go.Ground.data }, { on := 11, ground := Go.Ground.guard }], guard := some (11, false) }) (v := ?_) rfl (by kernel_rfl) (by kernel_rfl) (by kernel_rfl) (fun _ _ _ h => h) (Or.inl ⟨by rfl, ?_⟩) hHeld ?_
      rotate_left 1
      · (intro wq hSq; (try dsimp only at hSq); go_simp; first | done | with_reducible rfl)
      try simp only [Act.put, List.setIfInBounds_toArray, List.set_cons_zero, List.set_cons_succ]
      refine wpAnyH_take (i := 17) (oi := { dst := some 45, op := Go.Op.move (Go.Operand.tmp 3), type := 29, pos := "law.go:25", after := #[{ on := 11, ground := Go.Ground.guard }], guard := some (11, false) }) (v := ?_) rfl (by kernel_rfl) (by kernel_rfl) (by kernel_rfl) (fun _ _ _ h => h) (Or.inl ⟨by rfl, ?_⟩) hHeld ?_
      rotate_left 1
      · (intro wq hSq; (try dsimp only at hSq); go_simp; first | done | with_reducible rfl)
      try simp only [Act.put, List.setIfInBounds_toArray, List.set_cons_zero, List.set_cons_succ]
      refine wpAnyH_take (i := 18) (oi := { dst := some 46, op := Go.Op.move (Go.Operand.tmp 5), type := 3, pos := "law.go:25", after := #[{ on := 11, ground := Go.Ground.guard }], guard := some (11, false) }) (v := ?_) rfl (by kernel_rfl) (by kernel_rfl) (by kernel_rfl) (fun _ _ _ h => h) (Or.inl ⟨by rfl, ?_⟩) hHeld ?_
      rotate_left 1
      · (intro wq hSq; (try dsimp only at hSq); go_simp; first | done | with_reducible rfl)
      try simp only [Act.put, List.setIfInBounds_toArray, List.set_cons_zero, List.set_cons_succ]
      refine wpAnyH_take (i := 19) (oi := { dst := some 47, op := Go.Op.indexAddr 29 (Go.Operand.tmp 45) (Go.Operand.tmp 46), type := 0, pos := "law.go:25", after := #[{ on := 17, ground := Go.Ground.data }, { on := 18, ground := Go.Ground.data }, { on := 11, ground := Go.Ground.guard }], guard := some (11, false) }) (v := ?_) rfl (by kernel_rfl) (by kernel_rfl) (by kernel_rfl) (fun _ _ _ h => h) (Or.inl ⟨by rfl, ?_⟩) hHeld ?_
      rotate_left 1
      · (intro wq hSq; (try dsimp only at hSq); go_simp; first | done | with_reducible rfl)
      try simp only [Act.put, List.setIfInBounds_toArray, List.set_cons_zero, List.set_cons_succ]
      refine wpAnyH_take (i := 20) (oi := { dst := some 48, op := Go.Op.load 22 (Go.Operand.tmp 47), type := 22, pos := "law.go:25", after := #[{ on := 19, ground := Go.Ground.data }, { on := 11, ground := Go.Ground.guard }], guard := some (11, false) }) (v := ?_) rfl (by kernel_rfl) (by kernel_rfl) (by kernel_rfl) (fun _ _ _ h => h) (Or.inl ⟨by rfl, ?_⟩) hHeld ?_
      rotate_left 1
      · (intro wq hSq; (try dsimp only at hSq); go_simp; first | done | with_reducible rfl)
      try simp only [Act.put, List.setIfInBounds_toArray, List.set_cons_zero, List.set_cons_succ]
      refine wpAnyH_ready (rs := [16]) (by kernel_rfl) (by simp) ?_
      refine AllReadyH.cons (o := { dst := some 44, op := Go.Op.call { callee := Go.Callee.value (Go.Operand.func 26), args := #[Go.Operand.tmp 43], argTypes := #[22] }, type := 24, pos := "law.go:25", after := #[{ on := 15, ground := Go.Ground.data }, { on := 11, ground := Go.Ground.chain }, { on := 11, ground := Go.Ground.guard }], guard := some (11, false) }) rfl (fun K hK => ?_) AllReadyH.nil
      go_simp
      refine (LA.out _ (kept_drew (Below.refl wr.heap.size wr))).mono ?_
      rintro e w4 ⟨rfl, b4⟩
      refine hK.out _ _ (TA.out _ b4) (fun hHeld1 => ?_)
      clear hK K hHeld
      try simp only [Act.put, List.setIfInBounds_toArray, List.set_cons_zero, List.set_cons_succ]
      refine wpAnyH_ready (rs := [21]) (by kernel_rfl) (by simp) ?_
      refine AllReadyH.cons (o := { dst := some 49, op := Go.Op.call { callee := Go.Callee.value (Go.Operand.func 27), args := #[Go.Operand.tmp 48], argTypes := #[22] }, type := 24, pos := "law.go:25", after := #[{ on := 20, ground := Go.Ground.data }, { on := 16, ground := Go.Ground.chain }, { on := 11, ground := Go.Ground.guard }], guard := some (11, false) }) rfl (fun K hK => ?_) AllReadyH.nil
      go_simp
      refine (LB.out _ b4).mono ?_
      rintro e w5 ⟨rfl, b5⟩
      refine hK.out _ _ (TA.out _ b5) (fun hHeld2 => ?_)
      clear hK K hHeld1
      try simp only [Act.put, List.setIfInBounds_toArray, List.set_cons_zero, List.set_cons_succ]
      refine wpAnyH_take (i := 22) (oi := { dst := some 50, op := Go.Op.binOp Go.BinOp.neq 24 (Go.Operand.tmp 44) (Go.Operand.tmp 49) 24, type := 4, pos := "law.go:25", after := #[{ on := 16, ground := Go.Ground.data }, { on := 21, ground := Go.Ground.data }, { on := 11, ground := Go.Ground.guard }], guard := some (11, false) }) (v := ?_) rfl (by kernel_rfl) (by kernel_rfl) (by kernel_rfl) (fun _ _ _ h => h) (Or.inl ⟨by rfl, ?_⟩) hHeld2 ?_
      rotate_left 1
      · (intro wq hSq; (try dsimp only at hSq); go_simp; first | done | with_reducible rfl)
      try simp only [Act.put, List.setIfInBounds_toArray, List.set_cons_zero, List.set_cons_succ]
      refine wpAnyH_take (i := 23) (oi := { dst := some 51, op := Go.Op.pick (Go.Operand.tmp 39) (Go.Operand.const (Go.Value.bool true)) (Go.Operand.tmp 50), type := 4, pos := "law.go:25", after := #[{ on := 11, ground := Go.Ground.data }, { on := 22, ground := Go.Ground.data }], guard := none }) (v := ?_) rfl (by kernel_rfl) (by kernel_rfl) (by kernel_rfl) (fun _ _ _ h => h) (Or.inl ⟨by rfl, ?_⟩) hHeld2 ?_
      rotate_left 1
      · (intro wq hSq; (try dsimp only at hSq); go_simp; first | done | with_reducible rfl)
      try simp only [Act.put, List.setIfInBounds_toArray, List.set_cons_zero, List.set_cons_succ]
      refine wpAnyH_done (by kernel_rfl) ?_ _
      refine NoPanic.normal ?_
      go_wp2
      go_roundw
      case rel => exact ⟨k + 1, by omega, by go_num, bl.trans (b5.mono bl.size)⟩
      case measure => simp [intOf]; omega
    · clear A5 C5 A7 C7 HCS HCB
      go_wp2_with fail
      refine (RA.out _ bw).mono ?_
      rintro e w4 ⟨rfl, b4⟩
      have b04 := bw.trans (b4.mono bw.size)
      go_wp2_with fail
      refine (RB.out _ b04).mono ?_
      rintro e w5 ⟨rfl, b5⟩
      have b05 := b04.trans (b5.mono b04.size)
      have e24 := E24.out w5
      go_wp2_with fail
      go_ret
      exact ⟨rfl, b05⟩
set_option maxRecDepth 100000 in
set_option maxHeartbeats 1000000 in
theorem roots_out (av : Option Addr) (n cp : Nat) (w : World) (hn : 4000 < n) (hcp : n ≤ 4611686018427387904) :
    Calls Tryd.prog 6 #[.slice av n cp] w fun e w' => e = .returned (.bool true) ∧ Below w.heap.size w w' := by
  go_enter Tryd.func6, Tryd.ntmps6
  go_wp2_with fail
  refine (awake2_any _).mono ?_
  rintro e w1 ⟨rfl, b1⟩
  go_wp2_with fail
  refine (awake2_any _).mono ?_
  rintro e w2 ⟨rfl, b2⟩
  go_wp2
  go_ret
  exact ⟨rfl, b1.trans (b2.mono b1.size)⟩
theorem merkleRoots_walk (v : Value) (bs : List Int) (w : World) (hL : Laid w) (hp : PartAt w v bs) (hn : bs.length ≤ 140737488351232) (hby : ∀ x ∈ bs, 0 ≤ x ∧ x ≤ 255) :
    Calls Tryd.prog 6 #[v] w fun e w' => e = .returned (.bool true) ∧ Below w.heap.size w w' := by
  by_cases h : 4000 < bs.length
  · obtain ⟨av, b, o, cp, rfl, _⟩ := hp
    exact roots_out av bs.length cp w h (by omega)
  · exact roots_in v bs w hL hp (by omega) hby
end Go.Proofs.YtlcenbhcegmnoaaDoor
namespace Go.Proofs.YtlcenbhcegmnoaaDoor
set_option linter.unusedSimpArgs false
set_option linter.unusedVariables false
open Go.RowKit
attribute [local go_sem ↓] Go.wp_at_zero Go.wp_at_succ
set_option maxRecDepth 100000 in
set_option maxHeartbeats 600000 in
theorem proof_out (v : Value) (bs : List Int) (i : Int) (w : World) (hp : PartAt w v bs) (hn : bs.length ≤ 30000) (hi : i < 0 ∨ (leavesL bs).length ≤ i) :
    Calls Tryd.prog 34 #[v, .int .i64 i] w fun e w' => e = .returned (.tuple #[.slice none 0 0, .int .i64 1]) ∧ w' = w := by
  have hl := leavesL_length bs
  obtain ⟨av, _, _, cp, rfl, _⟩ := hp
  have C0 : Hid (∀ w' : World, Calls Tryd.prog 49 #[.slice av bs.length cp] w' fun e w'' => e = .returned (.int .i64 (leavesL bs).length) ∧ w'' = w') := fun w' => by rw [hl]; exact count_any av bs.length cp (by omega) w'
  generalize (leavesL bs).length = n at *
  clear hl
  by_cases hneg : i < 0
  · go_enter Tryd.func34, Tryd.ntmps34
    go_wp2
    go_ret2
    exact ⟨rfl, rfl⟩
  · have i2 : (n : Int) ≤ i := by omega
    go_enter Tryd.func34, Tryd.ntmps34
    go_wp2_with (first | (go_at_call 49; refine (C0.out _).mono ?_; rintro e w' ⟨rfl, hw'⟩; have hw'' := hw'.symm; clear hw'; subst hw''))
    go_ret2
    exact ⟨rfl, rfl⟩
set_option maxRecDepth 100000 in
set_option maxHeartbeats 1000000 in
theorem proofs_in (av : Option Addr) (N cp i : Nat) (P ls : List (List Int)) (c R : List Int) (w : World) (hN : N ≤ 2000) (hi : i < ls.length) (hls : ls.length ≤ 1000) (hci : ls[i]? = some c) (hP : Hashes P) (hPl : P.length ≤ 1000)
    (K0 : ∀ w', Below w.heap.size w w' → Calls Tryd.prog 34 #[.slice av N cp, .int .i64 i] w' fun e w'' => ∃ u, e = .returned (.tuple #[u, .int .i64 0]) ∧ ListAt w'' u P ∧ Below w'.heap.size w' w'')
    (K1 : ∀ w', Below w.heap.size w w' → Calls Tryd.prog 35 #[.slice av N cp, .int .i64 i] w' fun e w'' => ∃ u, e = .returned (.tuple #[u, .int .i64 0]) ∧ ListAt w'' u P ∧ Below w'.heap.size w' w'')
    (K2 : ∀ w', Below w.heap.size w w' → Calls Tryd.prog 24 #[.slice av N cp] w' fun e w'' => ∃ u, e = .returned u ∧ PartsAt w'' u ls ∧ Below w'.heap.size w' w'')
    (K3 : ∀ w' : World, Calls Tryd.prog 36 #[.int .i64 ls.length, .int .i64 i] w' fun e w'' => e = .returned (.int .i64 P.length) ∧ w'' = w')
    (K4 : ∀ w', Below w.heap.size w w' → Calls Tryd.prog 28 #[.slice av N cp] w' fun e w'' => e = .returned (.agg (vB R)) ∧ Below w'.heap.size w' w'')
    (K5 : ∀ w' x u, Below w.heap.size w w' → PartAt w' x c → ListAt w' u P → Calls Tryd.prog 37 #[.agg (vB R), .int .i64 ls.length, .int .i64 i, x, u] w' fun e w'' => e = .returned (.bool true) ∧ Below w'.heap.size w' w'') :
    Calls Tryd.prog 8 #[.slice av N cp, .int .i64 i] w fun e w' => e = .returned (.bool true) ∧ Below w.heap.size w w' := by
  have C0 : Hid (∀ w', Below w.heap.size w w' → Calls Tryd.prog 34 #[.slice av N cp, .int .i64 i] w' fun e w'' => ∃ u, e = .returned (.tuple #[u, .int .i64 0]) ∧ ListAt w'' u P ∧ Below w'.heap.size w' w'') := K0
  have C1 : Hid (∀ w', Below w.heap.size w w' → Calls Tryd.prog 35 #[.slice av N cp, .int .i64 i] w' fun e w'' => ∃ u, e = .returned (.tuple #[u, .int .i64 0]) ∧ ListAt w'' u P ∧ Below w'.heap.size w' w'') := K1
  have C2 : Hid (∀ w', Below w.heap.size w w' → Calls Tryd.prog 24 #[.slice av N cp] w' fun e w'' => ∃ u, e = .returned u ∧ PartsAt w'' u ls ∧ Below w'.heap.size w' w'') := K2
  have C3 : Hid (∀ w' : World, Calls Tryd.prog 36 #[.int .i64 ls.length, .int .i64 i] w' fun e w'' => e = .returned (.int .i64 P.length) ∧ w'' = w') := K3
  have C4 : Hid (∀ w', Below w.heap.size w w' → Calls Tryd.prog 28 #[.slice av N cp] w' fun e w'' => e = .returned (.agg (vB R)) ∧ Below w'.heap.size w' w'') := K4
  have C5 : Hid (∀ w' x u, Below w.heap.size w w' → PartAt w' x c → ListAt w' u P → Calls Tryd.prog 37 #[.agg (vB R), .int .i64 ls.length, .int .i64 i, x, u] w' fun e w'' => e = .returned (.bool true) ∧ Below w'.heap.size w' w'') := K5
  have HP : Hid (Hashes P) := hP
  clear K0 K1 K2 K3 K4 K5 hP
  have j0 : ¬ (2000 : Int) < (N : Int) := by omega
  go_enter Tryd.func8, Tryd.ntmps8
  go_wp2_with fail
  refine (awake2_any _).mono ?_
  rintro e w1 ⟨rfl, b1⟩
  go_wp2_with fail
  refine (C0.out _ b1).mono ?_
  rintro e w2 ⟨u1, rfl, p1, b2⟩
  have b02 := b1.trans (b2.mono b1.size)
  obtain ⟨P1, hP1⟩ : ∃ x, x = u1 := ⟨_, rfl⟩
  have Q1 : Hid (ListAt w2 u1 P) := p1
  obtain ⟨ava, ba, oa, cpa, rfl, a1, a2, a3, a4, a5, _⟩ := p1
  go_wp2_with fail
  refine (C1.out _ b02).mono ?_
  rintro e w3 ⟨u2, rfl, p2, b3⟩
  have b03 := b02.trans (b3.mono b02.size)
  obtain ⟨avb, bb, ob, cpb, rfl, c1, c2, c3, c4, c5, _⟩ := p2
  have A4 : Hid (w3.rangeAt ba oa (vB P.flatten).toList) := range_below a4 b3 a5
  have a6 : ba < w3.heap.size := Nat.lt_of_lt_of_le a5 b3.size
  have B4 : Hid (w3.rangeAt bb ob (vB P.flatten).toList) := c4
  have Q3 : Hid (ListAt w3 (.slice ava P.length cpa) P) := Q1.out.below b3
  clear a4 c4 Q1 hP1 C0 C1
  go_wp2_with fail
  go_loopw [43] (fun ti wr => ∃ k : Nat, k ≤ P.length ∧ ti = .int .i64 k ∧ Below w3.heap.size w3 wr) (fun ti _ => P.length - (intOf ti).toNat)
  case atStart => exact ⟨0, by omega, rfl, Below.refl _ _⟩
  case round =>
    obtain ⟨k, hk, rfl, bl⟩ := hrel
    have bw := b03.trans (bl.mono b03.size)
    by_cases hlt : k < P.length
    · obtain rfl := a3 (by omega)
      obtain rfl := c3 (by omega)
      have hT := (hash_at HP.out k hlt).1
      have HX : Hid (wr.rangeAt ba (oa + k * 32) (List.map (Value.int .u8) (P[k]?.getD []))) := range_below (range_at A4.out HP.out k hlt) bl a6
      have HY : Hid (wr.rangeAt bb (ob + k * 32) (List.map (Value.int .u8) (P[k]?.getD []))) := range_below (range_at B4.out HP.out k hlt) bl c5
      generalize P[k]?.getD [] = T at *
      have e24 : ∀ w' : World, (Op.equalIn 10000 24 (.agg (List.map (Value.int .u8) T).toArray) (.agg (List.map (Value.int .u8) T).toArray)).run Tryd.prog w' = .ok true w' := fun w' => eq24_self 9998 T hT w'
      have hcl : (List.map (Value.int .u8) T).length = 32 := by simpa using hT
      have hi24 : (Tryd.prog.info? 24).map (·.size) = some (List.map (Value.int .u8) T).length := by rw [hcl]; kernel_rfl
      have j1 : (0 : Int) ≤ (k : Int) := by omega
      have j2 : (k : Int) < (P.length : Int) := by omega
      have hS : wr.drew.rangeAt ba (oa + k * 32) (List.map (Value.int .u8) T) ∧ wr.drew.rangeAt bb (ob + k * 32) (List.map (Value.int .u8) T) := ⟨HX.out, HY.out⟩
      clear a3 c3
      go_wp2
      refine wp_region_noPanic ?_
      refine wp_region_held_drew (S := fun w' => w'.rangeAt ba (oa + k * 32) (List.map (Value.int .u8) T) ∧ w'.rangeAt bb (ob + k * 32) (List.map (Value.int .u8) T)) (by kernel_rfl) (hS) (fun hHeld => ?_)
      try simp only [Act.put, List.setIfInBounds_toArray, List.set_cons_zero, List.set_cons_succ]
      refine wpAnyH_take (i := 0) (oi := { dst := some 46, op := Go.Op.move (Go.Operand.tmp 5), type := 44, pos := "law.go:56", after := #[], guard := none }) (v := ?_) rfl (by kernel_rfl) (by kernel_rfl) (by kernel_rfl) (fun _ _ _ h => h) (Or.inl ⟨by rfl, ?_⟩) hHeld ?_
      rotate_left 1
      · (intro wq hSq; (try dsimp only at hSq); go_simp; first | done | with_reducible rfl)
      try simp only [Act.put, List.setIfInBounds_toArray, List.set_cons_zero, List.set_cons_succ]
      refine wpAnyH_take (i := 1) (oi := { dst := some 47, op := Go.Op.move (Go.Operand.tmp 9), type := 3, pos := "law.go:56", after := #[], guard := none }) (v := ?_) rfl (by kernel_rfl) (by kernel_rfl) (by kernel_rfl) (fun _ _ _ h => h) (Or.inl ⟨by rfl, ?_⟩) hHeld ?_
      rotate_left 1
      · (intro wq hSq; (try dsimp only at hSq); go_simp; first | done | with_reducible rfl)
      try simp only [Act.put, List.setIfInBounds_toArray, List.set_cons_zero, List.set_cons_succ]
      refine wpAnyH_take (i := 2) (oi := { dst := some 48, op := Go.Op.indexAddr 44 (Go.Operand.tmp 46) (Go.Operand.tmp 47), type := 0, pos := "law.go:56", after := #[{ on := 0, ground := Go.Ground.data }, { on := 1, ground := Go.Ground.data }], guard := none }) (v := ?_) rfl (by kernel_rfl) (by kernel_rfl) (by kernel_rfl) (fun _ _ _ h => h) (Or.inl ⟨by rfl, ?_⟩) hHeld ?_
      rotate_left 1
      · (intro wq hSq; (try dsimp only at hSq); go_simp; first | done | with_reducible rfl)
      try simp only [Act.put, List.setIfInBounds_toArray, List.set_cons_zero, List.set_cons_succ]
      refine wpAnyH_take (i := 3) (oi := { dst := some 49, op := Go.Op.load 24 (Go.Operand.tmp 48), type := 24, pos := "law.go:56", after := #[{ on := 2, ground := Go.Ground.data }], guard := none }) (v := .agg (List.toArray (List.map (Value.int .u8) T))) rfl (by kernel_rfl) (by kernel_rfl) (by kernel_rfl) (fun _ _ _ h => h) (yieldsIf_load_mid (by rfl) _ _ rfl (ba) (oa + k * 32) rfl (List.map (Value.int .u8) T) _ (fun _ h => h.1) Tryd.underlying24 rfl (hi24)) hHeld ?_
      try simp only [Act.put, List.setIfInBounds_toArray, List.set_cons_zero, List.set_cons_succ]
      refine wpAnyH_take (i := 4) (oi := { dst := some 50, op := Go.Op.move (Go.Operand.tmp 7), type := 44, pos := "law.go:56", after := #[], guard := none }) (v := ?_) rfl (by kernel_rfl) (by kernel_rfl) (by kernel_rfl) (fun _ _ _ h => h) (Or.inl ⟨by rfl, ?_⟩) hHeld ?_
      rotate_left 1
      · (intro wq hSq; (try dsimp only at hSq); go_simp; first | done | with_reducible rfl)
      try simp only [Act.put, List.setIfInBounds_toArray, List.set_cons_zero, List.set_cons_succ]
      refine wpAnyH_take (i := 5) (oi := { dst := some 51, op := Go.Op.move (Go.Operand.tmp 9), type := 3, pos := "law.go:56", after := #[], guard := none }) (v := ?_) rfl (by kernel_rfl) (by kernel_rfl) (by kernel_rfl) (fun _ _ _ h => h) (Or.inl ⟨by rfl, ?_⟩) hHeld ?_
      rotate_left 1
      · (intro wq hSq; (try dsimp only at hSq); go_simp; first | done | with_reducible rfl)
      try simp only [Act.put, List.setIfInBounds_toArray, List.set_cons_zero, List.set_cons_succ]
      refine wpAnyH_take (i := 6) (oi := { dst := some 52, op := Go.Op.indexAddr 44 (Go.Operand.tmp 50) (Go.Operand.tmp 51), type := 0, pos := "law.go:56", after := #[{ on := 4, ground := Go.Ground.data }, { on := 5, ground := Go.Ground.data }], guard := none }) (v := ?_) rfl (by kernel_rfl) (by kernel_rfl) (by kernel_rfl) (fun _ _ _ h => h) (Or.inl ⟨by rfl, ?_⟩) hHeld ?_
      rotate_left 1
      · (intro wq hSq; (try dsimp only at hSq); go_simp; first | done | with_reducible rfl)
      try simp only [Act.put, List.setIfInBounds_toArray, List.set_cons_zero, List.set_cons_succ]
      refine wpAnyH_take (i := 7) (oi := { dst := some 53, op := Go.Op.load 24 (Go.Operand.tmp 52), type := 24, pos := "law.go:56", after := #[{ on := 6, ground := Go.Ground.data }], guard := none }) (v := .agg (List.toArray (List.map (Value.int .u8) T))) rfl (by kernel_rfl) (by kernel_rfl) (by kernel_rfl) (fun _ _ _ h => h) (yieldsIf_load_mid (by rfl) _ _ rfl (bb) (ob + k * 32) rfl (List.map (Value.int .u8) T) _ (fun _ h => h.2) Tryd.underlying24 rfl (hi24)) hHeld ?_
      try simp only [Act.put, List.setIfInBounds_toArray, List.set_cons_zero, List.set_cons_succ]
      refine wpAnyH_take (i := 8) (oi := { dst := some 54, op := Go.Op.binOp Go.BinOp.neq 24 (Go.Operand.tmp 49) (Go.Operand.tmp 53) 24, type := 4, pos := "law.go:56", after := #[{ on := 3, ground := Go.Ground.data }, { on := 7, ground := Go.Ground.data }], guard := none }) (v := ?_) rfl (by kernel_rfl) (by kernel_rfl) (by kernel_rfl) (fun _ _ _ h => h) (Or.inl ⟨by rfl, ?_⟩) hHeld ?_
      rotate_left 1
      · (intro wq hSq; (try dsimp only at hSq); go_simp; first | done | with_reducible rfl)
      try simp only [Act.put, List.setIfInBounds_toArray, List.set_cons_zero, List.set_cons_succ]
      refine wpAnyH_done (by kernel_rfl) ?_ _
      refine NoPanic.normal ?_
      go_wp2
      go_roundw
      case rel => exact ⟨k + 1, by omega, by go_num, kept_drew bl⟩
      case measure => simp [intOf]; omega
    · clear A4 B4
      go_wp2_with fail
      refine (C2.out _ bw).mono ?_
      rintro e w4 ⟨u4, rfl, p4, b4⟩
      have b04 := bw.trans (b4.mono bw.size)
      obtain ⟨avc, bc, oc, cpc, vs, rfl, d1, d2, d3, d4, d5, d6, d7⟩ := p4
      obtain rfl := d3 (by omega)
      obtain ⟨x, hx⟩ : ∃ x, vs[i]? = some x := ⟨vs[i], List.getElem?_eq_getElem (by omega)⟩
      have PX : Hid (PartAt w4 x c) := d7 i x c hx hci
      have Q4 : Hid (ListAt w4 (.slice ava P.length cpa) P) := (Q3.out.below bl).below b4
      have qx : w4.cell? ⟨bc, oc + i, none⟩ = some x := d5 i x hx
      have ST : Hid (∀ w', Below w4.heap.size w4 w' → Below w4.heap.size w4 w' ∧ w'.cell? ⟨bc, oc + i, none⟩ = some x) := fun w' q => ⟨q, by rw [q.cell (show bc < w4.heap.size from d6)]; exact qx⟩
      have D4 : Hid (∀ w', Below w4.heap.size w4 w' → Calls Tryd.prog 28 #[.slice av N cp] w' fun e w'' => e = .returned (.agg (vB R)) ∧ Below w4.heap.size w4 w'') := fun w' q => (C4.out w' (b04.trans (q.mono b04.size))).mono (fun e w5 h => ⟨h.1, q.trans (h.2.mono q.size)⟩)
      have D5 : Hid (∀ w', Below w4.heap.size w4 w' → Calls Tryd.prog 37 #[.agg (vB R), .int .i64 ls.length, .int .i64 i, x, .slice ava P.length cpa] w' fun e w'' => e = .returned (.bool true) ∧ Below w4.heap.size w4 w'') := fun w' q => (C5.out w' x _ (b04.trans (q.mono b04.size)) (PX.out.below q) (Q4.out.below q)).mono (fun e w5 h => ⟨h.1, q.trans (h.2.mono q.size)⟩)
      have px := PX.out
      obtain ⟨avx, _, _, cpx, hxv, _⟩ := px
      subst hxv
      have j1 : (0 : Int) ≤ (i : Int) := by omega
      have j2 : (i : Int) < (ls.length : Int) := by omega
      clear qx d5 d7 hx PX Q4 Q3 C2 C4 C5 d3 hci
      go_wp2
      have hS := ST.out _ (kept_drew (Below.refl w4.heap.size w4))
      refine wp_region_noPanic ?_
      refine wp_region_held_drew (S := fun w' => Below w4.heap.size w4 w' ∧ w'.cell? ⟨bc, oc + i, none⟩ = some (Value.slice avx c.length cpx)) (by kernel_rfl) (hS) (fun hHeld => ?_)
      try simp only [Act.put, List.setIfInBounds_toArray, List.set_cons_zero, List.set_cons_succ]
      refine wpAnyH_take (i := 0) (oi := { dst := some 72, op := Go.Op.move (Go.Operand.tmp 5), type := 44, pos := "law.go:64", after := #[], guard := none }) (v := ?_) rfl (by kernel_rfl) (by kernel_rfl) (by kernel_rfl) (fun _ _ _ h => h) (Or.inl ⟨by rfl, ?_⟩) hHeld ?_
      rotate_left 1
      · (intro wq hSq; (try dsimp only at hSq); go_simp; first | done | with_reducible rfl)
      try simp only [Act.put, List.setIfInBounds_toArray, List.set_cons_zero, List.set_cons_succ]
      refine wpAnyH_take (i := 1) (oi := { dst := some 73, op := Go.Op.call { callee := Go.Callee.builtin Go.Builtin.len, args := #[Go.Operand.tmp 72], argTypes := #[44] }, type := 3, pos := "law.go:64", after := #[{ on := 0, ground := Go.Ground.data }], guard := none }) (v := ?_) rfl (by kernel_rfl) (by kernel_rfl) (by kernel_rfl) (fun _ _ _ h => h) (Or.inl ⟨by rfl, ?_⟩) hHeld ?_
      rotate_left 1
      · (intro wq hSq; (try dsimp only at hSq); go_simp; first | done | with_reducible rfl)
      try simp only [Act.put, List.setIfInBounds_toArray, List.set_cons_zero, List.set_cons_succ]
      refine wpAnyH_take (i := 2) (oi := { dst := some 74, op := Go.Op.move (Go.Operand.tmp 10), type := 29, pos := "law.go:64", after := #[], guard := none }) (v := ?_) rfl (by kernel_rfl) (by kernel_rfl) (by kernel_rfl) (fun _ _ _ h => h) (Or.inl ⟨by rfl, ?_⟩) hHeld ?_
      rotate_left 1
      · (intro wq hSq; (try dsimp only at hSq); go_simp; first | done | with_reducible rfl)
      try simp only [Act.put, List.setIfInBounds_toArray, List.set_cons_zero, List.set_cons_succ]
      refine wpAnyH_take (i := 3) (oi := { dst := some 75, op := Go.Op.call { callee := Go.Callee.builtin Go.Builtin.len, args := #[Go.Operand.tmp 74], argTypes := #[29] }, type := 3, pos := "law.go:64", after := #[{ on := 2, ground := Go.Ground.data }], guard := none }) (v := ?_) rfl (by kernel_rfl) (by kernel_rfl) (by kernel_rfl) (fun _ _ _ h => h) (Or.inl ⟨by rfl, ?_⟩) hHeld ?_
      rotate_left 1
      · (intro wq hSq; (try dsimp only at hSq); go_simp; first | done | with_reducible rfl)
      try simp only [Act.put, List.setIfInBounds_toArray, List.set_cons_zero, List.set_cons_succ]
      refine wpAnyH_take (i := 4) (oi := { dst := some 76, op := Go.Op.move (Go.Operand.tmp 1), type := 3, pos := "law.go:64", after := #[], guard := none }) (v := ?_) rfl (by kernel_rfl) (by kernel_rfl) (by kernel_rfl) (fun _ _ _ h => h) (Or.inl ⟨by rfl, ?_⟩) hHeld ?_
      rotate_left 1
      · (intro wq hSq; (try dsimp only at hSq); go_simp; first | done | with_reducible rfl)
      try simp only [Act.put, List.setIfInBounds_toArray, List.set_cons_zero, List.set_cons_succ]
      refine wpAnyH_ready (rs := [5]) (by kernel_rfl) (by simp) ?_
      refine AllReadyH.cons (o := { dst := some 77, op := Go.Op.call { callee := Go.Callee.value (Go.Operand.func 36), args := #[Go.Operand.tmp 75, Go.Operand.tmp 76], argTypes := #[3, 3] }, type := 3, pos := "law.go:64", after := #[{ on := 3, ground := Go.Ground.data }, { on := 4, ground := Go.Ground.data }], guard := none }) rfl (fun K hK => ?_) AllReadyH.nil
      go_simp
      refine (C3.out _).mono ?_
      rintro e w' ⟨rfl, hw'⟩; have hw'' := hw'.symm; clear hw'; subst hw''
      refine hK.out _ _ (hS) (fun hHeld1 => ?_)
      clear hK K hHeld
      try simp only [Act.put, List.setIfInBounds_toArray, List.set_cons_zero, List.set_cons_succ]
      refine wpAnyH_take (i := 6) (oi := { dst := some 78, op := Go.Op.binOp Go.BinOp.eql 3 (Go.Operand.tmp 73) (Go.Operand.tmp 77) 3, type := 4, pos := "law.go:64", after := #[{ on := 1, ground := Go.Ground.data }, { on := 5, ground := Go.Ground.data }], guard := none }) (v := ?_) rfl (by kernel_rfl) (by kernel_rfl) (by kernel_rfl) (fun _ _ _ h => h) (Or.inl ⟨by rfl, ?_⟩) hHeld1 ?_
      rotate_left 1
      · (intro wq hSq; (try dsimp only at hSq); go_simp; first | done | with_reducible rfl)
      try simp only [Act.put, List.setIfInBounds_toArray, List.set_cons_zero, List.set_cons_succ]
      refine wpAnyH_take (i := 7) (oi := { dst := some 79, op := Go.Op.move (Go.Operand.tmp 78), type := 4, pos := "law.go:64", after := #[{ on := 6, ground := Go.Ground.data }, { on := 5, ground := Go.Ground.chain }], guard := none }) (v := ?_) rfl (by kernel_rfl) (by kernel_rfl) (by kernel_rfl) (fun _ _ _ h => h) (Or.inl ⟨by rfl, ?_⟩) hHeld1 ?_
      rotate_left 1
      · (intro wq hSq; (try dsimp only at hSq); go_simp; first | done | with_reducible rfl)
      try simp only [Act.put, List.setIfInBounds_toArray, List.set_cons_zero, List.set_cons_succ]
      refine wpAnyH_take (i := 8) (oi := { dst := some 80, op := Go.Op.move (Go.Operand.tmp 0), type := 22, pos := "law.go:64", after := #[{ on := 7, ground := Go.Ground.guard }], guard := some (7, true) }) (v := ?_) rfl (by kernel_rfl) (by kernel_rfl) (by kernel_rfl) (fun _ _ _ h => h) (Or.inl ⟨by rfl, ?_⟩) hHeld1 ?_
      rotate_left 1
      · (intro wq hSq; (try dsimp only at hSq); go_simp; first | done | with_reducible rfl)
      try simp only [Act.put, List.setIfInBounds_toArray, List.set_cons_zero, List.set_cons_succ]
      refine wpAnyH_take (i := 10) (oi := { dst := some 82, op := Go.Op.move (Go.Operand.tmp 10), type := 29, pos := "law.go:64", after := #[{ on := 7, ground := Go.Ground.guard }], guard := some (7, true) }) (v := ?_) rfl (by kernel_rfl) (by kernel_rfl) (by kernel_rfl) (fun _ _ _ h => h) (Or.inl ⟨by rfl, ?_⟩) hHeld1 ?_
      rotate_left 1
      · (intro wq hSq; (try dsimp only at hSq); go_simp; first | done | with_reducible rfl)
      try simp only [Act.put, List.setIfInBounds_toArray, List.set_cons_zero, List.set_cons_succ]
      refine wpAnyH_take (i := 11) (oi := { dst := some 83, op := Go.Op.call { callee := Go.Callee.builtin Go.Builtin.len, args := #[Go.Operand.tmp 82], argTypes := #[29] }, type := 3, pos := "law.go:64", after := #[{ on := 10, ground := Go.Ground.data }, { on := 7, ground := Go.Ground.guard }], guard := some (7, true) }) (v := ?_) rfl (by kernel_rfl) (by kernel_rfl) (by kernel_rfl) (fun _ _ _ h => h) (Or.inl ⟨by rfl, ?_⟩) hHeld1 ?_
      rotate_left 1
      · (intro wq hSq; (try dsimp only at hSq); go_simp; first | done | with_reducible rfl)
      try simp only [Act.put, List.setIfInBounds_toArray, List.set_cons_zero, List.set_cons_succ]
      refine wpAnyH_take (i := 12) (oi := { dst := some 84, op := Go.Op.move (Go.Operand.tmp 1), type := 3, pos := "law.go:64", after := #[{ on := 7, ground := Go.Ground.guard }], guard := some (7, true) }) (v := ?_) rfl (by kernel_rfl) (by kernel_rfl) (by kernel_rfl) (fun _ _ _ h => h) (Or.inl ⟨by rfl, ?_⟩) hHeld1 ?_
      rotate_left 1
      · (intro wq hSq; (try dsimp only at hSq); go_simp; first | done | with_reducible rfl)
      try simp only [Act.put, List.setIfInBounds_toArray, List.set_cons_zero, List.set_cons_succ]
      refine wpAnyH_take (i := 13) (oi := { dst := some 85, op := Go.Op.move (Go.Operand.tmp 10), type := 29, pos := "law.go:64", after := #[{ on := 7, ground := Go.Ground.guard }], guard := some (7, true) }) (v := ?_) rfl (by kernel_rfl) (by kernel_rfl) (by kernel_rfl) (fun _ _ _ h => h) (Or.inl ⟨by rfl, ?_⟩) hHeld1 ?_
      rotate_left 1
      · (intro wq hSq; (try dsimp only at hSq); go_simp; first | done | with_reducible rfl)
      try simp only [Act.put, List.setIfInBounds_toArray, List.set_cons_zero, List.set_cons_succ]
      refine wpAnyH_take (i := 14) (oi := { dst := some 86, op := Go.Op.move (Go.Operand.tmp 1), type := 3, pos := "law.go:64", after := #[{ on := 7, ground := Go.Ground.guard }], guard := some (7, true) }) (v := ?_) rfl (by kernel_rfl) (by kernel_rfl) (by kernel_rfl) (fun _ _ _ h => h) (Or.inl ⟨by rfl, ?_⟩) hHeld1 ?_
      rotate_left 1
      · (intro wq hSq; (try dsimp only at hSq); go_simp; first | done | with_reducible rfl)
      try simp only [Act.put, List.setIfInBounds_toArray, List.set_cons_zero, List.set_cons_succ]
      refine wpAnyH_take (i := 15) (oi := { dst := some 87, op := Go.Op.indexAddr 29 (Go.Operand.tmp 85) (Go.Operand.tmp 86), type := 0, pos := "law.go:64", after := #[{ on := 13, ground := Go.Ground.data }, { on := 14, ground := Go.Ground.data }, { on := 7, ground := Go.Ground.guard }], guard := some (7, true) }) (v := ?_) rfl (by kernel_rfl) (by kernel_rfl) (by kernel_rfl) (fun _ _ _ h => h) (Or.inl ⟨by rfl, ?_⟩) hHeld1 ?_
      rotate_left 1
      · (intro wq hSq; (try dsimp only at hSq); go_simp; first | done | with_reducible rfl)
      try simp only [Act.put, List.setIfInBounds_toArray, List.set_cons_zero, List.set_cons_succ]
      refine wpAnyH_take (i := 16) (oi := { dst := some 88, op := Go.Op.load 22 (Go.Operand.tmp 87), type := 22, pos := "law.go:64", after := #[{ on := 15, ground := Go.Ground.data }, { on := 7, ground := Go.Ground.guard }], guard := some (7, true) }) (v := ?_) rfl (by kernel_rfl) (by kernel_rfl) (by kernel_rfl) (fun _ _ _ h => h) (Or.inl ⟨by rfl, ?_⟩) hHeld1 ?_
      rotate_left 1
      · (intro wq hSq; (try dsimp only at hSq); go_simp; first | done | with_reducible rfl)
      try simp only [Act.put, List.setIfInBounds_toArray, List.set_cons_zero, List.set_cons_succ]
      refine wpAnyH_take (i := 17) (oi := { dst := some 89, op := Go.Op.move (Go.Operand.tmp 5), type := 44, pos := "law.go:64", after := #[{ on := 7, ground := Go.Ground.guard }], guard := some (7, true) }) (v := ?_) rfl (by kernel_rfl) (by kernel_rfl) (by kernel_rfl) (fun _ _ _ h => h) (Or.inl ⟨by rfl, ?_⟩) hHeld1 ?_
      rotate_left 1
      · (intro wq hSq; (try dsimp only at hSq); go_simp; first | done | with_reducible rfl)
      try simp only [Act.put, List.setIfInBounds_toArray, List.set_cons_zero, List.set_cons_succ]
      refine wpAnyH_ready (rs := [9]) (by kernel_rfl) (by simp) ?_
      refine AllReadyH.cons (o := { dst := some 81, op := Go.Op.call { callee := Go.Callee.value (Go.Operand.func 28), args := #[Go.Operand.tmp 80], argTypes := #[22] }, type := 24, pos := "law.go:64", after := #[{ on := 8, ground := Go.Ground.data }, { on := 7, ground := Go.Ground.chain }, { on := 7, ground := Go.Ground.guard }], guard := some (7, true) }) rfl (fun K hK => ?_) AllReadyH.nil
      go_simp
      refine (D4.out _ hS.1).mono ?_
      rintro e w5 ⟨rfl, b5⟩
      refine hK.out _ _ (ST.out _ b5) (fun hHeld2 => ?_)
      clear hK K hHeld1
      try simp only [Act.put, List.setIfInBounds_toArray, List.set_cons_zero, List.set_cons_succ]
      refine wpAnyH_ready (rs := [18]) (by kernel_rfl) (by simp) ?_
      refine AllReadyH.cons (o := { dst := some 90, op := Go.Op.call { callee := Go.Callee.value (Go.Operand.func 37), args := #[Go.Operand.tmp 81, Go.Operand.tmp 83, Go.Operand.tmp 84, Go.Operand.tmp 88, Go.Operand.tmp 89], argTypes := #[24, 3, 3, 22, 44] }, type := 4, pos := "law.go:64", after := #[{ on := 9, ground := Go.Ground.data }, { on := 11, ground := Go.Ground.data }, { on := 12, ground := Go.Ground.data }, { on := 16, ground := Go.Ground.data }, { on := 17, ground := Go.Ground.data }, { on := 9, ground := Go.Ground.chain }, { on := 7, ground := Go.Ground.guard }], guard := some (7, true) }) rfl (fun K hK => ?_) AllReadyH.nil
      go_simp
      refine (D5.out _ b5).mono ?_
      rintro e w6 ⟨rfl, b6⟩
      refine hK.out _ _ (ST.out _ b6) (fun hHeld3 => ?_)
      clear hK K hHeld2
      try simp only [Act.put, List.setIfInBounds_toArray, List.set_cons_zero, List.set_cons_succ]
      refine wpAnyH_take (i := 19) (oi := { dst := some 91, op := Go.Op.pick (Go.Operand.tmp 79) (Go.Operand.tmp 90) (Go.Operand.const (Go.Value.bool false)), type := 4, pos := "law.go:64", after := #[{ on := 7, ground := Go.Ground.data }, { on := 18, ground := Go.Ground.data }], guard := none }) (v := ?_) rfl (by kernel_rfl) (by kernel_rfl) (by kernel_rfl) (fun _ _ _ h => h) (Or.inl ⟨by rfl, ?_⟩) hHeld3 ?_
      rotate_left 1
      · (intro wq hSq; (try dsimp only at hSq); go_simp; first | done | with_reducible rfl)
      try simp only [Act.put, List.setIfInBounds_toArray, List.set_cons_zero, List.set_cons_succ]
      refine wpAnyH_take (i := 20) (oi := { dst := some 4, op := Go.Op.assign (Go.Operand.tmp 91), type := 4, pos := "law.go:64", after := #[{ on := 19, ground := Go.Ground.data }, { on := 18, ground := Go.Ground.chain }, { on := 0, ground := Go.Ground.phase }, { on := 1, ground := Go.Ground.phase }, { on := 2, ground := Go.Ground.phase }, { on := 3, ground := Go.Ground.phase }, { on := 4, ground := Go.Ground.phase }, { on := 5, ground := Go.Ground.phase }, { on := 6, ground := Go.Ground.phase }, { on := 7, ground := Go.Ground.phase }, { on := 8, ground := Go.Ground.phase }, { on := 9, ground := Go.Ground.phase }, { on := 10, ground := Go.Ground.phase }, { on := 11, ground := Go.Ground.phase }, { on := 12, ground := Go.Ground.phase }, { on := 13, ground := Go.Ground.phase }, { on := 14, ground := Go.Ground.phase }, { on := 15, ground := Go.Ground.phase }, { on := 16, ground := Go.Ground.phase }, { on := 17, ground := Go.Ground.phase }, { on := 18, ground := Go.Ground.phase }, { on := 19, ground := Go.Ground.phase }], guard := none }) (v := ?_) rfl (by kernel_rfl) (by kernel_rfl) (by kernel_rfl) (fun _ _ _ h => h) (Or.inl ⟨by rfl, ?_⟩) hHeld3 ?_
      rotate_left 1
      · (intro wq hSq; (try dsimp only at hSq); go_simp; first | done | with_reducible rfl)
      try simp only [Act.put, List.setIfInBounds_toArray, List.set_cons_zero, List.set_cons_succ]
      refine wpAnyH_done (by kernel_rfl) ?_ _
      refine NoPanic.normal ?_
      go_wp2
      go_ret
      exact ⟨rfl, b04.trans (b6.mono b04.size)⟩
set_option maxRecDepth 100000 in
set_option maxHeartbeats 1000000 in
theorem proofs_out (av : Option Addr) (N cp : Nat) (i : Int) (ls : List (List Int)) (w : World) (hN : N ≤ 2000) (hi : i < 0 ∨ ls.length ≤ i)
    (K0 : ∀ w' : World, Below w.heap.size w w' → Calls Tryd.prog 34 #[.slice av N cp, .int .i64 i] w' fun e w'' => e = .returned (.tuple #[.slice none 0 0, .int .i64 1]) ∧ w'' = w')
    (K1 : ∀ w', Below w.heap.size w w' → Calls Tryd.prog 35 #[.slice av N cp, .int .i64 i] w' fun e w'' => e = .returned (.tuple #[.slice none 0 0, .int .i64 1]) ∧ Below w'.heap.size w' w'')
    (K2 : ∀ w', Below w.heap.size w w' → Calls Tryd.prog 24 #[.slice av N cp] w' fun e w'' => ∃ u, e = .returned u ∧ PartsAt w'' u ls ∧ Below w'.heap.size w' w'') :
    Calls Tryd.prog 8 #[.slice av N cp, .int .i64 i] w fun e w' => e = .returned (.bool true) ∧ Below w.heap.size w w' := by
  have C0 : Hid (∀ w' : World, Below w.heap.size w w' → Calls Tryd.prog 34 #[.slice av N cp, .int .i64 i] w' fun e w'' => e = .returned (.tuple #[.slice none 0 0, .int .i64 1]) ∧ w'' = w') := K0
  have C1 : Hid (∀ w', Below w.heap.size w w' → Calls Tryd.prog 35 #[.slice av N cp, .int .i64 i] w' fun e w'' => e = .returned (.tuple #[.slice none 0 0, .int .i64 1]) ∧ Below w'.heap.size w' w'') := K1
  have C2 : Hid (∀ w', Below w.heap.size w w' → Calls Tryd.prog 24 #[.slice av N cp] w' fun e w'' => ∃ u, e = .returned u ∧ PartsAt w'' u ls ∧ Below w'.heap.size w' w'') := K2
  clear K0 K1 K2
  have j0 : ¬ (2000 : Int) < (N : Int) := by omega
  go_enter Tryd.func8, Tryd.ntmps8
  go_wp2_with fail
  refine (awake2_any _).mono ?_
  rintro e w1 ⟨rfl, b1⟩
  go_wp2_with fail
  refine (C0.out _ b1).mono ?_
  rintro e w2 ⟨rfl, hw2⟩
  have hw2' := hw2.symm
  subst hw2'
  go_wp2_with fail
  refine (C1.out _ b1).mono ?_
  rintro e w3 ⟨rfl, b3⟩
  have b03 := b1.trans (b3.mono b1.size)
  go_wp2_with fail
  go_loopw [43] (fun ti wr => ti = .int .i64 0 ∧ Below w3.heap.size w3 wr) (fun _ _ => 0)
  case atStart => exact ⟨rfl, Below.refl _ _⟩
  case round =>
    obtain ⟨rfl, bl⟩ := hrel
    have bw := b03.trans (bl.mono b03.size)
    go_wp2_with fail
    refine (C2.out _ bw).mono ?_
    rintro e w4 ⟨u4, rfl, p4, b4⟩
    have b04 := bw.trans (b4.mono bw.size)
    obtain ⟨avc, bc, oc, cpc, vs, rfl, _⟩ := p4
    by_cases hneg : i < 0
    · go_wp2
      go_ret
      exact ⟨by simp [hneg], b04⟩
    · have i2 : (ls.length : Int) ≤ i := by omega
      go_wp2
      go_ret
      exact ⟨by simp [i2], b04⟩
set_option maxRecDepth 100000 in
set_option maxHeartbeats 1000000 in
theorem proofs_big (av : Option Addr) (n cp : Nat) (i : Int) (w : World) (hn : 2000 < n) (hcp : n ≤ 4611686018427387904) :
    Calls Tryd.prog 8 #[.slice av n cp, .int .i64 i] w fun e w' => e = .returned (.bool true) ∧ Below w.heap.size w w' := by
  go_enter Tryd.func8, Tryd.ntmps8
  go_wp2_with fail
  refine (awake2_any _).mono ?_
  rintro e w1 ⟨rfl, b1⟩
  go_wp2_with fail
  refine (awake2_any _).mono ?_
  rintro e w2 ⟨rfl, b2⟩
  go_wp2
  go_ret
  exact ⟨rfl, b1.trans (b2.mono b1.size)⟩
theorem depthI_in (n I : Nat) (h : I < n) (hn : n ≤ 1073741824) : depthI n I = ((depthN n I : Nat) : Int) := by
  unfold depthI
  rw [if_neg (by omega)]
  simp
theorem chkB_way (R c : List Int) (n I d : Nat) (pr : List (List Int)) (h1 : depthI n I = (d : Int)) (h2 : pr.length = d) (h3 : leadD d (leafH c) n I pr = R) : chkB R n I c pr = true := by
  unfold chkB
  rw [h1, h2, decide_eq_true rfl, Bool.true_and]
  refine decide_eq_true ?_
  simpa using h3
set_option maxHeartbeats 1000000 in
theorem merkleProofs_walk (v : Value) (bs : List Int) (i : Int) (w : World) (hL : Laid w) (hp : PartAt w v bs) (hn : bs.length ≤ 140737488351232) (hby : Bytes bs) :
    Calls Tryd.prog 8 #[v, .int .i64 i] w fun e w' => e = .returned (.bool true) ∧ Below w.heap.size w w' := by
  have h2 := hL.two
  have hp0 := hp
  obtain ⟨av, b, o, cp, rfl, _⟩ := hp
  by_cases h : 2000 < bs.length
  · exact proofs_big av bs.length cp i w h (by omega)
  · have hl := leavesL_length bs
    have hcl := chunksL_length bs
    have hle : (leavesL bs).length = (chunksL bs).length := by omega
    have K2 : ∀ w', Below w.heap.size w w' → Calls Tryd.prog 24 #[.slice av bs.length cp] w' fun e w'' => ∃ u, e = .returned u ∧ PartsAt w'' u (chunksL bs) ∧ Below w'.heap.size w' w'' := fun w' k => chunks_any _ bs w' (hp0.below k) (by omega)
    by_cases ho : i < 0 ∨ ((leavesL bs).length : Int) ≤ i
    · exact proofs_out av bs.length cp i (chunksL bs) w (by omega) (by rw [← hle]; exact ho) (fun w' k => proof_out _ bs i w' (hp0.below k) (by omega) ho) (fun w' k => rproof_out _ bs i w' (by have := k.size; omega) (hp0.below k) (by omega) hby ho) K2
    · obtain ⟨I, rfl⟩ : ∃ I : Nat, i = I := ⟨i.toNat, by omega⟩
      have hI : I < (leavesL bs).length := by omega
      have hd := depthN_small _ (leavesL bs).length I (Nat.le_refl _)
      have hpl := pathD_length (depthN (leavesL bs).length I) (leavesL bs) I
      have hPH := pathD_hashes (depthN (leavesL bs).length I) (leavesL bs) I (leavesL_hashes bs)
      obtain ⟨c, hc⟩ : ∃ c, (chunksL bs)[I]? = some c := ⟨(chunksL bs)[I]'(by omega), List.getElem?_eq_getElem (by omega)⟩
      have hlc : (leavesL bs)[I]?.getD [] = leafH c := by unfold leavesL; rw [List.getElem?_map, hc, Option.map_some, Option.getD_some]
      have hcs := chunksL_small bs c (List.mem_of_getElem? hc)
      have hdI : depthI (chunksL bs).length I = ((depthN (leavesL bs).length I : Nat) : Int) := by rw [← hle]; exact depthI_in _ I hI (by omega)
      have hlead := lead_path _ (leavesL bs) I rfl hI
      rw [hlc] at hlead
      clear hlc
      refine proofs_in av bs.length cp I (pathD (depthN (leavesL bs).length I) (leavesL bs) I) (chunksL bs) c (overH (leavesL bs)) w (by omega) (by omega) (by omega) hc hPH (by omega) (fun w' k => proof_in _ bs I w' (hL.below k h2) (hp0.below k) (by omega) hI) (fun w' k => ?_) K2 (fun w' => ?_) (fun w' k => root_any _ bs w' (hL.below k h2) (hp0.below k) (by omega)) (fun w' x u k px pu => ?_)
      · refine (rproof_in _ bs I w' (by have := k.size; omega) (hp0.below k) (by omega) hby hI).mono ?_
        rintro e w5 ⟨u, rfl, h1, h3⟩
        exact ⟨u, rfl, h1.list (by have := h3.size; have := k.size; omega), h3⟩
      · have := depth_any (chunksL bs).length I w'
        rw [hdI] at this
        rw [hpl]
        exact this
      · have := check_any (overH (leavesL bs)) (chunksL bs).length I x u c _ w' (overH_hash _ (leavesL_hashes bs)).1 (hL.below k h2) px (by omega) pu hPH (by omega)
        rw [chkB_way _ c (chunksL bs).length I _ _ hdI hpl (by rw [← hle]; exact hlead)] at this
        exact this
end Go.Proofs.YtlcenbhcegmnoaaDoor
