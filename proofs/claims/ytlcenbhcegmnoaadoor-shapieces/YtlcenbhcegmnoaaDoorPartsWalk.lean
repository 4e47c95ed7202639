import Derived.Test.YtlcenbhcegmnoaaDoorMd
namespace Go.Proofs.YtlcenbhcegmnoaaDoor
set_option linter.unusedSimpArgs false
set_option linter.unusedVariables false
open Go.RowKit
attribute [local go_sem ↓] Go.wp_at_zero Go.wp_at_succ
theorem eq24_same (l : List Int) (hl : l.length = 32) : ∀ w' : World, (Op.equalIn 10000 24 (.agg (vB l)) (.agg (List.map (Value.int .u8) l).toArray)).run Tryd.prog w' = .ok true w' := fun w' => eq24_self 9998 l hl w'
theorem keep_drew {B : Nat} {w w' : World} (h : Below B w w') : Below B w w'.drew := ⟨h.os, h.tape, h.output, h.size, h.block⟩
theorem keep_of {w w' : World} {b o : Nat} {cs : List Value} (h : w.rangeAt b o cs) (hb : b < w.heap.size) (k : Below w.heap.size w w') : Below w.heap.size w w' ∧ w'.rangeAt b o cs := ⟨k, range_below h k hb⟩
theorem range_three' {w : World} {x y z : Value} {t : TypeId} : (w.alloc (Obj.cells #[x, y, z] t)).rangeAt w.heap.size 0 [x, y, z] := fun j v hv => by
  rw [Nat.zero_add]
  rw [cell_of_row _ _ j _ t (0, 0) (heap_alloc_new _ _)]; simpa using hv
/-- Join, and Of, of three parts in a row of their own. -/
theorem join_three (x y z : Value) (a b c : List Int) (w : World) (h0 : 0 < w.heap.size) (ha : PartAt w x a) (hb : PartAt w y b) (hc : PartAt w z c) (hn : a.length + b.length + c.length ≤ 140737488355328) :
    Calls Tryd.prog 15 #[.slice (some ⟨w.heap.size, 0, none⟩) 3 3] (w.alloc (Obj.cells #[x, y, z] 22)) fun e w' => ∃ v, e = .returned v ∧ PartAt w' v (a ++ b ++ c) ∧ Below w.heap.size w w' := by
  have hbw : Below w.heap.size w (w.alloc (Obj.cells #[x, y, z] 22)) := (Below.refl _ _).alloc (Nat.le_refl _) _
  refine (join_any w.heap.size 0 3 3 [x, y, z] [a, b, c] rfl rfl _ (by simp) range_three' (by simp) (three_parts (ha.alloc _) (hb.alloc _) (hc.alloc _)) (by simp; omega) (by omega)).mono ?_
  rintro e w5 ⟨v, rfl, o5, b5⟩
  have b05 := hbw.trans (b5.mono (by simp))
  exact ⟨v, rfl, by simpa using o5.partG (by have := b05.size; omega), b05⟩
theorem of_three (x y z : Value) (a b c : List Int) (w : World) (hL : Laid w) (ha : PartAt w x a) (hb : PartAt w y b) (hc : PartAt w z c) (hn : a.length + b.length + c.length ≤ 1000000000000000000) :
    Calls Tryd.prog 16 #[.slice (some ⟨w.heap.size, 0, none⟩) 3 3] (w.alloc (Obj.cells #[x, y, z] 22)).drew fun e w' => e = .returned (.agg (vB (hashOf (a ++ b ++ c)))) ∧ Below w.heap.size w w' := by
  have hbw : Below w.heap.size w (w.alloc (Obj.cells #[x, y, z] 22)).drew := keep_drew ((Below.refl _ _).alloc (Nat.le_refl _) _)
  refine (of_any w.heap.size 0 3 3 [x, y, z] [a, b, c] rfl rfl _ (hL.below hbw hL.two) range_three (by simp) (three_parts (ha.alloc _).drew (hb.alloc _).drew (hc.alloc _).drew) (by simp; omega) (by omega)).mono ?_
  rintro e w5 ⟨rfl, b5⟩
  exact ⟨by simp, hbw.trans (b5.mono (by simp))⟩
set_option maxRecDepth 100000 in
set_option maxHeartbeats 2000000 in
theorem shaParts_walk (va vb vc : Value) (xa xb xc : List Int) (w : World) (hL : Laid w) (ha : PartAt w va xa) (hb : PartAt w vb xb) (hc : PartAt w vc xc) (hn : xa.length + xb.length + xc.length ≤ 140737488000000) (ya : Bytes xa) (yb : Bytes xb) (yc : Bytes xc) :
    Calls Tryd.prog 3 #[va, vb, vc] w fun e w' => e = .returned (.bool true) ∧ Below w.heap.size w w' := by
  have h2 := hL.two
  obtain ⟨HB, hHB⟩ : ∃ HB, HB = hashOf (xa ++ xb ++ xc) := ⟨_, rfl⟩
  have hlen : HB.length = 32 := by rw [hHB]; exact hashOf_length _
  have J0 : Hid (∀ w', Below w.heap.size w w' → Calls Tryd.prog 15 #[.slice (some ⟨w'.heap.size, 0, none⟩) 3 3] (w'.alloc (Obj.cells #[va, vb, vc] 22)) fun e w'' => ∃ x, e = .returned x ∧ PartAt w'' x (xa ++ xb ++ xc) ∧ Below w.heap.size w w'') := fun w' k => by
    refine (join_three va vb vc xa xb xc w' (by have := k.size; omega) (ha.below k) (hb.below k) (hc.below k) (by omega)).mono ?_
    rintro e w5 ⟨x, rfl, hx, b5⟩
    exact ⟨x, rfl, hx, k.trans (b5.mono k.size)⟩
  have R0 : Hid (∀ w' x, Below w.heap.size w w' → PartAt w' x (xa ++ xb ++ xc) → Calls Tryd.prog 14 #[x] w' fun e w'' => e = .returned (.agg (vB HB)) ∧ Below w.heap.size w w'') := fun w' x k hx => by
    refine (rsum_any x _ w' hx (by simp; omega) ((ya.append yb).append yc)).mono ?_
    rintro e w5 ⟨rfl, b5⟩
    exact ⟨by rw [hHB], k.trans (b5.mono k.size)⟩
  have D0 : Hid (∀ W, Below w.heap.size w W → Calls Tryd.prog 16 #[.slice (some ⟨W.heap.size, 0, none⟩) 3 3] (W.alloc (Obj.cells #[va, vb, vc] 22)).drew fun e w'' => e = .returned (.agg (vB HB)) ∧ Below W.heap.size W w'') := fun W k => by
    refine (of_three va vb vc xa xb xc W (hL.below k h2) (ha.below k) (hb.below k) (hc.below k) (by omega)).mono ?_
    rintro e w5 ⟨rfl, b5⟩
    exact ⟨by rw [hHB], b5⟩
  have D1 : Hid (∀ W w', Below w.heap.size w W → Below W.heap.size W w' → Calls Tryd.prog 15 #[.slice (some ⟨w'.heap.size, 0, none⟩) 2 2] (w'.alloc (Obj.cells #[va, vb] 22)) fun e w'' => ∃ x, e = .returned x ∧ PartAt w'' x (xa ++ xb) ∧ Below W.heap.size W w'') := fun W w' q k => by
    have k0 := q.trans (k.mono q.size)
    refine (join_two va vb xa xb w' (by have := k0.size; omega) (ha.below k0) (hb.below k0) (by omega)).mono ?_
    rintro e w5 ⟨x, rfl, hx, b5⟩
    exact ⟨x, rfl, hx, k.trans (b5.mono k.size)⟩
  have D2 : Hid (∀ W w' x, Below w.heap.size w W → Below W.heap.size W w' → PartAt w' x (xa ++ xb) → Calls Tryd.prog 16 #[.slice (some ⟨w'.heap.size, 0, none⟩) 2 2] (w'.alloc (Obj.cells #[x, vc] 22)) fun e w'' => e = .returned (.agg (vB HB)) ∧ Below W.heap.size W w'') := fun W w' x q k hx => by
    have k0 := q.trans (k.mono q.size)
    refine (of_two x vc (xa ++ xb) xc w' (hL.below k0 h2) hx (hc.below k0) (by simp; omega)).mono ?_
    rintro e w5 ⟨rfl, b5⟩
    exact ⟨by rw [hHB], k.trans (b5.mono k.size)⟩
  have D3 : Hid (∀ W w', Below w.heap.size w W → Below W.heap.size W w' → Calls Tryd.prog 15 #[.slice (some ⟨w'.heap.size, 0, none⟩) 2 2] (w'.alloc (Obj.cells #[vb, vc] 22)) fun e w'' => ∃ x, e = .returned x ∧ PartAt w'' x (xb ++ xc) ∧ Below W.heap.size W w'') := fun W w' q k => by
    have k0 := q.trans (k.mono q.size)
    refine (join_two vb vc xb xc w' (by have := k0.size; omega) (hb.below k0) (hc.below k0) (by omega)).mono ?_
    rintro e w5 ⟨x, rfl, hx, b5⟩
    exact ⟨x, rfl, hx, k.trans (b5.mono k.size)⟩
  have D4 : Hid (∀ W w' x, Below w.heap.size w W → Below W.heap.size W w' → PartAt w' x (xb ++ xc) → Calls Tryd.prog 16 #[.slice (some ⟨w'.heap.size, 0, none⟩) 2 2] (w'.alloc (Obj.cells #[va, x] 22)) fun e w'' => e = .returned (.agg (vB HB)) ∧ Below W.heap.size W w'') := fun W w' x q k hx => by
    have k0 := q.trans (k.mono q.size)
    refine (of_two va x xa (xb ++ xc) w' (hL.below k0 h2) (ha.below k0) hx (by simp; omega)).mono ?_
    rintro e w5 ⟨rfl, b5⟩
    exact ⟨by rw [hHB, List.append_assoc], k.trans (b5.mono k.size)⟩
  have e24 := eq24_same HB hlen
  have hcl : (List.map (Value.int .u8) HB).length = 32 := by simpa using hlen
  have hi : (Tryd.prog.info? 24).map (·.size) = some (List.map (Value.int .u8) HB).length := by rw [hcl]; kernel_rfl
  clear hHB ya yb yc
  obtain ⟨ava, _, _, cpa, rfl, _⟩ := ha
  obtain ⟨avb, _, _, cpb, rfl, _⟩ := hb
  obtain ⟨avc, _, _, cpc, rfl, _⟩ := hc
  go_enter Tryd.func3, Tryd.ntmps3
  go_wp2_with fail
  refine (awake_any _ hL).mono ?_
  rintro e w1 ⟨rfl, b1⟩
  go_wp2_with fail
  refine (J0.out _ b1).mono ?_
  rintro e w2 ⟨x2, rfl, p2, b2⟩
  go_wp2_with fail
  refine (R0.out _ _ b2 p2).mono ?_
  rintro e w3 ⟨rfl, b3⟩
  clear p2
  go_wp2_with (first | (refine store24n rfl _ _ rfl HB hlen rfl rfl ?_; intro Wd f1 f2 _ _))
  have bW : Below w.heap.size w Wd := b3.trans (f2.mono b3.size)
  have HR : Hid (Wd.rangeAt w3.heap.size 0 (List.map (Value.int .u8) HB)) := range_of_block f1
  have hbl : w3.heap.size < Wd.heap.size := (Array.getElem?_eq_some_iff.1 f1).1
  clear f1 f2 b1 b2
  have hS := keep_of HR.out hbl (keep_drew (Below.refl Wd.heap.size Wd))
  refine wp_region_noPanic ?_
  refine wp_region_held_drew (S := fun w' => Below Wd.heap.size Wd w' ∧ w'.rangeAt w3.heap.size 0 (List.map (Value.int .u8) HB)) (by kernel_rfl) (hS) (fun hHeld => ?_)
  try simp only [Act.put, List.setIfInBounds_toArray, List.set_cons_zero, List.set_cons_succ]
  refine wpAnyH_take (i := 0) (oi := { dst := some 16, op := Go.Op.move (Go.Operand.tmp 0), type := 22, pos := "law.go:41", after := #[], guard := none }) (v := ?_) rfl (by kernel_rfl) (by kernel_rfl) (by kernel_rfl) (fun _ _ _ h => h) (Or.inl ⟨by rfl, ?_⟩) hHeld ?_
  rotate_left 1
  · (intro wq hSq; (try dsimp only at hSq); go_simp; first | done | with_reducible rfl)
  try simp only [Act.put, List.setIfInBounds_toArray, List.set_cons_zero, List.set_cons_succ]
  refine wpAnyH_take (i := 1) (oi := { dst := some 17, op := Go.Op.move (Go.Operand.tmp 1), type := 22, pos := "law.go:41", after := #[], guard := none }) (v := ?_) rfl (by kernel_rfl) (by kernel_rfl) (by kernel_rfl) (fun _ _ _ h => h) (Or.inl ⟨by rfl, ?_⟩) hHeld ?_
  rotate_left 1
  · (intro wq hSq; (try dsimp only at hSq); go_simp; first | done | with_reducible rfl)
  try simp only [Act.put, List.setIfInBounds_toArray, List.set_cons_zero, List.set_cons_succ]
  refine wpAnyH_take (i := 2) (oi := { dst := some 18, op := Go.Op.move (Go.Operand.tmp 2), type := 22, pos := "law.go:41", after := #[], guard := none }) (v := ?_) rfl (by kernel_rfl) (by kernel_rfl) (by kernel_rfl) (fun _ _ _ h => h) (Or.inl ⟨by rfl, ?_⟩) hHeld ?_
  rotate_left 1
  · (intro wq hSq; (try dsimp only at hSq); go_simp; first | done | with_reducible rfl)
  try simp only [Act.put, List.setIfInBounds_toArray, List.set_cons_zero, List.set_cons_succ]
  refine wpAnyH_take (i := 5) (oi := { dst := some 21, op := Go.Op.load 24 (Go.Operand.tmp 7), type := 24, pos := "law.go:41", after := #[], guard := none }) (v := .agg (List.toArray (List.map (Value.int .u8) HB))) rfl (by kernel_rfl) (by kernel_rfl) (by kernel_rfl) (fun _ _ _ h => h) (yieldsIf_load_mid (by rfl) _ _ rfl (w3.heap.size) (0) rfl (List.map (Value.int .u8) HB) _ (fun _ h => h.2) Tryd.underlying24 rfl (hi)) hHeld ?_
  try simp only [Act.put, List.setIfInBounds_toArray, List.set_cons_zero, List.set_cons_succ]
  refine wpAnyH_ready (rs := [3]) (by kernel_rfl) (by simp) ?_
  refine AllReadyH.cons (o := { dst := some 19, op := Go.Op.buildSlice 29 3 #[(0, Go.Operand.tmp 16), (1, Go.Operand.tmp 17), (2, Go.Operand.tmp 18)], type := 29, pos := "law.go:41", after := #[{ on := 0, ground := Go.Ground.data }, { on := 1, ground := Go.Ground.data }, { on := 2, ground := Go.Ground.data }], guard := none }) rfl (fun K hK => ?_) AllReadyH.nil
  go_simp
  refine hK.out _ _ (by first | exact keep_of HR.out hbl (keep_drew ((Below.refl _ _).alloc (Nat.le_refl _) _)) | exact keep_of HR.out hbl ((keep_drew (Below.refl _ _)).alloc (Nat.le_refl _) _)) (fun hHeld1 => ?_)
  clear hK K hHeld
  try simp only [Act.put, List.setIfInBounds_toArray, List.set_cons_zero, List.set_cons_succ]
  refine wpAnyH_ready (rs := [4]) (by kernel_rfl) (by simp) ?_
  refine AllReadyH.cons (o := { dst := some 20, op := Go.Op.call { callee := Go.Callee.value (Go.Operand.func 16), args := #[Go.Operand.tmp 19], argTypes := #[29] }, type := 24, pos := "law.go:41", after := #[{ on := 3, ground := Go.Ground.data }], guard := none }) rfl (fun K hK => ?_) AllReadyH.nil
  go_simp
  refine (D0.out Wd bW).mono ?_
  rintro e w4 ⟨rfl, b4⟩
  refine hK.out _ _ (keep_of HR.out hbl (b4)) (fun hHeld2 => ?_)
  clear hK K hHeld1
  try simp only [Act.put, List.setIfInBounds_toArray, List.set_cons_zero, List.set_cons_succ]
  refine wpAnyH_take (i := 6) (oi := { dst := some 22, op := Go.Op.binOp Go.BinOp.eql 24 (Go.Operand.tmp 20) (Go.Operand.tmp 21) 24, type := 4, pos := "law.go:41", after := #[{ on := 4, ground := Go.Ground.data }, { on := 5, ground := Go.Ground.data }], guard := none }) (v := ?_) rfl (by kernel_rfl) (by kernel_rfl) (by kernel_rfl) (fun _ _ _ h => h) (Or.inl ⟨by rfl, ?_⟩) hHeld2 ?_
  rotate_left 1
  · (intro wq hSq; (try dsimp only at hSq); go_simp; first | done | with_reducible rfl)
  try simp only [Act.put, List.setIfInBounds_toArray, List.set_cons_zero, List.set_cons_succ]
  refine wpAnyH_take (i := 7) (oi := { dst := some 23, op := Go.Op.move (Go.Operand.tmp 22), type := 4, pos := "law.go:41", after := #[{ on := 6, ground := Go.Ground.data }, { on := 4, ground := Go.Ground.chain }], guard := none }) (v := ?_) rfl (by kernel_rfl) (by kernel_rfl) (by kernel_rfl) (fun _ _ _ h => h) (Or.inl ⟨by rfl, ?_⟩) hHeld2 ?_
  rotate_left 1
  · (intro wq hSq; (try dsimp only at hSq); go_simp; first | done | with_reducible rfl)
  try simp only [Act.put, List.setIfInBounds_toArray, List.set_cons_zero, List.set_cons_succ]
  refine wpAnyH_take (i := 8) (oi := { dst := some 24, op := Go.Op.move (Go.Operand.tmp 0), type := 22, pos := "law.go:41", after := #[{ on := 7, ground := Go.Ground.guard }], guard := some (7, true) }) (v := ?_) rfl (by kernel_rfl) (by kernel_rfl) (by kernel_rfl) (fun _ _ _ h => h) (Or.inl ⟨by rfl, ?_⟩) hHeld2 ?_
  rotate_left 1
  · (intro wq hSq; (try dsimp only at hSq); go_simp; first | done | with_reducible rfl)
  try simp only [Act.put, List.setIfInBounds_toArray, List.set_cons_zero, List.set_cons_succ]
  refine wpAnyH_take (i := 9) (oi := { dst := some 25, op := Go.Op.move (Go.Operand.tmp 1), type := 22, pos := "law.go:41", after := #[{ on := 7, ground := Go.Ground.guard }], guard := some (7, true) }) (v := ?_) rfl (by kernel_rfl) (by kernel_rfl) (by kernel_rfl) (fun _ _ _ h => h) (Or.inl ⟨by rfl, ?_⟩) hHeld2 ?_
  rotate_left 1
  · (intro wq hSq; (try dsimp only at hSq); go_simp; first | done | with_reducible rfl)
  try simp only [Act.put, List.setIfInBounds_toArray, List.set_cons_zero, List.set_cons_succ]
  refine wpAnyH_take (i := 12) (oi := { dst := some 28, op := Go.Op.move (Go.Operand.tmp 2), type := 22, pos := "law.go:41", after := #[{ on := 7, ground := Go.Ground.guard }], guard := some (7, true) }) (v := ?_) rfl (by kernel_rfl) (by kernel_rfl) (by kernel_rfl) (fun _ _ _ h => h) (Or.inl ⟨by rfl, ?_⟩) hHeld2 ?_
  rotate_left 1
  · (intro wq hSq; (try dsimp only at hSq); go_simp; first | done | with_reducible rfl)
  try simp only [Act.put, List.setIfInBounds_toArray, List.set_cons_zero, List.set_cons_succ]
  refine wpAnyH_take (i := 15) (oi := { dst := some 31, op := Go.Op.load 24 (Go.Operand.tmp 7), type := 24, pos := "law.go:41", after := #[{ on := 7, ground := Go.Ground.guard }], guard := some (7, true) }) (v := .agg (List.toArray (List.map (Value.int .u8) HB))) rfl (by kernel_rfl) (by kernel_rfl) (by kernel_rfl) (fun _ _ _ h => h) (yieldsIf_load_mid (by rfl) _ _ rfl (w3.heap.size) (0) rfl (List.map (Value.int .u8) HB) _ (fun _ h => h.2) Tryd.underlying24 rfl (hi)) hHeld2 ?_
  try simp only [Act.put, List.setIfInBounds_toArray, List.set_cons_zero, List.set_cons_succ]
  refine wpAnyH_ready (rs := [10]) (by kernel_rfl) (by simp) ?_
  refine AllReadyH.cons (o := { dst := some 26, op := Go.Op.buildSlice 29 2 #[(0, Go.Operand.tmp 24), (1, Go.Operand.tmp 25)], type := 29, pos := "law.go:41", after := #[{ on := 8, ground := Go.Ground.data }, { on := 9, ground := Go.Ground.data }, { on := 7, ground := Go.Ground.guard }], guard := some (7, true) }) rfl (fun K hK => ?_) AllReadyH.nil
  go_simp
  refine hK.out _ _ (keep_of HR.out hbl (b4.alloc b4.size _)) (fun hHeld3 => ?_)
  clear hK K hHeld2
  try simp only [Act.put, List.setIfInBounds_toArray, List.set_cons_zero, List.set_cons_succ]
  refine wpAnyH_ready (rs := [11]) (by kernel_rfl) (by simp) ?_
  refine AllReadyH.cons (o := { dst := some 27, op := Go.Op.call { callee := Go.Callee.value (Go.Operand.func 15), args := #[Go.Operand.tmp 26], argTypes := #[29] }, type := 22, pos := "law.go:41", after := #[{ on := 10, ground := Go.Ground.data }, { on := 7, ground := Go.Ground.chain }, { on := 7, ground := Go.Ground.guard }], guard := some (7, true) }) rfl (fun K hK => ?_) AllReadyH.nil
  go_simp
  refine (D1.out Wd w4 bW b4).mono ?_
  rintro e w5 ⟨x5, rfl, p5, b5⟩
  have p5c := p5
  obtain ⟨av5, _, _, cp5, hx5, _⟩ := p5
  subst hx5
  rw [List.length_append] at p5c
  refine hK.out _ _ (keep_of HR.out hbl (b5)) (fun hHeld4 => ?_)
  clear hK K hHeld3
  try simp only [Act.put, List.setIfInBounds_toArray, List.set_cons_zero, List.set_cons_succ]
  refine wpAnyH_ready (rs := [13]) (by kernel_rfl) (by simp) ?_
  refine AllReadyH.cons (o := { dst := some 29, op := Go.Op.buildSlice 29 2 #[(0, Go.Operand.tmp 27), (1, Go.Operand.tmp 28)], type := 29, pos := "law.go:41", after := #[{ on := 11, ground := Go.Ground.data }, { on := 12, ground := Go.Ground.data }, { on := 7, ground := Go.Ground.guard }], guard := some (7, true) }) rfl (fun K hK => ?_) AllReadyH.nil
  go_simp
  refine hK.out _ _ (keep_of HR.out hbl (b5.alloc b5.size _)) (fun hHeld5 => ?_)
  clear hK K hHeld4
  try simp only [Act.put, List.setIfInBounds_toArray, List.set_cons_zero, List.set_cons_succ]
  refine wpAnyH_ready (rs := [14]) (by kernel_rfl) (by simp) ?_
  refine AllReadyH.cons (o := { dst := some 30, op := Go.Op.call { callee := Go.Callee.value (Go.Operand.func 16), args := #[Go.Operand.tmp 29], argTypes := #[29] }, type := 24, pos := "law.go:41", after := #[{ on := 13, ground := Go.Ground.data }, { on := 11, ground := Go.Ground.chain }, { on := 7, ground := Go.Ground.guard }], guard := some (7, true) }) rfl (fun K hK => ?_) AllReadyH.nil
  go_simp
  refine (D2.out Wd w5 _ bW b5 p5c).mono ?_
  rintro e w6 ⟨rfl, b6⟩
  refine hK.out _ _ (keep_of HR.out hbl (b6)) (fun hHeld6 => ?_)
  clear hK K hHeld5
  try simp only [Act.put, List.setIfInBounds_toArray, List.set_cons_zero, List.set_cons_succ]
  refine wpAnyH_take (i := 16) (oi := { dst := some 32, op := Go.Op.binOp Go.BinOp.eql 24 (Go.Operand.tmp 30) (Go.Operand.tmp 31) 24, type := 4, pos := "law.go:41", after := #[{ on := 14, ground := Go.Ground.data }, { on := 15, ground := Go.Ground.data }, { on := 7, ground := Go.Ground.guard }], guard := some (7, true) }) (v := ?_) rfl (by kernel_rfl) (by kernel_rfl) (by kernel_rfl) (fun _ _ _ h => h) (Or.inl ⟨by rfl, ?_⟩) hHeld6 ?_
  rotate_left 1
  · (intro wq hSq; (try dsimp only at hSq); go_simp; first | done | with_reducible rfl)
  try simp only [Act.put, List.setIfInBounds_toArray, List.set_cons_zero, List.set_cons_succ]
  refine wpAnyH_take (i := 17) (oi := { dst := some 33, op := Go.Op.pick (Go.Operand.tmp 23) (Go.Operand.tmp 32) (Go.Operand.const (Go.Value.bool false)), type := 4, pos := "law.go:41", after := #[{ on := 7, ground := Go.Ground.data }, { on := 16, ground := Go.Ground.data }], guard := none }) (v := ?_) rfl (by kernel_rfl) (by kernel_rfl) (by kernel_rfl) (fun _ _ _ h => h) (Or.inl ⟨by rfl, ?_⟩) hHeld6 ?_
  rotate_left 1
  · (intro wq hSq; (try dsimp only at hSq); go_simp; first | done | with_reducible rfl)
  try simp only [Act.put, List.setIfInBounds_toArray, List.set_cons_zero, List.set_cons_succ]
  refine wpAnyH_take (i := 18) (oi := { dst := some 34, op := Go.Op.move (Go.Operand.tmp 33), type := 4, pos := "law.go:41", after := #[{ on := 17, ground := Go.Ground.data }, { on := 14, ground := Go.Ground.chain }], guard := none }) (v := ?_) rfl (by kernel_rfl) (by kernel_rfl) (by kernel_rfl) (fun _ _ _ h => h) (Or.inl ⟨by rfl, ?_⟩) hHeld6 ?_
  rotate_left 1
  · (intro wq hSq; (try dsimp only at hSq); go_simp; first | done | with_reducible rfl)
  try simp only [Act.put, List.setIfInBounds_toArray, List.set_cons_zero, List.set_cons_succ]
  refine wpAnyH_take (i := 19) (oi := { dst := some 35, op := Go.Op.move (Go.Operand.tmp 0), type := 22, pos := "law.go:41", after := #[{ on := 18, ground := Go.Ground.guard }], guard := some (18, true) }) (v := ?_) rfl (by kernel_rfl) (by kernel_rfl) (by kernel_rfl) (fun _ _ _ h => h) (Or.inl ⟨by rfl, ?_⟩) hHeld6 ?_
  rotate_left 1
  · (intro wq hSq; (try dsimp only at hSq); go_simp; first | done | with_reducible rfl)
  try simp only [Act.put, List.setIfInBounds_toArray, List.set_cons_zero, List.set_cons_succ]
  refine wpAnyH_take (i := 20) (oi := { dst := some 36, op := Go.Op.move (Go.Operand.tmp 1), type := 22, pos := "law.go:41", after := #[{ on := 18, ground := Go.Ground.guard }], guard := some (18, true) }) (v := ?_) rfl (by kernel_rfl) (by kernel_rfl) (by kernel_rfl) (fun _ _ _ h => h) (Or.inl ⟨by rfl, ?_⟩) hHeld6 ?_
  rotate_left 1
  · (intro wq hSq; (try dsimp only at hSq); go_simp; first | done | with_reducible rfl)
  try simp only [Act.put, List.setIfInBounds_toArray, List.set_cons_zero, List.set_cons_succ]
  refine wpAnyH_take (i := 21) (oi := { dst := some 37, op := Go.Op.move (Go.Operand.tmp 2), type := 22, pos := "law.go:41", after := #[{ on := 18, ground := Go.Ground.guard }], guard := some (18, true) }) (v := ?_) rfl (by kernel_rfl) (by kernel_rfl) (by kernel_rfl) (fun _ _ _ h => h) (Or.inl ⟨by rfl, ?_⟩) hHeld6 ?_
  rotate_left 1
  · (intro wq hSq; (try dsimp only at hSq); go_simp; first | done | with_reducible rfl)
  try simp only [Act.put, List.setIfInBounds_toArray, List.set_cons_zero, List.set_cons_succ]
  refine wpAnyH_take (i := 26) (oi := { dst := some 42, op := Go.Op.load 24 (Go.Operand.tmp 7), type := 24, pos := "law.go:41", after := #[{ on := 18, ground := Go.Ground.guard }], guard := some (18, true) }) (v := .agg (List.toArray (List.map (Value.int .u8) HB))) rfl (by kernel_rfl) (by kernel_rfl) (by kernel_rfl) (fun _ _ _ h => h) (yieldsIf_load_mid (by rfl) _ _ rfl (w3.heap.size) (0) rfl (List.map (Value.int .u8) HB) _ (fun _ h => h.2) Tryd.underlying24 rfl (hi)) hHeld6 ?_
  try simp only [Act.put, List.setIfInBounds_toArray, List.set_cons_zero, List.set_cons_succ]
  refine wpAnyH_ready (rs := [22]) (by kernel_rfl) (by simp) ?_
  refine AllReadyH.cons (o := { dst := some 38, op := Go.Op.buildSlice 29 2 #[(0, Go.Operand.tmp 36), (1, Go.Operand.tmp 37)], type := 29, pos := "law.go:41", after := #[{ on := 20, ground := Go.Ground.data }, { on := 21, ground := Go.Ground.data }, { on := 18, ground := Go.Ground.guard }], guard := some (18, true) }) rfl (fun K hK => ?_) AllReadyH.nil
  go_simp
  refine hK.out _ _ (keep_of HR.out hbl (b6.alloc b6.size _)) (fun hHeld7 => ?_)
  clear hK K hHeld6
  try simp only [Act.put, List.setIfInBounds_toArray, List.set_cons_zero, List.set_cons_succ]
  refine wpAnyH_ready (rs := [23]) (by kernel_rfl) (by simp) ?_
  refine AllReadyH.cons (o := { dst := some 39, op := Go.Op.call { callee := Go.Callee.value (Go.Operand.func 15), args := #[Go.Operand.tmp 38], argTypes := #[29] }, type := 22, pos := "law.go:41", after := #[{ on := 22, ground := Go.Ground.data }, { on := 18, ground := Go.Ground.chain }, { on := 18, ground := Go.Ground.guard }], guard := some (18, true) }) rfl (fun K hK => ?_) AllReadyH.nil
  go_simp
  refine (D3.out Wd w6 bW b6).mono ?_
  rintro e w7 ⟨x7, rfl, p7, b7⟩
  have p7c := p7
  obtain ⟨av7, _, _, cp7, hx7, _⟩ := p7
  subst hx7
  rw [List.length_append] at p7c
  refine hK.out _ _ (keep_of HR.out hbl (b7)) (fun hHeld8 => ?_)
  clear hK K hHeld7
  try simp only [Act.put, List.setIfInBounds_toArray, List.set_cons_zero, List.set_cons_succ]
  refine wpAnyH_ready (rs := [24]) (by kernel_rfl) (by simp) ?_
  refine AllReadyH.cons (o := { dst := some 40, op := Go.Op.buildSlice 29 2 #[(0, Go.Operand.tmp 35), (1, Go.Operand.tmp 39)], type := 29, pos := "law.go:41", after := #[{ on := 19, ground := Go.Ground.data }, { on := 23, ground := Go.Ground.data }, { on := 18, ground := Go.Ground.guard }], guard := some (18, true) }) rfl (fun K hK => ?_) AllReadyH.nil
  go_simp
  refine hK.out _ _ (keep_of HR.out hbl (b7.alloc b7.size _)) (fun hHeld9 => ?_)
  clear hK K hHeld8
  try simp only [Act.put, List.setIfInBounds_toArray, List.set_cons_zero, List.set_cons_succ]
  refine wpAnyH_ready (rs := [25]) (by kernel_rfl) (by simp) ?_
  refine AllReadyH.cons (o := { dst := some 41, op := Go.Op.call { callee := Go.Callee.value (Go.Operand.func 16), args := #[Go.Operand.tmp 40], argTypes := #[29] }, type := 24, pos := "law.go:41", after := #[{ on := 24, ground := Go.Ground.data }, { on := 23, ground := Go.Ground.chain }, { on := 18, ground := Go.Ground.guard }], guard := some (18, true) }) rfl (fun K hK => ?_) AllReadyH.nil
  go_simp
  refine (D4.out Wd w7 _ bW b7 p7c).mono ?_
  rintro e w8 ⟨rfl, b8⟩
  refine hK.out _ _ (keep_of HR.out hbl (b8)) (fun hHeld10 => ?_)
  clear hK K hHeld9
  try simp only [Act.put, List.setIfInBounds_toArray, List.set_cons_zero, List.set_cons_succ]
  refine wpAnyH_take (i := 27) (oi := { dst := some 43, op := Go.Op.binOp Go.BinOp.eql 24 (Go.Operand.tmp 41) (Go.Operand.tmp 42) 24, type := 4, pos := "law.go:41", after := #[{ on := 25, ground := Go.Ground.data }, { on := 26, ground := Go.Ground.data }, { on := 18, ground := Go.Ground.guard }], guard := some (18, true) }) (v := ?_) rfl (by kernel_rfl) (by kernel_rfl) (by kernel_rfl) (fun _ _ _ h => h) (Or.inl ⟨by rfl, ?_⟩) hHeld10 ?_
  rotate_left 1
  · (intro wq hSq; (try dsimp only at hSq); go_simp; first | done | with_reducible rfl)
  try simp only [Act.put, List.setIfInBounds_toArray, List.set_cons_zero, List.set_cons_succ]
  refine wpAnyH_take (i := 28) (oi := { dst := some 44, op := Go.Op.pick (Go.Operand.tmp 34) (Go.Operand.tmp 43) (Go.Operand.const (Go.Value.bool false)), type := 4, pos := "law.go:41", after := #[{ on := 18, ground := Go.Ground.data }, { on := 27, ground := Go.Ground.data }], guard := none }) (v := ?_) rfl (by kernel_rfl) (by kernel_rfl) (by kernel_rfl) (fun _ _ _ h => h) (Or.inl ⟨by rfl, ?_⟩) hHeld10 ?_
  rotate_left 1
  · (intro wq hSq; (try dsimp only at hSq); go_simp; first | done | with_reducible rfl)
  try simp only [Act.put, List.setIfInBounds_toArray, List.set_cons_zero, List.set_cons_succ]
  refine wpAnyH_take (i := 29) (oi := { dst := some 6, op := Go.Op.assign (Go.Operand.tmp 44), type := 4, pos := "law.go:41", after := #[{ on := 28, ground := Go.Ground.data }, { on := 25, ground := Go.Ground.chain }, { on := 0, ground := Go.Ground.phase }, { on := 1, ground := Go.Ground.phase }, { on := 2, ground := Go.Ground.phase }, { on := 3, ground := Go.Ground.phase }, { on := 4, ground := Go.Ground.phase }, { on := 5, ground := Go.Ground.phase }, { on := 6, ground := Go.Ground.phase }, { on := 7, ground := Go.Ground.phase }, { on := 8, ground := Go.Ground.phase }, { on := 9, ground := Go.Ground.phase }, { on := 10, ground := Go.Ground.phase }, { on := 11, ground := Go.Ground.phase }, { on := 12, ground := Go.Ground.phase }, { on := 13, ground := Go.Ground.phase }, { on := 14, ground := Go.Ground.phase }, { on := 15, ground := Go.Ground.phase }, { on := 16, ground := Go.Ground.phase }, { on := 17, ground := Go.Ground.phase }, { on := 18, ground := Go.Ground.phase }, { on := 19, ground := Go.Ground.phase }, { on := 20, ground := Go.Ground.phase }, { on := 21, ground := Go.Ground.phase }, { on := 22, ground := Go.Ground.phase }, { on := 23, ground := Go.Ground.phase }, { on := 24, ground := Go.Ground.phase }, { on := 25, ground := Go.Ground.phase }, { on := 26, ground := Go.Ground.phase }, { on := 27, ground := Go.Ground.phase }, { on := 28, ground := Go.Ground.phase }], guard := none }) (v := ?_) rfl (by kernel_rfl) (by kernel_rfl) (by kernel_rfl) (fun _ _ _ h => h) (Or.inl ⟨by rfl, ?_⟩) hHeld10 ?_
  rotate_left 1
  · (intro wq hSq; (try dsimp only at hSq); go_simp; first | done | with_reducible rfl)
  try simp only [Act.put, List.setIfInBounds_toArray, List.set_cons_zero, List.set_cons_succ]
  refine wpAnyH_done (by kernel_rfl) ?_ _
  refine NoPanic.normal ?_
  go_wp2
  go_ret
  exact ⟨rfl, bW.trans (Below.mono (by assumption) bW.size)⟩
end Go.Proofs.YtlcenbhcegmnoaaDoor
