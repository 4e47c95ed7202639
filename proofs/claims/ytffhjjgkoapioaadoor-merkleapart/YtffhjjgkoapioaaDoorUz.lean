import Derived.Test.YtffhjjgkoapioaaDoorOg
import Derived.Test.YtffhjjgkoapioaaDoorPb
import Derived.Test.YtffhjjgkoapioaaDoorPc
import Derived.Test.YtffhjjgkoapioaaDoorMk
import Derived.Test.YtffhjjgkoapioaaDoorRootsWalk
import Derived.Lib.Strings
import Derived.Lib.LazyBuf
namespace Go.Proofs.YtffhjjgkoapioaaDoor
set_option linter.unusedSimpArgs false
set_option linter.unusedVariables false
open Go.RowKit
theorem wpAnyH_monoA {P : Program} {ops : Array Oper} {Q : Exit → Act → World → Prop} {md : Region.Mode} {S S' : World → Prop} (hSS : ∀ w, S' w → S w) : ∀ (fuel : Nat) (listed : Array Bool) (a : Act) (w : World), wpAnyH P md ops Q S' fuel listed a w → wpAnyH P md ops Q S fuel listed a w
  | 0, _, _, _, h => h
  | fuel + 1, _, _, _, h => ⟨h.1, fun i hi => wpOp_mono (fun a' w' h' => ⟨hSS w' h'.1, wpAnyH_monoA hSS fuel _ a' w' h'.2⟩) (h.2 i hi)⟩
/-- The condition grows behind a call. -/
theorem wpAnyH_grow {P : Program} {ops : Array Oper} {Q : Exit → Act → World → Prop} {md : Region.Mode} {S S' : World → Prop} (hSS : ∀ w, S' w → S w) {fuel : Nat} {listed : Array Bool} {a : Act} {w : World} (hS : S' w) (h : S' w → wpAnyH P md ops Q S' fuel listed a w) : wpAnyH P md ops Q S fuel listed a w :=
  wpAnyH_monoA hSS fuel listed a w (h hS)
theorem partConv {w : World} {v : Value} {bs : List Int} (h : PartAt w v bs) : (convert 22 9 v).run Tryd.prog w = .ok (.string (strOfNums bs)) w := by
  exact run_conv h
theorem str_ne (a b : List Int) (ha : Bytes a) (hb : Bytes b) (h : a ≠ b) : ((strOfNums a).toList == (strOfNums b).toList) = false := by
  rw [beq_eq_false_iff_ne]
  intro e
  apply h
  rw [Lib.strOfNums_toList, Lib.strOfNums_toList] at e
  unfold Lib.bytesOf at e
  have hl : a.length = b.length := by have := congrArg List.length e; simpa using this
  apply List.ext_getElem hl
  intro i h1 h2
  have e2 := congrArg (fun l => l[i]?) e
  simp [h1, h2] at e2
  have x1 := ha a[i] (List.getElem_mem h1)
  have x2 := hb b[i] (List.getElem_mem h2)
  have e3 := congrArg UInt8.toNat e2
  rw [UInt8.toNat_ofNat', UInt8.toNat_ofNat'] at e3
  omega
/-- Two ways up that end in one hash, from texts that differ: somewhere two texts that differ have one hash. -/
theorem clash_abs (H : List Int → List Int) (hH : ∀ l, (H l).length = 32) (X Y : Nat → List Int) (b : Nat → Bool) (p q : Nat → List Int) (d : Nat) (hp : ∀ j, j < d → (p j).length = 32) (hq : ∀ j, j < d → (q j).length = 32)
    (hX : ∀ j, j < d → X (j + 1) = if b j = true then 1 :: (H (X j) ++ p j) else 1 :: (p j ++ H (X j))) (hY : ∀ j, j < d → Y (j + 1) = if b j = true then 1 :: (H (Y j) ++ q j) else 1 :: (q j ++ H (Y j))) (h0 : X 0 ≠ Y 0) :
    ∀ j, j ≤ d → H (X j) = H (Y j) → ∃ k, k ≤ j ∧ X k ≠ Y k ∧ H (X k) = H (Y k) := by
  intro j
  induction j with
  | zero => intro _ h; exact ⟨0, Nat.le_refl _, h0, h⟩
  | succ j ih =>
    intro hj h
    by_cases e : X (j + 1) = Y (j + 1)
    · have hh : H (X j) = H (Y j) := by
        rw [hX j (by omega), hY j (by omega)] at e
        by_cases hb : b j = true
        · rw [if_pos hb, if_pos hb] at e
          exact (List.append_inj (List.cons.inj e).2 (by rw [hH, hH])).1
        · rw [if_neg hb, if_neg hb] at e
          exact (List.append_inj (List.cons.inj e).2 (by rw [hp j (by omega), hq j (by omega)])).2
      obtain ⟨k, hk, r⟩ := ih (by omega) hh
      exact ⟨k, by omega, r⟩
    · exact ⟨j + 1, Nat.le_refl _, e, h⟩
theorem textN_succ (bl : List Bool) (c : List Int) (pr : List (List Int)) (j : Nat) : textN bl c pr (j + 1) = if bl[j]?.getD false = true then 1 :: (hashOf (textN bl c pr j) ++ pr[j]?.getD []) else 1 :: (pr[j]?.getD [] ++ hashOf (textN bl c pr j)) := by simp only [textN]
theorem textN_zero (bl : List Bool) (c : List Int) (pr : List (List Int)) : textN bl c pr 0 = 0 :: c := by simp only [textN]
theorem clash_up (bl : List Bool) (c c' : List Int) (pr pr' : List (List Int)) (d : Nat) (hd : pr.length = d) (hd' : pr'.length = d) (hP : Hashes pr) (hP' : Hashes pr') (hne : c' ≠ c) (h : hashOf (textN bl c' pr' d) = hashOf (textN bl c pr d)) : ∃ k, k ≤ d ∧ textN bl c' pr' k ≠ textN bl c pr k ∧ hashOf (textN bl c' pr' k) = hashOf (textN bl c pr k) :=
  clash_abs hashOf hashOf_length (textN bl c' pr') (textN bl c pr) (fun j => bl[j]?.getD false) (fun j => pr'[j]?.getD []) (fun j => pr[j]?.getD []) d (fun j hj => (hash_at hP' j (by omega)).1) (fun j hj => (hash_at hP j (by omega)).1) (fun j _ => textN_succ bl c' pr' j) (fun j _ => textN_succ bl c pr j) (fun e => by rw [textN_zero, textN_zero] at e; exact hne (List.cons.inj e).2) d (Nat.le_refl _) h
end Go.Proofs.YtffhjjgkoapioaaDoor
namespace Go.Proofs.YtffhjjgkoapioaaDoor
set_option linter.unusedSimpArgs false
set_option linter.unusedVariables false
open Go.RowKit
set_option maxRecDepth 100000 in
set_option maxHeartbeats 2000000 in
theorem mapart_no (av : Option Addr) (N cp : Nat) (i : Int) (avc : Option Addr) (nc cpc : Nat) (avp : Option Addr) (np cpp : Nat) (ls : List (List Int)) (n K : Nat) (c ch : List Int) (Rt : List Int) (w : World)
    (hN0 : 0 < N) (hN : N ≤ 2000) (hnc : nc ≤ 100) (hnp : np ≤ 60) (hn : ls.length = n) (hn1 : n ≤ 1000) (hK : (i % 18446744073709551616) % (n : Int) = (K : Int)) (hc : ls[K]? = some c)
    (K1 : ∀ w', Below w.heap.size w w' → Calls Tryd.prog 29 #[.slice av N cp] w' fun e w'' => ∃ u, e = .returned u ∧ PartsAt w'' u ls ∧ Below w'.heap.size w' w'')
    (K2 : ∀ w', Below w.heap.size w w' → Calls Tryd.prog 32 #[.slice av N cp] w' fun e w'' => e = .returned (.agg (vB Rt)) ∧ Below w'.heap.size w' w'')
    (K3 : ∀ w', Below w.heap.size w w' → Calls Tryd.prog 41 #[.agg (vB Rt), .int .i64 n, .int .i64 K, .slice avc nc cpc, .slice avp np cpp] w' fun e w'' => e = .returned (.bool false) ∧ Below w'.heap.size w' w'') :
    Calls Tryd.prog 11 #[.slice av N cp, .int .i64 i, .slice avc nc cpc, .slice avp np cpp] w fun e w' => e = .returned (.bool true) ∧ Below w.heap.size w w' := by
  have C1 : Hid (∀ w', Below w.heap.size w w' → Calls Tryd.prog 29 #[.slice av N cp] w' fun e w'' => ∃ u, e = .returned u ∧ PartsAt w'' u ls ∧ Below w'.heap.size w' w'') := K1
  have C2 : Hid (∀ w', Below w.heap.size w w' → Calls Tryd.prog 32 #[.slice av N cp] w' fun e w'' => e = .returned (.agg (vB Rt)) ∧ Below w'.heap.size w' w'') := K2
  clear K1 K2
  have hKn : K < n := by rw [← hn]; exact (List.getElem?_eq_some_iff.1 hc).1
  have j0' : decide ((2000 : Int) < (N : Int)) = false := by simp; omega
  have j1' : ((N : Int) == 0) = false := by simp; omega
  have j4' : decide ((100 : Int) < (nc : Int)) = false := by simp; omega
  have j5' : decide ((60 : Int) < (np : Int)) = false := by simp; omega
  have j2 : (n : Int) % 18446744073709551616 = (n : Int) := by omega
  have j3 : ¬ (n : Int) = 0 := by omega
  go_enter Tryd.func11, Tryd.ntmps11
  go_wp2_with fail
  refine (awake2_any _).mono ?_
  rintro e w1 ⟨rfl, b1⟩
  go_wp2_with fail
  refine (C1.out _ b1).mono ?_
  rintro e w2 ⟨u2, rfl, p2, b2⟩
  obtain ⟨avl, bl, ol, cpl, vs, rfl, q1, q2, q3, q4, q5, q6, q7⟩ := p2
  rw [hn]
  have b02 := b1.trans (b2.mono b1.size)
  have hKw : (IntKind.u64.wrap i).tmod (n : Int) = (K : Int) := by
    rw [show IntKind.u64.wrap i = i % 18446744073709551616 from rfl, Int.tmod_eq_emod_of_nonneg (by omega)]; exact hK
  obtain ⟨x, hx⟩ : ∃ x, vs[K]? = some x := ⟨vs[K]'(by omega), List.getElem?_eq_getElem (by omega)⟩
  have hpx := q7 K x c hx hc
  have hcx := q5 K x hx
  have hav := q3 (by omega)
  subst hav
  have hKi : (K : Int) < (n : Int) := by omega
  have hK0 : (0 : Int) ≤ (K : Int) := by omega
  have D2 : Hid (∀ w', Below w2.heap.size w2 w' → Calls Tryd.prog 32 #[.slice av N cp] w' fun e w'' => e = .returned (.agg (vB Rt)) ∧ Below w2.heap.size w2 w'') := fun w' k => (C2.out w' (b02.trans (k.mono b02.size))).mono fun e w'' ⟨q, q'⟩ => ⟨q, k.trans (q'.mono k.size)⟩
  have D3 : Hid (∀ w', Below w2.heap.size w2 w' → Calls Tryd.prog 41 #[.agg (vB Rt), .int .i64 n, .int .i64 K, .slice avc nc cpc, .slice avp np cpp] w' fun e w'' => e = .returned (.bool false) ∧ Below w2.heap.size w2 w'') := fun w' k => (K3 w' (b02.trans (k.mono b02.size))).mono fun e w'' ⟨q, q'⟩ => ⟨q, k.trans (q'.mono k.size)⟩
  have BD : Hid (Below w2.heap.size w2 w2.drew) := (Below.refl _ _).drew
  have B02 : Hid (∀ w', Below w2.heap.size w2 w' → Below w.heap.size w w') := fun w' k => b02.trans (k.mono b02.size)
  clear K3 q5 q7 hcx hpx hx C1 C2 hK q1 q2 q3 q4 b02 b1 b2
  go_wp2_with fail
  refine wp_region_noPanic ?_
  refine wp_region_held_drew (S := fun w' => Below w2.heap.size w2 w') (by kernel_rfl) (BD.out) (fun hHeld => ?_)
  try simp only [Act.put, List.setIfInBounds_toArray, List.set_cons_zero, List.set_cons_succ]
  refine wpAnyH_take (i := 0) (oi := { dst := some 48, op := Go.Op.move (Go.Operand.tmp 0), type := 22, pos := "law.go:105", after := #[], guard := none }) (v := ?_) rfl (by kernel_rfl) (by kernel_rfl) (by kernel_rfl) (fun _ _ _ h => h) (Or.inl ⟨by rfl, ?_⟩) hHeld ?_
  rotate_left 1
  · (intro wq hSq; (try dsimp only at hSq); go_simp; first | done | with_reducible rfl)
  try simp only [Act.put, List.setIfInBounds_toArray, List.set_cons_zero, List.set_cons_succ]
  refine wpAnyH_take (i := 2) (oi := { dst := some 50, op := Go.Op.move (Go.Operand.tmp 9), type := 29, pos := "law.go:105", after := #[], guard := none }) (v := ?_) rfl (by kernel_rfl) (by kernel_rfl) (by kernel_rfl) (fun _ _ _ h => h) (Or.inl ⟨by rfl, ?_⟩) hHeld ?_
  rotate_left 1
  · (intro wq hSq; (try dsimp only at hSq); go_simp; first | done | with_reducible rfl)
  try simp only [Act.put, List.setIfInBounds_toArray, List.set_cons_zero, List.set_cons_succ]
  refine wpAnyH_take (i := 3) (oi := { dst := some 51, op := Go.Op.call { callee := Go.Callee.builtin Go.Builtin.len, args := #[Go.Operand.tmp 50], argTypes := #[29] }, type := 3, pos := "law.go:105", after := #[{ on := 2, ground := Go.Ground.data }], guard := none }) (v := ?_) rfl (by kernel_rfl) (by kernel_rfl) (by kernel_rfl) (fun _ _ _ h => h) (Or.inl ⟨by rfl, ?_⟩) hHeld ?_
  rotate_left 1
  · (intro wq hSq; (try dsimp only at hSq); go_simp; first | done | with_reducible rfl)
  try simp only [Act.put, List.setIfInBounds_toArray, List.set_cons_zero, List.set_cons_succ]
  refine wpAnyH_take (i := 4) (oi := { dst := some 52, op := Go.Op.move (Go.Operand.tmp 10), type := 3, pos := "law.go:105", after := #[], guard := none }) (v := ?_) rfl (by kernel_rfl) (by kernel_rfl) (by kernel_rfl) (fun _ _ _ h => h) (Or.inl ⟨by rfl, ?_⟩) hHeld ?_
  rotate_left 1
  · (intro wq hSq; (try dsimp only at hSq); go_simp; first | done | with_reducible rfl)
  try simp only [Act.put, List.setIfInBounds_toArray, List.set_cons_zero, List.set_cons_succ]
  refine wpAnyH_take (i := 5) (oi := { dst := some 53, op := Go.Op.move (Go.Operand.tmp 2), type := 22, pos := "law.go:105", after := #[], guard := none }) (v := ?_) rfl (by kernel_rfl) (by kernel_rfl) (by kernel_rfl) (fun _ _ _ h => h) (Or.inl ⟨by rfl, ?_⟩) hHeld ?_
  rotate_left 1
  · (intro wq hSq; (try dsimp only at hSq); go_simp; first | done | with_reducible rfl)
  try simp only [Act.put, List.setIfInBounds_toArray, List.set_cons_zero, List.set_cons_succ]
  refine wpAnyH_take (i := 6) (oi := { dst := some 54, op := Go.Op.move (Go.Operand.tmp 3), type := 44, pos := "law.go:105", after := #[], guard := none }) (v := ?_) rfl (by kernel_rfl) (by kernel_rfl) (by kernel_rfl) (fun _ _ _ h => h) (Or.inl ⟨by rfl, ?_⟩) hHeld ?_
  rotate_left 1
  · (intro wq hSq; (try dsimp only at hSq); go_simp; first | done | with_reducible rfl)
  try simp only [Act.put, List.setIfInBounds_toArray, List.set_cons_zero, List.set_cons_succ]
  refine wpAnyH_ready (rs := [1]) (by kernel_rfl) (by simp) ?_
  refine AllReadyH.cons (o := { dst := some 49, op := Go.Op.call { callee := Go.Callee.value (Go.Operand.func 32), args := #[Go.Operand.tmp 48], argTypes := #[22] }, type := 24, pos := "law.go:105", after := #[{ on := 0, ground := Go.Ground.data }], guard := none }) rfl (fun K hK => ?_) AllReadyH.nil
  go_simp
  refine (D2.out _ (by assumption)).mono ?_
  rintro e w3 ⟨rfl, b3⟩
  refine hK.out _ _ (b3) (fun hHeld1 => ?_)
  clear hK K hHeld
  try simp only [Act.put, List.setIfInBounds_toArray, List.set_cons_zero, List.set_cons_succ]
  refine wpAnyH_ready (rs := [7]) (by kernel_rfl) (by simp) ?_
  refine AllReadyH.cons (o := { dst := some 55, op := Go.Op.call { callee := Go.Callee.value (Go.Operand.func 41), args := #[Go.Operand.tmp 49, Go.Operand.tmp 51, Go.Operand.tmp 52, Go.Operand.tmp 53, Go.Operand.tmp 54], argTypes := #[24, 3, 3, 22, 44] }, type := 4, pos := "law.go:105", after := #[{ on := 1, ground := Go.Ground.data }, { on := 3, ground := Go.Ground.data }, { on := 4, ground := Go.Ground.data }, { on := 5, ground := Go.Ground.data }, { on := 6, ground := Go.Ground.data }, { on := 1, ground := Go.Ground.chain }], guard := none }) rfl (fun K hK => ?_) AllReadyH.nil
  go_simp
  refine (D3.out _ b3).mono ?_
  rintro e w4 ⟨rfl, b4⟩
  refine hK.out _ _ (b4) (fun hHeld2 => ?_)
  clear hK K hHeld1
  try simp only [Act.put, List.setIfInBounds_toArray, List.set_cons_zero, List.set_cons_succ]
  refine wpAnyH_take (i := 8) (oi := { dst := some 56, op := Go.Op.unOp Go.UnOp.not 4 (Go.Operand.tmp 55), type := 4, pos := "law.go:105", after := #[{ on := 7, ground := Go.Ground.data }], guard := none }) (v := ?_) rfl (by kernel_rfl) (by kernel_rfl) (by kernel_rfl) (fun _ _ _ h => h) (Or.inl ⟨by rfl, ?_⟩) hHeld2 ?_
  rotate_left 1
  · (intro wq hSq; (try dsimp only at hSq); go_simp; first | done | with_reducible rfl)
  try simp only [Act.put, List.setIfInBounds_toArray, List.set_cons_zero, List.set_cons_succ]
  refine wpAnyH_take (i := 9) (oi := { dst := some 57, op := Go.Op.move (Go.Operand.tmp 56), type := 4, pos := "law.go:105", after := #[{ on := 8, ground := Go.Ground.data }, { on := 7, ground := Go.Ground.chain }], guard := none }) (v := ?_) rfl (by kernel_rfl) (by kernel_rfl) (by kernel_rfl) (fun _ _ _ h => h) (Or.inl ⟨by rfl, ?_⟩) hHeld2 ?_
  rotate_left 1
  · (intro wq hSq; (try dsimp only at hSq); go_simp; first | done | with_reducible rfl)
  try simp only [Act.put, List.setIfInBounds_toArray, List.set_cons_zero, List.set_cons_succ]
  refine wpAnyH_take (i := 10) (oi := { dst := some 58, op := Go.Op.move (Go.Operand.tmp 2), type := 22, pos := "law.go:105", after := #[{ on := 9, ground := Go.Ground.guard }], guard := some (9, false) }) (v := undef) rfl (by kernel_rfl) (by kernel_rfl) (by kernel_rfl) (fun _ _ _ h => h) (Or.inr ⟨by rfl, rfl⟩) hHeld2 ?_
  try simp only [Act.put, List.setIfInBounds_toArray, List.set_cons_zero, List.set_cons_succ]
  refine wpAnyH_take (i := 11) (oi := { dst := some 59, op := Go.Op.convert 22 9 (Go.Operand.tmp 58), type := 9, pos := "law.go:105", after := #[{ on := 10, ground := Go.Ground.data }, { on := 9, ground := Go.Ground.guard }], guard := some (9, false) }) (v := undef) rfl (by kernel_rfl) (by kernel_rfl) (by kernel_rfl) (fun _ _ _ h => h) (Or.inr ⟨by rfl, rfl⟩) hHeld2 ?_
  try simp only [Act.put, List.setIfInBounds_toArray, List.set_cons_zero, List.set_cons_succ]
  refine wpAnyH_take (i := 12) (oi := { dst := some 60, op := Go.Op.move (Go.Operand.tmp 9), type := 29, pos := "law.go:105", after := #[{ on := 9, ground := Go.Ground.guard }], guard := some (9, false) }) (v := undef) rfl (by kernel_rfl) (by kernel_rfl) (by kernel_rfl) (fun _ _ _ h => h) (Or.inr ⟨by rfl, rfl⟩) hHeld2 ?_
  try simp only [Act.put, List.setIfInBounds_toArray, List.set_cons_zero, List.set_cons_succ]
  refine wpAnyH_take (i := 13) (oi := { dst := some 61, op := Go.Op.move (Go.Operand.tmp 10), type := 3, pos := "law.go:105", after := #[{ on := 9, ground := Go.Ground.guard }], guard := some (9, false) }) (v := undef) rfl (by kernel_rfl) (by kernel_rfl) (by kernel_rfl) (fun _ _ _ h => h) (Or.inr ⟨by rfl, rfl⟩) hHeld2 ?_
  try simp only [Act.put, List.setIfInBounds_toArray, List.set_cons_zero, List.set_cons_succ]
  refine wpAnyH_take (i := 14) (oi := { dst := some 62, op := Go.Op.indexAddr 29 (Go.Operand.tmp 60) (Go.Operand.tmp 61), type := 0, pos := "law.go:105", after := #[{ on := 12, ground := Go.Ground.data }, { on := 13, ground := Go.Ground.data }, { on := 9, ground := Go.Ground.guard }], guard := some (9, false) }) (v := undef) rfl (by kernel_rfl) (by kernel_rfl) (by kernel_rfl) (fun _ _ _ h => h) (Or.inr ⟨by rfl, rfl⟩) hHeld2 ?_
  try simp only [Act.put, List.setIfInBounds_toArray, List.set_cons_zero, List.set_cons_succ]
  refine wpAnyH_take (i := 15) (oi := { dst := some 63, op := Go.Op.load 22 (Go.Operand.tmp 62), type := 22, pos := "law.go:105", after := #[{ on := 14, ground := Go.Ground.data }, { on := 9, ground := Go.Ground.guard }], guard := some (9, false) }) (v := undef) rfl (by kernel_rfl) (by kernel_rfl) (by kernel_rfl) (fun _ _ _ h => h) (Or.inr ⟨by rfl, rfl⟩) hHeld2 ?_
  try simp only [Act.put, List.setIfInBounds_toArray, List.set_cons_zero, List.set_cons_succ]
  refine wpAnyH_take (i := 16) (oi := { dst := some 64, op := Go.Op.convert 22 9 (Go.Operand.tmp 63), type := 9, pos := "law.go:105", after := #[{ on := 15, ground := Go.Ground.data }, { on := 9, ground := Go.Ground.guard }], guard := some (9, false) }) (v := undef) rfl (by kernel_rfl) (by kernel_rfl) (by kernel_rfl) (fun _ _ _ h => h) (Or.inr ⟨by rfl, rfl⟩) hHeld2 ?_
  try simp only [Act.put, List.setIfInBounds_toArray, List.set_cons_zero, List.set_cons_succ]
  refine wpAnyH_take (i := 17) (oi := { dst := some 65, op := Go.Op.binOp Go.BinOp.eql 9 (Go.Operand.tmp 59) (Go.Operand.tmp 64) 9, type := 4, pos := "law.go:105", after := #[{ on := 11, ground := Go.Ground.data }, { on := 16, ground := Go.Ground.data }, { on := 9, ground := Go.Ground.guard }], guard := some (9, false) }) (v := undef) rfl (by kernel_rfl) (by kernel_rfl) (by kernel_rfl) (fun _ _ _ h => h) (Or.inr ⟨by rfl, rfl⟩) hHeld2 ?_
  try simp only [Act.put, List.setIfInBounds_toArray, List.set_cons_zero, List.set_cons_succ]
  refine wpAnyH_take (i := 18) (oi := { dst := some 66, op := Go.Op.pick (Go.Operand.tmp 57) (Go.Operand.const (Go.Value.bool true)) (Go.Operand.tmp 65), type := 4, pos := "law.go:105", after := #[{ on := 9, ground := Go.Ground.data }, { on := 17, ground := Go.Ground.data }], guard := none }) (v := ?_) rfl (by kernel_rfl) (by kernel_rfl) (by kernel_rfl) (fun _ _ _ h => h) (Or.inl ⟨by rfl, ?_⟩) hHeld2 ?_
  rotate_left 1
  · (intro wq hSq; (try dsimp only at hSq); go_simp; first | done | with_reducible rfl)
  try simp only [Act.put, List.setIfInBounds_toArray, List.set_cons_zero, List.set_cons_succ]
  refine wpAnyH_done (by kernel_rfl) ?_ _
  refine NoPanic.normal ?_
  go_wp2
  go_ret
  exact ⟨rfl, B02.out _ b4⟩
set_option maxRecDepth 100000 in
set_option maxHeartbeats 2000000 in
theorem mapart_same (av : Option Addr) (N cp : Nat) (i : Int) (avc : Option Addr) (nc cpc : Nat) (avp : Option Addr) (np cpp : Nat) (ls : List (List Int)) (n K : Nat) (c ch : List Int) (Rt : List Int) (w : World)
    (hN0 : 0 < N) (hN : N ≤ 2000) (hnc : nc ≤ 100) (hnp : np ≤ 60) (hn : ls.length = n) (hn1 : n ≤ 1000) (hK : (i % 18446744073709551616) % (n : Int) = (K : Int)) (hc : ls[K]? = some c)
    (K1 : ∀ w', Below w.heap.size w w' → Calls Tryd.prog 29 #[.slice av N cp] w' fun e w'' => ∃ u, e = .returned u ∧ PartsAt w'' u ls ∧ Below w'.heap.size w' w'')
    (K2 : ∀ w', Below w.heap.size w w' → Calls Tryd.prog 32 #[.slice av N cp] w' fun e w'' => e = .returned (.agg (vB Rt)) ∧ Below w'.heap.size w' w'')
    (SC SX : ByteArray) (hSC : SC = strOfNums ch) (hSX : SX = strOfNums c) (heq : (SC.toList == SX.toList) = true) (KC : ∀ w', Below w.heap.size w w' → PartAt w' (.slice avc nc cpc) ch)
    (K3 : ∀ w', Below w.heap.size w w' → Calls Tryd.prog 41 #[.agg (vB Rt), .int .i64 n, .int .i64 K, .slice avc nc cpc, .slice avp np cpp] w' fun e w'' => e = .returned (.bool true) ∧ Below w'.heap.size w' w'') :
    Calls Tryd.prog 11 #[.slice av N cp, .int .i64 i, .slice avc nc cpc, .slice avp np cpp] w fun e w' => e = .returned (.bool true) ∧ Below w.heap.size w w' := by
  have C1 : Hid (∀ w', Below w.heap.size w w' → Calls Tryd.prog 29 #[.slice av N cp] w' fun e w'' => ∃ u, e = .returned u ∧ PartsAt w'' u ls ∧ Below w'.heap.size w' w'') := K1
  have C2 : Hid (∀ w', Below w.heap.size w w' → Calls Tryd.prog 32 #[.slice av N cp] w' fun e w'' => e = .returned (.agg (vB Rt)) ∧ Below w'.heap.size w' w'') := K2
  clear K1 K2
  have hKn : K < n := by rw [← hn]; exact (List.getElem?_eq_some_iff.1 hc).1
  have j0' : decide ((2000 : Int) < (N : Int)) = false := by simp; omega
  have j1' : ((N : Int) == 0) = false := by simp; omega
  have j4' : decide ((100 : Int) < (nc : Int)) = false := by simp; omega
  have j5' : decide ((60 : Int) < (np : Int)) = false := by simp; omega
  have j2 : (n : Int) % 18446744073709551616 = (n : Int) := by omega
  have j3 : ¬ (n : Int) = 0 := by omega
  go_enter Tryd.func11, Tryd.ntmps11
  go_wp2_with fail
  refine (awake2_any _).mono ?_
  rintro e w1 ⟨rfl, b1⟩
  go_wp2_with fail
  refine (C1.out _ b1).mono ?_
  rintro e w2 ⟨u2, rfl, p2, b2⟩
  obtain ⟨avl, bl, ol, cpl, vs, rfl, q1, q2, q3, q4, q5, q6, q7⟩ := p2
  rw [hn]
  have b02 := b1.trans (b2.mono b1.size)
  have hKw : (IntKind.u64.wrap i).tmod (n : Int) = (K : Int) := by
    rw [show IntKind.u64.wrap i = i % 18446744073709551616 from rfl, Int.tmod_eq_emod_of_nonneg (by omega)]; exact hK
  obtain ⟨x, hx⟩ : ∃ x, vs[K]? = some x := ⟨vs[K]'(by omega), List.getElem?_eq_getElem (by omega)⟩
  have hpx := q7 K x c hx hc
  have hcx := q5 K x hx
  have hav := q3 (by omega)
  subst hav
  have hKi : (K : Int) < (n : Int) := by omega
  have hK0 : (0 : Int) ≤ (K : Int) := by omega
  have D2 : Hid (∀ w', Below w2.heap.size w2 w' → Calls Tryd.prog 32 #[.slice av N cp] w' fun e w'' => e = .returned (.agg (vB Rt)) ∧ Below w2.heap.size w2 w'') := fun w' k => (C2.out w' (b02.trans (k.mono b02.size))).mono fun e w'' ⟨q, q'⟩ => ⟨q, k.trans (q'.mono k.size)⟩
  have D3 : Hid (∀ w', Below w2.heap.size w2 w' → Calls Tryd.prog 41 #[.agg (vB Rt), .int .i64 n, .int .i64 K, .slice avc nc cpc, .slice avp np cpp] w' fun e w'' => e = .returned (.bool true) ∧ Below w2.heap.size w2 w'') := fun w' k => (K3 w' (b02.trans (k.mono b02.size))).mono fun e w'' ⟨q, q'⟩ => ⟨q, k.trans (q'.mono k.size)⟩
  have BD : Hid (Below w2.heap.size w2 w2.drew) := (Below.refl _ _).drew
  have B02 : Hid (∀ w', Below w2.heap.size w2 w' → Below w.heap.size w w') := fun w' k => b02.trans (k.mono b02.size)
  have FC : Hid (∀ w', Below w2.heap.size w2 w' → (convert 22 9 (.slice avc nc cpc)).run Tryd.prog w' = .ok (.string SC) w') := fun w' k => by rw [hSC]; exact partConv (KC w' (B02.out w' k))
  have FX : Hid (∀ w', Below w2.heap.size w2 w' → w'.cell? ⟨bl, ol + K, none⟩ = some x) := fun w' k => by rw [k.cell (show bl < w2.heap.size from q6)]; exact hcx
  have FY : Hid (∀ w', Below w2.heap.size w2 w' → (convert 22 9 x).run Tryd.prog w' = .ok (.string SX) w') := fun w' k => by rw [hSX]; exact partConv (hpx.below k)
  clear K3 KC hSC hSX q5 q7 hcx hpx hx C1 C2 hK q1 q2 q3 q4 b02 b1 b2
  go_wp2_with fail
  refine wp_region_noPanic ?_
  refine wp_region_held_drew (S := fun w' => Below w2.heap.size w2 w') (by kernel_rfl) (BD.out) (fun hHeld => ?_)
  try simp only [Act.put, List.setIfInBounds_toArray, List.set_cons_zero, List.set_cons_succ]
  refine wpAnyH_take (i := 0) (oi := { dst := some 48, op := Go.Op.move (Go.Operand.tmp 0), type := 22, pos := "law.go:105", after := #[], guard := none }) (v := ?_) rfl (by kernel_rfl) (by kernel_rfl) (by kernel_rfl) (fun _ _ _ h => h) (Or.inl ⟨by rfl, ?_⟩) hHeld ?_
  rotate_left 1
  · (intro wq hSq; (try dsimp only at hSq); go_simp; first | done | with_reducible rfl)
  try simp only [Act.put, List.setIfInBounds_toArray, List.set_cons_zero, List.set_cons_succ]
  refine wpAnyH_take (i := 2) (oi := { dst := some 50, op := Go.Op.move (Go.Operand.tmp 9), type := 29, pos := "law.go:105", after := #[], guard := none }) (v := ?_) rfl (by kernel_rfl) (by kernel_rfl) (by kernel_rfl) (fun _ _ _ h => h) (Or.inl ⟨by rfl, ?_⟩) hHeld ?_
  rotate_left 1
  · (intro wq hSq; (try dsimp only at hSq); go_simp; first | done | with_reducible rfl)
  try simp only [Act.put, List.setIfInBounds_toArray, List.set_cons_zero, List.set_cons_succ]
  refine wpAnyH_take (i := 3) (oi := { dst := some 51, op := Go.Op.call { callee := Go.Callee.builtin Go.Builtin.len, args := #[Go.Operand.tmp 50], argTypes := #[29] }, type := 3, pos := "law.go:105", after := #[{ on := 2, ground := Go.Ground.data }], guard := none }) (v := ?_) rfl (by kernel_rfl) (by kernel_rfl) (by kernel_rfl) (fun _ _ _ h => h) (Or.inl ⟨by rfl, ?_⟩) hHeld ?_
  rotate_left 1
  · (intro wq hSq; (try dsimp only at hSq); go_simp; first | done | with_reducible rfl)
  try simp only [Act.put, List.setIfInBounds_toArray, List.set_cons_zero, List.set_cons_succ]
  refine wpAnyH_take (i := 4) (oi := { dst := some 52, op := Go.Op.move (Go.Operand.tmp 10), type := 3, pos := "law.go:105", after := #[], guard := none }) (v := ?_) rfl (by kernel_rfl) (by kernel_rfl) (by kernel_rfl) (fun _ _ _ h => h) (Or.inl ⟨by rfl, ?_⟩) hHeld ?_
  rotate_left 1
  · (intro wq hSq; (try dsimp only at hSq); go_simp; first | done | with_reducible rfl)
  try simp only [Act.put, List.setIfInBounds_toArray, List.set_cons_zero, List.set_cons_succ]
  refine wpAnyH_take (i := 5) (oi := { dst := some 53, op := Go.Op.move (Go.Operand.tmp 2), type := 22, pos := "law.go:105", after := #[], guard := none }) (v := ?_) rfl (by kernel_rfl) (by kernel_rfl) (by kernel_rfl) (fun _ _ _ h => h) (Or.inl ⟨by rfl, ?_⟩) hHeld ?_
  rotate_left 1
  · (intro wq hSq; (try dsimp only at hSq); go_simp; first | done | with_reducible rfl)
  try simp only [Act.put, List.setIfInBounds_toArray, List.set_cons_zero, List.set_cons_succ]
  refine wpAnyH_take (i := 6) (oi := { dst := some 54, op := Go.Op.move (Go.Operand.tmp 3), type := 44, pos := "law.go:105", after := #[], guard := none }) (v := ?_) rfl (by kernel_rfl) (by kernel_rfl) (by kernel_rfl) (fun _ _ _ h => h) (Or.inl ⟨by rfl, ?_⟩) hHeld ?_
  rotate_left 1
  · (intro wq hSq; (try dsimp only at hSq); go_simp; first | done | with_reducible rfl)
  try simp only [Act.put, List.setIfInBounds_toArray, List.set_cons_zero, List.set_cons_succ]
  refine wpAnyH_ready (rs := [1]) (by kernel_rfl) (by simp) ?_
  refine AllReadyH.cons (o := { dst := some 49, op := Go.Op.call { callee := Go.Callee.value (Go.Operand.func 32), args := #[Go.Operand.tmp 48], argTypes := #[22] }, type := 24, pos := "law.go:105", after := #[{ on := 0, ground := Go.Ground.data }], guard := none }) rfl (fun K hK => ?_) AllReadyH.nil
  go_simp
  refine (D2.out _ (by assumption)).mono ?_
  rintro e w3 ⟨rfl, b3⟩
  refine hK.out _ _ (b3) (fun hHeld1 => ?_)
  clear hK K hHeld
  try simp only [Act.put, List.setIfInBounds_toArray, List.set_cons_zero, List.set_cons_succ]
  refine wpAnyH_ready (rs := [7]) (by kernel_rfl) (by simp) ?_
  refine AllReadyH.cons (o := { dst := some 55, op := Go.Op.call { callee := Go.Callee.value (Go.Operand.func 41), args := #[Go.Operand.tmp 49, Go.Operand.tmp 51, Go.Operand.tmp 52, Go.Operand.tmp 53, Go.Operand.tmp 54], argTypes := #[24, 3, 3, 22, 44] }, type := 4, pos := "law.go:105", after := #[{ on := 1, ground := Go.Ground.data }, { on := 3, ground := Go.Ground.data }, { on := 4, ground := Go.Ground.data }, { on := 5, ground := Go.Ground.data }, { on := 6, ground := Go.Ground.data }, { on := 1, ground := Go.Ground.chain }], guard := none }) rfl (fun K hK => ?_) AllReadyH.nil
  go_simp
  refine (D3.out _ b3).mono ?_
  rintro e w4 ⟨rfl, b4⟩
  refine hK.out _ _ (b4) (fun hHeld2 => ?_)
  clear hK K hHeld1
  try simp only [Act.put, List.setIfInBounds_toArray, List.set_cons_zero, List.set_cons_succ]
  refine wpAnyH_take (i := 8) (oi := { dst := some 56, op := Go.Op.unOp Go.UnOp.not 4 (Go.Operand.tmp 55), type := 4, pos := "law.go:105", after := #[{ on := 7, ground := Go.Ground.data }], guard := none }) (v := ?_) rfl (by kernel_rfl) (by kernel_rfl) (by kernel_rfl) (fun _ _ _ h => h) (Or.inl ⟨by rfl, ?_⟩) hHeld2 ?_
  rotate_left 1
  · (intro wq hSq; (try dsimp only at hSq); go_simp; first | done | with_reducible rfl)
  try simp only [Act.put, List.setIfInBounds_toArray, List.set_cons_zero, List.set_cons_succ]
  refine wpAnyH_take (i := 9) (oi := { dst := some 57, op := Go.Op.move (Go.Operand.tmp 56), type := 4, pos := "law.go:105", after := #[{ on := 8, ground := Go.Ground.data }, { on := 7, ground := Go.Ground.chain }], guard := none }) (v := ?_) rfl (by kernel_rfl) (by kernel_rfl) (by kernel_rfl) (fun _ _ _ h => h) (Or.inl ⟨by rfl, ?_⟩) hHeld2 ?_
  rotate_left 1
  · (intro wq hSq; (try dsimp only at hSq); go_simp; first | done | with_reducible rfl)
  try simp only [Act.put, List.setIfInBounds_toArray, List.set_cons_zero, List.set_cons_succ]
  refine wpAnyH_take (i := 10) (oi := { dst := some 58, op := Go.Op.move (Go.Operand.tmp 2), type := 22, pos := "law.go:105", after := #[{ on := 9, ground := Go.Ground.guard }], guard := some (9, false) }) (v := ?_) rfl (by kernel_rfl) (by kernel_rfl) (by kernel_rfl) (fun _ _ _ h => h) (Or.inl ⟨by rfl, ?_⟩) hHeld2 ?_
  rotate_left 1
  · (intro wq hSq; (try dsimp only at hSq); go_simp; first | done | with_reducible rfl)
  try simp only [Act.put, List.setIfInBounds_toArray, List.set_cons_zero, List.set_cons_succ]
  refine wpAnyH_take (i := 11) (oi := { dst := some 59, op := Go.Op.convert 22 9 (Go.Operand.tmp 58), type := 9, pos := "law.go:105", after := #[{ on := 10, ground := Go.Ground.data }, { on := 9, ground := Go.Ground.guard }], guard := some (9, false) }) (v := ?_) rfl (by kernel_rfl) (by kernel_rfl) (by kernel_rfl) (fun _ _ _ h => h) (Or.inl ⟨by rfl, ?_⟩) hHeld2 ?_
  rotate_left 1
  · (intro wq hSq; (try dsimp only at hSq); have hq := FC.out _ hSq; go_simp; first | done | with_reducible rfl)
  try simp only [Act.put, List.setIfInBounds_toArray, List.set_cons_zero, List.set_cons_succ]
  refine wpAnyH_take (i := 12) (oi := { dst := some 60, op := Go.Op.move (Go.Operand.tmp 9), type := 29, pos := "law.go:105", after := #[{ on := 9, ground := Go.Ground.guard }], guard := some (9, false) }) (v := ?_) rfl (by kernel_rfl) (by kernel_rfl) (by kernel_rfl) (fun _ _ _ h => h) (Or.inl ⟨by rfl, ?_⟩) hHeld2 ?_
  rotate_left 1
  · (intro wq hSq; (try dsimp only at hSq); go_simp; first | done | with_reducible rfl)
  try simp only [Act.put, List.setIfInBounds_toArray, List.set_cons_zero, List.set_cons_succ]
  refine wpAnyH_take (i := 13) (oi := { dst := some 61, op := Go.Op.move (Go.Operand.tmp 10), type := 3, pos := "law.go:105", after := #[{ on := 9, ground := Go.Ground.guard }], guard := some (9, false) }) (v := ?_) rfl (by kernel_rfl) (by kernel_rfl) (by kernel_rfl) (fun _ _ _ h => h) (Or.inl ⟨by rfl, ?_⟩) hHeld2 ?_
  rotate_left 1
  · (intro wq hSq; (try dsimp only at hSq); go_simp; first | done | with_reducible rfl)
  try simp only [Act.put, List.setIfInBounds_toArray, List.set_cons_zero, List.set_cons_succ]
  refine wpAnyH_take (i := 14) (oi := { dst := some 62, op := Go.Op.indexAddr 29 (Go.Operand.tmp 60) (Go.Operand.tmp 61), type := 0, pos := "law.go:105", after := #[{ on := 12, ground := Go.Ground.data }, { on := 13, ground := Go.Ground.data }, { on := 9, ground := Go.Ground.guard }], guard := some (9, false) }) (v := ?_) rfl (by kernel_rfl) (by kernel_rfl) (by kernel_rfl) (fun _ _ _ h => h) (Or.inl ⟨by rfl, ?_⟩) hHeld2 ?_
  rotate_left 1
  · (intro wq hSq; (try dsimp only at hSq); go_simp; first | done | with_reducible rfl)
  try simp only [Act.put, List.setIfInBounds_toArray, List.set_cons_zero, List.set_cons_succ]
  refine wpAnyH_take (i := 15) (oi := { dst := some 63, op := Go.Op.load 22 (Go.Operand.tmp 62), type := 22, pos := "law.go:105", after := #[{ on := 14, ground := Go.Ground.data }, { on := 9, ground := Go.Ground.guard }], guard := some (9, false) }) (v := ?_) rfl (by kernel_rfl) (by kernel_rfl) (by kernel_rfl) (fun _ _ _ h => h) (Or.inl ⟨by rfl, ?_⟩) hHeld2 ?_
  rotate_left 1
  · (intro wq hSq; (try dsimp only at hSq); have hq := FX.out _ hSq; go_simp; first | done | with_reducible rfl)
  try simp only [Act.put, List.setIfInBounds_toArray, List.set_cons_zero, List.set_cons_succ]
  refine wpAnyH_take (i := 16) (oi := { dst := some 64, op := Go.Op.convert 22 9 (Go.Operand.tmp 63), type := 9, pos := "law.go:105", after := #[{ on := 15, ground := Go.Ground.data }, { on := 9, ground := Go.Ground.guard }], guard := some (9, false) }) (v := ?_) rfl (by kernel_rfl) (by kernel_rfl) (by kernel_rfl) (fun _ _ _ h => h) (Or.inl ⟨by rfl, ?_⟩) hHeld2 ?_
  rotate_left 1
  · (intro wq hSq; (try dsimp only at hSq); have hq := FY.out _ hSq; go_simp; first | done | with_reducible rfl)
  try simp only [Act.put, List.setIfInBounds_toArray, List.set_cons_zero, List.set_cons_succ]
  refine wpAnyH_take (i := 17) (oi := { dst := some 65, op := Go.Op.binOp Go.BinOp.eql 9 (Go.Operand.tmp 59) (Go.Operand.tmp 64) 9, type := 4, pos := "law.go:105", after := #[{ on := 11, ground := Go.Ground.data }, { on := 16, ground := Go.Ground.data }, { on := 9, ground := Go.Ground.guard }], guard := some (9, false) }) (v := ?_) rfl (by kernel_rfl) (by kernel_rfl) (by kernel_rfl) (fun _ _ _ h => h) (Or.inl ⟨by rfl, ?_⟩) hHeld2 ?_
  rotate_left 1
  · (intro wq hSq; (try dsimp only at hSq); go_simp; first | done | with_reducible rfl)
  try simp only [Act.put, List.setIfInBounds_toArray, List.set_cons_zero, List.set_cons_succ]
  refine wpAnyH_take (i := 18) (oi := { dst := some 66, op := Go.Op.pick (Go.Operand.tmp 57) (Go.Operand.const (Go.Value.bool true)) (Go.Operand.tmp 65), type := 4, pos := "law.go:105", after := #[{ on := 9, ground := Go.Ground.data }, { on := 17, ground := Go.Ground.data }], guard := none }) (v := ?_) rfl (by kernel_rfl) (by kernel_rfl) (by kernel_rfl) (fun _ _ _ h => h) (Or.inl ⟨by rfl, ?_⟩) hHeld2 ?_
  rotate_left 1
  · (intro wq hSq; (try dsimp only at hSq); go_simp; first | done | with_reducible rfl)
  try simp only [Act.put, List.setIfInBounds_toArray, List.set_cons_zero, List.set_cons_succ]
  refine wpAnyH_done (by kernel_rfl) ?_ _
  refine NoPanic.normal ?_
  go_wp2
  go_ret
  exact ⟨rfl, B02.out _ b4⟩
end Go.Proofs.YtffhjjgkoapioaaDoor
namespace Go.Proofs.YtffhjjgkoapioaaDoor
set_option linter.unusedSimpArgs false
set_option linter.unusedVariables false
open Go.RowKit
set_option maxRecDepth 100000 in
set_option maxHeartbeats 4000000 in
theorem mapart_on (av : Option Addr) (N cp : Nat) (i : Int) (avc : Option Addr) (nc cpc : Nat) (avp : Option Addr) (np cpp : Nat) (ls : List (List Int)) (n K : Nat) (c ch : List Int) (Rt : List Int) (w : World)
    (hN0 : 0 < N) (hN : N ≤ 2000) (hnc : nc ≤ 100) (hnp : np ≤ 60) (hn : ls.length = n) (hn1 : n ≤ 1000) (hK : (i % 18446744073709551616) % (n : Int) = (K : Int)) (hc : ls[K]? = some c)
    (K1 : ∀ w', Below w.heap.size w w' → Calls Tryd.prog 29 #[.slice av N cp] w' fun e w'' => ∃ u, e = .returned u ∧ PartsAt w'' u ls ∧ Below w'.heap.size w' w'')
    (K2 : ∀ w', Below w.heap.size w w' → Calls Tryd.prog 32 #[.slice av N cp] w' fun e w'' => e = .returned (.agg (vB Rt)) ∧ Below w'.heap.size w' w'')
    (SC SX : ByteArray) (hSC : SC = strOfNums ch) (hSX : SX = strOfNums c) (heq : (SC.toList == SX.toList) = false) (KC : ∀ w', Below w.heap.size w w' → PartAt w' (.slice avc nc cpc) ch)
    (pr : List (List Int)) (XS YS : List (List Int)) (m : Nat) (H : List Int → List Int) (hm : m ≤ 1000) (hXS : XS.length = m) (hYS : YS.length = m) (hXb : ∀ l ∈ XS, Bytes l) (hYb : ∀ l ∈ YS, Bytes l) (hHl : ∀ l, (H l).length = 32)
    (clash : ∃ (j : Nat) (X Y : List Int), XS[j]? = some X ∧ YS[j]? = some Y ∧ X ≠ Y ∧ H X = H Y)
    (K3 : ∀ w', Below w.heap.size w w' → Calls Tryd.prog 41 #[.agg (vB Rt), .int .i64 n, .int .i64 K, .slice avc nc cpc, .slice avp np cpp] w' fun e w'' => e = .returned (.bool true) ∧ Below w'.heap.size w' w'')
    (K4 : ∀ w', Below w.heap.size w w' → Calls Tryd.prog 39 #[.slice av N cp, .int .i64 K] w' fun e w'' => ∃ u, e = .returned (.tuple #[u, .int .i64 0]) ∧ ListAt w'' u pr ∧ Below w'.heap.size w' w'')
    (K5 : ∀ w', Below w.heap.size w w' → Calls Tryd.prog 44 #[.int .i64 n, .int .i64 K, .slice avc nc cpc, .slice avp np cpp] w' fun e w'' => ∃ u, e = .returned u ∧ PartsAt w'' u XS ∧ Below w'.heap.size w' w'')
    (K6 : ∀ w' y u, Below w.heap.size w w' → PartAt w' y c → ListAt w' u pr → Calls Tryd.prog 44 #[.int .i64 n, .int .i64 K, y, u] w' fun e w'' => ∃ u, e = .returned u ∧ PartsAt w'' u YS ∧ Below w'.heap.size w' w'')
    (K7 : ∀ w' y l, (l ∈ XS ∨ l ∈ YS) → PartAt w' y l → Calls Tryd.prog 18 #[y] w' fun e w'' => e = .returned (.agg (vB (H l))) ∧ Below w'.heap.size w' w'') :
    Calls Tryd.prog 11 #[.slice av N cp, .int .i64 i, .slice avc nc cpc, .slice avp np cpp] w fun e w' => e = .returned (.bool true) ∧ Below w.heap.size w w' := by
  have C1 : Hid (∀ w', Below w.heap.size w w' → Calls Tryd.prog 29 #[.slice av N cp] w' fun e w'' => ∃ u, e = .returned u ∧ PartsAt w'' u ls ∧ Below w'.heap.size w' w'') := K1
  have C2 : Hid (∀ w', Below w.heap.size w w' → Calls Tryd.prog 32 #[.slice av N cp] w' fun e w'' => e = .returned (.agg (vB Rt)) ∧ Below w'.heap.size w' w'') := K2
  clear K1 K2
  have hKn : K < n := by rw [← hn]; exact (List.getElem?_eq_some_iff.1 hc).1
  have j0' : decide ((2000 : Int) < (N : Int)) = false := by simp; omega
  have j1' : ((N : Int) == 0) = false := by simp; omega
  have j4' : decide ((100 : Int) < (nc : Int)) = false := by simp; omega
  have j5' : decide ((60 : Int) < (np : Int)) = false := by simp; omega
  have j2 : (n : Int) % 18446744073709551616 = (n : Int) := by omega
  have j3 : ¬ (n : Int) = 0 := by omega
  go_enter Tryd.func11, Tryd.ntmps11
  go_wp2_with fail
  refine (awake2_any _).mono ?_
  rintro e w1 ⟨rfl, b1⟩
  go_wp2_with fail
  refine (C1.out _ b1).mono ?_
  rintro e w2 ⟨u2, rfl, p2, b2⟩
  obtain ⟨avl, bl, ol, cpl, vs, rfl, q1, q2, q3, q4, q5, q6, q7⟩ := p2
  rw [hn]
  have b02 := b1.trans (b2.mono b1.size)
  have hKw : (IntKind.u64.wrap i).tmod (n : Int) = (K : Int) := by
    rw [show IntKind.u64.wrap i = i % 18446744073709551616 from rfl, Int.tmod_eq_emod_of_nonneg (by omega)]; exact hK
  obtain ⟨x, hx⟩ : ∃ x, vs[K]? = some x := ⟨vs[K]'(by omega), List.getElem?_eq_getElem (by omega)⟩
  have hpx := q7 K x c hx hc
  have hcx := q5 K x hx
  have hav := q3 (by omega)
  subst hav
  have hKi : (K : Int) < (n : Int) := by omega
  have hK0 : (0 : Int) ≤ (K : Int) := by omega
  have D2 : Hid (∀ w', Below w2.heap.size w2 w' → Calls Tryd.prog 32 #[.slice av N cp] w' fun e w'' => e = .returned (.agg (vB Rt)) ∧ Below w2.heap.size w2 w'') := fun w' k => (C2.out w' (b02.trans (k.mono b02.size))).mono fun e w'' ⟨q, q'⟩ => ⟨q, k.trans (q'.mono k.size)⟩
  have D3 : Hid (∀ w', Below w2.heap.size w2 w' → Calls Tryd.prog 41 #[.agg (vB Rt), .int .i64 n, .int .i64 K, .slice avc nc cpc, .slice avp np cpp] w' fun e w'' => e = .returned (.bool true) ∧ Below w2.heap.size w2 w'') := fun w' k => (K3 w' (b02.trans (k.mono b02.size))).mono fun e w'' ⟨q, q'⟩ => ⟨q, k.trans (q'.mono k.size)⟩
  have BD : Hid (Below w2.heap.size w2 w2.drew) := (Below.refl _ _).drew
  have B02 : Hid (∀ w', Below w2.heap.size w2 w' → Below w.heap.size w w') := fun w' k => b02.trans (k.mono b02.size)
  have FC : Hid (∀ w', Below w2.heap.size w2 w' → (convert 22 9 (.slice avc nc cpc)).run Tryd.prog w' = .ok (.string SC) w') := fun w' k => by rw [hSC]; exact partConv (KC w' (B02.out w' k))
  have FX : Hid (∀ w', Below w2.heap.size w2 w' → w'.cell? ⟨bl, ol + K, none⟩ = some x) := fun w' k => by rw [k.cell (show bl < w2.heap.size from q6)]; exact hcx
  have FY : Hid (∀ w', Below w2.heap.size w2 w' → (convert 22 9 x).run Tryd.prog w' = .ok (.string SX) w') := fun w' k => by rw [hSX]; exact partConv (hpx.below k)
  have PX : Hid (∀ w', Below w2.heap.size w2 w' → PartAt w' x c) := fun w' k => hpx.below k
  clear KC hSC hSX q5 q7 hcx hpx hx C1 C2 hK q1 q2 q3 q4 b02 b1 b2
  go_wp2_with fail
  refine wp_region_noPanic ?_
  refine wp_region_held_drew (S := fun w' => Below w2.heap.size w2 w') (by kernel_rfl) (BD.out) (fun hHeld => ?_)
  try simp only [Act.put, List.setIfInBounds_toArray, List.set_cons_zero, List.set_cons_succ]
  refine wpAnyH_take (i := 0) (oi := { dst := some 48, op := Go.Op.move (Go.Operand.tmp 0), type := 22, pos := "law.go:105", after := #[], guard := none }) (v := ?_) rfl (by kernel_rfl) (by kernel_rfl) (by kernel_rfl) (fun _ _ _ h => h) (Or.inl ⟨by rfl, ?_⟩) hHeld ?_
  rotate_left 1
  · (intro wq hSq; (try dsimp only at hSq); go_simp; first | done | with_reducible rfl)
  try simp only [Act.put, List.setIfInBounds_toArray, List.set_cons_zero, List.set_cons_succ]
  refine wpAnyH_take (i := 2) (oi := { dst := some 50, op := Go.Op.move (Go.Operand.tmp 9), type := 29, pos := "law.go:105", after := #[], guard := none }) (v := ?_) rfl (by kernel_rfl) (by kernel_rfl) (by kernel_rfl) (fun _ _ _ h => h) (Or.inl ⟨by rfl, ?_⟩) hHeld ?_
  rotate_left 1
  · (intro wq hSq; (try dsimp only at hSq); go_simp; first | done | with_reducible rfl)
  try simp only [Act.put, List.setIfInBounds_toArray, List.set_cons_zero, List.set_cons_succ]
  refine wpAnyH_take (i := 3) (oi := { dst := some 51, op := Go.Op.call { callee := Go.Callee.builtin Go.Builtin.len, args := #[Go.Operand.tmp 50], argTypes := #[29] }, type := 3, pos := "law.go:105", after := #[{ on := 2, ground := Go.Ground.data }], guard := none }) (v := ?_) rfl (by kernel_rfl) (by kernel_rfl) (by kernel_rfl) (fun _ _ _ h => h) (Or.inl ⟨by rfl, ?_⟩) hHeld ?_
  rotate_left 1
  · (intro wq hSq; (try dsimp only at hSq); go_simp; first | done | with_reducible rfl)
  try simp only [Act.put, List.setIfInBounds_toArray, List.set_cons_zero, List.set_cons_succ]
  refine wpAnyH_take (i := 4) (oi := { dst := some 52, op := Go.Op.move (Go.Operand.tmp 10), type := 3, pos := "law.go:105", after := #[], guard := none }) (v := ?_) rfl (by kernel_rfl) (by kernel_rfl) (by kernel_rfl) (fun _ _ _ h => h) (Or.inl ⟨by rfl, ?_⟩) hHeld ?_
  rotate_left 1
  · (intro wq hSq; (try dsimp only at hSq); go_simp; first | done | with_reducible rfl)
  try simp only [Act.put, List.setIfInBounds_toArray, List.set_cons_zero, List.set_cons_succ]
  refine wpAnyH_take (i := 5) (oi := { dst := some 53, op := Go.Op.move (Go.Operand.tmp 2), type := 22, pos := "law.go:105", after := #[], guard := none }) (v := ?_) rfl (by kernel_rfl) (by kernel_rfl) (by kernel_rfl) (fun _ _ _ h => h) (Or.inl ⟨by rfl, ?_⟩) hHeld ?_
  rotate_left 1
  · (intro wq hSq; (try dsimp only at hSq); go_simp; first | done | with_reducible rfl)
  try simp only [Act.put, List.setIfInBounds_toArray, List.set_cons_zero, List.set_cons_succ]
  refine wpAnyH_take (i := 6) (oi := { dst := some 54, op := Go.Op.move (Go.Operand.tmp 3), type := 44, pos := "law.go:105", after := #[], guard := none }) (v := ?_) rfl (by kernel_rfl) (by kernel_rfl) (by kernel_rfl) (fun _ _ _ h => h) (Or.inl ⟨by rfl, ?_⟩) hHeld ?_
  rotate_left 1
  · (intro wq hSq; (try dsimp only at hSq); go_simp; first | done | with_reducible rfl)
  try simp only [Act.put, List.setIfInBounds_toArray, List.set_cons_zero, List.set_cons_succ]
  refine wpAnyH_ready (rs := [1]) (by kernel_rfl) (by simp) ?_
  refine AllReadyH.cons (o := { dst := some 49, op := Go.Op.call { callee := Go.Callee.value (Go.Operand.func 32), args := #[Go.Operand.tmp 48], argTypes := #[22] }, type := 24, pos := "law.go:105", after := #[{ on := 0, ground := Go.Ground.data }], guard := none }) rfl (fun K hK => ?_) AllReadyH.nil
  go_simp
  refine (D2.out _ (by assumption)).mono ?_
  rintro e w3 ⟨rfl, b3⟩
  refine hK.out _ _ (b3) (fun hHeld1 => ?_)
  clear hK K hHeld
  try simp only [Act.put, List.setIfInBounds_toArray, List.set_cons_zero, List.set_cons_succ]
  refine wpAnyH_ready (rs := [7]) (by kernel_rfl) (by simp) ?_
  refine AllReadyH.cons (o := { dst := some 55, op := Go.Op.call { callee := Go.Callee.value (Go.Operand.func 41), args := #[Go.Operand.tmp 49, Go.Operand.tmp 51, Go.Operand.tmp 52, Go.Operand.tmp 53, Go.Operand.tmp 54], argTypes := #[24, 3, 3, 22, 44] }, type := 4, pos := "law.go:105", after := #[{ on := 1, ground := Go.Ground.data }, { on := 3, ground := Go.Ground.data }, { on := 4, ground := Go.Ground.data }, { on := 5, ground := Go.Ground.data }, { on := 6, ground := Go.Ground.data }, { on := 1, ground := Go.Ground.chain }], guard := none }) rfl (fun K hK => ?_) AllReadyH.nil
  go_simp
  refine (D3.out _ b3).mono ?_
  rintro e w4 ⟨rfl, b4⟩
  refine hK.out _ _ (b4) (fun hHeld2 => ?_)
  clear hK K hHeld1
  try simp only [Act.put, List.setIfInBounds_toArray, List.set_cons_zero, List.set_cons_succ]
  refine wpAnyH_take (i := 8) (oi := { dst := some 56, op := Go.Op.unOp Go.UnOp.not 4 (Go.Operand.tmp 55), type := 4, pos := "law.go:105", after := #[{ on := 7, ground := Go.Ground.data }], guard := none }) (v := ?_) rfl (by kernel_rfl) (by kernel_rfl) (by kernel_rfl) (fun _ _ _ h => h) (Or.inl ⟨by rfl, ?_⟩) hHeld2 ?_
  rotate_left 1
  · (intro wq hSq; (try dsimp only at hSq); go_simp; first | done | with_reducible rfl)
  try simp only [Act.put, List.setIfInBounds_toArray, List.set_cons_zero, List.set_cons_succ]
  refine wpAnyH_take (i := 9) (oi := { dst := some 57, op := Go.Op.move (Go.Operand.tmp 56), type := 4, pos := "law.go:105", after := #[{ on := 8, ground := Go.Ground.data }, { on := 7, ground := Go.Ground.chain }], guard := none }) (v := ?_) rfl (by kernel_rfl) (by kernel_rfl) (by kernel_rfl) (fun _ _ _ h => h) (Or.inl ⟨by rfl, ?_⟩) hHeld2 ?_
  rotate_left 1
  · (intro wq hSq; (try dsimp only at hSq); go_simp; first | done | with_reducible rfl)
  try simp only [Act.put, List.setIfInBounds_toArray, List.set_cons_zero, List.set_cons_succ]
  refine wpAnyH_take (i := 10) (oi := { dst := some 58, op := Go.Op.move (Go.Operand.tmp 2), type := 22, pos := "law.go:105", after := #[{ on := 9, ground := Go.Ground.guard }], guard := some (9, false) }) (v := ?_) rfl (by kernel_rfl) (by kernel_rfl) (by kernel_rfl) (fun _ _ _ h => h) (Or.inl ⟨by rfl, ?_⟩) hHeld2 ?_
  rotate_left 1
  · (intro wq hSq; (try dsimp only at hSq); go_simp; first | done | with_reducible rfl)
  try simp only [Act.put, List.setIfInBounds_toArray, List.set_cons_zero, List.set_cons_succ]
  refine wpAnyH_take (i := 11) (oi := { dst := some 59, op := Go.Op.convert 22 9 (Go.Operand.tmp 58), type := 9, pos := "law.go:105", after := #[{ on := 10, ground := Go.Ground.data }, { on := 9, ground := Go.Ground.guard }], guard := some (9, false) }) (v := ?_) rfl (by kernel_rfl) (by kernel_rfl) (by kernel_rfl) (fun _ _ _ h => h) (Or.inl ⟨by rfl, ?_⟩) hHeld2 ?_
  rotate_left 1
  · (intro wq hSq; (try dsimp only at hSq); have hq := FC.out _ hSq; go_simp; first | done | with_reducible rfl)
  try simp only [Act.put, List.setIfInBounds_toArray, List.set_cons_zero, List.set_cons_succ]
  refine wpAnyH_take (i := 12) (oi := { dst := some 60, op := Go.Op.move (Go.Operand.tmp 9), type := 29, pos := "law.go:105", after := #[{ on := 9, ground := Go.Ground.guard }], guard := some (9, false) }) (v := ?_) rfl (by kernel_rfl) (by kernel_rfl) (by kernel_rfl) (fun _ _ _ h => h) (Or.inl ⟨by rfl, ?_⟩) hHeld2 ?_
  rotate_left 1
  · (intro wq hSq; (try dsimp only at hSq); go_simp; first | done | with_reducible rfl)
  try simp only [Act.put, List.setIfInBounds_toArray, List.set_cons_zero, List.set_cons_succ]
  refine wpAnyH_take (i := 13) (oi := { dst := some 61, op := Go.Op.move (Go.Operand.tmp 10), type := 3, pos := "law.go:105", after := #[{ on := 9, ground := Go.Ground.guard }], guard := some (9, false) }) (v := ?_) rfl (by kernel_rfl) (by kernel_rfl) (by kernel_rfl) (fun _ _ _ h => h) (Or.inl ⟨by rfl, ?_⟩) hHeld2 ?_
  rotate_left 1
  · (intro wq hSq; (try dsimp only at hSq); go_simp; first | done | with_reducible rfl)
  try simp only [Act.put, List.setIfInBounds_toArray, List.set_cons_zero, List.set_cons_succ]
  refine wpAnyH_take (i := 14) (oi := { dst := some 62, op := Go.Op.indexAddr 29 (Go.Operand.tmp 60) (Go.Operand.tmp 61), type := 0, pos := "law.go:105", after := #[{ on := 12, ground := Go.Ground.data }, { on := 13, ground := Go.Ground.data }, { on := 9, ground := Go.Ground.guard }], guard := some (9, false) }) (v := ?_) rfl (by kernel_rfl) (by kernel_rfl) (by kernel_rfl) (fun _ _ _ h => h) (Or.inl ⟨by rfl, ?_⟩) hHeld2 ?_
  rotate_left 1
  · (intro wq hSq; (try dsimp only at hSq); go_simp; first | done | with_reducible rfl)
  try simp only [Act.put, List.setIfInBounds_toArray, List.set_cons_zero, List.set_cons_succ]
  refine wpAnyH_take (i := 15) (oi := { dst := some 63, op := Go.Op.load 22 (Go.Operand.tmp 62), type := 22, pos := "law.go:105", after := #[{ on := 14, ground := Go.Ground.data }, { on := 9, ground := Go.Ground.guard }], guard := some (9, false) }) (v := ?_) rfl (by kernel_rfl) (by kernel_rfl) (by kernel_rfl) (fun _ _ _ h => h) (Or.inl ⟨by rfl, ?_⟩) hHeld2 ?_
  rotate_left 1
  · (intro wq hSq; (try dsimp only at hSq); have hq := FX.out _ hSq; go_simp; first | done | with_reducible rfl)
  try simp only [Act.put, List.setIfInBounds_toArray, List.set_cons_zero, List.set_cons_succ]
  refine wpAnyH_take (i := 16) (oi := { dst := some 64, op := Go.Op.convert 22 9 (Go.Operand.tmp 63), type := 9, pos := "law.go:105", after := #[{ on := 15, ground := Go.Ground.data }, { on := 9, ground := Go.Ground.guard }], guard := some (9, false) }) (v := ?_) rfl (by kernel_rfl) (by kernel_rfl) (by kernel_rfl) (fun _ _ _ h => h) (Or.inl ⟨by rfl, ?_⟩) hHeld2 ?_
  rotate_left 1
  · (intro wq hSq; (try dsimp only at hSq); have hq := FY.out _ hSq; go_simp; first | done | with_reducible rfl)
  try simp only [Act.put, List.setIfInBounds_toArray, List.set_cons_zero, List.set_cons_succ]
  refine wpAnyH_take (i := 17) (oi := { dst := some 65, op := Go.Op.binOp Go.BinOp.eql 9 (Go.Operand.tmp 59) (Go.Operand.tmp 64) 9, type := 4, pos := "law.go:105", after := #[{ on := 11, ground := Go.Ground.data }, { on := 16, ground := Go.Ground.data }, { on := 9, ground := Go.Ground.guard }], guard := some (9, false) }) (v := ?_) rfl (by kernel_rfl) (by kernel_rfl) (by kernel_rfl) (fun _ _ _ h => h) (Or.inl ⟨by rfl, ?_⟩) hHeld2 ?_
  rotate_left 1
  · (intro wq hSq; (try dsimp only at hSq); go_simp; first | done | with_reducible rfl)
  try simp only [Act.put, List.setIfInBounds_toArray, List.set_cons_zero, List.set_cons_succ]
  refine wpAnyH_take (i := 18) (oi := { dst := some 66, op := Go.Op.pick (Go.Operand.tmp 57) (Go.Operand.const (Go.Value.bool true)) (Go.Operand.tmp 65), type := 4, pos := "law.go:105", after := #[{ on := 9, ground := Go.Ground.data }, { on := 17, ground := Go.Ground.data }], guard := none }) (v := ?_) rfl (by kernel_rfl) (by kernel_rfl) (by kernel_rfl) (fun _ _ _ h => h) (Or.inl ⟨by rfl, ?_⟩) hHeld2 ?_
  rotate_left 1
  · (intro wq hSq; (try dsimp only at hSq); go_simp; first | done | with_reducible rfl)
  try simp only [Act.put, List.setIfInBounds_toArray, List.set_cons_zero, List.set_cons_succ]
  refine wpAnyH_done (by kernel_rfl) ?_ _
  refine NoPanic.normal ?_
  have D4 : Hid (Calls Tryd.prog 39 #[.slice av N cp, .int .i64 K] w4 fun e w'' => ∃ u, e = .returned (.tuple #[u, .int .i64 0]) ∧ ListAt w'' u pr ∧ Below w2.heap.size w2 w'') := (K4 w4 (B02.out _ b4)).mono fun e w'' ⟨u, r1, r2, r3⟩ => ⟨u, r1, r2, b4.trans (r3.mono b4.size)⟩
  clear b3 D2 D3 BD FC FY
  go_wp2_with fail
  refine D4.out.mono ?_
  rintro e w5 ⟨u5, rfl, l5, b5⟩
  have GX : Hid (∀ w', Below w5.heap.size w5 w' → w'.cell? ⟨bl, ol + K, none⟩ = some x) := fun w' k => FX.out w' (b5.trans (k.mono b5.size))
  have D5 : Hid (∀ w', Below w5.heap.size w5 w' → Calls Tryd.prog 44 #[.int .i64 n, .int .i64 K, .slice avc nc cpc, .slice avp np cpp] w' fun e w'' => ∃ u, e = .returned u ∧ PartsAt w'' u XS ∧ Below w5.heap.size w5 w'') := fun w' k => (K5 w' (B02.out _ (b5.trans (k.mono b5.size)))).mono fun e w'' ⟨u, r1, r2, r3⟩ => ⟨u, r1, r2, k.trans (r3.mono k.size)⟩
  have D6 : Hid (∀ w', Below w5.heap.size w5 w' → Calls Tryd.prog 44 #[.int .i64 n, .int .i64 K, x, u5] w' fun e w'' => ∃ u, e = .returned u ∧ PartsAt w'' u YS ∧ Below w'.heap.size w' w'' ∧ Below w5.heap.size w5 w'') := fun w' k => (K6 w' x u5 (B02.out _ (b5.trans (k.mono b5.size))) (PX.out _ (b5.trans (k.mono b5.size))) (l5.below k)).mono fun e w'' ⟨u, r1, r2, r3⟩ => ⟨u, r1, r2, r3, k.trans (r3.mono k.size)⟩
  have BD5 : Hid (Below w5.heap.size w5 w5.drew) := (Below.refl _ _).drew
  have B05 : Hid (∀ w', Below w5.heap.size w5 w' → Below w.heap.size w w') := fun w' k => B02.out _ (b5.trans (k.mono b5.size))
  clear b4 D4 FX PX l5 b5 K3 K4 K5 K6
  go_wp2_with fail
  refine wp_region_noPanic ?_
  refine wp_region_held_drew (S := fun w' => Below w5.heap.size w5 w') (by kernel_rfl) (BD5.out) (fun hHeld => ?_)
  try simp only [Act.put, List.setIfInBounds_toArray, List.set_cons_zero, List.set_cons_succ]
  refine wpAnyH_take (i := 0) (oi := { dst := some 73, op := Go.Op.move (Go.Operand.tmp 9), type := 29, pos := "law.go:109", after := #[], guard := none }) (v := ?_) rfl (by kernel_rfl) (by kernel_rfl) (by kernel_rfl) (fun _ _ _ h => h) (Or.inl ⟨by rfl, ?_⟩) hHeld ?_
  rotate_left 1
  · (intro wq hSq; (try dsimp only at hSq); go_simp; first | done | with_reducible rfl)
  try simp only [Act.put, List.setIfInBounds_toArray, List.set_cons_zero, List.set_cons_succ]
  refine wpAnyH_take (i := 1) (oi := { dst := some 74, op := Go.Op.call { callee := Go.Callee.builtin Go.Builtin.len, args := #[Go.Operand.tmp 73], argTypes := #[29] }, type := 3, pos := "law.go:109", after := #[{ on := 0, ground := Go.Ground.data }], guard := none }) (v := ?_) rfl (by kernel_rfl) (by kernel_rfl) (by kernel_rfl) (fun _ _ _ h => h) (Or.inl ⟨by rfl, ?_⟩) hHeld ?_
  rotate_left 1
  · (intro wq hSq; (try dsimp only at hSq); go_simp; first | done | with_reducible rfl)
  try simp only [Act.put, List.setIfInBounds_toArray, List.set_cons_zero, List.set_cons_succ]
  refine wpAnyH_take (i := 2) (oi := { dst := some 75, op := Go.Op.move (Go.Operand.tmp 10), type := 3, pos := "law.go:109", after := #[], guard := none }) (v := ?_) rfl (by kernel_rfl) (by kernel_rfl) (by kernel_rfl) (fun _ _ _ h => h) (Or.inl ⟨by rfl, ?_⟩) hHeld ?_
  rotate_left 1
  · (intro wq hSq; (try dsimp only at hSq); go_simp; first | done | with_reducible rfl)
  try simp only [Act.put, List.setIfInBounds_toArray, List.set_cons_zero, List.set_cons_succ]
  refine wpAnyH_take (i := 3) (oi := { dst := some 76, op := Go.Op.move (Go.Operand.tmp 2), type := 22, pos := "law.go:109", after := #[], guard := none }) (v := ?_) rfl (by kernel_rfl) (by kernel_rfl) (by kernel_rfl) (fun _ _ _ h => h) (Or.inl ⟨by rfl, ?_⟩) hHeld ?_
  rotate_left 1
  · (intro wq hSq; (try dsimp only at hSq); go_simp; first | done | with_reducible rfl)
  try simp only [Act.put, List.setIfInBounds_toArray, List.set_cons_zero, List.set_cons_succ]
  refine wpAnyH_take (i := 4) (oi := { dst := some 77, op := Go.Op.move (Go.Operand.tmp 3), type := 44, pos := "law.go:109", after := #[], guard := none }) (v := ?_) rfl (by kernel_rfl) (by kernel_rfl) (by kernel_rfl) (fun _ _ _ h => h) (Or.inl ⟨by rfl, ?_⟩) hHeld ?_
  rotate_left 1
  · (intro wq hSq; (try dsimp only at hSq); go_simp; first | done | with_reducible rfl)
  try simp only [Act.put, List.setIfInBounds_toArray, List.set_cons_zero, List.set_cons_succ]
  refine wpAnyH_take (i := 6) (oi := { dst := some 79, op := Go.Op.move (Go.Operand.tmp 9), type := 29, pos := "law.go:109", after := #[], guard := none }) (v := ?_) rfl (by kernel_rfl) (by kernel_rfl) (by kernel_rfl) (fun _ _ _ h => h) (Or.inl ⟨by rfl, ?_⟩) hHeld ?_
  rotate_left 1
  · (intro wq hSq; (try dsimp only at hSq); go_simp; first | done | with_reducible rfl)
  try simp only [Act.put, List.setIfInBounds_toArray, List.set_cons_zero, List.set_cons_succ]
  refine wpAnyH_take (i := 7) (oi := { dst := some 80, op := Go.Op.call { callee := Go.Callee.builtin Go.Builtin.len, args := #[Go.Operand.tmp 79], argTypes := #[29] }, type := 3, pos := "law.go:109", after := #[{ on := 6, ground := Go.Ground.data }], guard := none }) (v := ?_) rfl (by kernel_rfl) (by kernel_rfl) (by kernel_rfl) (fun _ _ _ h => h) (Or.inl ⟨by rfl, ?_⟩) hHeld ?_
  rotate_left 1
  · (intro wq hSq; (try dsimp only at hSq); go_simp; first | done | with_reducible rfl)
  try simp only [Act.put, List.setIfInBounds_toArray, List.set_cons_zero, List.set_cons_succ]
  refine wpAnyH_take (i := 8) (oi := { dst := some 81, op := Go.Op.move (Go.Operand.tmp 10), type := 3, pos := "law.go:109", after := #[], guard := none }) (v := ?_) rfl (by kernel_rfl) (by kernel_rfl) (by kernel_rfl) (fun _ _ _ h => h) (Or.inl ⟨by rfl, ?_⟩) hHeld ?_
  rotate_left 1
  · (intro wq hSq; (try dsimp only at hSq); go_simp; first | done | with_reducible rfl)
  try simp only [Act.put, List.setIfInBounds_toArray, List.set_cons_zero, List.set_cons_succ]
  refine wpAnyH_take (i := 9) (oi := { dst := some 82, op := Go.Op.move (Go.Operand.tmp 9), type := 29, pos := "law.go:109", after := #[], guard := none }) (v := ?_) rfl (by kernel_rfl) (by kernel_rfl) (by kernel_rfl) (fun _ _ _ h => h) (Or.inl ⟨by rfl, ?_⟩) hHeld ?_
  rotate_left 1
  · (intro wq hSq; (try dsimp only at hSq); go_simp; first | done | with_reducible rfl)
  try simp only [Act.put, List.setIfInBounds_toArray, List.set_cons_zero, List.set_cons_succ]
  refine wpAnyH_take (i := 10) (oi := { dst := some 83, op := Go.Op.move (Go.Operand.tmp 10), type := 3, pos := "law.go:109", after := #[], guard := none }) (v := ?_) rfl (by kernel_rfl) (by kernel_rfl) (by kernel_rfl) (fun _ _ _ h => h) (Or.inl ⟨by rfl, ?_⟩) hHeld ?_
  rotate_left 1
  · (intro wq hSq; (try dsimp only at hSq); go_simp; first | done | with_reducible rfl)
  try simp only [Act.put, List.setIfInBounds_toArray, List.set_cons_zero, List.set_cons_succ]
  refine wpAnyH_take (i := 11) (oi := { dst := some 84, op := Go.Op.indexAddr 29 (Go.Operand.tmp 82) (Go.Operand.tmp 83), type := 0, pos := "law.go:109", after := #[{ on := 9, ground := Go.Ground.data }, { on := 10, ground := Go.Ground.data }], guard := none }) (v := ?_) rfl (by kernel_rfl) (by kernel_rfl) (by kernel_rfl) (fun _ _ _ h => h) (Or.inl ⟨by rfl, ?_⟩) hHeld ?_
  rotate_left 1
  · (intro wq hSq; (try dsimp only at hSq); go_simp; first | done | with_reducible rfl)
  try simp only [Act.put, List.setIfInBounds_toArray, List.set_cons_zero, List.set_cons_succ]
  refine wpAnyH_take (i := 12) (oi := { dst := some 85, op := Go.Op.load 22 (Go.Operand.tmp 84), type := 22, pos := "law.go:109", after := #[{ on := 11, ground := Go.Ground.data }], guard := none }) (v := ?_) rfl (by kernel_rfl) (by kernel_rfl) (by kernel_rfl) (fun _ _ _ h => h) (Or.inl ⟨by rfl, ?_⟩) hHeld ?_
  rotate_left 1
  · (intro wq hSq; (try dsimp only at hSq); have hq := GX.out _ hSq; go_simp; first | done | with_reducible rfl)
  try simp only [Act.put, List.setIfInBounds_toArray, List.set_cons_zero, List.set_cons_succ]
  refine wpAnyH_take (i := 13) (oi := { dst := some 86, op := Go.Op.move (Go.Operand.tmp 11), type := 44, pos := "law.go:109", after := #[], guard := none }) (v := ?_) rfl (by kernel_rfl) (by kernel_rfl) (by kernel_rfl) (fun _ _ _ h => h) (Or.inl ⟨by rfl, ?_⟩) hHeld ?_
  rotate_left 1
  · (intro wq hSq; (try dsimp only at hSq); go_simp; first | done | with_reducible rfl)
  try simp only [Act.put, List.setIfInBounds_toArray, List.set_cons_zero, List.set_cons_succ]
  refine wpAnyH_ready (rs := [5]) (by kernel_rfl) (by simp) ?_
  refine AllReadyH.cons (o := { dst := some 78, op := Go.Op.call { callee := Go.Callee.value (Go.Operand.func 44), args := #[Go.Operand.tmp 74, Go.Operand.tmp 75, Go.Operand.tmp 76, Go.Operand.tmp 77], argTypes := #[3, 3, 22, 44] }, type := 29, pos := "law.go:109", after := #[{ on := 1, ground := Go.Ground.data }, { on := 2, ground := Go.Ground.data }, { on := 3, ground := Go.Ground.data }, { on := 4, ground := Go.Ground.data }], guard := none }) rfl (fun K hK => ?_) AllReadyH.nil
  go_simp
  refine (D5.out _ (by assumption)).mono ?_
  rintro e w6 ⟨u6, rfl, p6, b6⟩
  refine hK.out _ _ (b6) (fun hHeld1 => ?_)
  clear hK K hHeld
  try simp only [Act.put, List.setIfInBounds_toArray, List.set_cons_zero, List.set_cons_succ]
  refine wpAnyH_ready (rs := [14]) (by kernel_rfl) (by simp) ?_
  refine AllReadyH.cons (o := { dst := some 87, op := Go.Op.call { callee := Go.Callee.value (Go.Operand.func 44), args := #[Go.Operand.tmp 80, Go.Operand.tmp 81, Go.Operand.tmp 85, Go.Operand.tmp 86], argTypes := #[3, 3, 22, 44] }, type := 29, pos := "law.go:109", after := #[{ on := 7, ground := Go.Ground.data }, { on := 8, ground := Go.Ground.data }, { on := 12, ground := Go.Ground.data }, { on := 13, ground := Go.Ground.data }, { on := 5, ground := Go.Ground.chain }], guard := none }) rfl (fun K hK => ?_) AllReadyH.nil
  go_simp
  refine (D6.out _ b6).mono ?_
  rintro e w7 ⟨u7, rfl, p7, b67, b7⟩
  refine hK.out _ _ (b7) (fun hHeld2 => ?_)
  clear hK K hHeld1
  try simp only [Act.put, List.setIfInBounds_toArray, List.set_cons_zero, List.set_cons_succ]
  refine wpAnyH_take (i := 15) (oi := { dst := some 13, op := Go.Op.assign (Go.Operand.tmp 78), type := 29, pos := "law.go:109", after := #[{ on := 5, ground := Go.Ground.data }, { on := 14, ground := Go.Ground.chain }, { on := 0, ground := Go.Ground.phase }, { on := 1, ground := Go.Ground.phase }, { on := 2, ground := Go.Ground.phase }, { on := 3, ground := Go.Ground.phase }, { on := 4, ground := Go.Ground.phase }, { on := 5, ground := Go.Ground.phase }, { on := 6, ground := Go.Ground.textOnly Go.Departure.lateStores }, { on := 7, ground := Go.Ground.textOnly Go.Departure.lateStoresUnsure }, { on := 8, ground := Go.Ground.textOnly Go.Departure.lateStores }, { on := 9, ground := Go.Ground.textOnly Go.Departure.lateStores }, { on := 10, ground := Go.Ground.textOnly Go.Departure.lateStores }, { on := 11, ground := Go.Ground.textOnly Go.Departure.lateStores }, { on := 12, ground := Go.Ground.textOnly Go.Departure.lateStores }, { on := 13, ground := Go.Ground.textOnly Go.Departure.lateStores }, { on := 14, ground := Go.Ground.textOnly Go.Departure.lateStoresUnsure }], guard := none }) (v := ?_) rfl (by kernel_rfl) (by kernel_rfl) (by kernel_rfl) (fun _ _ _ h => h) (Or.inl ⟨by rfl, ?_⟩) hHeld2 ?_
  rotate_left 1
  · (intro wq hSq; (try dsimp only at hSq); go_simp; first | done | with_reducible rfl)
  try simp only [Act.put, List.setIfInBounds_toArray, List.set_cons_zero, List.set_cons_succ]
  refine wpAnyH_take (i := 16) (oi := { dst := some 14, op := Go.Op.assign (Go.Operand.tmp 87), type := 29, pos := "law.go:109", after := #[{ on := 14, ground := Go.Ground.data }, { on := 15, ground := Go.Ground.chain }, { on := 0, ground := Go.Ground.phase }, { on := 1, ground := Go.Ground.phase }, { on := 2, ground := Go.Ground.phase }, { on := 3, ground := Go.Ground.phase }, { on := 4, ground := Go.Ground.phase }, { on := 5, ground := Go.Ground.phase }, { on := 6, ground := Go.Ground.phase }, { on := 7, ground := Go.Ground.phase }, { on := 8, ground := Go.Ground.phase }, { on := 9, ground := Go.Ground.phase }, { on := 10, ground := Go.Ground.phase }, { on := 11, ground := Go.Ground.phase }, { on := 12, ground := Go.Ground.phase }, { on := 13, ground := Go.Ground.phase }, { on := 14, ground := Go.Ground.phase }, { on := 15, ground := Go.Ground.phase }], guard := none }) (v := ?_) rfl (by kernel_rfl) (by kernel_rfl) (by kernel_rfl) (fun _ _ _ h => h) (Or.inl ⟨by rfl, ?_⟩) hHeld2 ?_
  rotate_left 1
  · (intro wq hSq; (try dsimp only at hSq); go_simp; first | done | with_reducible rfl)
  try simp only [Act.put, List.setIfInBounds_toArray, List.set_cons_zero, List.set_cons_succ]
  refine wpAnyH_done (by kernel_rfl) ?_ _
  refine NoPanic.normal ?_
  have p67 := p6.below b67
  obtain ⟨avX, bX, oX, cpX, vX, rfl, x1, x2, x3, x4, x5, x6, x7⟩ := p67
  obtain ⟨avY, bY, oY, cpY, vY, rfl, y1, y2, y3, y4, y5, y6, y7⟩ := p7
  rw [hXS, hYS]
  have B07 : Hid (∀ w', Below w7.heap.size w7 w' → Below w.heap.size w w') := fun w' k => B05.out _ (b7.trans (k.mono b7.size))
  have K7' : Hid (∀ w' y l, (l ∈ XS ∨ l ∈ YS) → PartAt w' y l → Calls Tryd.prog 18 #[y] w' fun e w'' => e = .returned (.agg (vB (H l))) ∧ Below w'.heap.size w' w'') := K7
  have CL : Hid (∃ (j : Nat) (X Y : List Int), XS[j]? = some X ∧ YS[j]? = some Y ∧ X ≠ Y ∧ H X = H Y) := clash
  have HX5 : Hid (w7.rangeAt bX oX vX) := x5
  have HY5 : Hid (w7.rangeAt bY oY vY) := y5
  have HX7 : Hid (∀ (i : Nat) (x : Value) (l : List Int), vX[i]? = some x → XS[i]? = some l → PartAt w7 x l) := x7
  have HY7 : Hid (∀ (i : Nat) (x : Value) (l : List Int), vY[i]? = some x → YS[i]? = some l → PartAt w7 x l) := y7
  have HXB : Hid (∀ l ∈ XS, Bytes l) := hXb
  have HYB : Hid (∀ l ∈ YS, Bytes l) := hYb
  have HHL : Hid (∀ l, (H l).length = 32) := hHl
  rw [hXS] at x3 x4
  rw [hYS] at y3 y4
  clear K7 clash x5 y5 x7 y7 hXb hYb hHl p6 b6 b67 b7 B05 BD5 D5 D6 GX x1 x2 y1 y2
  go_wp2_with fail
  go_loopw [90] (fun i wr => ∃ k : Nat, k ≤ m ∧ i = .int .i64 k ∧ Below w7.heap.size w7 wr ∧ Hid (∀ (j : Nat) (X Y : List Int), j < k → XS[j]? = some X → YS[j]? = some Y → X ≠ Y → H X ≠ H Y)) (fun i _ => m - (intOf i).toNat)
  case atStart => exact ⟨0, by omega, rfl, Below.refl _ _, fun j X Y hj => by omega⟩
  case round =>
    obtain ⟨k, hk, rfl, bl7, hno⟩ := hrel
    by_cases hlt : k < m
    · obtain ⟨X, hX⟩ : ∃ X, XS[k]? = some X := ⟨XS[k]'(by omega), List.getElem?_eq_getElem (by omega)⟩
      obtain ⟨Y, hY⟩ : ∃ Y, YS[k]? = some Y := ⟨YS[k]'(by omega), List.getElem?_eq_getElem (by omega)⟩
      obtain ⟨vx, hvx⟩ : ∃ v, vX[k]? = some v := ⟨vX[k]'(by omega), List.getElem?_eq_getElem (by omega)⟩
      obtain ⟨vy, hvy⟩ : ∃ v, vY[k]? = some v := ⟨vY[k]'(by omega), List.getElem?_eq_getElem (by omega)⟩
      have hax := x3 (by omega)
      subst hax
      have hay := y3 (by omega)
      subst hay
      have hki : (k : Int) < (m : Int) := by omega
      have hk0 : (0 : Int) ≤ (k : Int) := by omega
      have ppx := (HX7.out k vx X hvx hX).below bl7
      have ppy := (HY7.out k vy Y hvy hY).below bl7
      obtain ⟨SX1, hSX1⟩ : ∃ S, S = strOfNums X := ⟨_, rfl⟩
      obtain ⟨SY1, hSY1⟩ : ∃ S, S = strOfNums Y := ⟨_, rfl⟩
      have L1 : Hid (∀ w', Below wr.heap.size wr w' → w'.cell? ⟨bX, oX + k, none⟩ = some vx) := fun w' q => by rw [(bl7.trans (q.mono bl7.size)).cell (show bX < w7.heap.size from x6)]; exact HX5.out k vx hvx
      have L3 : Hid (∀ w', Below wr.heap.size wr w' → w'.cell? ⟨bY, oY + k, none⟩ = some vy) := fun w' q => by rw [(bl7.trans (q.mono bl7.size)).cell (show bY < w7.heap.size from y6)]; exact HY5.out k vy hvy
      have L2 : Hid (∀ w', Below wr.heap.size wr w' → (convert 22 9 vx).run Tryd.prog w' = .ok (.string SX1) w') := fun w' q => by rw [hSX1]; exact partConv (ppx.below q)
      have BDR : Hid (Below wr.heap.size wr wr.drew) := (Below.refl _ _).drew
      have BL7 : Hid (∀ w', Below wr.heap.size wr w' → Below w7.heap.size w7 w') := fun w' q => bl7.trans (q.mono bl7.size)
      by_cases hXY : X = Y
      · have L4 : Hid (∀ w', Below wr.heap.size wr w' → (convert 22 9 vy).run Tryd.prog w' = .ok (.string SX1) w') := fun w' q => by rw [hSX1, hXY]; exact partConv (ppy.below q)
        have NX : Hid (∀ (j : Nat) (X Y : List Int), j < k + 1 → XS[j]? = some X → YS[j]? = some Y → X ≠ Y → H X ≠ H Y) := fun j X' Y' hj h1 h2 h3 => by
          rcases Nat.lt_or_ge j k with h | h
          · exact hno.out j X' Y' h h1 h2 h3
          · obtain rfl : j = k := by omega
            rw [hX] at h1; rw [hY] at h2; injection h1 with h1; injection h2 with h2
            exact absurd (by rw [← h1, ← h2]; exact hXY) h3
        clear hno ppx ppy bl7 hSX1 hSY1 hXY hX hY hvx hvy
        go_wp2_with fail
        refine wp_region_noPanic ?_
        refine wp_region_held_drew (S := fun w' => Below wr.heap.size wr w') (by kernel_rfl) (BDR.out) (fun hHeld => ?_)
        try simp only [Act.put, List.setIfInBounds_toArray, List.set_cons_zero, List.set_cons_succ]
        refine wpAnyH_take (i := 0) (oi := { dst := some 93, op := Go.Op.move (Go.Operand.tmp 13), type := 29, pos := "law.go:111", after := #[], guard := none }) (v := ?_) rfl (by kernel_rfl) (by kernel_rfl) (by kernel_rfl) (fun _ _ _ h => h) (Or.inl ⟨by rfl, ?_⟩) hHeld ?_
        rotate_left 1
        · (intro wq hSq; (try dsimp only at hSq); go_simp; first | done | with_reducible rfl)
        try simp only [Act.put, List.setIfInBounds_toArray, List.set_cons_zero, List.set_cons_succ]
        refine wpAnyH_take (i := 1) (oi := { dst := some 94, op := Go.Op.move (Go.Operand.tmp 15), type := 3, pos := "law.go:111", after := #[], guard := none }) (v := ?_) rfl (by kernel_rfl) (by kernel_rfl) (by kernel_rfl) (fun _ _ _ h => h) (Or.inl ⟨by rfl, ?_⟩) hHeld ?_
        rotate_left 1
        · (intro wq hSq; (try dsimp only at hSq); go_simp; first | done | with_reducible rfl)
        try simp only [Act.put, List.setIfInBounds_toArray, List.set_cons_zero, List.set_cons_succ]
        refine wpAnyH_take (i := 2) (oi := { dst := some 95, op := Go.Op.indexAddr 29 (Go.Operand.tmp 93) (Go.Operand.tmp 94), type := 0, pos := "law.go:111", after := #[{ on := 0, ground := Go.Ground.data }, { on := 1, ground := Go.Ground.data }], guard := none }) (v := ?_) rfl (by kernel_rfl) (by kernel_rfl) (by kernel_rfl) (fun _ _ _ h => h) (Or.inl ⟨by rfl, ?_⟩) hHeld ?_
        rotate_left 1
        · (intro wq hSq; (try dsimp only at hSq); go_simp; first | done | with_reducible rfl)
        try simp only [Act.put, List.setIfInBounds_toArray, List.set_cons_zero, List.set_cons_succ]
        refine wpAnyH_take (i := 3) (oi := { dst := some 96, op := Go.Op.load 22 (Go.Operand.tmp 95), type := 22, pos := "law.go:111", after := #[{ on := 2, ground := Go.Ground.data }], guard := none }) (v := ?_) rfl (by kernel_rfl) (by kernel_rfl) (by kernel_rfl) (fun _ _ _ h => h) (Or.inl ⟨by rfl, ?_⟩) hHeld ?_
        rotate_left 1
        · (intro wq hSq; (try dsimp only at hSq); have hq := L1.out _ hSq; go_simp; first | done | with_reducible rfl)
        try simp only [Act.put, List.setIfInBounds_toArray, List.set_cons_zero, List.set_cons_succ]
        refine wpAnyH_take (i := 4) (oi := { dst := some 97, op := Go.Op.convert 22 9 (Go.Operand.tmp 96), type := 9, pos := "law.go:111", after := #[{ on := 3, ground := Go.Ground.data }], guard := none }) (v := ?_) rfl (by kernel_rfl) (by kernel_rfl) (by kernel_rfl) (fun _ _ _ h => h) (Or.inl ⟨by rfl, ?_⟩) hHeld ?_
        rotate_left 1
        · (intro wq hSq; (try dsimp only at hSq); have hq := L2.out _ hSq; go_simp; first | done | with_reducible rfl)
        try simp only [Act.put, List.setIfInBounds_toArray, List.set_cons_zero, List.set_cons_succ]
        refine wpAnyH_take (i := 5) (oi := { dst := some 98, op := Go.Op.move (Go.Operand.tmp 14), type := 29, pos := "law.go:111", after := #[], guard := none }) (v := ?_) rfl (by kernel_rfl) (by kernel_rfl) (by kernel_rfl) (fun _ _ _ h => h) (Or.inl ⟨by rfl, ?_⟩) hHeld ?_
        rotate_left 1
        · (intro wq hSq; (try dsimp only at hSq); go_simp; first | done | with_reducible rfl)
        try simp only [Act.put, List.setIfInBounds_toArray, List.set_cons_zero, List.set_cons_succ]
        refine wpAnyH_take (i := 6) (oi := { dst := some 99, op := Go.Op.move (Go.Operand.tmp 15), type := 3, pos := "law.go:111", after := #[], guard := none }) (v := ?_) rfl (by kernel_rfl) (by kernel_rfl) (by kernel_rfl) (fun _ _ _ h => h) (Or.inl ⟨by rfl, ?_⟩) hHeld ?_
        rotate_left 1
        · (intro wq hSq; (try dsimp only at hSq); go_simp; first | done | with_reducible rfl)
        try simp only [Act.put, List.setIfInBounds_toArray, List.set_cons_zero, List.set_cons_succ]
        refine wpAnyH_take (i := 7) (oi := { dst := some 100, op := Go.Op.indexAddr 29 (Go.Operand.tmp 98) (Go.Operand.tmp 99), type := 0, pos := "law.go:111", after := #[{ on := 5, ground := Go.Ground.data }, { on := 6, ground := Go.Ground.data }], guard := none }) (v := ?_) rfl (by kernel_rfl) (by kernel_rfl) (by kernel_rfl) (fun _ _ _ h => h) (Or.inl ⟨by rfl, ?_⟩) hHeld ?_
        rotate_left 1
        · (intro wq hSq; (try dsimp only at hSq); go_simp; first | done | with_reducible rfl)
        try simp only [Act.put, List.setIfInBounds_toArray, List.set_cons_zero, List.set_cons_succ]
        refine wpAnyH_take (i := 8) (oi := { dst := some 101, op := Go.Op.load 22 (Go.Operand.tmp 100), type := 22, pos := "law.go:111", after := #[{ on := 7, ground := Go.Ground.data }], guard := none }) (v := ?_) rfl (by kernel_rfl) (by kernel_rfl) (by kernel_rfl) (fun _ _ _ h => h) (Or.inl ⟨by rfl, ?_⟩) hHeld ?_
        rotate_left 1
        · (intro wq hSq; (try dsimp only at hSq); have hq := L3.out _ hSq; go_simp; first | done | with_reducible rfl)
        try simp only [Act.put, List.setIfInBounds_toArray, List.set_cons_zero, List.set_cons_succ]
        refine wpAnyH_take (i := 9) (oi := { dst := some 102, op := Go.Op.convert 22 9 (Go.Operand.tmp 101), type := 9, pos := "law.go:111", after := #[{ on := 8, ground := Go.Ground.data }], guard := none }) (v := ?_) rfl (by kernel_rfl) (by kernel_rfl) (by kernel_rfl) (fun _ _ _ h => h) (Or.inl ⟨by rfl, ?_⟩) hHeld ?_
        rotate_left 1
        · (intro wq hSq; (try dsimp only at hSq); have hq := L4.out _ hSq; go_simp; first | done | with_reducible rfl)
        try simp only [Act.put, List.setIfInBounds_toArray, List.set_cons_zero, List.set_cons_succ]
        refine wpAnyH_take (i := 10) (oi := { dst := some 103, op := Go.Op.binOp Go.BinOp.neq 9 (Go.Operand.tmp 97) (Go.Operand.tmp 102) 9, type := 4, pos := "law.go:111", after := #[{ on := 4, ground := Go.Ground.data }, { on := 9, ground := Go.Ground.data }], guard := none }) (v := ?_) rfl (by kernel_rfl) (by kernel_rfl) (by kernel_rfl) (fun _ _ _ h => h) (Or.inl ⟨by rfl, ?_⟩) hHeld ?_
        rotate_left 1
        · (intro wq hSq; (try dsimp only at hSq); go_simp; first | done | with_reducible rfl)
        try simp only [Act.put, List.setIfInBounds_toArray, List.set_cons_zero, List.set_cons_succ]
        refine wpAnyH_take (i := 11) (oi := { dst := some 104, op := Go.Op.move (Go.Operand.tmp 103), type := 4, pos := "law.go:111", after := #[{ on := 10, ground := Go.Ground.data }], guard := none }) (v := ?_) rfl (by kernel_rfl) (by kernel_rfl) (by kernel_rfl) (fun _ _ _ h => h) (Or.inl ⟨by rfl, ?_⟩) hHeld ?_
        rotate_left 1
        · (intro wq hSq; (try dsimp only at hSq); go_simp; first | done | with_reducible rfl)
        try simp only [Act.put, List.setIfInBounds_toArray, List.set_cons_zero, List.set_cons_succ]
        refine wpAnyH_take (i := 12) (oi := { dst := some 105, op := Go.Op.move (Go.Operand.tmp 13), type := 29, pos := "law.go:111", after := #[{ on := 11, ground := Go.Ground.guard }], guard := some (11, true) }) (v := undef) rfl (by kernel_rfl) (by kernel_rfl) (by kernel_rfl) (fun _ _ _ h => h) (Or.inr ⟨by rfl, rfl⟩) hHeld ?_
        try simp only [Act.put, List.setIfInBounds_toArray, List.set_cons_zero, List.set_cons_succ]
        refine wpAnyH_take (i := 13) (oi := { dst := some 106, op := Go.Op.move (Go.Operand.tmp 15), type := 3, pos := "law.go:111", after := #[{ on := 11, ground := Go.Ground.guard }], guard := some (11, true) }) (v := undef) rfl (by kernel_rfl) (by kernel_rfl) (by kernel_rfl) (fun _ _ _ h => h) (Or.inr ⟨by rfl, rfl⟩) hHeld ?_
        try simp only [Act.put, List.setIfInBounds_toArray, List.set_cons_zero, List.set_cons_succ]
        refine wpAnyH_take (i := 14) (oi := { dst := some 107, op := Go.Op.indexAddr 29 (Go.Operand.tmp 105) (Go.Operand.tmp 106), type := 0, pos := "law.go:111", after := #[{ on := 12, ground := Go.Ground.data }, { on := 13, ground := Go.Ground.data }, { on := 11, ground := Go.Ground.guard }], guard := some (11, true) }) (v := undef) rfl (by kernel_rfl) (by kernel_rfl) (by kernel_rfl) (fun _ _ _ h => h) (Or.inr ⟨by rfl, rfl⟩) hHeld ?_
        try simp only [Act.put, List.setIfInBounds_toArray, List.set_cons_zero, List.set_cons_succ]
        refine wpAnyH_take (i := 15) (oi := { dst := some 108, op := Go.Op.load 22 (Go.Operand.tmp 107), type := 22, pos := "law.go:111", after := #[{ on := 14, ground := Go.Ground.data }, { on := 11, ground := Go.Ground.guard }], guard := some (11, true) }) (v := undef) rfl (by kernel_rfl) (by kernel_rfl) (by kernel_rfl) (fun _ _ _ h => h) (Or.inr ⟨by rfl, rfl⟩) hHeld ?_
        try simp only [Act.put, List.setIfInBounds_toArray, List.set_cons_zero, List.set_cons_succ]
        refine wpAnyH_take (i := 16) (oi := { dst := some 109, op := Go.Op.call { callee := Go.Callee.value (Go.Operand.func 18), args := #[Go.Operand.tmp 108], argTypes := #[22] }, type := 24, pos := "law.go:111", after := #[{ on := 15, ground := Go.Ground.data }, { on := 11, ground := Go.Ground.chain }, { on := 11, ground := Go.Ground.guard }], guard := some (11, true) }) (v := undef) rfl (by kernel_rfl) (by kernel_rfl) (by kernel_rfl) (fun _ _ _ h => h) (Or.inr ⟨by rfl, rfl⟩) hHeld ?_
        try simp only [Act.put, List.setIfInBounds_toArray, List.set_cons_zero, List.set_cons_succ]
        refine wpAnyH_take (i := 17) (oi := { dst := some 110, op := Go.Op.move (Go.Operand.tmp 14), type := 29, pos := "law.go:111", after := #[{ on := 11, ground := Go.Ground.guard }], guard := some (11, true) }) (v := undef) rfl (by kernel_rfl) (by kernel_rfl) (by kernel_rfl) (fun _ _ _ h => h) (Or.inr ⟨by rfl, rfl⟩) hHeld ?_
        try simp only [Act.put, List.setIfInBounds_toArray, List.set_cons_zero, List.set_cons_succ]
        refine wpAnyH_take (i := 18) (oi := { dst := some 111, op := Go.Op.move (Go.Operand.tmp 15), type := 3, pos := "law.go:111", after := #[{ on := 11, ground := Go.Ground.guard }], guard := some (11, true) }) (v := undef) rfl (by kernel_rfl) (by kernel_rfl) (by kernel_rfl) (fun _ _ _ h => h) (Or.inr ⟨by rfl, rfl⟩) hHeld ?_
        try simp only [Act.put, List.setIfInBounds_toArray, List.set_cons_zero, List.set_cons_succ]
        refine wpAnyH_take (i := 19) (oi := { dst := some 112, op := Go.Op.indexAddr 29 (Go.Operand.tmp 110) (Go.Operand.tmp 111), type := 0, pos := "law.go:111", after := #[{ on := 17, ground := Go.Ground.data }, { on := 18, ground := Go.Ground.data }, { on := 11, ground := Go.Ground.guard }], guard := some (11, true) }) (v := undef) rfl (by kernel_rfl) (by kernel_rfl) (by kernel_rfl) (fun _ _ _ h => h) (Or.inr ⟨by rfl, rfl⟩) hHeld ?_
        try simp only [Act.put, List.setIfInBounds_toArray, List.set_cons_zero, List.set_cons_succ]
        refine wpAnyH_take (i := 20) (oi := { dst := some 113, op := Go.Op.load 22 (Go.Operand.tmp 112), type := 22, pos := "law.go:111", after := #[{ on := 19, ground := Go.Ground.data }, { on := 11, ground := Go.Ground.guard }], guard := some (11, true) }) (v := undef) rfl (by kernel_rfl) (by kernel_rfl) (by kernel_rfl) (fun _ _ _ h => h) (Or.inr ⟨by rfl, rfl⟩) hHeld ?_
        try simp only [Act.put, List.setIfInBounds_toArray, List.set_cons_zero, List.set_cons_succ]
        refine wpAnyH_take (i := 21) (oi := { dst := some 114, op := Go.Op.call { callee := Go.Callee.value (Go.Operand.func 18), args := #[Go.Operand.tmp 113], argTypes := #[22] }, type := 24, pos := "law.go:111", after := #[{ on := 20, ground := Go.Ground.data }, { on := 16, ground := Go.Ground.chain }, { on := 11, ground := Go.Ground.guard }], guard := some (11, true) }) (v := undef) rfl (by kernel_rfl) (by kernel_rfl) (by kernel_rfl) (fun _ _ _ h => h) (Or.inr ⟨by rfl, rfl⟩) hHeld ?_
        try simp only [Act.put, List.setIfInBounds_toArray, List.set_cons_zero, List.set_cons_succ]
        refine wpAnyH_take (i := 22) (oi := { dst := some 115, op := Go.Op.binOp Go.BinOp.eql 24 (Go.Operand.tmp 109) (Go.Operand.tmp 114) 24, type := 4, pos := "law.go:111", after := #[{ on := 16, ground := Go.Ground.data }, { on := 21, ground := Go.Ground.data }, { on := 11, ground := Go.Ground.guard }], guard := some (11, true) }) (v := undef) rfl (by kernel_rfl) (by kernel_rfl) (by kernel_rfl) (fun _ _ _ h => h) (Or.inr ⟨by rfl, rfl⟩) hHeld ?_
        try simp only [Act.put, List.setIfInBounds_toArray, List.set_cons_zero, List.set_cons_succ]
        refine wpAnyH_take (i := 23) (oi := { dst := some 116, op := Go.Op.pick (Go.Operand.tmp 104) (Go.Operand.tmp 115) (Go.Operand.const (Go.Value.bool false)), type := 4, pos := "law.go:111", after := #[{ on := 11, ground := Go.Ground.data }, { on := 22, ground := Go.Ground.data }], guard := none }) (v := ?_) rfl (by kernel_rfl) (by kernel_rfl) (by kernel_rfl) (fun _ _ _ h => h) (Or.inl ⟨by rfl, ?_⟩) hHeld ?_
        rotate_left 1
        · (intro wq hSq; (try dsimp only at hSq); go_simp; first | done | with_reducible rfl)
        try simp only [Act.put, List.setIfInBounds_toArray, List.set_cons_zero, List.set_cons_succ]
        refine wpAnyH_done (by kernel_rfl) ?_ _
        refine NoPanic.normal ?_
        go_wp2
        go_roundw
        case rel => exact ⟨k + 1, by omega, by go_num, BL7.out _ BDR.out, NX.out⟩
        case measure => simp [intOf]; omega
      · have L4 : Hid (∀ w', Below wr.heap.size wr w' → (convert 22 9 vy).run Tryd.prog w' = .ok (.string SY1) w') := fun w' q => by rw [hSY1]; exact partConv (ppy.below q)
        have hne1 : (SX1.toList == SY1.toList) = false := by rw [hSX1, hSY1]; exact str_ne X Y (HXB.out X (List.mem_of_getElem? hX)) (HYB.out Y (List.mem_of_getElem? hY)) hXY
        have E1 : Hid (∀ w', Below wr.heap.size wr w' → Calls Tryd.prog 18 #[vx] w' fun e w'' => e = .returned (.agg (vB (H X))) ∧ Below wr.heap.size wr w'') := fun w' q => (K7'.out w' vx X (Or.inl (List.mem_of_getElem? hX)) (ppx.below q)).mono fun e w'' ⟨r1, r2⟩ => ⟨r1, q.trans (r2.mono q.size)⟩
        have E2 : Hid (∀ w', Below wr.heap.size wr w' → Calls Tryd.prog 18 #[vy] w' fun e w'' => e = .returned (.agg (vB (H Y))) ∧ Below wr.heap.size wr w'') := fun w' q => (K7'.out w' vy Y (Or.inr (List.mem_of_getElem? hY)) (ppy.below q)).mono fun e w'' ⟨r1, r2⟩ => ⟨r1, q.trans (r2.mono q.size)⟩
        by_cases hHH : H X = H Y
        · have e24 : ∀ W : World, (Op.equalIn 10000 24 (.agg (vB (H X))) (.agg (vB (H Y)))).run Tryd.prog W = .ok true W := fun W => by rw [eq24_any 9998 (H X) (H Y) (HHL.out _) (HHL.out _) W, decide_eq_true hHH]
          clear hno ppx ppy bl7 hSX1 hSY1 hXY hX hY hvx hvy hHH
          go_wp2_with fail
          refine wp_region_noPanic ?_
          refine wp_region_held_drew (S := fun w' => Below wr.heap.size wr w') (by kernel_rfl) (BDR.out) (fun hHeld => ?_)
          try simp only [Act.put, List.setIfInBounds_toArray, List.set_cons_zero, List.set_cons_succ]
          refine wpAnyH_take (i := 0) (oi := { dst := some 93, op := Go.Op.move (Go.Operand.tmp 13), type := 29, pos := "law.go:111", after := #[], guard := none }) (v := ?_) rfl (by kernel_rfl) (by kernel_rfl) (by kernel_rfl) (fun _ _ _ h => h) (Or.inl ⟨by rfl, ?_⟩) hHeld ?_
          rotate_left 1
          · (intro wq hSq; (try dsimp only at hSq); go_simp; first | done | with_reducible rfl)
          try simp only [Act.put, List.setIfInBounds_toArray, List.set_cons_zero, List.set_cons_succ]
          refine wpAnyH_take (i := 1) (oi := { dst := some 94, op := Go.Op.move (Go.Operand.tmp 15), type := 3, pos := "law.go:111", after := #[], guard := none }) (v := ?_) rfl (by kernel_rfl) (by kernel_rfl) (by kernel_rfl) (fun _ _ _ h => h) (Or.inl ⟨by rfl, ?_⟩) hHeld ?_
          rotate_left 1
          · (intro wq hSq; (try dsimp only at hSq); go_simp; first | done | with_reducible rfl)
          try simp only [Act.put, List.setIfInBounds_toArray, List.set_cons_zero, List.set_cons_succ]
          refine wpAnyH_take (i := 2) (oi := { dst := some 95, op := Go.Op.indexAddr 29 (Go.Operand.tmp 93) (Go.Operand.tmp 94), type := 0, pos := "law.go:111", after := #[{ on := 0, ground := Go.Ground.data }, { on := 1, ground := Go.Ground.data }], guard := none }) (v := ?_) rfl (by kernel_rfl) (by kernel_rfl) (by kernel_rfl) (fun _ _ _ h => h) (Or.inl ⟨by rfl, ?_⟩) hHeld ?_
          rotate_left 1
          · (intro wq hSq; (try dsimp only at hSq); go_simp; first | done | with_reducible rfl)
          try simp only [Act.put, List.setIfInBounds_toArray, List.set_cons_zero, List.set_cons_succ]
          refine wpAnyH_take (i := 3) (oi := { dst := some 96, op := Go.Op.load 22 (Go.Operand.tmp 95), type := 22, pos := "law.go:111", after := #[{ on := 2, ground := Go.Ground.data }], guard := none }) (v := ?_) rfl (by kernel_rfl) (by kernel_rfl) (by kernel_rfl) (fun _ _ _ h => h) (Or.inl ⟨by rfl, ?_⟩) hHeld ?_
          rotate_left 1
          · (intro wq hSq; (try dsimp only at hSq); have hq := L1.out _ hSq; go_simp; first | done | with_reducible rfl)
          try simp only [Act.put, List.setIfInBounds_toArray, List.set_cons_zero, List.set_cons_succ]
          refine wpAnyH_take (i := 4) (oi := { dst := some 97, op := Go.Op.convert 22 9 (Go.Operand.tmp 96), type := 9, pos := "law.go:111", after := #[{ on := 3, ground := Go.Ground.data }], guard := none }) (v := ?_) rfl (by kernel_rfl) (by kernel_rfl) (by kernel_rfl) (fun _ _ _ h => h) (Or.inl ⟨by rfl, ?_⟩) hHeld ?_
          rotate_left 1
          · (intro wq hSq; (try dsimp only at hSq); have hq := L2.out _ hSq; go_simp; first | done | with_reducible rfl)
          try simp only [Act.put, List.setIfInBounds_toArray, List.set_cons_zero, List.set_cons_succ]
          refine wpAnyH_take (i := 5) (oi := { dst := some 98, op := Go.Op.move (Go.Operand.tmp 14), type := 29, pos := "law.go:111", after := #[], guard := none }) (v := ?_) rfl (by kernel_rfl) (by kernel_rfl) (by kernel_rfl) (fun _ _ _ h => h) (Or.inl ⟨by rfl, ?_⟩) hHeld ?_
          rotate_left 1
          · (intro wq hSq; (try dsimp only at hSq); go_simp; first | done | with_reducible rfl)
          try simp only [Act.put, List.setIfInBounds_toArray, List.set_cons_zero, List.set_cons_succ]
          refine wpAnyH_take (i := 6) (oi := { dst := some 99, op := Go.Op.move (Go.Operand.tmp 15), type := 3, pos := "law.go:111", after := #[], guard := none }) (v := ?_) rfl (by kernel_rfl) (by kernel_rfl) (by kernel_rfl) (fun _ _ _ h => h) (Or.inl ⟨by rfl, ?_⟩) hHeld ?_
          rotate_left 1
          · (intro wq hSq; (try dsimp only at hSq); go_simp; first | done | with_reducible rfl)
          try simp only [Act.put, List.setIfInBounds_toArray, List.set_cons_zero, List.set_cons_succ]
          refine wpAnyH_take (i := 7) (oi := { dst := some 100, op := Go.Op.indexAddr 29 (Go.Operand.tmp 98) (Go.Operand.tmp 99), type := 0, pos := "law.go:111", after := #[{ on := 5, ground := Go.Ground.data }, { on := 6, ground := Go.Ground.data }], guard := none }) (v := ?_) rfl (by kernel_rfl) (by kernel_rfl) (by kernel_rfl) (fun _ _ _ h => h) (Or.inl ⟨by rfl, ?_⟩) hHeld ?_
          rotate_left 1
          · (intro wq hSq; (try dsimp only at hSq); go_simp; first | done | with_reducible rfl)
          try simp only [Act.put, List.setIfInBounds_toArray, List.set_cons_zero, List.set_cons_succ]
          refine wpAnyH_take (i := 8) (oi := { dst := some 101, op := Go.Op.load 22 (Go.Operand.tmp 100), type := 22, pos := "law.go:111", after := #[{ on := 7, ground := Go.Ground.data }], guard := none }) (v := ?_) rfl (by kernel_rfl) (by kernel_rfl) (by kernel_rfl) (fun _ _ _ h => h) (Or.inl ⟨by rfl, ?_⟩) hHeld ?_
          rotate_left 1
          · (intro wq hSq; (try dsimp only at hSq); have hq := L3.out _ hSq; go_simp; first | done | with_reducible rfl)
          try simp only [Act.put, List.setIfInBounds_toArray, List.set_cons_zero, List.set_cons_succ]
          refine wpAnyH_take (i := 9) (oi := { dst := some 102, op := Go.Op.convert 22 9 (Go.Operand.tmp 101), type := 9, pos := "law.go:111", after := #[{ on := 8, ground := Go.Ground.data }], guard := none }) (v := ?_) rfl (by kernel_rfl) (by kernel_rfl) (by kernel_rfl) (fun _ _ _ h => h) (Or.inl ⟨by rfl, ?_⟩) hHeld ?_
          rotate_left 1
          · (intro wq hSq; (try dsimp only at hSq); have hq := L4.out _ hSq; go_simp; first | done | with_reducible rfl)
          try simp only [Act.put, List.setIfInBounds_toArray, List.set_cons_zero, List.set_cons_succ]
          refine wpAnyH_take (i := 10) (oi := { dst := some 103, op := Go.Op.binOp Go.BinOp.neq 9 (Go.Operand.tmp 97) (Go.Operand.tmp 102) 9, type := 4, pos := "law.go:111", after := #[{ on := 4, ground := Go.Ground.data }, { on := 9, ground := Go.Ground.data }], guard := none }) (v := ?_) rfl (by kernel_rfl) (by kernel_rfl) (by kernel_rfl) (fun _ _ _ h => h) (Or.inl ⟨by rfl, ?_⟩) hHeld ?_
          rotate_left 1
          · (intro wq hSq; (try dsimp only at hSq); go_simp; first | done | with_reducible rfl)
          try simp only [Act.put, List.setIfInBounds_toArray, List.set_cons_zero, List.set_cons_succ]
          refine wpAnyH_take (i := 11) (oi := { dst := some 104, op := Go.Op.move (Go.Operand.tmp 103), type := 4, pos := "law.go:111", after := #[{ on := 10, ground := Go.Ground.data }], guard := none }) (v := ?_) rfl (by kernel_rfl) (by kernel_rfl) (by kernel_rfl) (fun _ _ _ h => h) (Or.inl ⟨by rfl, ?_⟩) hHeld ?_
          rotate_left 1
          · (intro wq hSq; (try dsimp only at hSq); go_simp; first | done | with_reducible rfl)
          try simp only [Act.put, List.setIfInBounds_toArray, List.set_cons_zero, List.set_cons_succ]
          refine wpAnyH_take (i := 12) (oi := { dst := some 105, op := Go.Op.move (Go.Operand.tmp 13), type := 29, pos := "law.go:111", after := #[{ on := 11, ground := Go.Ground.guard }], guard := some (11, true) }) (v := ?_) rfl (by kernel_rfl) (by kernel_rfl) (by kernel_rfl) (fun _ _ _ h => h) (Or.inl ⟨by rfl, ?_⟩) hHeld ?_
          rotate_left 1
          · (intro wq hSq; (try dsimp only at hSq); go_simp; first | done | with_reducible rfl)
          try simp only [Act.put, List.setIfInBounds_toArray, List.set_cons_zero, List.set_cons_succ]
          refine wpAnyH_take (i := 13) (oi := { dst := some 106, op := Go.Op.move (Go.Operand.tmp 15), type := 3, pos := "law.go:111", after := #[{ on := 11, ground := Go.Ground.guard }], guard := some (11, true) }) (v := ?_) rfl (by kernel_rfl) (by kernel_rfl) (by kernel_rfl) (fun _ _ _ h => h) (Or.inl ⟨by rfl, ?_⟩) hHeld ?_
          rotate_left 1
          · (intro wq hSq; (try dsimp only at hSq); go_simp; first | done | with_reducible rfl)
          try simp only [Act.put, List.setIfInBounds_toArray, List.set_cons_zero, List.set_cons_succ]
          refine wpAnyH_take (i := 14) (oi := { dst := some 107, op := Go.Op.indexAddr 29 (Go.Operand.tmp 105) (Go.Operand.tmp 106), type := 0, pos := "law.go:111", after := #[{ on := 12, ground := Go.Ground.data }, { on := 13, ground := Go.Ground.data }, { on := 11, ground := Go.Ground.guard }], guard := some (11, true) }) (v := ?_) rfl (by kernel_rfl) (by kernel_rfl) (by kernel_rfl) (fun _ _ _ h => h) (Or.inl ⟨by rfl, ?_⟩) hHeld ?_
          rotate_left 1
          · (intro wq hSq; (try dsimp only at hSq); go_simp; first | done | with_reducible rfl)
          try simp only [Act.put, List.setIfInBounds_toArray, List.set_cons_zero, List.set_cons_succ]
          refine wpAnyH_take (i := 15) (oi := { dst := some 108, op := Go.Op.load 22 (Go.Operand.tmp 107), type := 22, pos := "law.go:111", after := #[{ on := 14, ground := Go.Ground.data }, { on := 11, ground := Go.Ground.guard }], guard := some (11, true) }) (v := ?_) rfl (by kernel_rfl) (by kernel_rfl) (by kernel_rfl) (fun _ _ _ h => h) (Or.inl ⟨by rfl, ?_⟩) hHeld ?_
          rotate_left 1
          · (intro wq hSq; (try dsimp only at hSq); have hq := L1.out _ hSq; go_simp; first | done | with_reducible rfl)
          try simp only [Act.put, List.setIfInBounds_toArray, List.set_cons_zero, List.set_cons_succ]
          refine wpAnyH_take (i := 17) (oi := { dst := some 110, op := Go.Op.move (Go.Operand.tmp 14), type := 29, pos := "law.go:111", after := #[{ on := 11, ground := Go.Ground.guard }], guard := some (11, true) }) (v := ?_) rfl (by kernel_rfl) (by kernel_rfl) (by kernel_rfl) (fun _ _ _ h => h) (Or.inl ⟨by rfl, ?_⟩) hHeld ?_
          rotate_left 1
          · (intro wq hSq; (try dsimp only at hSq); go_simp; first | done | with_reducible rfl)
          try simp only [Act.put, List.setIfInBounds_toArray, List.set_cons_zero, List.set_cons_succ]
          refine wpAnyH_take (i := 18) (oi := { dst := some 111, op := Go.Op.move (Go.Operand.tmp 15), type := 3, pos := "law.go:111", after := #[{ on := 11, ground := Go.Ground.guard }], guard := some (11, true) }) (v := ?_) rfl (by kernel_rfl) (by kernel_rfl) (by kernel_rfl) (fun _ _ _ h => h) (Or.inl ⟨by rfl, ?_⟩) hHeld ?_
          rotate_left 1
          · (intro wq hSq; (try dsimp only at hSq); go_simp; first | done | with_reducible rfl)
          try simp only [Act.put, List.setIfInBounds_toArray, List.set_cons_zero, List.set_cons_succ]
          refine wpAnyH_take (i := 19) (oi := { dst := some 112, op := Go.Op.indexAddr 29 (Go.Operand.tmp 110) (Go.Operand.tmp 111), type := 0, pos := "law.go:111", after := #[{ on := 17, ground := Go.Ground.data }, { on := 18, ground := Go.Ground.data }, { on := 11, ground := Go.Ground.guard }], guard := some (11, true) }) (v := ?_) rfl (by kernel_rfl) (by kernel_rfl) (by kernel_rfl) (fun _ _ _ h => h) (Or.inl ⟨by rfl, ?_⟩) hHeld ?_
          rotate_left 1
          · (intro wq hSq; (try dsimp only at hSq); go_simp; first | done | with_reducible rfl)
          try simp only [Act.put, List.setIfInBounds_toArray, List.set_cons_zero, List.set_cons_succ]
          refine wpAnyH_take (i := 20) (oi := { dst := some 113, op := Go.Op.load 22 (Go.Operand.tmp 112), type := 22, pos := "law.go:111", after := #[{ on := 19, ground := Go.Ground.data }, { on := 11, ground := Go.Ground.guard }], guard := some (11, true) }) (v := ?_) rfl (by kernel_rfl) (by kernel_rfl) (by kernel_rfl) (fun _ _ _ h => h) (Or.inl ⟨by rfl, ?_⟩) hHeld ?_
          rotate_left 1
          · (intro wq hSq; (try dsimp only at hSq); have hq := L3.out _ hSq; go_simp; first | done | with_reducible rfl)
          try simp only [Act.put, List.setIfInBounds_toArray, List.set_cons_zero, List.set_cons_succ]
          refine wpAnyH_ready (rs := [16]) (by kernel_rfl) (by simp) ?_
          refine AllReadyH.cons (o := { dst := some 109, op := Go.Op.call { callee := Go.Callee.value (Go.Operand.func 18), args := #[Go.Operand.tmp 108], argTypes := #[22] }, type := 24, pos := "law.go:111", after := #[{ on := 15, ground := Go.Ground.data }, { on := 11, ground := Go.Ground.chain }, { on := 11, ground := Go.Ground.guard }], guard := some (11, true) }) rfl (fun K hK => ?_) AllReadyH.nil
          go_simp
          refine (E1.out _ (by assumption)).mono ?_
          rintro e w8 ⟨rfl, b8⟩
          refine hK.out _ _ (b8) (fun hHeld1 => ?_)
          clear hK K hHeld
          try simp only [Act.put, List.setIfInBounds_toArray, List.set_cons_zero, List.set_cons_succ]
          refine wpAnyH_ready (rs := [21]) (by kernel_rfl) (by simp) ?_
          refine AllReadyH.cons (o := { dst := some 114, op := Go.Op.call { callee := Go.Callee.value (Go.Operand.func 18), args := #[Go.Operand.tmp 113], argTypes := #[22] }, type := 24, pos := "law.go:111", after := #[{ on := 20, ground := Go.Ground.data }, { on := 16, ground := Go.Ground.chain }, { on := 11, ground := Go.Ground.guard }], guard := some (11, true) }) rfl (fun K hK => ?_) AllReadyH.nil
          go_simp
          refine (E2.out _ b8).mono ?_
          rintro e w9 ⟨rfl, b9⟩
          refine hK.out _ _ (b9) (fun hHeld2 => ?_)
          clear hK K hHeld1
          try simp only [Act.put, List.setIfInBounds_toArray, List.set_cons_zero, List.set_cons_succ]
          refine wpAnyH_take (i := 22) (oi := { dst := some 115, op := Go.Op.binOp Go.BinOp.eql 24 (Go.Operand.tmp 109) (Go.Operand.tmp 114) 24, type := 4, pos := "law.go:111", after := #[{ on := 16, ground := Go.Ground.data }, { on := 21, ground := Go.Ground.data }, { on := 11, ground := Go.Ground.guard }], guard := some (11, true) }) (v := ?_) rfl (by kernel_rfl) (by kernel_rfl) (by kernel_rfl) (fun _ _ _ h => h) (Or.inl ⟨by rfl, ?_⟩) hHeld2 ?_
          rotate_left 1
          · (intro wq hSq; (try dsimp only at hSq); go_simp; first | done | with_reducible rfl)
          try simp only [Act.put, List.setIfInBounds_toArray, List.set_cons_zero, List.set_cons_succ]
          refine wpAnyH_take (i := 23) (oi := { dst := some 116, op := Go.Op.pick (Go.Operand.tmp 104) (Go.Operand.tmp 115) (Go.Operand.const (Go.Value.bool false)), type := 4, pos := "law.go:111", after := #[{ on := 11, ground := Go.Ground.data }, { on := 22, ground := Go.Ground.data }], guard := none }) (v := ?_) rfl (by kernel_rfl) (by kernel_rfl) (by kernel_rfl) (fun _ _ _ h => h) (Or.inl ⟨by rfl, ?_⟩) hHeld2 ?_
          rotate_left 1
          · (intro wq hSq; (try dsimp only at hSq); go_simp; first | done | with_reducible rfl)
          try simp only [Act.put, List.setIfInBounds_toArray, List.set_cons_zero, List.set_cons_succ]
          refine wpAnyH_done (by kernel_rfl) ?_ _
          refine NoPanic.normal ?_
          go_wp2
          go_ret
          exact ⟨rfl, B07.out _ (BL7.out _ b9)⟩
        · have e24 : ∀ W : World, (Op.equalIn 10000 24 (.agg (vB (H X))) (.agg (vB (H Y)))).run Tryd.prog W = .ok false W := fun W => by rw [eq24_any 9998 (H X) (H Y) (HHL.out _) (HHL.out _) W, decide_eq_false hHH]
          have NX : Hid (∀ (j : Nat) (X Y : List Int), j < k + 1 → XS[j]? = some X → YS[j]? = some Y → X ≠ Y → H X ≠ H Y) := fun j X' Y' hj h1 h2 h3 => by
            rcases Nat.lt_or_ge j k with h | h
            · exact hno.out j X' Y' h h1 h2 h3
            · obtain rfl : j = k := by omega
              rw [hX] at h1; rw [hY] at h2; injection h1 with h1; injection h2 with h2
              rw [← h1, ← h2]; exact hHH
          clear hno ppx ppy bl7 hSX1 hSY1 hXY hX hY hvx hvy hHH
          go_wp2_with fail
          refine wp_region_noPanic ?_
          refine wp_region_held_drew (S := fun w' => Below wr.heap.size wr w') (by kernel_rfl) (BDR.out) (fun hHeld => ?_)
          try simp only [Act.put, List.setIfInBounds_toArray, List.set_cons_zero, List.set_cons_succ]
          refine wpAnyH_take (i := 0) (oi := { dst := some 93, op := Go.Op.move (Go.Operand.tmp 13), type := 29, pos := "law.go:111", after := #[], guard := none }) (v := ?_) rfl (by kernel_rfl) (by kernel_rfl) (by kernel_rfl) (fun _ _ _ h => h) (Or.inl ⟨by rfl, ?_⟩) hHeld ?_
          rotate_left 1
          · (intro wq hSq; (try dsimp only at hSq); go_simp; first | done | with_reducible rfl)
          try simp only [Act.put, List.setIfInBounds_toArray, List.set_cons_zero, List.set_cons_succ]
          refine wpAnyH_take (i := 1) (oi := { dst := some 94, op := Go.Op.move (Go.Operand.tmp 15), type := 3, pos := "law.go:111", after := #[], guard := none }) (v := ?_) rfl (by kernel_rfl) (by kernel_rfl) (by kernel_rfl) (fun _ _ _ h => h) (Or.inl ⟨by rfl, ?_⟩) hHeld ?_
          rotate_left 1
          · (intro wq hSq; (try dsimp only at hSq); go_simp; first | done | with_reducible rfl)
          try simp only [Act.put, List.setIfInBounds_toArray, List.set_cons_zero, List.set_cons_succ]
          refine wpAnyH_take (i := 2) (oi := { dst := some 95, op := Go.Op.indexAddr 29 (Go.Operand.tmp 93) (Go.Operand.tmp 94), type := 0, pos := "law.go:111", after := #[{ on := 0, ground := Go.Ground.data }, { on := 1, ground := Go.Ground.data }], guard := none }) (v := ?_) rfl (by kernel_rfl) (by kernel_rfl) (by kernel_rfl) (fun _ _ _ h => h) (Or.inl ⟨by rfl, ?_⟩) hHeld ?_
          rotate_left 1
          · (intro wq hSq; (try dsimp only at hSq); go_simp; first | done | with_reducible rfl)
          try simp only [Act.put, List.setIfInBounds_toArray, List.set_cons_zero, List.set_cons_succ]
          refine wpAnyH_take (i := 3) (oi := { dst := some 96, op := Go.Op.load 22 (Go.Operand.tmp 95), type := 22, pos := "law.go:111", after := #[{ on := 2, ground := Go.Ground.data }], guard := none }) (v := ?_) rfl (by kernel_rfl) (by kernel_rfl) (by kernel_rfl) (fun _ _ _ h => h) (Or.inl ⟨by rfl, ?_⟩) hHeld ?_
          rotate_left 1
          · (intro wq hSq; (try dsimp only at hSq); have hq := L1.out _ hSq; go_simp; first | done | with_reducible rfl)
          try simp only [Act.put, List.setIfInBounds_toArray, List.set_cons_zero, List.set_cons_succ]
          refine wpAnyH_take (i := 4) (oi := { dst := some 97, op := Go.Op.convert 22 9 (Go.Operand.tmp 96), type := 9, pos := "law.go:111", after := #[{ on := 3, ground := Go.Ground.data }], guard := none }) (v := ?_) rfl (by kernel_rfl) (by kernel_rfl) (by kernel_rfl) (fun _ _ _ h => h) (Or.inl ⟨by rfl, ?_⟩) hHeld ?_
          rotate_left 1
          · (intro wq hSq; (try dsimp only at hSq); have hq := L2.out _ hSq; go_simp; first | done | with_reducible rfl)
          try simp only [Act.put, List.setIfInBounds_toArray, List.set_cons_zero, List.set_cons_succ]
          refine wpAnyH_take (i := 5) (oi := { dst := some 98, op := Go.Op.move (Go.Operand.tmp 14), type := 29, pos := "law.go:111", after := #[], guard := none }) (v := ?_) rfl (by kernel_rfl) (by kernel_rfl) (by kernel_rfl) (fun _ _ _ h => h) (Or.inl ⟨by rfl, ?_⟩) hHeld ?_
          rotate_left 1
          · (intro wq hSq; (try dsimp only at hSq); go_simp; first | done | with_reducible rfl)
          try simp only [Act.put, List.setIfInBounds_toArray, List.set_cons_zero, List.set_cons_succ]
          refine wpAnyH_take (i := 6) (oi := { dst := some 99, op := Go.Op.move (Go.Operand.tmp 15), type := 3, pos := "law.go:111", after := #[], guard := none }) (v := ?_) rfl (by kernel_rfl) (by kernel_rfl) (by kernel_rfl) (fun _ _ _ h => h) (Or.inl ⟨by rfl, ?_⟩) hHeld ?_
          rotate_left 1
          · (intro wq hSq; (try dsimp only at hSq); go_simp; first | done | with_reducible rfl)
          try simp only [Act.put, List.setIfInBounds_toArray, List.set_cons_zero, List.set_cons_succ]
          refine wpAnyH_take (i := 7) (oi := { dst := some 100, op := Go.Op.indexAddr 29 (Go.Operand.tmp 98) (Go.Operand.tmp 99), type := 0, pos := "law.go:111", after := #[{ on := 5, ground := Go.Ground.data }, { on := 6, ground := Go.Ground.data }], guard := none }) (v := ?_) rfl (by kernel_rfl) (by kernel_rfl) (by kernel_rfl) (fun _ _ _ h => h) (Or.inl ⟨by rfl, ?_⟩) hHeld ?_
          rotate_left 1
          · (intro wq hSq; (try dsimp only at hSq); go_simp; first | done | with_reducible rfl)
          try simp only [Act.put, List.setIfInBounds_toArray, List.set_cons_zero, List.set_cons_succ]
          refine wpAnyH_take (i := 8) (oi := { dst := some 101, op := Go.Op.load 22 (Go.Operand.tmp 100), type := 22, pos := "law.go:111", after := #[{ on := 7, ground := Go.Ground.data }], guard := none }) (v := ?_) rfl (by kernel_rfl) (by kernel_rfl) (by kernel_rfl) (fun _ _ _ h => h) (Or.inl ⟨by rfl, ?_⟩) hHeld ?_
          rotate_left 1
          · (intro wq hSq; (try dsimp only at hSq); have hq := L3.out _ hSq; go_simp; first | done | with_reducible rfl)
          try simp only [Act.put, List.setIfInBounds_toArray, List.set_cons_zero, List.set_cons_succ]
          refine wpAnyH_take (i := 9) (oi := { dst := some 102, op := Go.Op.convert 22 9 (Go.Operand.tmp 101), type := 9, pos := "law.go:111", after := #[{ on := 8, ground := Go.Ground.data }], guard := none }) (v := ?_) rfl (by kernel_rfl) (by kernel_rfl) (by kernel_rfl) (fun _ _ _ h => h) (Or.inl ⟨by rfl, ?_⟩) hHeld ?_
          rotate_left 1
          · (intro wq hSq; (try dsimp only at hSq); have hq := L4.out _ hSq; go_simp; first | done | with_reducible rfl)
          try simp only [Act.put, List.setIfInBounds_toArray, List.set_cons_zero, List.set_cons_succ]
          refine wpAnyH_take (i := 10) (oi := { dst := some 103, op := Go.Op.binOp Go.BinOp.neq 9 (Go.Operand.tmp 97) (Go.Operand.tmp 102) 9, type := 4, pos := "law.go:111", after := #[{ on := 4, ground := Go.Ground.data }, { on := 9, ground := Go.Ground.data }], guard := none }) (v := ?_) rfl (by kernel_rfl) (by kernel_rfl) (by kernel_rfl) (fun _ _ _ h => h) (Or.inl ⟨by rfl, ?_⟩) hHeld ?_
          rotate_left 1
          · (intro wq hSq; (try dsimp only at hSq); go_simp; first | done | with_reducible rfl)
          try simp only [Act.put, List.setIfInBounds_toArray, List.set_cons_zero, List.set_cons_succ]
          refine wpAnyH_take (i := 11) (oi := { dst := some 104, op := Go.Op.move (Go.Operand.tmp 103), type := 4, pos := "law.go:111", after := #[{ on := 10, ground := Go.Ground.data }], guard := none }) (v := ?_) rfl (by kernel_rfl) (by kernel_rfl) (by kernel_rfl) (fun _ _ _ h => h) (Or.inl ⟨by rfl, ?_⟩) hHeld ?_
          rotate_left 1
          · (intro wq hSq; (try dsimp only at hSq); go_simp; first | done | with_reducible rfl)
          try simp only [Act.put, List.setIfInBounds_toArray, List.set_cons_zero, List.set_cons_succ]
          refine wpAnyH_take (i := 12) (oi := { dst := some 105, op := Go.Op.move (Go.Operand.tmp 13), type := 29, pos := "law.go:111", after := #[{ on := 11, ground := Go.Ground.guard }], guard := some (11, true) }) (v := ?_) rfl (by kernel_rfl) (by kernel_rfl) (by kernel_rfl) (fun _ _ _ h => h) (Or.inl ⟨by rfl, ?_⟩) hHeld ?_
          rotate_left 1
          · (intro wq hSq; (try dsimp only at hSq); go_simp; first | done | with_reducible rfl)
          try simp only [Act.put, List.setIfInBounds_toArray, List.set_cons_zero, List.set_cons_succ]
          refine wpAnyH_take (i := 13) (oi := { dst := some 106, op := Go.Op.move (Go.Operand.tmp 15), type := 3, pos := "law.go:111", after := #[{ on := 11, ground := Go.Ground.guard }], guard := some (11, true) }) (v := ?_) rfl (by kernel_rfl) (by kernel_rfl) (by kernel_rfl) (fun _ _ _ h => h) (Or.inl ⟨by rfl, ?_⟩) hHeld ?_
          rotate_left 1
          · (intro wq hSq; (try dsimp only at hSq); go_simp; first | done | with_reducible rfl)
          try simp only [Act.put, List.setIfInBounds_toArray, List.set_cons_zero, List.set_cons_succ]
          refine wpAnyH_take (i := 14) (oi := { dst := some 107, op := Go.Op.indexAddr 29 (Go.Operand.tmp 105) (Go.Operand.tmp 106), type := 0, pos := "law.go:111", after := #[{ on := 12, ground := Go.Ground.data }, { on := 13, ground := Go.Ground.data }, { on := 11, ground := Go.Ground.guard }], guard := some (11, true) }) (v := ?_) rfl (by kernel_rfl) (by kernel_rfl) (by kernel_rfl) (fun _ _ _ h => h) (Or.inl ⟨by rfl, ?_⟩) hHeld ?_
          rotate_left 1
          · (intro wq hSq; (try dsimp only at hSq); go_simp; first | done | with_reducible rfl)
          try simp only [Act.put, List.setIfInBounds_toArray, List.set_cons_zero, List.set_cons_succ]
          refine wpAnyH_take (i := 15) (oi := { dst := some 108, op := Go.Op.load 22 (Go.Operand.tmp 107), type := 22, pos := "law.go:111", after := #[{ on := 14, ground := Go.Ground.data }, { on := 11, ground := Go.Ground.guard }], guard := some (11, true) }) (v := ?_) rfl (by kernel_rfl) (by kernel_rfl) (by kernel_rfl) (fun _ _ _ h => h) (Or.inl ⟨by rfl, ?_⟩) hHeld ?_
          rotate_left 1
          · (intro wq hSq; (try dsimp only at hSq); have hq := L1.out _ hSq; go_simp; first | done | with_reducible rfl)
          try simp only [Act.put, List.setIfInBounds_toArray, List.set_cons_zero, List.set_cons_succ]
          refine wpAnyH_take (i := 17) (oi := { dst := some 110, op := Go.Op.move (Go.Operand.tmp 14), type := 29, pos := "law.go:111", after := #[{ on := 11, ground := Go.Ground.guard }], guard := some (11, true) }) (v := ?_) rfl (by kernel_rfl) (by kernel_rfl) (by kernel_rfl) (fun _ _ _ h => h) (Or.inl ⟨by rfl, ?_⟩) hHeld ?_
          rotate_left 1
          · (intro wq hSq; (try dsimp only at hSq); go_simp; first | done | with_reducible rfl)
          try simp only [Act.put, List.setIfInBounds_toArray, List.set_cons_zero, List.set_cons_succ]
          refine wpAnyH_take (i := 18) (oi := { dst := some 111, op := Go.Op.move (Go.Operand.tmp 15), type := 3, pos := "law.go:111", after := #[{ on := 11, ground := Go.Ground.guard }], guard := some (11, true) }) (v := ?_) rfl (by kernel_rfl) (by kernel_rfl) (by kernel_rfl) (fun _ _ _ h => h) (Or.inl ⟨by rfl, ?_⟩) hHeld ?_
          rotate_left 1
          · (intro wq hSq; (try dsimp only at hSq); go_simp; first | done | with_reducible rfl)
          try simp only [Act.put, List.setIfInBounds_toArray, List.set_cons_zero, List.set_cons_succ]
          refine wpAnyH_take (i := 19) (oi := { dst := some 112, op := Go.Op.indexAddr 29 (Go.Operand.tmp 110) (Go.Operand.tmp 111), type := 0, pos := "law.go:111", after := #[{ on := 17, ground := Go.Ground.data }, { on := 18, ground := Go.Ground.data }, { on := 11, ground := Go.Ground.guard }], guard := some (11, true) }) (v := ?_) rfl (by kernel_rfl) (by kernel_rfl) (by kernel_rfl) (fun _ _ _ h => h) (Or.inl ⟨by rfl, ?_⟩) hHeld ?_
          rotate_left 1
          · (intro wq hSq; (try dsimp only at hSq); go_simp; first | done | with_reducible rfl)
          try simp only [Act.put, List.setIfInBounds_toArray, List.set_cons_zero, List.set_cons_succ]
          refine wpAnyH_take (i := 20) (oi := { dst := some 113, op := Go.Op.load 22 (Go.Operand.tmp 112), type := 22, pos := "law.go:111", after := #[{ on := 19, ground := Go.Ground.data }, { on := 11, ground := Go.Ground.guard }], guard := some (11, true) }) (v := ?_) rfl (by kernel_rfl) (by kernel_rfl) (by kernel_rfl) (fun _ _ _ h => h) (Or.inl ⟨by rfl, ?_⟩) hHeld ?_
          rotate_left 1
          · (intro wq hSq; (try dsimp only at hSq); have hq := L3.out _ hSq; go_simp; first | done | with_reducible rfl)
          try simp only [Act.put, List.setIfInBounds_toArray, List.set_cons_zero, List.set_cons_succ]
          refine wpAnyH_ready (rs := [16]) (by kernel_rfl) (by simp) ?_
          refine AllReadyH.cons (o := { dst := some 109, op := Go.Op.call { callee := Go.Callee.value (Go.Operand.func 18), args := #[Go.Operand.tmp 108], argTypes := #[22] }, type := 24, pos := "law.go:111", after := #[{ on := 15, ground := Go.Ground.data }, { on := 11, ground := Go.Ground.chain }, { on := 11, ground := Go.Ground.guard }], guard := some (11, true) }) rfl (fun K hK => ?_) AllReadyH.nil
          go_simp
          refine (E1.out _ (by assumption)).mono ?_
          rintro e w8 ⟨rfl, b8⟩
          refine hK.out _ _ (b8) (fun hHeld1 => ?_)
          clear hK K hHeld
          try simp only [Act.put, List.setIfInBounds_toArray, List.set_cons_zero, List.set_cons_succ]
          refine wpAnyH_ready (rs := [21]) (by kernel_rfl) (by simp) ?_
          refine AllReadyH.cons (o := { dst := some 114, op := Go.Op.call { callee := Go.Callee.value (Go.Operand.func 18), args := #[Go.Operand.tmp 113], argTypes := #[22] }, type := 24, pos := "law.go:111", after := #[{ on := 20, ground := Go.Ground.data }, { on := 16, ground := Go.Ground.chain }, { on := 11, ground := Go.Ground.guard }], guard := some (11, true) }) rfl (fun K hK => ?_) AllReadyH.nil
          go_simp
          refine (E2.out _ b8).mono ?_
          rintro e w9 ⟨rfl, b9⟩
          refine hK.out _ _ (b9) (fun hHeld2 => ?_)
          clear hK K hHeld1
          try simp only [Act.put, List.setIfInBounds_toArray, List.set_cons_zero, List.set_cons_succ]
          refine wpAnyH_take (i := 22) (oi := { dst := some 115, op := Go.Op.binOp Go.BinOp.eql 24 (Go.Operand.tmp 109) (Go.Operand.tmp 114) 24, type := 4, pos := "law.go:111", after := #[{ on := 16, ground := Go.Ground.data }, { on := 21, ground := Go.Ground.data }, { on := 11, ground := Go.Ground.guard }], guard := some (11, true) }) (v := ?_) rfl (by kernel_rfl) (by kernel_rfl) (by kernel_rfl) (fun _ _ _ h => h) (Or.inl ⟨by rfl, ?_⟩) hHeld2 ?_
          rotate_left 1
          · (intro wq hSq; (try dsimp only at hSq); go_simp; first | done | with_reducible rfl)
          try simp only [Act.put, List.setIfInBounds_toArray, List.set_cons_zero, List.set_cons_succ]
          refine wpAnyH_take (i := 23) (oi := { dst := some 116, op := Go.Op.pick (Go.Operand.tmp 104) (Go.Operand.tmp 115) (Go.Operand.const (Go.Value.bool false)), type := 4, pos := "law.go:111", after := #[{ on := 11, ground := Go.Ground.data }, { on := 22, ground := Go.Ground.data }], guard := none }) (v := ?_) rfl (by kernel_rfl) (by kernel_rfl) (by kernel_rfl) (fun _ _ _ h => h) (Or.inl ⟨by rfl, ?_⟩) hHeld2 ?_
          rotate_left 1
          · (intro wq hSq; (try dsimp only at hSq); go_simp; first | done | with_reducible rfl)
          try simp only [Act.put, List.setIfInBounds_toArray, List.set_cons_zero, List.set_cons_succ]
          refine wpAnyH_done (by kernel_rfl) ?_ _
          refine NoPanic.normal ?_
          go_wp2
          go_roundw
          case rel => exact ⟨k + 1, by omega, by go_num, BL7.out _ b9, NX.out⟩
          case measure => simp [intOf]; omega
    · exfalso
      obtain ⟨j, X, Y, h1, h2, h3, h4⟩ := CL.out
      have hj := (List.getElem?_eq_some_iff.1 h1).1
      exact hno.out j X Y (by omega) h1 h2 h3 h4
end Go.Proofs.YtffhjjgkoapioaaDoor
