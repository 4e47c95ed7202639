import Derived.Test.YtffhjjgkoapioaaDoorHalvesWalk
import Derived.Test.YtffhjjgkoapioaaDoorMf
namespace Go.Proofs.YtffhjjgkoapioaaDoor
set_option linter.unusedSimpArgs false
set_option linter.unusedVariables false
open Go.RowKit
attribute [local go_sem ↓] Go.wp_at_zero Go.wp_at_succ
/-- The cells of the hash at a place of a list. -/
theorem range_at {w : World} {b o : Nat} {hs : List (List Int)} (hr : w.rangeAt b o (vB hs.flatten).toList) (hH : Hashes hs) (i : Nat) (hi : i < hs.length) : w.rangeAt b (o + i * 32) (List.map (Value.int .u8) (hs[i]?.getD [])) := by
  have h1 := range_drop hr (32 * i)
  rw [← flat_drop hs hH i (by omega), Nat.mul_comm 32 i] at h1
  have e : hs.drop i = hs[i] :: hs.drop (i + 1) := List.drop_eq_getElem_cons hi
  rw [e] at h1
  have h2 := range_take h1 32
  have hx := (hH hs[i] (List.getElem_mem hi)).1
  rw [List.flatten_cons, List.take_left' hx] at h2
  rw [List.getElem?_eq_getElem hi]
  exact h2
theorem hash_at {hs : List (List Int)} (hH : Hashes hs) (i : Nat) (hi : i < hs.length) : (hs[i]?.getD []).length = 32 ∧ Bytes (hs[i]?.getD []) := by
  rw [List.getElem?_eq_getElem hi]; exact hH _ (List.getElem_mem hi)
theorem Held2.drew {w w' : World} {b o o2 : Nat} {cs cs2 : List Value} (h : Below w.heap.size w w' ∧ w'.rangeAt b o cs ∧ w'.rangeAt b o2 cs2) : Below w.heap.size w w'.drew ∧ w'.drew.rangeAt b o cs ∧ w'.drew.rangeAt b o2 cs2 := ⟨below_drew h.1, h.2⟩
theorem Held2.of {w w' : World} {b o o2 : Nat} {cs cs2 : List Value} (h : w.rangeAt b o cs) (h2 : w.rangeAt b o2 cs2) (hb : b < w.heap.size) (k : Below w.heap.size w w') : Below w.heap.size w w' ∧ w'.rangeAt b o cs ∧ w'.rangeAt b o2 cs2 := ⟨k, range_below h k hb, range_below h2 k hb⟩
set_option maxRecDepth 100000 in
set_option maxHeartbeats 2000000 in
theorem over_in (av : Option Addr) (b o n cp : Nat) (hs : List (List Int)) (w : World) (hL : Laid w) (hn : hs.length = n) (hle : n ≤ 150) (hcp : n ≤ cp) (hcp2 : cp ≤ 9223372036854775807) (hav : 0 < n → av = some ⟨b, o, none⟩) (hp : ListAt w (.slice av n cp) hs) (hr : w.rangeAt b o (vB hs.flatten).toList) (hb : b < w.heap.size) (hH : Hashes hs) :
    Calls Tryd.prog 7 #[.slice av n cp] w fun e w' => e = .returned (.bool true) ∧ Below w.heap.size w w' := by
  have h2 := hL.two
  obtain ⟨R0, hR0⟩ : ∃ R, R = overH hs := ⟨_, rfl⟩
  have hRh0 : R0.length = 32 := by rw [hR0]; exact (overH_hash _ hH).1
  have C0 : Hid (∀ w', Below w.heap.size w w' → Calls Tryd.prog 36 #[.slice av n cp] w' fun e w'' => e = .returned (.agg (vB R0)) ∧ Below w.heap.size w w'') := fun w' k => by
    refine (over_any n _ hs w' (by omega) (by omega) hH (hL.below k h2) (hp.below k)).mono ?_
    rintro e w5 ⟨rfl, b5⟩
    exact ⟨by rw [hR0], k.trans (b5.mono k.size)⟩
  have C1 : Hid (∀ w', Below w.heap.size w w' → Calls Tryd.prog 37 #[.slice av n cp] w' fun e w'' => e = .returned (.agg (vB R0)) ∧ Below w.heap.size w w'') := fun w' k => by
    refine (rover_any n _ hs w' (by omega) (by omega) hH (by have := k.size; omega) (hp.below k)).mono ?_
    rintro e w5 ⟨rfl, b5⟩
    exact ⟨by rw [hR0], k.trans (b5.mono k.size)⟩
  have e24 := eq24_all R0 hRh0
  have HR : Hid (∀ i, i < n → w.rangeAt b (o + i * 32) (List.map (Value.int .u8) (hs[i]?.getD []))) := fun i hi => range_at hr hH i (by omega)
  have HH : Hid (∀ i, i < n → (hs[i]?.getD []).length = 32 ∧ Bytes (hs[i]?.getD [])) := fun i hi => hash_at hH i (by omega)
  clear hR0 hr hp hH hn
  go_enter Tryd.func7, Tryd.ntmps7
  go_wp2_with (first | (go_at_call 27; refine (awake2_any _).mono ?_; rintro e w1 ⟨rfl, b1⟩))
  go_loopw [3] (fun x wr => ∃ k : Nat, 1 ≤ k ∧ (k = 1 ∨ k ≤ n) ∧ x = .int .i64 k ∧ Below w.heap.size w wr) (fun x _ => n + 1 - (intOf x).toNat)
  case atStart => exact ⟨1, by omega, Or.inl rfl, rfl, b1⟩
  case round =>
    obtain ⟨k, hk1, hk2, rfl, bl⟩ := hrel
    by_cases hlt : k < n
    · obtain rfl := hav (by omega)
      have q1 := HR.out (k - 1) (by omega)
      have q2 := HR.out k hlt
      have l1 := HH.out (k - 1) (by omega)
      have l2 := HH.out k hlt
      generalize hs[k - 1]?.getD [] = X at *
      generalize hs[k]?.getD [] = Y at *
      obtain ⟨N, hN⟩ : ∃ N, N = nodeH X Y := ⟨_, rfl⟩
      have hNl : N.length = 32 := by rw [hN]; exact nodeH_length _ _
      have D0 : Hid (∀ w', Below w.heap.size w w' → Calls Tryd.prog 34 #[.agg (vB X), .agg (vB Y)] w' fun e w'' => e = .returned (.agg (vB N)) ∧ Below w.heap.size w w'') := fun w' k => by
        refine (node_any X Y l1.1 l2.1 w' (hL.below k h2)).mono ?_
        rintro e w5 ⟨rfl, b5⟩
        exact ⟨by rw [hN], k.trans (b5.mono k.size)⟩
      have D1 : Hid (∀ w', Below w.heap.size w w' → Calls Tryd.prog 35 #[.agg (vB X), .agg (vB Y)] w' fun e w'' => e = .returned (.agg (vB N)) ∧ Below w.heap.size w w'') := fun w' k => by
        refine (rnode_any X Y l1.1 l2.1 l1.2 l2.2 w').mono ?_
        rintro e w5 ⟨rfl, b5⟩
        exact ⟨by rw [hN], k.trans (b5.mono k.size)⟩
      have e25 := eq24_all N hNl
      have Q1 : Hid (w.rangeAt b (o + (k - 1) * 32) (List.map (Value.int .u8) X)) := q1
      have Q2 : Hid (w.rangeAt b (o + k * 32) (List.map (Value.int .u8) Y)) := q2
      have hu := Tryd.underlying24
      have c1 : (List.map (Value.int .u8) X).length = 32 := by simpa using l1.1
      have c2 : (List.map (Value.int .u8) Y).length = 32 := by simpa using l2.1
      have i1 : (Tryd.prog.info? 24).map (·.size) = some (List.map (Value.int .u8) X).length := by rw [c1]; kernel_rfl
      have i2 : (Tryd.prog.info? 24).map (·.size) = some (List.map (Value.int .u8) Y).length := by rw [c2]; kernel_rfl
      have j1 : (1 : Int) ≤ (k : Int) := by omega
      have j2 : (k : Int) < (n : Int) := by omega
      have j3 : (k : Int) - 1 < (n : Int) := by omega
      have j4 : ((k : Int) - 1).toNat = k - 1 := by omega
      have j5 : (0 : Int) ≤ (k : Int) := by omega
      have j6 : (0 : Int) ≤ (k : Int) - 1 := by omega
      have j7 : IntKind.i64.wrap ((k : Int) - 1) = (k : Int) - 1 := by rw [IntKind.wrap_i64]; omega
      clear q1 q2 l1 l2 hN C0 C1 e24 HR HH
      go_wp2
      have hS := Held2.of Q1.out Q2.out hb bl
      refine wp_region_noPanic ?_
      refine wp_region_held_drew (S := fun w' => Below w.heap.size w w' ∧ w'.rangeAt b (o + (k - 1) * 32) (List.map (Value.int .u8) X) ∧ w'.rangeAt b (o + k * 32) (List.map (Value.int .u8) Y)) (by kernel_rfl) (Held2.drew hS) (fun hHeld => ?_)
      try simp only [Act.put, List.setIfInBounds_toArray, List.set_cons_zero, List.set_cons_succ]
      refine wpAnyH_take (i := 0) (oi := { dst := some 18, op := Go.Op.move (Go.Operand.tmp 0), type := 44, pos := "law.go:38", after := #[], guard := none }) (v := ?_) rfl (by kernel_rfl) (by kernel_rfl) (by kernel_rfl) (fun _ _ _ h => h) (Or.inl ⟨by rfl, ?_⟩) hHeld ?_
      rotate_left 1
      · (intro wq hSq; (try dsimp only at hSq); go_simp; first | done | with_reducible rfl)
      try simp only [Act.put, List.setIfInBounds_toArray, List.set_cons_zero, List.set_cons_succ]
      refine wpAnyH_take (i := 1) (oi := { dst := some 19, op := Go.Op.move (Go.Operand.tmp 3), type := 3, pos := "law.go:38", after := #[], guard := none }) (v := ?_) rfl (by kernel_rfl) (by kernel_rfl) (by kernel_rfl) (fun _ _ _ h => h) (Or.inl ⟨by rfl, ?_⟩) hHeld ?_
      rotate_left 1
      · (intro wq hSq; (try dsimp only at hSq); go_simp; first | done | with_reducible rfl)
      try simp only [Act.put, List.setIfInBounds_toArray, List.set_cons_zero, List.set_cons_succ]
      refine wpAnyH_take (i := 2) (oi := { dst := some 20, op := Go.Op.binOp Go.BinOp.sub 3 (Go.Operand.tmp 19) (Go.Operand.const (Go.Value.int Go.IntKind.i64 1)) 3, type := 3, pos := "law.go:38", after := #[{ on := 1, ground := Go.Ground.data }], guard := none }) (v := ?_) rfl (by kernel_rfl) (by kernel_rfl) (by kernel_rfl) (fun _ _ _ h => h) (Or.inl ⟨by rfl, ?_⟩) hHeld ?_
      rotate_left 1
      · (intro wq hSq; (try dsimp only at hSq); go_simp; first | done | with_reducible rfl)
      try simp only [Act.put, List.setIfInBounds_toArray, List.set_cons_zero, List.set_cons_succ]
      refine wpAnyH_take (i := 3) (oi := { dst := some 21, op := Go.Op.indexAddr 44 (Go.Operand.tmp 18) (Go.Operand.tmp 20), type := 0, pos := "law.go:38", after := #[{ on := 0, ground := Go.Ground.data }, { on := 2, ground := Go.Ground.data }], guard := none }) (v := ?_) rfl (by kernel_rfl) (by kernel_rfl) (by kernel_rfl) (fun _ _ _ h => h) (Or.inl ⟨by rfl, ?_⟩) hHeld ?_
      rotate_left 1
      · (intro wq hSq; (try dsimp only at hSq); go_simp; first | done | with_reducible rfl)
      try simp only [Act.put, List.setIfInBounds_toArray, List.set_cons_zero, List.set_cons_succ]
      refine wpAnyH_take (i := 4) (oi := { dst := some 22, op := Go.Op.load 24 (Go.Operand.tmp 21), type := 24, pos := "law.go:38", after := #[{ on := 3, ground := Go.Ground.data }], guard := none }) (v := .agg (List.toArray (List.map (Value.int .u8) X))) rfl (by kernel_rfl) (by kernel_rfl) (by kernel_rfl) (fun _ _ _ h => h) (yieldsIf_load_mid (by rfl) _ _ rfl (b) (o + (k - 1) * 32) rfl (List.map (Value.int .u8) X) _ (fun _ h => h.2.1) Tryd.underlying24 rfl (i1)) hHeld ?_
      try simp only [Act.put, List.setIfInBounds_toArray, List.set_cons_zero, List.set_cons_succ]
      refine wpAnyH_take (i := 5) (oi := { dst := some 23, op := Go.Op.move (Go.Operand.tmp 0), type := 44, pos := "law.go:38", after := #[], guard := none }) (v := ?_) rfl (by kernel_rfl) (by kernel_rfl) (by kernel_rfl) (fun _ _ _ h => h) (Or.inl ⟨by rfl, ?_⟩) hHeld ?_
      rotate_left 1
      · (intro wq hSq; (try dsimp only at hSq); go_simp; first | done | with_reducible rfl)
      try simp only [Act.put, List.setIfInBounds_toArray, List.set_cons_zero, List.set_cons_succ]
      refine wpAnyH_take (i := 6) (oi := { dst := some 24, op := Go.Op.move (Go.Operand.tmp 3), type := 3, pos := "law.go:38", after := #[], guard := none }) (v := ?_) rfl (by kernel_rfl) (by kernel_rfl) (by kernel_rfl) (fun _ _ _ h => h) (Or.inl ⟨by rfl, ?_⟩) hHeld ?_
      rotate_left 1
      · (intro wq hSq; (try dsimp only at hSq); go_simp; first | done | with_reducible rfl)
      try simp only [Act.put, List.setIfInBounds_toArray, List.set_cons_zero, List.set_cons_succ]
      refine wpAnyH_take (i := 7) (oi := { dst := some 25, op := Go.Op.indexAddr 44 (Go.Operand.tmp 23) (Go.Operand.tmp 24), type := 0, pos := "law.go:38", after := #[{ on := 5, ground := Go.Ground.data }, { on := 6, ground := Go.Ground.data }], guard := none }) (v := ?_) rfl (by kernel_rfl) (by kernel_rfl) (by kernel_rfl) (fun _ _ _ h => h) (Or.inl ⟨by rfl, ?_⟩) hHeld ?_
      rotate_left 1
      · (intro wq hSq; (try dsimp only at hSq); go_simp; first | done | with_reducible rfl)
      try simp only [Act.put, List.setIfInBounds_toArray, List.set_cons_zero, List.set_cons_succ]
      refine wpAnyH_take (i := 8) (oi := { dst := some 26, op := Go.Op.load 24 (Go.Operand.tmp 25), type := 24, pos := "law.go:38", after := #[{ on := 7, ground := Go.Ground.data }], guard := none }) (v := .agg (List.toArray (List.map (Value.int .u8) Y))) rfl (by kernel_rfl) (by kernel_rfl) (by kernel_rfl) (fun _ _ _ h => h) (yieldsIf_load_mid (by rfl) _ _ rfl (b) (o + k * 32) rfl (List.map (Value.int .u8) Y) _ (fun _ h => h.2.2) Tryd.underlying24 rfl (i2)) hHeld ?_
      try simp only [Act.put, List.setIfInBounds_toArray, List.set_cons_zero, List.set_cons_succ]
      refine wpAnyH_take (i := 10) (oi := { dst := some 28, op := Go.Op.move (Go.Operand.tmp 0), type := 44, pos := "law.go:38", after := #[], guard := none }) (v := ?_) rfl (by kernel_rfl) (by kernel_rfl) (by kernel_rfl) (fun _ _ _ h => h) (Or.inl ⟨by rfl, ?_⟩) hHeld ?_
      rotate_left 1
      · (intro wq hSq; (try dsimp only at hSq); go_simp; first | done | with_reducible rfl)
      try simp only [Act.put, List.setIfInBounds_toArray, List.set_cons_zero, List.set_cons_succ]
      refine wpAnyH_take (i := 11) (oi := { dst := some 29, op := Go.Op.move (Go.Operand.tmp 3), type := 3, pos := "law.go:38", after := #[], guard := none }) (v := ?_) rfl (by kernel_rfl) (by kernel_rfl) (by kernel_rfl) (fun _ _ _ h => h) (Or.inl ⟨by rfl, ?_⟩) hHeld ?_
      rotate_left 1
      · (intro wq hSq; (try dsimp only at hSq); go_simp; first | done | with_reducible rfl)
      try simp only [Act.put, List.setIfInBounds_toArray, List.set_cons_zero, List.set_cons_succ]
      refine wpAnyH_take (i := 12) (oi := { dst := some 30, op := Go.Op.binOp Go.BinOp.sub 3 (Go.Operand.tmp 29) (Go.Operand.const (Go.Value.int Go.IntKind.i64 1)) 3, type := 3, pos := "law.go:38", after := #[{ on := 11, ground := Go.Ground.data }], guard := none }) (v := ?_) rfl (by kernel_rfl) (by kernel_rfl) (by kernel_rfl) (fun _ _ _ h => h) (Or.inl ⟨by rfl, ?_⟩) hHeld ?_
      rotate_left 1
      · (intro wq hSq; (try dsimp only at hSq); go_simp; first | done | with_reducible rfl)
      try simp only [Act.put, List.setIfInBounds_toArray, List.set_cons_zero, List.set_cons_succ]
      refine wpAnyH_take (i := 13) (oi := { dst := some 31, op := Go.Op.indexAddr 44 (Go.Operand.tmp 28) (Go.Operand.tmp 30), type := 0, pos := "law.go:38", after := #[{ on := 10, ground := Go.Ground.data }, { on := 12, ground := Go.Ground.data }], guard := none }) (v := ?_) rfl (by kernel_rfl) (by kernel_rfl) (by kernel_rfl) (fun _ _ _ h => h) (Or.inl ⟨by rfl, ?_⟩) hHeld ?_
      rotate_left 1
      · (intro wq hSq; (try dsimp only at hSq); go_simp; first | done | with_reducible rfl)
      try simp only [Act.put, List.setIfInBounds_toArray, List.set_cons_zero, List.set_cons_succ]
      refine wpAnyH_take (i := 14) (oi := { dst := some 32, op := Go.Op.load 24 (Go.Operand.tmp 31), type := 24, pos := "law.go:38", after := #[{ on := 13, ground := Go.Ground.data }], guard := none }) (v := .agg (List.toArray (List.map (Value.int .u8) X))) rfl (by kernel_rfl) (by kernel_rfl) (by kernel_rfl) (fun _ _ _ h => h) (yieldsIf_load_mid (by rfl) _ _ rfl (b) (o + (k - 1) * 32) rfl (List.map (Value.int .u8) X) _ (fun _ h => h.2.1) Tryd.underlying24 rfl (i1)) hHeld ?_
      try simp only [Act.put, List.setIfInBounds_toArray, List.set_cons_zero, List.set_cons_succ]
      refine wpAnyH_take (i := 15) (oi := { dst := some 33, op := Go.Op.move (Go.Operand.tmp 0), type := 44, pos := "law.go:38", after := #[], guard := none }) (v := ?_) rfl (by kernel_rfl) (by kernel_rfl) (by kernel_rfl) (fun _ _ _ h => h) (Or.inl ⟨by rfl, ?_⟩) hHeld ?_
      rotate_left 1
      · (intro wq hSq; (try dsimp only at hSq); go_simp; first | done | with_reducible rfl)
      try simp only [Act.put, List.setIfInBounds_toArray, List.set_cons_zero, List.set_cons_succ]
      refine wpAnyH_take (i := 16) (oi := { dst := some 34, op := Go.Op.move (Go.Operand.tmp 3), type := 3, pos := "law.go:38", after := #[], guard := none }) (v := ?_) rfl (by kernel_rfl) (by kernel_rfl) (by kernel_rfl) (fun _ _ _ h => h) (Or.inl ⟨by rfl, ?_⟩) hHeld ?_
      rotate_left 1
      · (intro wq hSq; (try dsimp only at hSq); go_simp; first | done | with_reducible rfl)
      try simp only [Act.put, List.setIfInBounds_toArray, List.set_cons_zero, List.set_cons_succ]
      refine wpAnyH_take (i := 17) (oi := { dst := some 35, op := Go.Op.indexAddr 44 (Go.Operand.tmp 33) (Go.Operand.tmp 34), type := 0, pos := "law.go:38", after := #[{ on := 15, ground := Go.Ground.data }, { on := 16, ground := Go.Ground.data }], guard := none }) (v := ?_) rfl (by kernel_rfl) (by kernel_rfl) (by kernel_rfl) (fun _ _ _ h => h) (Or.inl ⟨by rfl, ?_⟩) hHeld ?_
      rotate_left 1
      · (intro wq hSq; (try dsimp only at hSq); go_simp; first | done | with_reducible rfl)
      try simp only [Act.put, List.setIfInBounds_toArray, List.set_cons_zero, List.set_cons_succ]
      refine wpAnyH_take (i := 18) (oi := { dst := some 36, op := Go.Op.load 24 (Go.Operand.tmp 35), type := 24, pos := "law.go:38", after := #[{ on := 17, ground := Go.Ground.data }], guard := none }) (v := .agg (List.toArray (List.map (Value.int .u8) Y))) rfl (by kernel_rfl) (by kernel_rfl) (by kernel_rfl) (fun _ _ _ h => h) (yieldsIf_load_mid (by rfl) _ _ rfl (b) (o + k * 32) rfl (List.map (Value.int .u8) Y) _ (fun _ h => h.2.2) Tryd.underlying24 rfl (i2)) hHeld ?_
      try simp only [Act.put, List.setIfInBounds_toArray, List.set_cons_zero, List.set_cons_succ]
      refine wpAnyH_ready (rs := [9]) (by kernel_rfl) (by simp) ?_
      refine AllReadyH.cons (o := { dst := some 27, op := Go.Op.call { callee := Go.Callee.value (Go.Operand.func 34), args := #[Go.Operand.tmp 22, Go.Operand.tmp 26], argTypes := #[24, 24] }, type := 24, pos := "law.go:38", after := #[{ on := 4, ground := Go.Ground.data }, { on := 8, ground := Go.Ground.data }], guard := none }) rfl (fun K hK => ?_) AllReadyH.nil
      go_simp
      refine (D0.out _ (And.left ‹_›)).mono ?_
      rintro e w3 ⟨rfl, b3⟩
      refine hK.out _ _ (Held2.of Q1.out Q2.out hb b3) (fun hHeld1 => ?_)
      clear hK K hHeld
      try simp only [Act.put, List.setIfInBounds_toArray, List.set_cons_zero, List.set_cons_succ]
      refine wpAnyH_ready (rs := [19]) (by kernel_rfl) (by simp) ?_
      refine AllReadyH.cons (o := { dst := some 37, op := Go.Op.call { callee := Go.Callee.value (Go.Operand.func 35), args := #[Go.Operand.tmp 32, Go.Operand.tmp 36], argTypes := #[24, 24] }, type := 24, pos := "law.go:38", after := #[{ on := 14, ground := Go.Ground.data }, { on := 18, ground := Go.Ground.data }, { on := 9, ground := Go.Ground.chain }], guard := none }) rfl (fun K hK => ?_) AllReadyH.nil
      go_simp
      refine (D1.out _ b3).mono ?_
      rintro e w4 ⟨rfl, b4⟩
      refine hK.out _ _ (Held2.of Q1.out Q2.out hb b4) (fun hHeld2 => ?_)
      clear hK K hHeld1
      try simp only [Act.put, List.setIfInBounds_toArray, List.set_cons_zero, List.set_cons_succ]
      refine wpAnyH_take (i := 20) (oi := { dst := some 38, op := Go.Op.binOp Go.BinOp.neq 24 (Go.Operand.tmp 27) (Go.Operand.tmp 37) 24, type := 4, pos := "law.go:38", after := #[{ on := 9, ground := Go.Ground.data }, { on := 19, ground := Go.Ground.data }], guard := none }) (v := ?_) rfl (by kernel_rfl) (by kernel_rfl) (by kernel_rfl) (fun _ _ _ h => h) (Or.inl ⟨by rfl, ?_⟩) hHeld2 ?_
      rotate_left 1
      · (intro wq hSq; (try dsimp only at hSq); go_simp; first | done | with_reducible rfl)
      try simp only [Act.put, List.setIfInBounds_toArray, List.set_cons_zero, List.set_cons_succ]
      refine wpAnyH_done (by kernel_rfl) ?_ _
      refine NoPanic.normal ?_
      go_wp2
      go_roundw
      case rel => exact ⟨k + 1, by omega, by omega, by go_num, b4⟩
      case measure => simp [intOf]; omega
    · go_wp2_with (first | (go_at_call 36; refine (C0.out _ bl).mono ?_; rintro e w5 ⟨rfl, b5⟩) | (go_at_call 37; refine (C1.out _ b5).mono ?_; rintro e w6 ⟨rfl, b6⟩))
      go_ret
      exact ⟨rfl, b6⟩
set_option maxRecDepth 100000 in
set_option maxHeartbeats 1000000 in
theorem over_out (av : Option Addr) (n cp : Nat) (w : World) (hn : 150 < n) (hcp : n ≤ 4611686018427387904) :
    Calls Tryd.prog 7 #[.slice av n cp] w fun e w' => e = .returned (.bool true) ∧ Below w.heap.size w w' := by
  go_enter Tryd.func7, Tryd.ntmps7
  go_wp2_with fail
  refine (awake2_any _).mono ?_
  rintro e w1 ⟨rfl, b1⟩
  go_wp2_with fail
  refine (awake2_any _).mono ?_
  rintro e w2 ⟨rfl, b2⟩
  go_wp2
  go_ret
  exact ⟨rfl, b1.trans (b2.mono b1.size)⟩
theorem merkleOver_walk (v : Value) (hs : List (List Int)) (w : World) (hL : Laid w) (hp : ListAt w v hs) (hH : Hashes hs) (hn : hs.length ≤ 140737488351232) :
    Calls Tryd.prog 7 #[v] w fun e w' => e = .returned (.bool true) ∧ Below w.heap.size w w' := by
  have hp0 := hp
  obtain ⟨av, b, o, cp, rfl, hcp, hcp2, hav, hr, hb, _⟩ := hp
  by_cases h : 150 < hs.length
  · exact over_out av hs.length cp w h (by omega)
  · exact over_in av b o hs.length cp hs w hL rfl (by omega) hcp hcp2 hav hp0 hr hb hH
end Go.Proofs.YtffhjjgkoapioaaDoor
