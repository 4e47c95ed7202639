import Derived.Test.YtlcenbhcegmnoaaDoorMk
import Derived.Test.YtlcenbhcegmnoaaDoorMe
import Derived.Test.YtlcenbhcegmnoaaDoorOverWalk
import Derived.Test.YtlcenbhcegmnoaaDoorNa
namespace Go.Proofs.YtlcenbhcegmnoaaDoor
set_option linter.unusedSimpArgs false
set_option linter.unusedVariables false
open Go.RowKit
attribute [local go_sem ↓] Go.wp_at_zero Go.wp_at_succ
theorem forIn_seek {β : Type} {P : Program} (w : World) (f : Nat → β → Sem (ForInStep β)) (g : Nat → Bool) (b c : β) : ∀ (n s : Nat), (∀ j, s ≤ j ∧ j < s + n → g j = true → (f j b).run P w = .ok (.yield b) w) → (∀ j, s ≤ j ∧ j < s + n → g j = false → (f j b).run P w = .ok (.done c) w) → (forIn (List.range' s n) b f).run P w = .ok (if (List.range' s n).all g = true then b else c) w
  | 0, s, _, _ => by simp
  | n + 1, s, h1, h2 => by
    rw [List.range'_succ, List.forIn_cons, Sem.run_bind]
    cases hg : g s with
    | true =>
      rw [h1 s ⟨by omega, by omega⟩ hg]
      simp only [Result.andThen_ok]
      rw [forIn_seek w f g b c n (s + 1) (fun j hj => h1 j ⟨by omega, by omega⟩) (fun j hj => h2 j ⟨by omega, by omega⟩), List.all_cons, hg, Bool.true_and]
    | false =>
      rw [h2 s ⟨by omega, by omega⟩ hg]
      simp [hg]
theorem all_same (a b : List Int) (ha : a.length = 32) (hb : b.length = 32) : (List.range' 0 32).all (fun j => decide (gi a j = gi b j)) = decide (a = b) := by
  rw [Bool.eq_iff_iff, List.all_eq_true]
  simp only [decide_eq_true_eq]
  constructor
  · intro h
    apply List.ext_getElem (by omega)
    intro i h1 h2
    have := h i (by simp; omega)
    simpa [gi, h1, h2] using this
  · rintro rfl j _; rfl
theorem eq24_any (d : Nat) (l m : List Int) (hl : l.length = 32) (hm : m.length = 32) (w : World) : (Op.equalIn (d + 2) 24 (.agg (vB l)) (.agg (vB m))).run Tryd.prog w = .ok (decide (l = m)) w := by
  have hs : (Tryd.prog.info? 5).map (·.size) = some 1 := by kernel_rfl
  have hagg : (isAgg 5).run Tryd.prog w = .ok false w := by
    unfold isAgg; rw [Sem.run_bind, run_underlying Tryd.underlying5 w]; rfl
  cases hi : Tryd.prog.info? 5 with
  | none => simp [hi] at hs
  | some i =>
    have hz : i.size = 1 := by simpa [hi] using hs
    have hpart : ∀ (l : List Int), l.length = 32 → ∀ j, j < 32 → (part 5 (vB l) j).run Tryd.prog w = .ok (.int .u8 (gi l j)) w := fun l hl j hj => by
      have hq := vB_at l j (by omega)
      simp [part, hagg, hq]
    unfold Op.equalIn
    simp only [Sem.run_bind, run_underlying Tryd.underlying24, Result.andThen_ok]
    have hso : (sizeOf 5).run Tryd.prog w = .ok 1 w := by simp [sizeOf, typeInfo, hi, hz]
    simp only [hso, Result.andThen_ok, Std.Legacy.Range.forIn_eq_forIn_range']
    rw [show ([:32] : Std.Legacy.Range).size = 32 from rfl, forIn_seek _ _ (fun j => decide (gi l j = gi m j)) (none, ()) (some false, ()) 32 0]
    · rw [all_same l m hl hm]
      by_cases h : l = m <;> simp [h]
    · intro j hj hg
      have hp := hpart l hl j (by omega)
      have hp2 := hpart m hm j (by omega)
      have he : (Op.equalIn (d + 1) 5 (.int .u8 (gi l j)) (.int .u8 (gi m j))).run Tryd.prog w = .ok true w := by
        rw [run_equalIn_int w d 5 .u8 .u8 _ _ Tryd.underlying5]
        have := of_decide_eq_true hg
        simp [this]
      simp [Sem.run_bind, hp, hp2, he]
    · intro j hj hg
      have hp := hpart l hl j (by omega)
      have hp2 := hpart m hm j (by omega)
      have he : (Op.equalIn (d + 1) 5 (.int .u8 (gi l j)) (.int .u8 (gi m j))).run Tryd.prog w = .ok false w := by
        rw [run_equalIn_int w d 5 .u8 .u8 _ _ Tryd.underlying5]
        have := of_decide_eq_false hg
        simp [this]
      simp [Sem.run_bind, hp, hp2, he]
set_option maxHeartbeats 1000000 in
theorem rdepth_any (n i : Int) (w : World) : Calls Tryd.prog 39 #[.int .i64 n, .int .i64 i] w fun e w' => e = .returned (.int .i64 (depthI n i)) ∧ w' = w := by
  by_cases hb : i < 0 ∨ n ≤ i ∨ 1073741824 < n
  · have hd : depthI n i = -1 := by unfold depthI; rw [if_pos hb]
    have HD : Hid (depthI n i = -1) := hd
    clear hd
    by_cases h1 : 1073741824 < n
    · go_enter Tryd.func39, Tryd.ntmps39
      go_wp2
      go_ret
      exact ⟨by rw [HD.out]; rfl, rfl⟩
    · by_cases h2 : i < 0
      · go_enter Tryd.func39, Tryd.ntmps39
        go_wp2
        go_ret
        exact ⟨by rw [HD.out]; rfl, rfl⟩
      · have h3 : n ≤ i := by omega
        go_enter Tryd.func39, Tryd.ntmps39
        go_wp2
        go_ret
        exact ⟨by rw [HD.out]; rfl, rfl⟩
  · have hd : depthI n i = depthN n.toNat i.toNat := by unfold depthI; rw [if_neg hb]
    obtain ⟨N, rfl⟩ : ∃ N : Nat, n = N := ⟨n.toNat, by omega⟩
    obtain ⟨I, rfl⟩ : ∃ I : Nat, i = I := ⟨i.toNat, by omega⟩
    have HD : Hid (depthI N I = depthN N I) := by unfold Hid; rw [hd]; simp
    have hI : I < N := by omega
    have hN : N ≤ 1073741824 := by omega
    clear hd hb
    go_enter Tryd.func39, Tryd.ntmps39
    go_wp2
    generalize decide (N ≤ I) = q12
    generalize decide ((I : Int) < 0) = q8
    generalize decide (1073741824 < (N : Int)) = q16
    go_loop [0, 1, 5] (fun x y d => ∃ m j k : Nat, j < m ∧ m ≤ N ∧ x = .int .i64 m ∧ y = .int .i64 j ∧ d = .int .i64 k ∧ Hid (depthN N I = depthN m j + k) ∧ k + m ≤ N) (fun x _ _ => (intOf x).toNat)
    case atStart => exact ⟨N, I, 0, hI, Nat.le_refl _, rfl, rfl, rfl, rfl, by omega⟩
    case round =>
      obtain ⟨m, j, k, hj, hm, rfl, rfl, rfl, HR, hk⟩ := hrel
      by_cases hlt : 2 ≤ m
      · have hp := halfN_pos m
        have hl := halfN_lt m hlt
        have HL : Hid (j < halfN m → depthN m j = depthN (halfN m) j + 1) := depthN_lo m j hlt
        have HH : Hid (¬ j < halfN m → depthN m j = depthN (m - halfN m) (j - halfN m) + 1) := depthN_hi m j hlt
        have C : Hid (∀ w : World, Calls Tryd.prog 54 #[.int .i64 m] w fun e w' => e = .returned (.int .i64 (halfN m)) ∧ w' = w) := fun w => half_any m hlt (by omega) w
        generalize halfN m = x at *
        by_cases hx : j < x
        · go_wp2_with (go_at_call 54; refine (C.out _).mono ?_; rintro e w' ⟨rfl, rfl⟩)
          go_round
          case rel => exact ⟨x, j, k + 1, hx, by omega, rfl, rfl, by go_num, by unfold Hid; rw [HR.out, HL.out hx]; omega, by omega⟩
          case measure => simp [intOf]; omega
        · go_wp2_with (go_at_call 54; refine (C.out _).mono ?_; rintro e w' ⟨rfl, rfl⟩)
          go_round
          case rel => exact ⟨m - x, j - x, k + 1, by omega, by omega, by go_num, by go_num, by go_num, by unfold Hid; rw [HR.out, HH.out hx]; omega, by omega⟩
          case measure => simp [intOf]; omega
      · have HO : Hid (depthN m j = 0) := depthN_one m j (by omega)
        go_wp2
        go_ret
        exact ⟨by rw [HD.out, HR.out, HO.out]; show Ending.returned (.int .i64 k) = _; rw [Nat.zero_add], rfl⟩
/-- The root to which a proof of d hashes leads. -/
def leadD : Nat → List Int → Nat → Nat → List (List Int) → List Int
  | 0, leaf, _, _, _ => leaf
  | d + 1, leaf, n, i, pr => if i < halfN n then nodeH (leadD d leaf (halfN n) i pr) (pr[d]?.getD []) else nodeH (pr[d]?.getD []) (leadD d leaf (n - halfN n) (i - halfN n) pr)
theorem leadD_take (d : Nat) : ∀ (k : Nat) (leaf : List Int) (n i : Nat) (pr : List (List Int)), d ≤ k → leadD d leaf n i (pr.take k) = leadD d leaf n i pr := by
  induction d with
  | zero => intro k leaf n i pr _; rfl
  | succ d ih =>
    intro k leaf n i pr h
    have e : (pr.take k)[d]? = pr[d]? := by rw [List.getElem?_take, if_pos (by omega)]
    unfold leadD
    rw [e, ih k _ _ _ _ (by omega), ih k _ _ _ _ (by omega)]
theorem leadD_hash (d : Nat) (leaf : List Int) (n i : Nat) (pr : List (List Int)) (h : leaf.length = 32 ∧ Bytes leaf) : (leadD d leaf n i pr).length = 32 ∧ Bytes (leadD d leaf n i pr) := by
  cases d with
  | zero => exact h
  | succ d =>
    unfold leadD
    split <;> exact ⟨nodeH_length _ _, hashOf_bytes _⟩
end Go.Proofs.YtlcenbhcegmnoaaDoor
namespace Go.Proofs.YtlcenbhcegmnoaaDoor
set_option linter.unusedSimpArgs false
set_option linter.unusedVariables false
open Go.RowKit
attribute [local go_sem ↓] Go.wp_at_zero Go.wp_at_succ
/-- While lead carries on: all that lay ahead of it, the leaf's place, and its answer's. -/
def LeadIn (w : World) (leaf : List Int) (w' : World) : Prop := Below w.heap.size w w' ∧ w'.heap[w.heap.size]? = some (.cells (vB leaf) 24) ∧ ∃ c : List Int, c.length = 32 ∧ w'.heap[w.heap.size + 1]? = some (.cells (vB c) 24)
theorem LeadIn.lt {w w' : World} {leaf : List Int} (h : LeadIn w leaf w') : w.heap.size + 1 < w'.heap.size := by obtain ⟨_, _, c, _, h5⟩ := h; exact (Array.getElem?_eq_some_iff.1 h5).1
theorem LeadIn.new (w : World) (leaf : List Int) : LeadIn w leaf ((w.alloc (.cells (vB leaf) 24)).alloc (.cells (vB (zs 32)) 24)) := ⟨((Below.refl _ _).alloc (Nat.le_refl _) _).alloc (by simp) _, heap_alloc2_old _ _ _, zs 32, rfl, heap_alloc2_new _ _ _⟩
theorem LeadIn.drew {w w' : World} {leaf : List Int} (h : LeadIn w leaf w') : LeadIn w leaf w'.drew := ⟨⟨h.1.os, h.1.tape, h.1.output, h.1.size, h.1.block⟩, h.2⟩
theorem LeadIn.below {w w' w'' : World} {leaf : List Int} (h : LeadIn w leaf w') (k : Below w'.heap.size w' w'') : LeadIn w leaf w'' := by
  have hl := h.lt
  obtain ⟨h1, h2, c, hc, h5⟩ := h
  exact ⟨h1.trans (k.mono h1.size), by rw [k.block _ (by omega)]; exact h2, c, hc, by rw [k.block _ hl]; exact h5⟩
theorem LeadIn.store {w w' : World} {leaf : List Int} (h : LeadIn w leaf w') (l : List Int) (hl : l.length = 32) : LeadIn w leaf (w'.setCells (w.heap.size + 1) 0 (vB l).toList) := by
  obtain ⟨h1, h2, c, hc, h5⟩ := h
  exact ⟨below_setCells h1 (by omega) _, by rw [setCells_far _ _ _ _ _ (by omega)]; exact h2, l, hl, setCells_whole h5 (by omega)⟩
theorem LeadIn.st {w w' : World} {leaf : List Int} {b o : Nat} {cs : List Value} (h : LeadIn w leaf w') (hr : w.rangeAt b o cs) (hb : b < w.heap.size) :
    LeadIn w leaf w' ∧ w'.rangeAt w.heap.size 0 (List.map (Value.int .u8) leaf) ∧ w'.rangeAt b o cs ∧ w'.there (w.heap.size + 1) 0 32 := by
  have h' := h
  obtain ⟨h1, h2, c, hc, h5⟩ := h
  exact ⟨h', range_of_block h2, range_below hr h1 hb, there_of_block h5 (by rw [vB_size]; omega)⟩
set_option maxRecDepth 100000 in
set_option maxHeartbeats 1000000 in
theorem lead_zero (leaf : List Int) (n i : Int) (av : Option Addr) (cp : Nat) (w : World) (hl : leaf.length = 32) :
    Calls Tryd.prog 56 #[.agg (vB leaf), .int .i64 n, .int .i64 i, .slice av 0 cp] w fun e w' => e = .returned (.agg (vB leaf)) ∧ Below w.heap.size w w' := by
  have hN := LeadIn.new w leaf
  have h5 : ((w.alloc (Obj.cells (vB leaf) 24)).alloc (Obj.cells (vB (zs 32)) 24)).heap[w.heap.size + 1]? = some (.cells (vB (zs 32)) 24) := heap_alloc2_new _ _ _
  have H5 : Hid (((w.alloc (Obj.cells (vB leaf) 24)).alloc (Obj.cells (vB (zs 32)) 24)).heap[w.heap.size + 1]? = some (.cells (vB (zs 32)) 24)) := h5
  have H4 : Hid (((w.alloc (Obj.cells (vB leaf) 24)).alloc (Obj.cells (vB (zs 32)) 24)).heap[w.heap.size]? = some (.cells (vB leaf) 24)) := heap_alloc2_old _ _ _
  clear h5
  go_enter Tryd.func56, Tryd.ntmps56
  go_wp2_with (first | (refine load24 rfl _ rfl w.heap.size (by rfl) leaf hl 24 H4.out ?_) | (refine store24 rfl _ _ rfl (w.heap.size + 1) leaf (by rfl) (by rfl) hl 24 (zs 32) rfl H5.out ?_))
  exact bodyPost_ret (v := .agg (vB leaf)) (results_cell_row (p := 8) (ty := 24) Tryd.results56 _ _ (w.heap.size + 1) 24 _ (0, 0) _ rfl (setRow_same H5.out) Tryd.underlying24 rfl (by rw [vB_size, hl]; kernel_rfl)) rfl ⟨rfl, below_setRow hN.1 (by omega) _⟩
set_option maxRecDepth 100000 in
set_option maxHeartbeats 2000000 in
theorem lead_lo (d : Nat) (leaf T L : List Int) (n i k b o cp : Nat) (w : World) (hl : leaf.length = 32) (hT : T.length = 32) (hLl : L.length = 32) (hik : i < k) (hkn : k < n) (hn : n ≤ 1073741824) (hcp : d + 1 ≤ cp) (hcp2 : cp ≤ 9223372036854775807) (hd : d < 4611686018427387904)
    (hL : Laid w) (hb : b < w.heap.size) (hr : w.rangeAt b (o + d * 32) (List.map (Value.int .u8) T))
    (C0 : ∀ w' : World, Calls Tryd.prog 53 #[.int .i64 n] w' fun e w'' => e = .returned (.int .i64 k) ∧ w'' = w')
    (C1 : ∀ w', LeadIn w leaf w' → Calls Tryd.prog 56 #[.agg (vB leaf), .int .i64 k, .int .i64 i, .slice (some ⟨b, o, none⟩) d cp] w' fun e w'' => e = .returned (.agg (vB L)) ∧ LeadIn w leaf w'') :
    Calls Tryd.prog 56 #[.agg (vB leaf), .int .i64 n, .int .i64 i, .slice (some ⟨b, o, none⟩) (d + 1) cp] w fun e w' => e = .returned (.agg (vB (nodeH L T))) ∧ Below w.heap.size w w' := by
  have h2 := hL.two
  obtain ⟨HB, hHB⟩ : ∃ HB, HB = nodeH L T := ⟨_, rfl⟩
  have hlen : HB.length = 32 := by rw [hHB]; exact nodeH_length _ _
  have D0 : Hid (∀ w' : World, Calls Tryd.prog 53 #[.int .i64 n] w' fun e w'' => e = .returned (.int .i64 k) ∧ w'' = w') := C0
  have D1 : Hid (∀ w', LeadIn w leaf w' → Calls Tryd.prog 56 #[.agg (vB leaf), .int .i64 k, .int .i64 i, .slice (some ⟨b, o, none⟩) d cp] w' fun e w'' => e = .returned (.agg (vB L)) ∧ LeadIn w leaf w'') := C1
  have D2 : Hid (∀ w', LeadIn w leaf w' → Calls Tryd.prog 30 #[.agg (vB L), .agg (vB T)] w' fun e w'' => e = .returned (.agg (vB HB)) ∧ LeadIn w leaf w'') := fun w' q => by
    rw [hHB]; exact (node_any L T hLl hT w' (hL.below q.1 h2)).mono (fun e w5 h => ⟨h.1, q.below h.2⟩)
  rw [← hHB]
  have c1 : (List.map (Value.int .u8) leaf).length = 32 := by simpa using hl
  have c2 : (List.map (Value.int .u8) T).length = 32 := by simpa using hT
  have i1 : (Tryd.prog.info? 24).map (·.size) = some (List.map (Value.int .u8) leaf).length := by rw [c1]; kernel_rfl
  have i2 : (Tryd.prog.info? 24).map (·.size) = some (List.map (Value.int .u8) T).length := by rw [c2]; kernel_rfl
  have HR : Hid (w.rangeAt b (o + d * 32) (List.map (Value.int .u8) T)) := hr
  have j1 : (0 : Int) ≤ (d : Int) := by omega
  have j2 : (d : Int) ≤ (cp : Int) := by omega
  have j3 : (d : Int) < (d : Int) + 1 := by omega
  clear hHB C0 C1 hr
  go_enter Tryd.func56, Tryd.ntmps56
  go_wp2_with (first | (go_at_call 53; refine (D0.out _).mono ?_; rintro e w' ⟨rfl, hw'⟩; have hw'' := hw'.symm; clear hw'; subst hw''))
  have hN := LeadIn.new w leaf
  obtain ⟨W, hW⟩ : ∃ W, (w.alloc (Obj.cells (vB leaf) 24)).alloc (Obj.cells (vB (zs 32)) 24) = W := ⟨_, rfl⟩
  change Code.wp _ _ _ _ ((w.alloc (Obj.cells (vB leaf) 24)).alloc (Obj.cells (vB (zs 32)) 24))
  rw [hW] at hN ⊢
  clear hW
  have hS := hN.drew.st HR.out hb
  refine wp_region_noPanic ?_
  refine wp_region_held_drew (S := fun w' => LeadIn w leaf w' ∧ w'.rangeAt w.heap.size 0 (List.map (Value.int .u8) leaf) ∧ w'.rangeAt b (o + d * 32) (List.map (Value.int .u8) T) ∧ w'.there (w.heap.size + 1) 0 32) (by kernel_rfl) (hS) (fun hHeld => ?_)
  try simp only [Act.put, List.setIfInBounds_toArray, List.set_cons_zero, List.set_cons_succ]
  refine wpAnyH_take (i := 0) (oi := { dst := some 23, op := Go.Op.load 24 (Go.Operand.tmp 4), type := 24, pos := "merkle.go:117", after := #[], guard := none }) (v := .agg (List.toArray (List.map (Value.int .u8) leaf))) rfl (by kernel_rfl) (by kernel_rfl) (by kernel_rfl) (fun _ _ _ h => h) (yieldsIf_load_mid (by rfl) _ _ rfl (w.heap.size) (0) rfl (List.map (Value.int .u8) leaf) _ (fun _ h => h.2.1) Tryd.underlying24 rfl (i1)) hHeld ?_
  try simp only [Act.put, List.setIfInBounds_toArray, List.set_cons_zero, List.set_cons_succ]
  refine wpAnyH_take (i := 1) (oi := { dst := some 24, op := Go.Op.move (Go.Operand.tmp 9), type := 3, pos := "merkle.go:117", after := #[], guard := none }) (v := ?_) rfl (by kernel_rfl) (by kernel_rfl) (by kernel_rfl) (fun _ _ _ h => h) (Or.inl ⟨by rfl, ?_⟩) hHeld ?_
  rotate_left 1
  · (intro wq hSq; (try dsimp only at hSq); go_simp; first | done | with_reducible rfl)
  try simp only [Act.put, List.setIfInBounds_toArray, List.set_cons_zero, List.set_cons_succ]
  refine wpAnyH_take (i := 2) (oi := { dst := some 25, op := Go.Op.move (Go.Operand.tmp 2), type := 3, pos := "merkle.go:117", after := #[], guard := none }) (v := ?_) rfl (by kernel_rfl) (by kernel_rfl) (by kernel_rfl) (fun _ _ _ h => h) (Or.inl ⟨by rfl, ?_⟩) hHeld ?_
  rotate_left 1
  · (intro wq hSq; (try dsimp only at hSq); go_simp; first | done | with_reducible rfl)
  try simp only [Act.put, List.setIfInBounds_toArray, List.set_cons_zero, List.set_cons_succ]
  refine wpAnyH_take (i := 3) (oi := { dst := some 26, op := Go.Op.move (Go.Operand.tmp 3), type := 44, pos := "merkle.go:117", after := #[], guard := none }) (v := ?_) rfl (by kernel_rfl) (by kernel_rfl) (by kernel_rfl) (fun _ _ _ h => h) (Or.inl ⟨by rfl, ?_⟩) hHeld ?_
  rotate_left 1
  · (intro wq hSq; (try dsimp only at hSq); go_simp; first | done | with_reducible rfl)
  try simp only [Act.put, List.setIfInBounds_toArray, List.set_cons_zero, List.set_cons_succ]
  refine wpAnyH_take (i := 4) (oi := { dst := some 27, op := Go.Op.move (Go.Operand.tmp 10), type := 3, pos := "merkle.go:117", after := #[], guard := none }) (v := ?_) rfl (by kernel_rfl) (by kernel_rfl) (by kernel_rfl) (fun _ _ _ h => h) (Or.inl ⟨by rfl, ?_⟩) hHeld ?_
  rotate_left 1
  · (intro wq hSq; (try dsimp only at hSq); go_simp; first | done | with_reducible rfl)
  try simp only [Act.put, List.setIfInBounds_toArray, List.set_cons_zero, List.set_cons_succ]
  refine wpAnyH_take (i := 5) (oi := { dst := some 28, op := Go.Op.slice 44 (Go.Operand.tmp 26) none (some (Go.Operand.tmp 27)) none, type := 44, pos := "merkle.go:117", after := #[{ on := 3, ground := Go.Ground.data }, { on := 4, ground := Go.Ground.data }], guard := none }) (v := ?_) rfl (by kernel_rfl) (by kernel_rfl) (by kernel_rfl) (fun _ _ _ h => h) (Or.inl ⟨by rfl, ?_⟩) hHeld ?_
  rotate_left 1
  · (intro wq hSq; (try dsimp only at hSq); go_simp; first | done | with_reducible rfl)
  try simp only [Act.put, List.setIfInBounds_toArray, List.set_cons_zero, List.set_cons_succ]
  refine wpAnyH_take (i := 7) (oi := { dst := some 30, op := Go.Op.move (Go.Operand.tmp 3), type := 44, pos := "merkle.go:117", after := #[], guard := none }) (v := ?_) rfl (by kernel_rfl) (by kernel_rfl) (by kernel_rfl) (fun _ _ _ h => h) (Or.inl ⟨by rfl, ?_⟩) hHeld ?_
  rotate_left 1
  · (intro wq hSq; (try dsimp only at hSq); go_simp; first | done | with_reducible rfl)
  try simp only [Act.put, List.setIfInBounds_toArray, List.set_cons_zero, List.set_cons_succ]
  refine wpAnyH_take (i := 8) (oi := { dst := some 31, op := Go.Op.move (Go.Operand.tmp 10), type := 3, pos := "merkle.go:117", after := #[], guard := none }) (v := ?_) rfl (by kernel_rfl) (by kernel_rfl) (by kernel_rfl) (fun _ _ _ h => h) (Or.inl ⟨by rfl, ?_⟩) hHeld ?_
  rotate_left 1
  · (intro wq hSq; (try dsimp only at hSq); go_simp; first | done | with_reducible rfl)
  try simp only [Act.put, List.setIfInBounds_toArray, List.set_cons_zero, List.set_cons_succ]
  refine wpAnyH_take (i := 9) (oi := { dst := some 32, op := Go.Op.indexAddr 44 (Go.Operand.tmp 30) (Go.Operand.tmp 31), type := 0, pos := "merkle.go:117", after := #[{ on := 7, ground := Go.Ground.data }, { on := 8, ground := Go.Ground.data }], guard := none }) (v := ?_) rfl (by kernel_rfl) (by kernel_rfl) (by kernel_rfl) (fun _ _ _ h => h) (Or.inl ⟨by rfl, ?_⟩) hHeld ?_
  rotate_left 1
  · (intro wq hSq; (try dsimp only at hSq); go_simp; first | done | with_reducible rfl)
  try simp only [Act.put, List.setIfInBounds_toArray, List.set_cons_zero, List.set_cons_succ]
  refine wpAnyH_take (i := 10) (oi := { dst := some 33, op := Go.Op.load 24 (Go.Operand.tmp 32), type := 24, pos := "merkle.go:117", after := #[{ on := 9, ground := Go.Ground.data }], guard := none }) (v := .agg (List.toArray (List.map (Value.int .u8) T))) rfl (by kernel_rfl) (by kernel_rfl) (by kernel_rfl) (fun _ _ _ h => h) (yieldsIf_load_mid (by rfl) _ _ rfl (b) (o + d * 32) rfl (List.map (Value.int .u8) T) _ (fun _ h => h.2.2.1) Tryd.underlying24 rfl (i2)) hHeld ?_
  try simp only [Act.put, List.setIfInBounds_toArray, List.set_cons_zero, List.set_cons_succ]
  refine wpAnyH_ready (rs := [6]) (by kernel_rfl) (by simp) ?_
  refine AllReadyH.cons (o := { dst := some 29, op := Go.Op.call { callee := Go.Callee.value (Go.Operand.func 56), args := #[Go.Operand.tmp 23, Go.Operand.tmp 24, Go.Operand.tmp 25, Go.Operand.tmp 28], argTypes := #[24, 3, 3, 44] }, type := 24, pos := "merkle.go:117", after := #[{ on := 0, ground := Go.Ground.data }, { on := 1, ground := Go.Ground.data }, { on := 2, ground := Go.Ground.data }, { on := 5, ground := Go.Ground.data }], guard := none }) rfl (fun K hK => ?_) AllReadyH.nil
  go_simp
  refine (D1.out _ hN.drew).mono ?_
  rintro e w4 ⟨rfl, n4⟩
  refine hK.out _ _ (n4.st HR.out hb) (fun hHeld1 => ?_)
  clear hK K hHeld
  try simp only [Act.put, List.setIfInBounds_toArray, List.set_cons_zero, List.set_cons_succ]
  refine wpAnyH_ready (rs := [11]) (by kernel_rfl) (by simp) ?_
  refine AllReadyH.cons (o := { dst := some 34, op := Go.Op.call { callee := Go.Callee.value (Go.Operand.func 30), args := #[Go.Operand.tmp 29, Go.Operand.tmp 33], argTypes := #[24, 24] }, type := 24, pos := "merkle.go:117", after := #[{ on := 6, ground := Go.Ground.data }, { on := 10, ground := Go.Ground.data }, { on := 6, ground := Go.Ground.chain }], guard := none }) rfl (fun K hK => ?_) AllReadyH.nil
  go_simp
  refine (D2.out _ n4).mono ?_
  rintro e w5 ⟨rfl, n5⟩
  refine hK.out _ _ (n5.st HR.out hb) (fun hHeld2 => ?_)
  clear hK K hHeld1
  try simp only [Act.put, List.setIfInBounds_toArray, List.set_cons_zero, List.set_cons_succ]
  refine wpAnyH_ready (rs := [12]) (by kernel_rfl) (by simp) ?_
  refine AllReadyH.cons (o := { dst := none, op := Go.Op.store 24 (Go.Operand.tmp 8) (Go.Operand.tmp 34), type := 0, pos := "merkle.go:117", after := #[{ on := 11, ground := Go.Ground.data }, { on := 11, ground := Go.Ground.chain }, { on := 0, ground := Go.Ground.phase }, { on := 1, ground := Go.Ground.phase }, { on := 2, ground := Go.Ground.phase }, { on := 3, ground := Go.Ground.phase }, { on := 4, ground := Go.Ground.phase }, { on := 5, ground := Go.Ground.phase }, { on := 6, ground := Go.Ground.phase }, { on := 7, ground := Go.Ground.phase }, { on := 8, ground := Go.Ground.phase }, { on := 9, ground := Go.Ground.phase }, { on := 10, ground := Go.Ground.phase }, { on := 11, ground := Go.Ground.phase }], guard := none }) rfl (fun K hK => ?_) AllReadyH.nil
  rw [if_pos (by rfl)]
  refine wp_store_mid 24 _ _ rfl (w.heap.size + 1) 0 (vB HB) (by rfl) (by rfl) (by rw [vB_size, hlen]; exact (n5.st HR.out hb).2.2.2) (by rw [vB_size, hlen]; kernel_rfl) (vB_all HB) ?_
  refine hK.out _ _ ((n5.store HB hlen).st HR.out hb) (fun hHeld3 => ?_)
  clear hK K hHeld2
  try simp only [Act.put, List.setIfInBounds_toArray, List.set_cons_zero, List.set_cons_succ]
  refine wpAnyH_done (by kernel_rfl) ?_ _
  refine NoPanic.normal ?_
  obtain ⟨h51, _, c, hc, h55⟩ := n5
  have h6 : (w5.setCells (w.heap.size + 1) 0 (vB HB).toList).heap[w.heap.size + 1]? = some (.cells (vB HB) 24) := setCells_whole h55 (by omega)
  have b6 : Below w.heap.size w (w5.setCells (w.heap.size + 1) 0 (vB HB).toList) := below_setCells h51 (by omega) _
  clear h55
  generalize w5.setCells (w.heap.size + 1) 0 (vB HB).toList = w6 at *
  go_wp2
  exact bodyPost_ret (v := .agg (vB HB)) (results_cell_row (p := 8) (ty := 24) Tryd.results56 _ _ (w.heap.size + 1) 24 _ (0, 0) _ rfl h6 Tryd.underlying24 rfl (by rw [vB_size, hlen]; kernel_rfl)) rfl ⟨rfl, b6⟩
set_option maxRecDepth 100000 in
set_option maxHeartbeats 2000000 in
theorem lead_hi (d : Nat) (leaf T L : List Int) (n i k b o cp : Nat) (w : World) (hl : leaf.length = 32) (hT : T.length = 32) (hLl : L.length = 32) (hik : ¬ i < k) (hin : i < n) (hkn : k < n) (hn : n ≤ 1073741824) (hcp : d + 1 ≤ cp) (hcp2 : cp ≤ 9223372036854775807) (hd : d < 4611686018427387904)
    (hL : Laid w) (hb : b < w.heap.size) (hr : w.rangeAt b (o + d * 32) (List.map (Value.int .u8) T))
    (C0 : ∀ w' : World, Calls Tryd.prog 53 #[.int .i64 n] w' fun e w'' => e = .returned (.int .i64 k) ∧ w'' = w')
    (C1 : ∀ w', LeadIn w leaf w' → Calls Tryd.prog 56 #[.agg (vB leaf), .int .i64 ((n : Int) - (k : Int)), .int .i64 ((i : Int) - (k : Int)), .slice (some ⟨b, o, none⟩) d cp] w' fun e w'' => e = .returned (.agg (vB L)) ∧ LeadIn w leaf w'') :
    Calls Tryd.prog 56 #[.agg (vB leaf), .int .i64 n, .int .i64 i, .slice (some ⟨b, o, none⟩) (d + 1) cp] w fun e w' => e = .returned (.agg (vB (nodeH T L))) ∧ Below w.heap.size w w' := by
  have h2 := hL.two
  obtain ⟨HB, hHB⟩ : ∃ HB, HB = nodeH T L := ⟨_, rfl⟩
  have hlen : HB.length = 32 := by rw [hHB]; exact nodeH_length _ _
  have D0 : Hid (∀ w' : World, Calls Tryd.prog 53 #[.int .i64 n] w' fun e w'' => e = .returned (.int .i64 k) ∧ w'' = w') := C0
  have D1 : Hid (∀ w', LeadIn w leaf w' → Calls Tryd.prog 56 #[.agg (vB leaf), .int .i64 ((n : Int) - (k : Int)), .int .i64 ((i : Int) - (k : Int)), .slice (some ⟨b, o, none⟩) d cp] w' fun e w'' => e = .returned (.agg (vB L)) ∧ LeadIn w leaf w'') := C1
  have D2 : Hid (∀ w', LeadIn w leaf w' → Calls Tryd.prog 30 #[.agg (vB T), .agg (vB L)] w' fun e w'' => e = .returned (.agg (vB HB)) ∧ LeadIn w leaf w'') := fun w' q => by
    rw [hHB]; exact (node_any T L hT hLl w' (hL.below q.1 h2)).mono (fun e w5 h => ⟨h.1, q.below h.2⟩)
  rw [← hHB]
  have c1 : (List.map (Value.int .u8) leaf).length = 32 := by simpa using hl
  have c2 : (List.map (Value.int .u8) T).length = 32 := by simpa using hT
  have i1 : (Tryd.prog.info? 24).map (·.size) = some (List.map (Value.int .u8) leaf).length := by rw [c1]; kernel_rfl
  have i2 : (Tryd.prog.info? 24).map (·.size) = some (List.map (Value.int .u8) T).length := by rw [c2]; kernel_rfl
  have HR : Hid (w.rangeAt b (o + d * 32) (List.map (Value.int .u8) T)) := hr
  have j1 : (0 : Int) ≤ (d : Int) := by omega
  have j2 : (d : Int) ≤ (cp : Int) := by omega
  have j3 : (d : Int) < (d : Int) + 1 := by omega
  have j4 : IntKind.i64.wrap ((n : Int) - (k : Int)) = (n : Int) - (k : Int) := by rw [IntKind.wrap_i64]; omega
  have j5 : IntKind.i64.wrap ((i : Int) - (k : Int)) = (i : Int) - (k : Int) := by rw [IntKind.wrap_i64]; omega
  clear hHB C0 C1 hr
  go_enter Tryd.func56, Tryd.ntmps56
  go_wp2_with (first | (go_at_call 53; refine (D0.out _).mono ?_; rintro e w' ⟨rfl, hw'⟩; have hw'' := hw'.symm; clear hw'; subst hw''))
  have hN := LeadIn.new w leaf
  obtain ⟨W, hW⟩ : ∃ W, (w.alloc (Obj.cells (vB leaf) 24)).alloc (Obj.cells (vB (zs 32)) 24) = W := ⟨_, rfl⟩
  change Code.wp _ _ _ _ ((w.alloc (Obj.cells (vB leaf) 24)).alloc (Obj.cells (vB (zs 32)) 24))
  rw [hW] at hN ⊢
  clear hW
  have hS := hN.drew.st HR.out hb
  refine wp_region_noPanic ?_
  refine wp_region_held_drew (S := fun w' => LeadIn w leaf w' ∧ w'.rangeAt w.heap.size 0 (List.map (Value.int .u8) leaf) ∧ w'.rangeAt b (o + d * 32) (List.map (Value.int .u8) T) ∧ w'.there (w.heap.size + 1) 0 32) (by kernel_rfl) (hS) (fun hHeld => ?_)
  try simp only [Act.put, List.setIfInBounds_toArray, List.set_cons_zero, List.set_cons_succ]
  refine wpAnyH_take (i := 0) (oi := { dst := some 35, op := Go.Op.move (Go.Operand.tmp 3), type := 44, pos := "merkle.go:119", after := #[], guard := none }) (v := ?_) rfl (by kernel_rfl) (by kernel_rfl) (by kernel_rfl) (fun _ _ _ h => h) (Or.inl ⟨by rfl, ?_⟩) hHeld ?_
  rotate_left 1
  · (intro wq hSq; (try dsimp only at hSq); go_simp; first | done | with_reducible rfl)
  try simp only [Act.put, List.setIfInBounds_toArray, List.set_cons_zero, List.set_cons_succ]
  refine wpAnyH_take (i := 1) (oi := { dst := some 36, op := Go.Op.move (Go.Operand.tmp 10), type := 3, pos := "merkle.go:119", after := #[], guard := none }) (v := ?_) rfl (by kernel_rfl) (by kernel_rfl) (by kernel_rfl) (fun _ _ _ h => h) (Or.inl ⟨by rfl, ?_⟩) hHeld ?_
  rotate_left 1
  · (intro wq hSq; (try dsimp only at hSq); go_simp; first | done | with_reducible rfl)
  try simp only [Act.put, List.setIfInBounds_toArray, List.set_cons_zero, List.set_cons_succ]
  refine wpAnyH_take (i := 2) (oi := { dst := some 37, op := Go.Op.indexAddr 44 (Go.Operand.tmp 35) (Go.Operand.tmp 36), type := 0, pos := "merkle.go:119", after := #[{ on := 0, ground := Go.Ground.data }, { on := 1, ground := Go.Ground.data }], guard := none }) (v := ?_) rfl (by kernel_rfl) (by kernel_rfl) (by kernel_rfl) (fun _ _ _ h => h) (Or.inl ⟨by rfl, ?_⟩) hHeld ?_
  rotate_left 1
  · (intro wq hSq; (try dsimp only at hSq); go_simp; first | done | with_reducible rfl)
  try simp only [Act.put, List.setIfInBounds_toArray, List.set_cons_zero, List.set_cons_succ]
  refine wpAnyH_take (i := 3) (oi := { dst := some 38, op := Go.Op.load 24 (Go.Operand.tmp 37), type := 24, pos := "merkle.go:119", after := #[{ on := 2, ground := Go.Ground.data }], guard := none }) (v := .agg (List.toArray (List.map (Value.int .u8) T))) rfl (by kernel_rfl) (by kernel_rfl) (by kernel_rfl) (fun _ _ _ h => h) (yieldsIf_load_mid (by rfl) _ _ rfl (b) (o + d * 32) rfl (List.map (Value.int .u8) T) _ (fun _ h => h.2.2.1) Tryd.underlying24 rfl (i2)) hHeld ?_
  try simp only [Act.put, List.setIfInBounds_toArray, List.set_cons_zero, List.set_cons_succ]
  refine wpAnyH_take (i := 4) (oi := { dst := some 39, op := Go.Op.load 24 (Go.Operand.tmp 4), type := 24, pos := "merkle.go:119", after := #[], guard := none }) (v := .agg (List.toArray (List.map (Value.int .u8) leaf))) rfl (by kernel_rfl) (by kernel_rfl) (by kernel_rfl) (fun _ _ _ h => h) (yieldsIf_load_mid (by rfl) _ _ rfl (w.heap.size) (0) rfl (List.map (Value.int .u8) leaf) _ (fun _ h => h.2.1) Tryd.underlying24 rfl (i1)) hHeld ?_
  try simp only [Act.put, List.setIfInBounds_toArray, List.set_cons_zero, List.set_cons_succ]
  refine wpAnyH_take (i := 5) (oi := { dst := some 40, op := Go.Op.move (Go.Operand.tmp 1), type := 3, pos := "merkle.go:119", after := #[], guard := none }) (v := ?_) rfl (by kernel_rfl) (by kernel_rfl) (by kernel_rfl) (fun _ _ _ h => h) (Or.inl ⟨by rfl, ?_⟩) hHeld ?_
  rotate_left 1
  · (intro wq hSq; (try dsimp only at hSq); go_simp; first | done | with_reducible rfl)
  try simp only [Act.put, List.setIfInBounds_toArray, List.set_cons_zero, List.set_cons_succ]
  refine wpAnyH_take (i := 6) (oi := { dst := some 41, op := Go.Op.move (Go.Operand.tmp 9), type := 3, pos := "merkle.go:119", after := #[], guard := none }) (v := ?_) rfl (by kernel_rfl) (by kernel_rfl) (by kernel_rfl) (fun _ _ _ h => h) (Or.inl ⟨by rfl, ?_⟩) hHeld ?_
  rotate_left 1
  · (intro wq hSq; (try dsimp only at hSq); go_simp; first | done | with_reducible rfl)
  try simp only [Act.put, List.setIfInBounds_toArray, List.set_cons_zero, List.set_cons_succ]
  refine wpAnyH_take (i := 7) (oi := { dst := some 42, op := Go.Op.binOp Go.BinOp.sub 3 (Go.Operand.tmp 40) (Go.Operand.tmp 41) 3, type := 3, pos := "merkle.go:119", after := #[{ on := 5, ground := Go.Ground.data }, { on := 6, ground := Go.Ground.data }], guard := none }) (v := ?_) rfl (by kernel_rfl) (by kernel_rfl) (by kernel_rfl) (fun _ _ _ h => h) (Or.inl ⟨by rfl, ?_⟩) hHeld ?_
  rotate_left 1
  · (intro wq hSq; (try dsimp only at hSq); go_simp; first | done | with_reducible rfl)
  try simp only [Act.put, List.setIfInBounds_toArray, List.set_cons_zero, List.set_cons_succ]
  refine wpAnyH_take (i := 8) (oi := { dst := some 43, op := Go.Op.move (Go.Operand.tmp 2), type := 3, pos := "merkle.go:119", after := #[], guard := none }) (v := ?_) rfl (by kernel_rfl) (by kernel_rfl) (by kernel_rfl) (fun _ _ _ h => h) (Or.inl ⟨by rfl, ?_⟩) hHeld ?_
  rotate_left 1
  · (intro wq hSq; (try dsimp only at hSq); go_simp; first | done | with_reducible rfl)
  try simp only [Act.put, List.setIfInBounds_toArray, List.set_cons_zero, List.set_cons_succ]
  refine wpAnyH_take (i := 9) (oi := { dst := some 44, op := Go.Op.move (Go.Operand.tmp 9), type := 3, pos := "merkle.go:119", after := #[], guard := none }) (v := ?_) rfl (by kernel_rfl) (by kernel_rfl) (by kernel_rfl) (fun _ _ _ h => h) (Or.inl ⟨by rfl, ?_⟩) hHeld ?_
  rotate_left 1
  · (intro wq hSq; (try dsimp only at hSq); go_simp; first | done | with_reducible rfl)
  try simp only [Act.put, List.setIfInBounds_toArray, List.set_cons_zero, List.set_cons_succ]
  refine wpAnyH_take (i := 10) (oi := { dst := some 45, op := Go.Op.binOp Go.BinOp.sub 3 (Go.Operand.tmp 43) (Go.Operand.tmp 44) 3, type := 3, pos := "merkle.go:119", after := #[{ on := 8, ground := Go.Ground.data }, { on := 9, ground := Go.Ground.data }], guard := none }) (v := ?_) rfl (by kernel_rfl) (by kernel_rfl) (by kernel_rfl) (fun _ _ _ h => h) (Or.inl ⟨by rfl, ?_⟩) hHeld ?_
  rotate_left 1
  · (intro wq hSq; (try dsimp only at hSq); go_simp; first | done | with_reducible rfl)
  try simp only [Act.put, List.setIfInBounds_toArray, List.set_cons_zero, List.set_cons_succ]
  refine wpAnyH_take (i := 11) (oi := { dst := some 46, op := Go.Op.move (Go.Operand.tmp 3), type := 44, pos := "merkle.go:119", after := #[], guard := none }) (v := ?_) rfl (by kernel_rfl) (by kernel_rfl) (by kernel_rfl) (fun _ _ _ h => h) (Or.inl ⟨by rfl, ?_⟩) hHeld ?_
  rotate_left 1
  · (intro wq hSq; (try dsimp only at hSq); go_simp; first | done | with_reducible rfl)
  try simp only [Act.put, List.setIfInBounds_toArray, List.set_cons_zero, List.set_cons_succ]
  refine wpAnyH_take (i := 12) (oi := { dst := some 47, op := Go.Op.move (Go.Operand.tmp 10), type := 3, pos := "merkle.go:119", after := #[], guard := none }) (v := ?_) rfl (by kernel_rfl) (by kernel_rfl) (by kernel_rfl) (fun _ _ _ h => h) (Or.inl ⟨by rfl, ?_⟩) hHeld ?_
  rotate_left 1
  · (intro wq hSq; (try dsimp only at hSq); go_simp; first | done | with_reducible rfl)
  try simp only [Act.put, List.setIfInBounds_toArray, List.set_cons_zero, List.set_cons_succ]
  refine wpAnyH_take (i := 13) (oi := { dst := some 48, op := Go.Op.slice 44 (Go.Operand.tmp 46) none (some (Go.Operand.tmp 47)) none, type := 44, pos := "merkle.go:119", after := #[{ on := 11, ground := Go.Ground.data }, { on := 12, ground := Go.Ground.data }], guard := none }) (v := ?_) rfl (by kernel_rfl) (by kernel_rfl) (by kernel_rfl) (fun _ _ _ h => h) (Or.inl ⟨by rfl, ?_⟩) hHeld ?_
  rotate_left 1
  · (intro wq hSq; (try dsimp only at hSq); go_simp; first | done | with_reducible rfl)
  try simp only [Act.put, List.setIfInBounds_toArray, List.set_cons_zero, List.set_cons_succ]
  refine wpAnyH_ready (rs := [14]) (by kernel_rfl) (by simp) ?_
  refine AllReadyH.cons (o := { dst := some 49, op := Go.Op.call { callee := Go.Callee.value (Go.Operand.func 56), args := #[Go.Operand.tmp 39, Go.Operand.tmp 42, Go.Operand.tmp 45, Go.Operand.tmp 48], argTypes := #[24, 3, 3, 44] }, type := 24, pos := "merkle.go:119", after := #[{ on := 4, ground := Go.Ground.data }, { on := 7, ground := Go.Ground.data }, { on := 10, ground := Go.Ground.data }, { on := 13, ground := Go.Ground.data }], guard := none }) rfl (fun K hK => ?_) AllReadyH.nil
  go_simp
  refine (D1.out _ hN.drew).mono ?_
  rintro e w4 ⟨rfl, n4⟩
  refine hK.out _ _ (n4.st HR.out hb) (fun hHeld1 => ?_)
  clear hK K hHeld
  try simp only [Act.put, List.setIfInBounds_toArray, List.set_cons_zero, List.set_cons_succ]
  refine wpAnyH_ready (rs := [15]) (by kernel_rfl) (by simp) ?_
  refine AllReadyH.cons (o := { dst := some 50, op := Go.Op.call { callee := Go.Callee.value (Go.Operand.func 30), args := #[Go.Operand.tmp 38, Go.Operand.tmp 49], argTypes := #[24, 24] }, type := 24, pos := "merkle.go:119", after := #[{ on := 3, ground := Go.Ground.data }, { on := 14, ground := Go.Ground.data }, { on := 14, ground := Go.Ground.chain }], guard := none }) rfl (fun K hK => ?_) AllReadyH.nil
  go_simp
  refine (D2.out _ n4).mono ?_
  rintro e w5 ⟨rfl, n5⟩
  refine hK.out _ _ (n5.st HR.out hb) (fun hHeld2 => ?_)
  clear hK K hHeld1
  try simp only [Act.put, List.setIfInBounds_toArray, List.set_cons_zero, List.set_cons_succ]
  refine wpAnyH_ready (rs := [16]) (by kernel_rfl) (by simp) ?_
  refine AllReadyH.cons (o := { dst := none, op := Go.Op.store 24 (Go.Operand.tmp 8) (Go.Operand.tmp 50), type := 0, pos := "merkle.go:119", after := #[{ on := 15, ground := Go.Ground.data }, { on := 15, ground := Go.Ground.chain }, { on := 0, ground := Go.Ground.phase }, { on := 1, ground := Go.Ground.phase }, { on := 2, ground := Go.Ground.phase }, { on := 3, ground := Go.Ground.phase }, { on := 4, ground := Go.Ground.phase }, { on := 5, ground := Go.Ground.phase }, { on := 6, ground := Go.Ground.phase }, { on := 7, ground := Go.Ground.phase }, { on := 8, ground := Go.Ground.phase }, { on := 9, ground := Go.Ground.phase }, { on := 10, ground := Go.Ground.phase }, { on := 11, ground := Go.Ground.phase }, { on := 12, ground := Go.Ground.phase }, { on := 13, ground := Go.Ground.phase }, { on := 14, ground := Go.Ground.phase }, { on := 15, ground := Go.Ground.phase }], guard := none }) rfl (fun K hK => ?_) AllReadyH.nil
  rw [if_pos (by rfl)]
  refine wp_store_mid 24 _ _ rfl (w.heap.size + 1) 0 (vB HB) (by rfl) (by rfl) (by rw [vB_size, hlen]; exact (n5.st HR.out hb).2.2.2) (by rw [vB_size, hlen]; kernel_rfl) (vB_all HB) ?_
  refine hK.out _ _ ((n5.store HB hlen).st HR.out hb) (fun hHeld3 => ?_)
  clear hK K hHeld2
  try simp only [Act.put, List.setIfInBounds_toArray, List.set_cons_zero, List.set_cons_succ]
  refine wpAnyH_done (by kernel_rfl) ?_ _
  refine NoPanic.normal ?_
  obtain ⟨h51, _, c, hc, h55⟩ := n5
  have h6 : (w5.setCells (w.heap.size + 1) 0 (vB HB).toList).heap[w.heap.size + 1]? = some (.cells (vB HB) 24) := setCells_whole h55 (by omega)
  have b6 : Below w.heap.size w (w5.setCells (w.heap.size + 1) 0 (vB HB).toList) := below_setCells h51 (by omega) _
  clear h55
  generalize w5.setCells (w.heap.size + 1) 0 (vB HB).toList = w6 at *
  go_wp2
  exact bodyPost_ret (v := .agg (vB HB)) (results_cell_row (p := 8) (ty := 24) Tryd.results56 _ _ (w.heap.size + 1) 24 _ (0, 0) _ rfl h6 Tryd.underlying24 rfl (by rw [vB_size, hlen]; kernel_rfl)) rfl ⟨rfl, b6⟩
theorem lead_any (d : Nat) : ∀ (leaf : List Int) (n i : Nat) (v : Value) (pr : List (List Int)) (w : World), leaf.length = 32 ∧ Bytes leaf → pr.length = d → depthN n i = d → i < n → n ≤ 1073741824 → d < 1000000 → Hashes pr → Laid w → ListAt w v pr →
    Calls Tryd.prog 56 #[.agg (vB leaf), .int .i64 n, .int .i64 i, v] w fun e w' => e = .returned (.agg (vB (leadD d leaf n i pr))) ∧ Below w.heap.size w w' := by
  induction d with
  | zero =>
    intro leaf n i v pr w hl hp _ _ _ _ _ _ hv
    obtain ⟨av, b, o, cp, rfl, _⟩ := hv
    rw [hp]
    exact lead_zero leaf n i av cp w hl.1
  | succ d ih =>
    intro leaf n i v pr w hl hp hdep hin hn hd hH hL hv
    obtain ⟨av, b, o, cp, rfl, hcp, hcp2, hav, hr, hb, _⟩ := hv
    obtain rfl := hav (by omega)
    have h2n : 2 ≤ n := by
      rcases Nat.lt_or_ge n 2 with h | h
      · rw [depthN_one n i h] at hdep; omega
      · exact h
    have hk1 := halfN_pos n
    have hk2 := halfN_lt n h2n
    have hT := hash_at hH d (by omega)
    have hrT := range_at hr hH d (by omega)
    have hC0 : ∀ w' : World, Calls Tryd.prog 53 #[.int .i64 n] w' fun e w'' => e = .returned (.int .i64 (halfN n)) ∧ w'' = w' := fun w' => left_any n h2n (by omega) w'
    rw [hp]
    have sub : ∀ (m j : Nat), depthN m j = d → j < m → m ≤ 1073741824 → ∀ w', LeadIn w leaf w' → Calls Tryd.prog 56 #[.agg (vB leaf), .int .i64 m, .int .i64 j, .slice (some ⟨b, o, none⟩) d cp] w' fun e w'' => e = .returned (.agg (vB (leadD d leaf m j pr))) ∧ LeadIn w leaf w'' := fun m j h1 h3 h4 w' q => by
      have hp1 := ListAt.take hp (range_below hr q.1 hb) hH (Nat.lt_of_lt_of_le hb q.1.size) hcp2 (by omega) d (by omega)
      refine (ih leaf m j _ (pr.take d) w' hl (by simp; omega) h1 h3 h4 (by omega) (hH.take _) (hL.below q.1 hL.two) hp1).mono ?_
      rintro e w5 ⟨rfl, b5⟩
      exact ⟨by rw [leadD_take d d _ _ _ _ (Nat.le_refl _)], q.below b5⟩
    unfold leadD
    by_cases hik : i < halfN n
    · rw [if_pos hik]
      rw [depthN_lo n i h2n hik] at hdep
      exact lead_lo d leaf _ _ n i (halfN n) b o cp w hl.1 hT.1 (leadD_hash d leaf _ _ _ hl).1 hik hk2 hn (by omega) hcp2 (by omega) hL hb hrT hC0 (sub (halfN n) i (by omega) hik (by omega))
    · rw [if_neg hik]
      rw [depthN_hi n i h2n hik] at hdep
      have hs := sub (n - halfN n) (i - halfN n) (by omega) (by omega) (by omega)
      rw [show ((n - halfN n : Nat) : Int) = (n : Int) - (halfN n : Int) by omega, show ((i - halfN n : Nat) : Int) = (i : Int) - (halfN n : Int) by omega] at hs
      exact lead_hi d leaf _ _ n i (halfN n) b o cp w hl.1 hT.1 (leadD_hash d leaf _ _ _ hl).1 hik hin hk2 hn (by omega) hcp2 (by omega) hL hb hrT hC0 hs
end Go.Proofs.YtlcenbhcegmnoaaDoor
namespace Go.Proofs.YtlcenbhcegmnoaaDoor
set_option linter.unusedSimpArgs false
set_option linter.unusedVariables false
open Go.RowKit
attribute [local go_sem ↓] Go.wp_at_zero Go.wp_at_succ
/-- Whether a proof is checked. -/
def chkB (R : List Int) (n i : Int) (bs : List Int) (pr : List (List Int)) : Bool := decide (depthI n i = pr.length) && decide (leadD pr.length (leafH bs) n.toNat i.toNat pr = R)
theorem eq24_dec (l m : List Int) (hl : l.length = 32) (hm : m.length = 32) : ∀ w' : World, (Op.equalIn 10000 24 (.agg (vB l)) (.agg (List.map (Value.int .u8) m).toArray)).run Tryd.prog w' = .ok (decide (l = m)) w' := fun w' => eq24_any 9998 l m hl hm w'
theorem depthI_of {n i : Int} {d : Nat} (h : depthI n i = d) : ∃ N I : Nat, n = N ∧ i = I ∧ I < N ∧ N ≤ 1073741824 ∧ depthN N I = d := by
  unfold depthI at h
  split at h
  · omega
  · rename_i hb
    refine ⟨n.toNat, i.toNat, by omega, by omega, by omega, by omega, by omega⟩
set_option maxRecDepth 100000 in
set_option maxHeartbeats 1000000 in
theorem check_no (R : List Int) (n i : Int) (v : Value) (av : Option Addr) (m cp : Nat) (w : World) (hd : depthI n i ≠ m) (hm : m ≤ 4611686018427387904) :
    Calls Tryd.prog 37 #[.agg (vB R), .int .i64 n, .int .i64 i, v, .slice av m cp] w fun e w' => e = .returned (.bool false) ∧ Below w.heap.size w w' := by
  have C : Hid (∀ w' : World, Calls Tryd.prog 36 #[.int .i64 n, .int .i64 i] w' fun e w'' => e = .returned (.int .i64 (depthI n i)) ∧ w'' = w') := fun w' => depth_any n i w'
  generalize depthI n i = D at *
  have hd' : ¬ (m : Int) = D := fun h => hd h.symm
  clear hd
  go_enter Tryd.func37, Tryd.ntmps37
  go_wp2_with (first | (go_at_call 36; refine (C.out _).mono ?_; rintro e w' ⟨rfl, hw'⟩; have hw'' := hw'.symm; clear hw'; subst hw''))
  all_goals go_ret
  all_goals exact ⟨rfl, (Below.refl _ _).alloc (Nat.le_refl _) _⟩
set_option maxRecDepth 100000 in
set_option maxHeartbeats 2000000 in
theorem check_yes (R L H : List Int) (n i : Int) (v : Value) (av : Option Addr) (m cp : Nat) (w : World) (hR : R.length = 32) (hLl : L.length = 32) (hm : m ≤ 4611686018427387904)
    (C0 : ∀ w' : World, Calls Tryd.prog 36 #[.int .i64 n, .int .i64 i] w' fun e w'' => e = .returned (.int .i64 m) ∧ w'' = w')
    (C1 : ∀ w', Below w.heap.size w w' → Calls Tryd.prog 26 #[v] w' fun e w'' => e = .returned (.agg (vB H)) ∧ Below w'.heap.size w' w'')
    (C2 : ∀ w', Below w.heap.size w w' → Calls Tryd.prog 56 #[.agg (vB H), .int .i64 n, .int .i64 i, .slice av m cp] w' fun e w'' => e = .returned (.agg (vB L)) ∧ Below w'.heap.size w' w'') :
    Calls Tryd.prog 37 #[.agg (vB R), .int .i64 n, .int .i64 i, v, .slice av m cp] w fun e w' => e = .returned (.bool (decide (L = R))) ∧ Below w.heap.size w w' := by
  have D0 : Hid (∀ w' : World, Calls Tryd.prog 36 #[.int .i64 n, .int .i64 i] w' fun e w'' => e = .returned (.int .i64 m) ∧ w'' = w') := C0
  obtain ⟨W, hW⟩ : ∃ W, w.alloc (Obj.cells (vB R) 24) = W := ⟨_, rfl⟩
  have bW : Below w.heap.size w W := by rw [← hW]; exact (Below.refl _ _).alloc (Nat.le_refl _) _
  have f1 : W.heap[w.heap.size]? = some (.cells (vB R) 24) := by rw [← hW]; exact heap_alloc_new _ _
  have D1 : Hid (∀ w', Below W.heap.size W w' → Calls Tryd.prog 26 #[v] w' fun e w'' => e = .returned (.agg (vB H)) ∧ Below W.heap.size W w'') := fun w' q => (C1 w' (bW.trans (q.mono bW.size))).mono (fun e w5 h => ⟨h.1, q.trans (h.2.mono q.size)⟩)
  have D2 : Hid (∀ w', Below W.heap.size W w' → Calls Tryd.prog 56 #[.agg (vB H), .int .i64 n, .int .i64 i, .slice av m cp] w' fun e w'' => e = .returned (.agg (vB L)) ∧ Below W.heap.size W w'') := fun w' q => (C2 w' (bW.trans (q.mono bW.size))).mono (fun e w5 h => ⟨h.1, q.trans (h.2.mono q.size)⟩)
  have HR : Hid (W.rangeAt w.heap.size 0 (List.map (Value.int .u8) R)) := range_of_block f1
  have hbl : w.heap.size < W.heap.size := (Array.getElem?_eq_some_iff.1 f1).1
  have e24 := eq24_dec L R hLl hR
  obtain ⟨B, hB⟩ : ∃ B : Bool, B = decide (L = R) := ⟨_, rfl⟩
  rw [← hB]
  rw [← hB] at e24
  have hcl : (List.map (Value.int .u8) R).length = 32 := by simpa using hR
  have hi : (Tryd.prog.info? 24).map (·.size) = some (List.map (Value.int .u8) R).length := by rw [hcl]; kernel_rfl
  clear C0 C1 C2 f1 hB
  go_enter Tryd.func37, Tryd.ntmps37
  go_wp2_with (first | (go_at_call 36; refine (D0.out _).mono ?_; rintro e w' ⟨rfl, hw'⟩; have hw'' := hw'.symm; clear hw'; subst hw''))
  try rw [hW]
  clear hW
  have hS := Held.of HR.out hbl (below_drew (Below.refl W.heap.size W))
  refine wp_region_noPanic ?_
  refine wp_region_held_drew (S := fun w' => Below W.heap.size W w' ∧ w'.rangeAt w.heap.size 0 (List.map (Value.int .u8) R)) (by kernel_rfl) (hS) (fun hHeld => ?_)
  try simp only [Act.put, List.setIfInBounds_toArray, List.set_cons_zero, List.set_cons_succ]
  refine wpAnyH_take (i := 0) (oi := { dst := some 17, op := Go.Op.move (Go.Operand.tmp 3), type := 22, pos := "merkle.go:87", after := #[], guard := none }) (v := ?_) rfl (by kernel_rfl) (by kernel_rfl) (by kernel_rfl) (fun _ _ _ h => h) (Or.inl ⟨by rfl, ?_⟩) hHeld ?_
  rotate_left 1
  · (intro wq hSq; (try dsimp only at hSq); go_simp; first | done | with_reducible rfl)
  try simp only [Act.put, List.setIfInBounds_toArray, List.set_cons_zero, List.set_cons_succ]
  refine wpAnyH_take (i := 2) (oi := { dst := some 19, op := Go.Op.move (Go.Operand.tmp 1), type := 3, pos := "merkle.go:87", after := #[], guard := none }) (v := ?_) rfl (by kernel_rfl) (by kernel_rfl) (by kernel_rfl) (fun _ _ _ h => h) (Or.inl ⟨by rfl, ?_⟩) hHeld ?_
  rotate_left 1
  · (intro wq hSq; (try dsimp only at hSq); go_simp; first | done | with_reducible rfl)
  try simp only [Act.put, List.setIfInBounds_toArray, List.set_cons_zero, List.set_cons_succ]
  refine wpAnyH_take (i := 3) (oi := { dst := some 20, op := Go.Op.move (Go.Operand.tmp 2), type := 3, pos := "merkle.go:87", after := #[], guard := none }) (v := ?_) rfl (by kernel_rfl) (by kernel_rfl) (by kernel_rfl) (fun _ _ _ h => h) (Or.inl ⟨by rfl, ?_⟩) hHeld ?_
  rotate_left 1
  · (intro wq hSq; (try dsimp only at hSq); go_simp; first | done | with_reducible rfl)
  try simp only [Act.put, List.setIfInBounds_toArray, List.set_cons_zero, List.set_cons_succ]
  refine wpAnyH_take (i := 4) (oi := { dst := some 21, op := Go.Op.move (Go.Operand.tmp 4), type := 44, pos := "merkle.go:87", after := #[], guard := none }) (v := ?_) rfl (by kernel_rfl) (by kernel_rfl) (by kernel_rfl) (fun _ _ _ h => h) (Or.inl ⟨by rfl, ?_⟩) hHeld ?_
  rotate_left 1
  · (intro wq hSq; (try dsimp only at hSq); go_simp; first | done | with_reducible rfl)
  try simp only [Act.put, List.setIfInBounds_toArray, List.set_cons_zero, List.set_cons_succ]
  refine wpAnyH_take (i := 6) (oi := { dst := some 23, op := Go.Op.load 24 (Go.Operand.tmp 5), type := 24, pos := "merkle.go:87", after := #[], guard := none }) (v := .agg (List.toArray (List.map (Value.int .u8) R))) rfl (by kernel_rfl) (by kernel_rfl) (by kernel_rfl) (fun _ _ _ h => h) (yieldsIf_load_mid (by rfl) _ _ rfl (w.heap.size) (0) rfl (List.map (Value.int .u8) R) _ (fun _ h => h.2) Tryd.underlying24 rfl (hi)) hHeld ?_
  try simp only [Act.put, List.setIfInBounds_toArray, List.set_cons_zero, List.set_cons_succ]
  refine wpAnyH_ready (rs := [1]) (by kernel_rfl) (by simp) ?_
  refine AllReadyH.cons (o := { dst := some 18, op := Go.Op.call { callee := Go.Callee.value (Go.Operand.func 26), args := #[Go.Operand.tmp 17], argTypes := #[22] }, type := 24, pos := "merkle.go:87", after := #[{ on := 0, ground := Go.Ground.data }], guard := none }) rfl (fun K hK => ?_) AllReadyH.nil
  go_simp
  refine (D1.out _ (below_drew (Below.refl W.heap.size W))).mono ?_
  rintro e w4 ⟨rfl, b4⟩
  refine hK.out _ _ (Held.of HR.out hbl b4) (fun hHeld1 => ?_)
  clear hK K hHeld
  try simp only [Act.put, List.setIfInBounds_toArray, List.set_cons_zero, List.set_cons_succ]
  refine wpAnyH_ready (rs := [5]) (by kernel_rfl) (by simp) ?_
  refine AllReadyH.cons (o := { dst := some 22, op := Go.Op.call { callee := Go.Callee.value (Go.Operand.func 56), args := #[Go.Operand.tmp 18, Go.Operand.tmp 19, Go.Operand.tmp 20, Go.Operand.tmp 21], argTypes := #[24, 3, 3, 44] }, type := 24, pos := "merkle.go:87", after := #[{ on := 1, ground := Go.Ground.data }, { on := 2, ground := Go.Ground.data }, { on := 3, ground := Go.Ground.data }, { on := 4, ground := Go.Ground.data }, { on := 1, ground := Go.Ground.chain }], guard := none }) rfl (fun K hK => ?_) AllReadyH.nil
  go_simp
  refine (D2.out _ b4).mono ?_
  rintro e w5 ⟨rfl, b5⟩
  refine hK.out _ _ (Held.of HR.out hbl b5) (fun hHeld2 => ?_)
  clear hK K hHeld1
  try simp only [Act.put, List.setIfInBounds_toArray, List.set_cons_zero, List.set_cons_succ]
  refine wpAnyH_take (i := 7) (oi := { dst := some 24, op := Go.Op.binOp Go.BinOp.eql 24 (Go.Operand.tmp 22) (Go.Operand.tmp 23) 24, type := 4, pos := "merkle.go:87", after := #[{ on := 5, ground := Go.Ground.data }, { on := 6, ground := Go.Ground.data }], guard := none }) (v := ?_) rfl (by kernel_rfl) (by kernel_rfl) (by kernel_rfl) (fun _ _ _ h => h) (Or.inl ⟨by rfl, ?_⟩) hHeld2 ?_
  rotate_left 1
  · (intro wq hSq; (try dsimp only at hSq); go_simp; first | done | with_reducible rfl)
  try simp only [Act.put, List.setIfInBounds_toArray, List.set_cons_zero, List.set_cons_succ]
  refine wpAnyH_take (i := 8) (oi := { dst := some 10, op := Go.Op.assign (Go.Operand.tmp 24), type := 4, pos := "merkle.go:87", after := #[{ on := 7, ground := Go.Ground.data }, { on := 5, ground := Go.Ground.chain }, { on := 0, ground := Go.Ground.phase }, { on := 1, ground := Go.Ground.phase }, { on := 2, ground := Go.Ground.phase }, { on := 3, ground := Go.Ground.phase }, { on := 4, ground := Go.Ground.phase }, { on := 5, ground := Go.Ground.phase }, { on := 6, ground := Go.Ground.phase }, { on := 7, ground := Go.Ground.phase }], guard := none }) (v := ?_) rfl (by kernel_rfl) (by kernel_rfl) (by kernel_rfl) (fun _ _ _ h => h) (Or.inl ⟨by rfl, ?_⟩) hHeld2 ?_
  rotate_left 1
  · (intro wq hSq; (try dsimp only at hSq); go_simp; first | done | with_reducible rfl)
  try simp only [Act.put, List.setIfInBounds_toArray, List.set_cons_zero, List.set_cons_succ]
  refine wpAnyH_done (by kernel_rfl) ?_ _
  refine NoPanic.normal ?_
  go_wp2
  go_ret
  exact ⟨rfl, bW.trans (b5.mono bW.size)⟩
theorem check_any (R : List Int) (n i : Int) (v pv : Value) (bs : List Int) (pr : List (List Int)) (w : World) (hR : R.length = 32) (hL : Laid w) (hv : PartAt w v bs) (hbs : bs.length ≤ 140737488351232) (hp : ListAt w pv pr) (hH : Hashes pr) (hm : pr.length ≤ 1000) :
    Calls Tryd.prog 37 #[.agg (vB R), .int .i64 n, .int .i64 i, v, pv] w fun e w' => e = .returned (.bool (chkB R n i bs pr)) ∧ Below w.heap.size w w' := by
  have hp0 := hp
  obtain ⟨av, b, o, cp, rfl, _⟩ := hp
  unfold chkB
  by_cases hd : depthI n i = pr.length
  · rw [decide_eq_true hd, Bool.true_and]
    obtain ⟨N, I, rfl, rfl, h1, h3, h4⟩ := depthI_of hd
    refine check_yes R _ (leafH bs) N I v av pr.length cp w hR (leadD_hash _ _ _ _ _ ⟨leafH_length bs, hashOf_bytes _⟩).1 (by omega) (fun w' => by have := depth_any N I w'; rw [hd] at this; exact this) (fun w' q => leaf_any v bs w' (hL.below q hL.two) (hv.below q) hbs) (fun w' q => ?_)
    have := lead_any pr.length (leafH bs) N I _ pr w' ⟨leafH_length bs, hashOf_bytes _⟩ rfl h4 h1 h3 (by omega) hH (hL.below q hL.two) (hp0.below q)
    simpa using this
  · rw [decide_eq_false hd, Bool.false_and]
    exact check_no R n i v av pr.length cp w hd (by omega)
end Go.Proofs.YtlcenbhcegmnoaaDoor
namespace Go.Proofs.YtlcenbhcegmnoaaDoor
set_option linter.unusedSimpArgs false
set_option linter.unusedVariables false
open Go.RowKit
/-- Whether the way lies left, from the leaf up. -/
def turnsD : Nat → Nat → Nat → List Bool
  | 0, _, _ => []
  | d + 1, n, i => if i < halfN n then turnsD d (halfN n) i ++ [true] else turnsD d (n - halfN n) (i - halfN n) ++ [false]
theorem turnsD_length (d : Nat) : ∀ n i, (turnsD d n i).length = d := by
  induction d with
  | zero => intro n i; rfl
  | succ d ih => intro n i; unfold turnsD; split <;> simp [ih]
/-- The slice u has the truths bl, in a row of its own. -/
def BoolRow (base : Nat) (bl : List Bool) (u : Value) (W : World) : Prop := W.ownsRow base 4 1 u bl.length (bl.map Value.bool)
theorem info4 : (Tryd.prog.info? 4).map (fun i => (i.zero, i.size, i.bytes)) = some (some (.bool false), 1, 1) := by kernel_rfl
theorem appendT {ops : Array Oper} {rest : List Oper} {o : Oper} {a : Act} {w : World} {Q : Exit → Act → World → Prop} (hgd : o.guard = none) (s x : Operand)
    (ho : o.op = .call { callee := .builtin .append, args := #[s, x], argTypes := #[75, 75] }) (base : Nat) (v : Value) (bl : List Bool) (hv : a.eval s = v) (hown : BoolRow base bl v w)
    (t : Bool) (hx : a.eval x = .slice (some ⟨w.heap.size, 0, none⟩) 1 1) (hn : bl.length ≤ 1000000) (hbase : base ≤ w.heap.size)
    (K : ∀ v' w', BoolRow base (bl ++ [t]) v' w' → (w.alloc (.cells #[.bool t] 4)).grownBy w' v.ownBlock → wpList Tryd.prog ops Q rest (a.put o.dst v') w') : wpList Tryd.prog ops Q (o :: rest) a (w.alloc (.cells #[.bool t] 4)) := by
  obtain ⟨i, hi, hz0, hz1, hz2⟩ := info_parts info4
  refine wpList_append_own_at _ hgd s x 75 ho base 4 i (.bool false) 1 1 Tryd.underlying75 hi hz0 hz1 hz2 rfl (by omega) v bl.length (bl.map Value.bool) hv (own_alloc hown _) ⟨w.heap.size, 0, none⟩ 1 1 [.bool t] hx rfl (cell_one_new _ _ _)
    (by simp [Value.oneCell']) (by unfold maxLen; omega) (by omega) (by simp; omega) ?_
  intro v' w' o' g' _ _
  refine K v' w' ?_ g'
  unfold BoolRow
  simpa using o'
set_option maxRecDepth 100000 in
set_option maxHeartbeats 1000000 in
theorem turns_zero (n : Nat) (i : Int) (w : World) (hn : n ≤ 1) : Calls Tryd.prog 57 #[.int .i64 n, .int .i64 i] w fun e w' => ∃ v, e = .returned v ∧ BoolRow w.heap.size [] v w' ∧ Below w.heap.size w w' := by
  go_enter Tryd.func57, Tryd.ntmps57
  go_wp2
  go_ret
  exact ⟨_, rfl, ⟨rfl, Or.inl ⟨rfl, rfl⟩⟩, Below.refl _ _⟩
set_option maxRecDepth 100000 in
set_option maxHeartbeats 1000000 in
theorem turns_any (d : Nat) : ∀ (n i : Nat) (w : World), depthN n i = d → i < n → n ≤ 1073741824 → d ≤ 1000 →
    Calls Tryd.prog 57 #[.int .i64 n, .int .i64 i] w fun e w' => ∃ v, e = .returned v ∧ BoolRow w.heap.size (turnsD d n i) v w' ∧ Below w.heap.size w w' := by
  induction d with
  | zero =>
    intro n i w hd hi hn _
    have : n ≤ 1 := by
      rcases Nat.lt_or_ge n 2 with h | h
      · omega
      · by_cases hk : i < halfN n
        · rw [depthN_lo n i h hk] at hd; omega
        · rw [depthN_hi n i h hk] at hd; omega
    exact turns_zero n i w this
  | succ d ih =>
    intro n i w hdep hin hn hd
    have h2n : 2 ≤ n := by
      rcases Nat.lt_or_ge n 2 with h | h
      · rw [depthN_one n i h] at hdep; omega
      · exact h
    have hk1 := halfN_pos n
    have hk2 := halfN_lt n h2n
    have C0 : Hid (∀ w' : World, Calls Tryd.prog 54 #[.int .i64 n] w' fun e w'' => e = .returned (.int .i64 (halfN n)) ∧ w'' = w') := fun w' => half_any n h2n (by omega) w'
    unfold turnsD
    by_cases hik : i < halfN n
    · rw [if_pos hik]
      rw [depthN_lo n i h2n hik] at hdep
      have C1 : Hid (Calls Tryd.prog 57 #[.int .i64 (halfN n), .int .i64 i] w fun e w' => ∃ v, e = .returned v ∧ BoolRow w.heap.size (turnsD d (halfN n) i) v w' ∧ Below w.heap.size w w') := ih (halfN n) i w (by omega) hik (by omega) (by omega)
      have hl := turnsD_length d (halfN n) i
      generalize turnsD d (halfN n) i = T at *
      generalize halfN n = k at *
      clear ih hdep
      go_enter Tryd.func57, Tryd.ntmps57
      go_wp2_with (first | (go_at_call 54; refine (C0.out _).mono ?_; rintro e w' ⟨rfl, hw'⟩; have hw'' := hw'.symm; clear hw'; subst hw'') | (go_at_call 57; refine C1.out.mono ?_; rintro e w1 ⟨v1, rfl, o1, b1⟩; have s1 := b1.size) | (at_builtin; refine appendT rfl _ _ rfl w.heap.size v1 T (by rfl) o1 true (by rfl) (by omega) s1 ?_; intro v2 w2 o2 g2))
      go_ret
      exact ⟨_, rfl, o2, (b1.alloc s1 _).grown g2 (by simp; omega) (fun j hj => (own_lt o1 j hj).2)⟩
    · rw [if_neg hik]
      rw [depthN_hi n i h2n hik] at hdep
      have C1 : Hid (Calls Tryd.prog 57 #[.int .i64 ((n : Int) - (halfN n : Int)), .int .i64 ((i : Int) - (halfN n : Int))] w fun e w' => ∃ v, e = .returned v ∧ BoolRow w.heap.size (turnsD d (n - halfN n) (i - halfN n)) v w' ∧ Below w.heap.size w w') := by
        have := ih (n - halfN n) (i - halfN n) w (by omega) (by omega) (by omega) (by omega)
        rw [show ((n - halfN n : Nat) : Int) = (n : Int) - (halfN n : Int) by omega, show ((i - halfN n : Nat) : Int) = (i : Int) - (halfN n : Int) by omega] at this
        exact this
      have hl := turnsD_length d (n - halfN n) (i - halfN n)
      generalize turnsD d (n - halfN n) (i - halfN n) = T at *
      generalize halfN n = k at *
      clear ih hdep
      go_enter Tryd.func57, Tryd.ntmps57
      go_wp2_with (first | (go_at_call 54; refine (C0.out _).mono ?_; rintro e w' ⟨rfl, hw'⟩; have hw'' := hw'.symm; clear hw'; subst hw'') | (go_at_call 57; refine C1.out.mono ?_; rintro e w1 ⟨v1, rfl, o1, b1⟩; have s1 := b1.size) | (at_builtin; refine appendT rfl _ _ rfl w.heap.size v1 T (by rfl) o1 false (by rfl) (by omega) s1 ?_; intro v2 w2 o2 g2))
      go_ret
      exact ⟨_, rfl, o2, (b1.alloc s1 _).grown g2 (by simp; omega) (fun j hj => (own_lt o1 j hj).2)⟩
end Go.Proofs.YtlcenbhcegmnoaaDoor
namespace Go.Proofs.YtlcenbhcegmnoaaDoor
set_option linter.unusedSimpArgs false
set_option linter.unusedVariables false
open Go.RowKit
attribute [local go_sem ↓] Go.wp_at_zero Go.wp_at_succ
/-- What is hashed on the way up, the leaf's text first. -/
def textN (bl : List Bool) (c : List Int) (pr : List (List Int)) : Nat → List Int
  | 0 => 0 :: c
  | j + 1 => if bl[j]?.getD false = true then 1 :: (hashOf (textN bl c pr j) ++ pr[j]?.getD []) else 1 :: (pr[j]?.getD [] ++ hashOf (textN bl c pr j))
def textsTo (bl : List Bool) (c : List Int) (pr : List (List Int)) (k : Nat) : List (List Int) := (List.range (k + 1)).map (textN bl c pr)
theorem textsTo_length (bl : List Bool) (c : List Int) (pr : List (List Int)) (k : Nat) : (textsTo bl c pr k).length = k + 1 := by simp [textsTo]
theorem textsTo_at (bl : List Bool) (c : List Int) (pr : List (List Int)) (k j : Nat) (h : j ≤ k) : (textsTo bl c pr k)[j]? = some (textN bl c pr j) := by
  unfold textsTo
  rw [List.getElem?_map, List.getElem?_range (by omega)]; rfl
theorem textsTo_succ (bl : List Bool) (c : List Int) (pr : List (List Int)) (k : Nat) : textsTo bl c pr (k + 1) = textsTo bl c pr k ++ [textN bl c pr (k + 1)] := by
  unfold textsTo
  rw [List.range_succ, List.map_append]; rfl
theorem textN_len (bl : List Bool) (c : List Int) (pr : List (List Int)) (hH : Hashes pr) (j : Nat) (hj : j ≤ pr.length) (hc : c.length ≤ 140737488351232) : (textN bl c pr j).length ≤ 140737488351233 := by
  cases j with
  | zero => simp [textN]; omega
  | succ j =>
    have := (hash_at hH j (by omega)).1
    unfold textN
    split <;> simp [hashOf_length, this]
theorem textN_bytes (bl : List Bool) (c : List Int) (pr : List (List Int)) (hH : Hashes pr) (j : Nat) (hj : j ≤ pr.length) (hc : Bytes c) : Bytes (textN bl c pr j) := by
  cases j with
  | zero => exact Bytes.cons (by omega) hc
  | succ j =>
    have := (hash_at hH j (by omega)).2
    unfold textN
    split
    · exact Bytes.cons (by omega) ((hashOf_bytes _).append this)
    · exact Bytes.cons (by omega) (this.append (hashOf_bytes _))
theorem OwnB.mono {w : World} {base base' : Nat} {v : Value} {l : List Int} (h : OwnB w base v l) (hb : base' ≤ base) : OwnB w base' v l := by
  obtain ⟨h1, h2⟩ := h
  refine ⟨h1, ?_⟩
  rcases h2 with h2 | ⟨g, cap, cur, hv, hg, r⟩
  · exact Or.inl h2
  · exact Or.inr ⟨g, cap, cur, hv, by omega, r⟩
theorem own_below' {W W' : World} {base e size : Nat} {v : Value} {n : Nat} {xs : List Value} (h : W.ownsRow base e size v n xs) (hb : Below W.heap.size W W') : W'.ownsRow base e size v n xs :=
  h.kept (grown_below hb none) (by
    rcases h.2 with ⟨rfl, _⟩ | ⟨g, cap, cur, rfl, _⟩
    · exact .inl rfl
    · exact .inr (by simp [Value.ownBlock]))
theorem rowIn_more {base : Nat} {ls : List (List Int)} {l : List Int} {wr w5 w6 : World} {u v1 v2 : Value} {vs : List Value} (hr : wr.ownsRow base 22 1 u ls.length vs) (hel : ∀ (i : Nat) (x : Value) (l : List Int), vs[i]? = some x → ls[i]? = some l → OwnB wr base x l)
    (b5 : Below wr.heap.size wr w5) (o1 : OwnB w5 base v1 l) (o2 : w6.ownsRow base 22 1 v2 (ls.length + 1) (vs ++ [v1])) (g2 : (w5.alloc (.cells #[v1] 22)).grownBy w6 u.ownBlock) : RowIn base (ls ++ [l]) v2 w6 := by
  have hr5 := own_below' hr b5
  have keep : ∀ (x : Value) (m : List Int), OwnB w5 base x m → OwnB w6 base x m := fun x m h => (own_alloc h _).kept g2 (own_apart h hr5 (by decide))
  have hvl : vs.length = ls.length := by simpa using hr.1
  refine ⟨vs ++ [v1], by simpa using o2, fun i x m h1 h3 => ?_⟩
  rcases Nat.lt_or_ge i vs.length with hi | hi
  · rw [List.getElem?_append_left hi] at h1
    rw [List.getElem?_append_left (by omega)] at h3
    exact keep x m (own_below' (hel i x m h1 h3) b5)
  · have hi' : i < vs.length + 1 := by have := (List.getElem?_eq_some_iff.1 h1).1; simpa using this
    obtain rfl : i = vs.length := by omega
    rw [List.getElem?_append_right (Nat.le_refl _)] at h1
    rw [List.getElem?_append_right (by omega), hvl] at h3
    simp at h1 h3
    subst h1 h3
    exact keep _ _ o1
/-- A text more, at a step of a drawn region. -/
theorem step_append29 {ops : Array Oper} {o : Oper} {a : Act} {w : World} {K : Act → World → Prop} {Q : Exit → Act → World → Prop} {E : Prop} (hgd : o.guard = none) (s x : Operand)
    (ho : o.op = .call { callee := .builtin .append, args := #[s, x], argTypes := #[29, 29] }) (base : Nat) (v : Value) (k : Nat) (vs : List Value) (hv : a.eval s = v) (hown : w.ownsRow base 22 1 v k vs)
    (y : Value) (hy : y.oneCell' = true) (hx : a.eval x = .slice (some ⟨w.heap.size, 0, none⟩) 1 1) (hn : k ≤ 1000000) (hbase : base ≤ w.heap.size)
    (hK : ∀ v' w', w'.ownsRow base 22 1 v' (k + 1) (vs ++ [y]) → (w.alloc (.cells #[y] 22)).grownBy w' v.ownBlock → K (a.put o.dst v') w') : if Region.wanted o (yielded ops a.tmps) = true then Oper.wp Tryd.prog o a (w.alloc (.cells #[y] 22)) K Q else E := by
  have hw : Region.wanted o (yielded ops a.tmps) = true := by simp [Region.wanted, hgd]
  rw [if_pos hw]
  obtain ⟨i, hi, hz0, hz1, hz2⟩ := info_parts info22
  obtain ⟨v', w', hr, h2, h3, h4, h5⟩ := run_append_own_at (P := Tryd.prog) (w.alloc (.cells #[y] 22)) base 29 o.type 22 i (.slice none 0 0) 1 24 Tryd.underlying29 hi hz0 hz1 hz2 rfl (by omega) v k vs (own_alloc hown _) ⟨w.heap.size, 0, none⟩ 1 1 [y] rfl (cell_one_new _ _ _)
    (by simpa using hy) (by unfold maxLen; omega) (by omega) (by simp; omega)
  unfold Oper.wp
  simp [execOp, ho, resolve, invoke, builtin, hv, hx, hr, Result.andThen]
  exact hK v' w' h2 h3
/-- Join of a byte and two texts, in a region's order. -/
theorem join_step (y z : Value) (a b : List Int) (W : World) (h0 : 0 < W.heap.size) (hy : PartAt W y a) (hz : PartAt W z b) (hn : a.length + b.length ≤ 1000) :
    Calls Tryd.prog 15 #[.slice (some ⟨W.heap.size + 1, 0, none⟩) 3 3] ((W.alloc (Obj.cells #[Value.int .u8 1] 5)).alloc (Obj.cells #[.slice (some ⟨W.heap.size, 0, none⟩) 1 1, y, z] 22)).drew
      fun e w' => ∃ g c, e = .returned (.slice (some ⟨g, 0, none⟩) (1 + (a.length + b.length)) c) ∧ OwnB w' W.heap.size (.slice (some ⟨g, 0, none⟩) (1 + (a.length + b.length)) c) (1 :: (a ++ b)) ∧ Below W.heap.size W w' := by
  have hp0 : PartAt (W.alloc (Obj.cells #[Value.int .u8 1] 5)) (.slice (some ⟨W.heap.size, 0, none⟩) 1 1) [1] := part_new W [1] (by simp)
  have e : (W.alloc (Obj.cells #[Value.int .u8 1] 5)).heap.size = W.heap.size + 1 := by simp
  have b1 : Below W.heap.size W (W.alloc (Obj.cells #[Value.int .u8 1] 5)) := (Below.refl _ _).alloc (Nat.le_refl _) _
  rw [← e]
  have k1 := hy.alloc (Obj.cells #[Value.int .u8 1] 5)
  have k2 := hz.alloc (Obj.cells #[Value.int .u8 1] 5)
  generalize W.alloc (Obj.cells #[Value.int .u8 1] 5) = W1 at *
  have b2 : Below W1.heap.size W1 (W1.alloc (Obj.cells #[.slice (some ⟨W.heap.size, 0, none⟩) 1 1, y, z] 22)).drew := below_drew ((Below.refl _ _).alloc (Nat.le_refl _) _)
  refine (join_any W1.heap.size 0 3 3 [_, _, _] [[1], a, b] rfl rfl _ (by have := b2.size; omega) range_three (by simp) (three_parts (hp0.alloc _).drew (k1.alloc _).drew (k2.alloc _).drew) (by simp; omega) (by omega)).mono ?_
  rintro e' w5 ⟨x, rfl, o5, b5⟩
  have o6 : OwnB w5 W.heap.size x (1 :: (a ++ b)) := by
    have := o5.mono (base' := W.heap.size) (by have := b2.size; have := b1.size; simp; omega)
    simpa using this
  obtain ⟨g, c, hx, _, _⟩ := o6.form (by simp)
  have hl : (1 :: (a ++ b)).length = 1 + (a.length + b.length) := by simp; omega
  rw [hl] at hx
  subst hx
  exact ⟨g, c, rfl, o6, b1.trans ((b2.trans (b5.mono b2.size)).mono b1.size)⟩
end Go.Proofs.YtlcenbhcegmnoaaDoor
namespace Go.Proofs.YtlcenbhcegmnoaaDoor
set_option linter.unusedSimpArgs false
set_option linter.unusedVariables false
open Go.RowKit
attribute [local go_sem ↓] Go.wp_at_zero Go.wp_at_succ
theorem row_form {W : World} {base e : Nat} {u : Value} {n : Nat} {vs : List Value} (h : W.ownsRow base e 1 u n vs) (hn : 0 < n) : ∃ g cap, u = .slice (some ⟨g, 0, none⟩) n cap ∧ ∀ j x, vs[j]? = some x → W.cell? ⟨g, j, none⟩ = some x := by
  rcases h.2 with ⟨rfl, h0⟩ | ⟨g, cap, cur, rfl, hb, hgb, r1, r2, r3, r4⟩
  · omega
  · refine ⟨g, cap, rfl, fun j x hx => ?_⟩
    rw [cell_of_row W g j cur e (0, 0) hgb]
    rw [← r4, List.getElem?_take] at hx
    split at hx
    · simpa using hx
    · cases hx
theorem bool_form {W : World} {base : Nat} {bt : List Bool} {u : Value} (h : BoolRow base bt u W) : ∃ av g cap, u = .slice av bt.length cap ∧ (0 < bt.length → av = some ⟨g, 0, none⟩) := by
  rcases h.2 with ⟨rfl, h0⟩ | ⟨g, cap, cur, rfl, _⟩
  · exact ⟨none, 0, 0, by rw [h0], fun h => by omega⟩
  · exact ⟨some ⟨g, 0, none⟩, g, cap, rfl, fun _ => rfl⟩
theorem own_mono {W : World} {base base' e size : Nat} {v : Value} {n : Nat} {xs : List Value} (h : W.ownsRow base e size v n xs) (hb : base' ≤ base) : W.ownsRow base' e size v n xs := by
  obtain ⟨h1, h2⟩ := h
  refine ⟨h1, ?_⟩
  rcases h2 with h2 | ⟨g, cap, cur, hv, hg, r⟩
  · exact Or.inl h2
  · exact Or.inr ⟨g, cap, cur, hv, by omega, r⟩
theorem part_range {w : World} {b o : Nat} {l : List Int} (h : w.rangeAt b o (List.map (Value.int .u8) l)) (hl : l.length = 32) (hb : b < w.heap.size) : PartAt w (.slice (some ⟨b, o, none⟩) 32 32) l :=
  ⟨some ⟨b, o, none⟩, b, o, 32, by rw [hl], by omega, by omega, fun _ => rfl, by simpa [vB] using h, hb, fun h => by cases h⟩
theorem own_one (w : World) (base : Nat) (x : Value) (h : base ≤ w.heap.size) : (w.alloc (.cells #[x] 22)).ownsRow base 22 1 (.slice (some ⟨w.heap.size, 0, none⟩) 1 1) 1 [x] :=
  ⟨rfl, Or.inr ⟨w.heap.size, 1, #[x], rfl, h, heap_alloc_new _ _, Nat.le_refl _, by unfold maxLen; omega, rfl, rfl⟩⟩
theorem texts_step {w wr w4 w6 : World} {u v2 tv x : Value} {ls : List (List Int)} {l : List Int} {bt : List Bool} {vs : List Value} (b0 : Below w.heap.size w wr) (hrow : wr.ownsRow w.heap.size 22 1 u ls.length vs) (hel : ∀ (i : Nat) (x : Value) (l : List Int), vs[i]? = some x → ls[i]? = some l → OwnB wr w.heap.size x l)
    (hB : BoolRow w.heap.size bt tv wr) (b4 : Below wr.heap.size wr w4) (o1 : OwnB w4 w.heap.size x l) (o2 : w6.ownsRow w.heap.size 22 1 v2 (ls.length + 1) (vs ++ [x])) (g2 : (w4.alloc (.cells #[x] 22)).grownBy w6 u.ownBlock) :
    Below w.heap.size w w6 ∧ RowIn w.heap.size (ls ++ [l]) v2 w6 ∧ BoolRow w.heap.size bt tv w6 := by
  have hs := b0.size
  have h4 := own_below' hrow b4
  have hB4 : w4.ownsRow w.heap.size 4 1 tv bt.length (bt.map Value.bool) := own_below' hB b4
  have b04 : Below w.heap.size w w4 := b0.trans (b4.mono hs)
  have hs4 := b04.size
  exact ⟨(b04.alloc hs4 _).grown g2 (by simp; omega) (fun j hj => (own_lt h4 j hj).2), rowIn_more hrow hel b4 o1 o2 g2, (own_alloc hB4 _).kept g2 (own_apart hB4 h4 (by decide))⟩
theorem join0 (v : Value) (c : List Int) (w : World) (h0 : 0 < w.heap.size) (hp : PartAt w v c) (hc : c.length ≤ 140737488351232) :
    Calls Tryd.prog 15 #[.slice (some ⟨w.heap.size + 1, 0, none⟩) 2 2] ((w.alloc (Obj.cells #[.int .u8 0] 5)).alloc (Obj.cells #[.slice (some ⟨w.heap.size, 0, none⟩) 1 1, v] 22)) fun e w'' => ∃ g k, e = .returned (.slice (some ⟨g, 0, none⟩) (c.length + 1) k) ∧ OwnB w'' w.heap.size (.slice (some ⟨g, 0, none⟩) (c.length + 1) k) (0 :: c) ∧ Below w.heap.size w w'' := by
  have hbw : Below w.heap.size w (w.alloc (Obj.cells #[.int .u8 0] 5)) := (Below.refl _ _).alloc (Nat.le_refl _) _
  have hp0 : PartAt (w.alloc (Obj.cells #[.int .u8 0] 5)) (.slice (some ⟨w.heap.size, 0, none⟩) 1 1) [0] := part_new w [0] (by simp)
  have hp1 := hp.alloc (Obj.cells #[.int .u8 0] 5)
  have e : (w.alloc (Obj.cells #[.int .u8 0] 5)).heap.size = w.heap.size + 1 := by simp
  rw [← e]
  generalize w.alloc (Obj.cells #[.int .u8 0] 5) = w1 at *
  have b2 : Below w1.heap.size w1 (w1.alloc (Obj.cells #[.slice (some ⟨w.heap.size, 0, none⟩) 1 1, v] 22)) := (Below.refl _ _).alloc (Nat.le_refl _) _
  refine (join_any w1.heap.size 0 2 2 [_, _] [[0], c] rfl rfl _ (by have := b2.size; omega) range_two' (by simp) (two_parts' (hp0.alloc _) (hp1.alloc _)) (by simp; omega) (by omega)).mono ?_
  rintro e' w5 ⟨x, rfl, o5, b5⟩
  have o6 : OwnB w5 w.heap.size x (0 :: c) := by
    have := o5.mono (base' := w.heap.size) (by have := b2.size; have := hbw.size; simp; omega)
    simpa using this
  obtain ⟨g, k, hx, _, _⟩ := o6.form (by simp)
  rw [List.length_cons] at hx
  subst hx
  exact ⟨g, k, rfl, o6, hbw.trans ((b2.trans (b5.mono b2.size)).mono hbw.size)⟩
set_option maxRecDepth 100000 in
set_option maxHeartbeats 4000000 in
theorem texts_any (n i d : Nat) (c : List Int) (pr : List (List Int)) (v pv : Value) (w : World) (hdep : depthN n i = d) (hin : i < n) (hn : n ≤ 1073741824) (hd : d ≤ 1000) (hpl : pr.length = d) (h0 : 0 < w.heap.size) (hp : PartAt w v c) (hc : c.length ≤ 140737488351232) (hby : Bytes c) (hl : ListAt w pv pr) (hH : Hashes pr) :
    Calls Tryd.prog 40 #[.int .i64 n, .int .i64 i, v, pv] w fun e w' => ∃ u, e = .returned u ∧ PartsAt w' u (textsTo (turnsD d n i) c pr d) ∧ Below w.heap.size w w' := by
  have C15 : Hid (Calls Tryd.prog 15 #[.slice (some ⟨w.heap.size + 1, 0, none⟩) 2 2] ((w.alloc (Obj.cells #[.int .u8 0] 5)).alloc (Obj.cells #[.slice (some ⟨w.heap.size, 0, none⟩) 1 1, v] 22)) fun e w'' => ∃ g k, e = .returned (.slice (some ⟨g, 0, none⟩) (c.length + 1) k) ∧ OwnB w'' w.heap.size (.slice (some ⟨g, 0, none⟩) (c.length + 1) k) (0 :: c) ∧ Below w.heap.size w w'') := join0 v c w h0 hp hc
  have C57 : Hid (∀ w' : World, Calls Tryd.prog 57 #[.int .i64 n, .int .i64 i] w' fun e w'' => ∃ v, e = .returned v ∧ BoolRow w'.heap.size (turnsD d n i) v w'' ∧ Below w'.heap.size w' w'') := fun w' => turns_any d n i w' hdep hin hn hd
  have hbl := turnsD_length d n i
  have TL : Hid (∀ j ≤ d, (textN (turnsD d n i) c pr j).length ≤ 140737488351233) := fun j hj => textN_len _ c pr hH j (by omega) hc
  have TB : Hid (∀ j ≤ d, Bytes (textN (turnsD d n i) c pr j)) := fun j hj => textN_bytes _ c pr hH j (by omega) hby
  generalize turnsD d n i = bt at *
  obtain ⟨av, b, o, cp, rfl, hcp, hcp2, hav, hr, hb, _⟩ := hl
  have HR : Hid (∀ (k : Nat), k < d → ∀ w', Below w.heap.size w w' → PartAt w' (.slice (some ⟨b, o + k * 32, none⟩) 32 32) (pr[k]?.getD [])) := fun k hk w' q => part_range (range_below (range_at hr hH k (by omega)) q hb) (hash_at hH k (by omega)).1 (Nat.lt_of_lt_of_le hb q.size)
  have HP : Hid (∀ (k : Nat), k < d → (pr[k]?.getD []).length = 32) := fun k hk => (hash_at hH k (by omega)).1
  obtain ⟨avx, _, _, cpx, rfl, _⟩ := hp
  rw [hpl] at hcp hav ⊢
  clear hdep hin hn hr hH hby hb
  go_enter Tryd.func40, Tryd.ntmps40
  go_wp2_with fail
  refine C15.out.mono ?_
  rintro e w5 ⟨g0, c0, rfl, o5, b5⟩
  have s5 := b5.size
  have O5 : Hid (OwnB w5 w.heap.size (.slice (some ⟨g0, 0, none⟩) (c.length + 1) c0) (0 :: c)) := o5
  clear o5 C15
  go_wp2_with fail
  refine (C57.out _).mono ?_
  rintro e w7 ⟨tv, rfl, oB, b7⟩
  have sA : (w5.alloc (.cells #[.slice (some ⟨g0, 0, none⟩) (c.length + 1) c0] 22)).heap.size = w5.heap.size + 1 := by simp
  have R0 : Hid (RowIn w.heap.size (textsTo bt c pr 0) (.slice (some ⟨w5.heap.size, 0, none⟩) 1 1) w7) := by
    refine ⟨[_], own_below' (own_one w5 w.heap.size (.slice (some ⟨g0, 0, none⟩) (c.length + 1) c0) s5) b7, fun i x l k1 k2 => ?_⟩
    match i, k1, k2 with
    | 0, k1, k2 =>
      simp [textsTo, textN] at k1 k2
      subst k1 k2
      exact own_below' (own_alloc O5.out _) b7
    | n + 1, k1, _ => simp at k1
  have B0 : Hid (BoolRow w.heap.size bt tv w7) := own_mono oB (by omega)
  have bl0 : Below w.heap.size w w7 := (b5.alloc s5 _).trans (b7.mono (by omega))
  have s7 := bl0.size
  obtain ⟨avb, gb, cpb, htv, havb⟩ := bool_form oB
  subst htv
  rw [hbl] at havb B0
  rw [hbl]
  clear b7 O5 oB C57 sA b5
  go_wp2_with fail
  go_loopw [9, 23] (fun u i wr => ∃ k : Nat, k ≤ d ∧ i = .int .i64 k ∧ Below w.heap.size w wr ∧ Hid (RowIn w.heap.size (textsTo bt c pr k) u wr) ∧ Hid (BoolRow w.heap.size bt (.slice avb d cpb) wr)) (fun _ i _ => d - (intOf i).toNat)
  case atStart => exact ⟨0, by omega, rfl, bl0, R0, B0⟩
  case round =>
    obtain ⟨k, hk, rfl, bl, RI, BI⟩ := hrel
    have hbs := bl.size
    by_cases hlt : k < d
    · obtain rfl := hav (by omega)
      obtain rfl := havb (by omega)
      obtain ⟨vs, hrow, hel⟩ := RI.out
      have htl := textsTo_length bt c pr k
      have hvl : vs.length = k + 1 := by have := hrow.1; rw [htl] at this; simpa using this
      obtain ⟨x, hx⟩ : ∃ x, vs[k]? = some x := ⟨vs[k], List.getElem?_eq_getElem (by omega)⟩
      obtain ⟨t, ht⟩ : ∃ t, bt[k]? = some t := ⟨bt[k], List.getElem?_eq_getElem (by omega)⟩
      have ox := hel k x _ hx (textsTo_at bt c pr k k (Nat.le_refl _))
      have px := ox.partG (by omega)
      have C14 : Hid (Calls Tryd.prog 14 #[x] wr fun e w' => e = .returned (.agg (vB (hashOf (textN bt c pr k)))) ∧ Below wr.heap.size wr w') := rsum_big x _ wr px (by have := TL.out k (by omega); omega) (TB.out k (by omega))
      have TS := textsTo_succ bt c pr k
      rw [show textN bt c pr (k + 1) = if t = true then 1 :: (hashOf (textN bt c pr k) ++ pr[k]?.getD []) else 1 :: (pr[k]?.getD [] ++ hashOf (textN bt c pr k)) by rw [textN, ht]; rfl] at TS
      obtain ⟨H, hHH⟩ : ∃ H, H = hashOf (textN bt c pr k) := ⟨_, rfl⟩
      have hlen : H.length = 32 := by rw [hHH]; exact hashOf_length _
      rw [← hHH] at C14 TS
      obtain ⟨P, hPP⟩ : ∃ P, P = pr[k]?.getD [] := ⟨_, rfl⟩
      have hPl : P.length = 32 := by rw [hPP]; exact HP.out k hlt
      have PZ : Hid (∀ w', Below w.heap.size w w' → PartAt w' (.slice (some ⟨b, o + k * 32, none⟩) 32 32) P) := by rw [hPP]; exact HR.out k hlt
      rw [← hPP] at TS
      obtain ⟨gu, cu, hu, hcu⟩ := row_form hrow (by omega)
      obtain ⟨gb', cb', hu', hcb⟩ := row_form BI.out (by omega)
      have hgb : gb' = gb := by simp at hu'; exact hu'.1.symm
      subst hgb
      have hc1 := hcu k x hx
      have hc2 := hcb k (.bool t) (by rw [List.getElem?_map, ht]; rfl)
      obtain ⟨avy, _, _, cpy, hxv, _⟩ := px
      subst hxv
      have HST : Hid (∀ (w4 w6 : World) (y v2 : Value) (l : List Int), textsTo bt c pr (k + 1) = textsTo bt c pr k ++ [l] → Below wr.heap.size wr w4 → OwnB w4 w.heap.size y l → w6.ownsRow w.heap.size 22 1 v2 (k + 1 + 1) (vs ++ [y]) → (w4.alloc (.cells #[y] 22)).grownBy w6 u9.ownBlock → Below w.heap.size w w6 ∧ Hid (RowIn w.heap.size (textsTo bt c pr (k + 1)) v2 w6) ∧ Hid (BoolRow w.heap.size bt (.slice (some ⟨gb', 0, none⟩) d cpb) w6)) := fun w4 w6 y v2 l e k1 k2 k3 k4 => by
        rw [e]
        exact texts_step bl hrow hel BI.out k1 k2 (by rw [htl]; exact k3) k4
      have HROW : Hid (wr.ownsRow w.heap.size 22 1 u9 (k + 1) vs) := by rw [htl] at hrow; exact hrow
      rw [htl] at hu
      have j1 : (0 : Int) ≤ (k : Int) := by omega
      have j2 : (k : Int) < (d : Int) := by omega
      have HTS : Hid (textsTo bt c pr (k + 1) = textsTo bt c pr k ++ [if t = true then 1 :: (H ++ P) else 1 :: (P ++ H)]) := TS
      have HD : Hid (d - (intOf (Value.int .i64 ((k : Int) + 1))).toNat < d - (intOf (Value.int .i64 (k : Int))).toNat) := by unfold Hid; simp only [intOf]; omega
      clear RI hrow hel TS hHH hPP ox hcu hcb hu' ht hx BI HR HP TL TB htl
      subst hu
      cases t with
      | true =>
        go_wp2_with (first | (go_at_call 14; refine C14.out.mono ?_; rintro e w3 ⟨rfl, b3⟩) | (refine store24n rfl _ _ rfl H hlen rfl rfl ?_; intro Wd f1 f2 _ _))
        have b3d : Below wr.heap.size wr Wd := b3.trans (f2.mono b3.size)
        have b0d : Below w.heap.size w Wd := bl.trans (b3d.mono hbs)
        have sd := b0d.size
        have sd3 := b3d.size
        have J := join_step (.slice (some ⟨w3.heap.size, 0, none⟩) 32 32) (.slice (some ⟨b, o + k * 32, none⟩) 32 32) H P Wd (by omega) (part_row f1 hlen) (PZ.out _ b0d) (by omega)
        refine wp_region_noPanic ?_
        refine wp_region_held_drew (S := fun _ => True) (by kernel_rfl) (trivial) (fun hHeld => ?_)
        try simp only [Act.put, List.setIfInBounds_toArray, List.set_cons_zero, List.set_cons_succ]
        refine wpAnyH_take (i := 0) (oi := { dst := some 36, op := Go.Op.move (Go.Operand.tmp 9), type := 29, pos := "ref.go:163", after := #[], guard := none }) (v := ?_) rfl (by kernel_rfl) (by kernel_rfl) (by kernel_rfl) (fun _ _ _ h => h) (Or.inl ⟨by rfl, ?_⟩) hHeld ?_
        rotate_left 1
        · (intro wq hSq; (try dsimp only at hSq); go_simp; first | done | with_reducible rfl)
        try simp only [Act.put, List.setIfInBounds_toArray, List.set_cons_zero, List.set_cons_succ]
        refine wpAnyH_take (i := 2) (oi := { dst := some 38, op := Go.Op.slice 24 (Go.Operand.tmp 13) none none none, type := 22, pos := "ref.go:163", after := #[], guard := none }) (v := ?_) rfl (by kernel_rfl) (by kernel_rfl) (by kernel_rfl) (fun _ _ _ h => h) (Or.inl ⟨by rfl, ?_⟩) hHeld ?_
        rotate_left 1
        · (intro wq hSq; (try dsimp only at hSq); go_simp; first | done | with_reducible rfl)
        try simp only [Act.put, List.setIfInBounds_toArray, List.set_cons_zero, List.set_cons_succ]
        refine wpAnyH_take (i := 3) (oi := { dst := some 39, op := Go.Op.move (Go.Operand.tmp 3), type := 44, pos := "ref.go:163", after := #[], guard := none }) (v := ?_) rfl (by kernel_rfl) (by kernel_rfl) (by kernel_rfl) (fun _ _ _ h => h) (Or.inl ⟨by rfl, ?_⟩) hHeld ?_
        rotate_left 1
        · (intro wq hSq; (try dsimp only at hSq); go_simp; first | done | with_reducible rfl)
        try simp only [Act.put, List.setIfInBounds_toArray, List.set_cons_zero, List.set_cons_succ]
        refine wpAnyH_take (i := 4) (oi := { dst := some 40, op := Go.Op.move (Go.Operand.tmp 12), type := 3, pos := "ref.go:163", after := #[], guard := none }) (v := ?_) rfl (by kernel_rfl) (by kernel_rfl) (by kernel_rfl) (fun _ _ _ h => h) (Or.inl ⟨by rfl, ?_⟩) hHeld ?_
        rotate_left 1
        · (intro wq hSq; (try dsimp only at hSq); go_simp; first | done | with_reducible rfl)
        try simp only [Act.put, List.setIfInBounds_toArray, List.set_cons_zero, List.set_cons_succ]
        refine wpAnyH_take (i := 5) (oi := { dst := some 41, op := Go.Op.indexAddr 44 (Go.Operand.tmp 39) (Go.Operand.tmp 40), type := 0, pos := "ref.go:163", after := #[{ on := 3, ground := Go.Ground.data }, { on := 4, ground := Go.Ground.data }], guard := none }) (v := ?_) rfl (by kernel_rfl) (by kernel_rfl) (by kernel_rfl) (fun _ _ _ h => h) (Or.inl ⟨by rfl, ?_⟩) hHeld ?_
        rotate_left 1
        · (intro wq hSq; (try dsimp only at hSq); go_simp; first | done | with_reducible rfl)
        try simp only [Act.put, List.setIfInBounds_toArray, List.set_cons_zero, List.set_cons_succ]
        refine wpAnyH_take (i := 6) (oi := { dst := some 42, op := Go.Op.slice 24 (Go.Operand.tmp 41) none none none, type := 22, pos := "ref.go:163", after := #[{ on := 5, ground := Go.Ground.data }], guard := none }) (v := ?_) rfl (by kernel_rfl) (by kernel_rfl) (by kernel_rfl) (fun _ _ _ h => h) (Or.inl ⟨by rfl, ?_⟩) hHeld ?_
        rotate_left 1
        · (intro wq hSq; (try dsimp only at hSq); go_simp; first | done | with_reducible rfl)
        try simp only [Act.put, List.setIfInBounds_toArray, List.set_cons_zero, List.set_cons_succ]
        refine wpAnyH_ready (rs := [1]) (by kernel_rfl) (by simp) ?_
        refine AllReadyH.cons (o := { dst := some 37, op := Go.Op.buildSlice 22 1 #[(0, Go.Operand.const (Go.Value.int Go.IntKind.u8 1))], type := 22, pos := "ref.go:163", after := #[], guard := none }) rfl (fun K hK => ?_) AllReadyH.nil
        go_simp
        refine hK.out _ _ (trivial) (fun hHeld1 => ?_)
        clear hK K hHeld
        try simp only [Act.put, List.setIfInBounds_toArray, List.set_cons_zero, List.set_cons_succ]
        refine wpAnyH_ready (rs := [7]) (by kernel_rfl) (by simp) ?_
        refine AllReadyH.cons (o := { dst := some 43, op := Go.Op.buildSlice 29 3 #[(0, Go.Operand.tmp 37), (1, Go.Operand.tmp 38), (2, Go.Operand.tmp 42)], type := 29, pos := "ref.go:163", after := #[{ on := 1, ground := Go.Ground.data }, { on := 2, ground := Go.Ground.data }, { on := 6, ground := Go.Ground.data }], guard := none }) rfl (fun K hK => ?_) AllReadyH.nil
        go_simp
        refine hK.out _ _ (trivial) (fun hHeld2 => ?_)
        clear hK K hHeld1
        try simp only [Act.put, List.setIfInBounds_toArray, List.set_cons_zero, List.set_cons_succ]
        refine wpAnyH_ready (rs := [8]) (by kernel_rfl) (by simp) ?_
        refine AllReadyH.cons (o := { dst := some 44, op := Go.Op.call { callee := Go.Callee.value (Go.Operand.func 15), args := #[Go.Operand.tmp 43], argTypes := #[29] }, type := 22, pos := "ref.go:163", after := #[{ on := 7, ground := Go.Ground.data }], guard := none }) rfl (fun K hK => ?_) AllReadyH.nil
        go_simp
        refine J.mono ?_
        rintro e w4 ⟨g4, c4, rfl, o4', b4⟩
        have b34 : Below wr.heap.size wr w4 := b3d.trans (b4.mono sd3)
        have o4 := o4'.mono sd
        simp only [hlen, hPl] at o4
        refine hK.out _ _ (trivial) (fun hHeld3 => ?_)
        clear hK K hHeld2
        try simp only [Act.put, List.setIfInBounds_toArray, List.set_cons_zero, List.set_cons_succ]
        refine wpAnyH_ready (rs := [9]) (by kernel_rfl) (by simp) ?_
        refine AllReadyH.cons (o := { dst := some 45, op := Go.Op.buildSlice 29 1 #[(0, Go.Operand.tmp 44)], type := 29, pos := "ref.go:163", after := #[{ on := 8, ground := Go.Ground.data }], guard := none }) rfl (fun K hK => ?_) AllReadyH.nil
        go_simp
        refine hK.out _ _ (trivial) (fun hHeld4 => ?_)
        clear hK K hHeld3
        try simp only [Act.put, List.setIfInBounds_toArray, List.set_cons_zero, List.set_cons_succ]
        refine wpAnyH_ready (rs := [10]) (by kernel_rfl) (by simp) ?_
        refine AllReadyH.cons (o := { dst := some 46, op := Go.Op.call { callee := Go.Callee.builtin Go.Builtin.append, args := #[Go.Operand.tmp 36, Go.Operand.tmp 45], argTypes := #[29, 29] }, type := 29, pos := "ref.go:163", after := #[{ on := 0, ground := Go.Ground.data }, { on := 9, ground := Go.Ground.data }, { on := 8, ground := Go.Ground.chain }], guard := none }) rfl (fun K hK => ?_) AllReadyH.nil
        refine step_append29 rfl _ _ rfl w.heap.size _ (k + 1) vs (by rfl) (own_below' HROW.out b34) _ rfl (by rfl) (by omega) (by have := b34.size; omega) ?_
        intro v2 w6 o2 g2
        refine hK.out _ _ (trivial) (fun hHeld5 => ?_)
        clear hK K hHeld4
        try simp only [Act.put, List.setIfInBounds_toArray, List.set_cons_zero, List.set_cons_succ]
        refine wpAnyH_take (i := 11) (oi := { dst := some 9, op := Go.Op.assign (Go.Operand.tmp 46), type := 29, pos := "ref.go:163", after := #[{ on := 10, ground := Go.Ground.data }, { on := 10, ground := Go.Ground.chain }, { on := 0, ground := Go.Ground.phase }, { on := 1, ground := Go.Ground.phase }, { on := 2, ground := Go.Ground.phase }, { on := 3, ground := Go.Ground.phase }, { on := 4, ground := Go.Ground.phase }, { on := 5, ground := Go.Ground.phase }, { on := 6, ground := Go.Ground.phase }, { on := 7, ground := Go.Ground.phase }, { on := 8, ground := Go.Ground.phase }, { on := 9, ground := Go.Ground.phase }, { on := 10, ground := Go.Ground.phase }], guard := none }) (v := ?_) rfl (by kernel_rfl) (by kernel_rfl) (by kernel_rfl) (fun _ _ _ h => h) (Or.inl ⟨by rfl, ?_⟩) hHeld5 ?_
        rotate_left 1
        · (intro wq hSq; (try dsimp only at hSq); go_simp; first | done | with_reducible rfl)
        try simp only [Act.put, List.setIfInBounds_toArray, List.set_cons_zero, List.set_cons_succ]
        refine wpAnyH_done (by kernel_rfl) ?_ _
        refine NoPanic.normal ?_
        have st := HST.out _ _ _ _ _ (by simpa using HTS.out) b34 o4 o2 g2
        go_wp2_with fail
        go_roundw
        case rel => exact ⟨k + 1, by omega, by go_num, st.1, st.2.1, st.2.2⟩
        case measure => exact HD.out
      | false =>
        go_wp2_with (first | (go_at_call 14; refine C14.out.mono ?_; rintro e w3 ⟨rfl, b3⟩) | (refine store24n rfl _ _ rfl H hlen rfl rfl ?_; intro Wd f1 f2 _ _))
        have b3d : Below wr.heap.size wr Wd := b3.trans (f2.mono b3.size)
        have b0d : Below w.heap.size w Wd := bl.trans (b3d.mono hbs)
        have sd := b0d.size
        have sd3 := b3d.size
        have J := join_step (.slice (some ⟨b, o + k * 32, none⟩) 32 32) (.slice (some ⟨w3.heap.size, 0, none⟩) 32 32) P H Wd (by omega) (PZ.out _ b0d) (part_row f1 hlen) (by omega)
        refine wp_region_noPanic ?_
        refine wp_region_held_drew (S := fun _ => True) (by kernel_rfl) (trivial) (fun hHeld => ?_)
        try simp only [Act.put, List.setIfInBounds_toArray, List.set_cons_zero, List.set_cons_succ]
        refine wpAnyH_take (i := 0) (oi := { dst := some 47, op := Go.Op.move (Go.Operand.tmp 9), type := 29, pos := "ref.go:165", after := #[], guard := none }) (v := ?_) rfl (by kernel_rfl) (by kernel_rfl) (by kernel_rfl) (fun _ _ _ h => h) (Or.inl ⟨by rfl, ?_⟩) hHeld ?_
        rotate_left 1
        · (intro wq hSq; (try dsimp only at hSq); go_simp; first | done | with_reducible rfl)
        try simp only [Act.put, List.setIfInBounds_toArray, List.set_cons_zero, List.set_cons_succ]
        refine wpAnyH_take (i := 2) (oi := { dst := some 49, op := Go.Op.move (Go.Operand.tmp 3), type := 44, pos := "ref.go:165", after := #[], guard := none }) (v := ?_) rfl (by kernel_rfl) (by kernel_rfl) (by kernel_rfl) (fun _ _ _ h => h) (Or.inl ⟨by rfl, ?_⟩) hHeld ?_
        rotate_left 1
        · (intro wq hSq; (try dsimp only at hSq); go_simp; first | done | with_reducible rfl)
        try simp only [Act.put, List.setIfInBounds_toArray, List.set_cons_zero, List.set_cons_succ]
        refine wpAnyH_take (i := 3) (oi := { dst := some 50, op := Go.Op.move (Go.Operand.tmp 12), type := 3, pos := "ref.go:165", after := #[], guard := none }) (v := ?_) rfl (by kernel_rfl) (by kernel_rfl) (by kernel_rfl) (fun _ _ _ h => h) (Or.inl ⟨by rfl, ?_⟩) hHeld ?_
        rotate_left 1
        · (intro wq hSq; (try dsimp only at hSq); go_simp; first | done | with_reducible rfl)
        try simp only [Act.put, List.setIfInBounds_toArray, List.set_cons_zero, List.set_cons_succ]
        refine wpAnyH_take (i := 4) (oi := { dst := some 51, op := Go.Op.indexAddr 44 (Go.Operand.tmp 49) (Go.Operand.tmp 50), type := 0, pos := "ref.go:165", after := #[{ on := 2, ground := Go.Ground.data }, { on := 3, ground := Go.Ground.data }], guard := none }) (v := ?_) rfl (by kernel_rfl) (by kernel_rfl) (by kernel_rfl) (fun _ _ _ h => h) (Or.inl ⟨by rfl, ?_⟩) hHeld ?_
        rotate_left 1
        · (intro wq hSq; (try dsimp only at hSq); go_simp; first | done | with_reducible rfl)
        try simp only [Act.put, List.setIfInBounds_toArray, List.set_cons_zero, List.set_cons_succ]
        refine wpAnyH_take (i := 5) (oi := { dst := some 52, op := Go.Op.slice 24 (Go.Operand.tmp 51) none none none, type := 22, pos := "ref.go:165", after := #[{ on := 4, ground := Go.Ground.data }], guard := none }) (v := ?_) rfl (by kernel_rfl) (by kernel_rfl) (by kernel_rfl) (fun _ _ _ h => h) (Or.inl ⟨by rfl, ?_⟩) hHeld ?_
        rotate_left 1
        · (intro wq hSq; (try dsimp only at hSq); go_simp; first | done | with_reducible rfl)
        try simp only [Act.put, List.setIfInBounds_toArray, List.set_cons_zero, List.set_cons_succ]
        refine wpAnyH_take (i := 6) (oi := { dst := some 53, op := Go.Op.slice 24 (Go.Operand.tmp 13) none none none, type := 22, pos := "ref.go:165", after := #[], guard := none }) (v := ?_) rfl (by kernel_rfl) (by kernel_rfl) (by kernel_rfl) (fun _ _ _ h => h) (Or.inl ⟨by rfl, ?_⟩) hHeld ?_
        rotate_left 1
        · (intro wq hSq; (try dsimp only at hSq); go_simp; first | done | with_reducible rfl)
        try simp only [Act.put, List.setIfInBounds_toArray, List.set_cons_zero, List.set_cons_succ]
        refine wpAnyH_ready (rs := [1]) (by kernel_rfl) (by simp) ?_
        refine AllReadyH.cons (o := { dst := some 48, op := Go.Op.buildSlice 22 1 #[(0, Go.Operand.const (Go.Value.int Go.IntKind.u8 1))], type := 22, pos := "ref.go:165", after := #[], guard := none }) rfl (fun K hK => ?_) AllReadyH.nil
        go_simp
        refine hK.out _ _ (trivial) (fun hHeld1 => ?_)
        clear hK K hHeld
        try simp only [Act.put, List.setIfInBounds_toArray, List.set_cons_zero, List.set_cons_succ]
        refine wpAnyH_ready (rs := [7]) (by kernel_rfl) (by simp) ?_
        refine AllReadyH.cons (o := { dst := some 54, op := Go.Op.buildSlice 29 3 #[(0, Go.Operand.tmp 48), (1, Go.Operand.tmp 52), (2, Go.Operand.tmp 53)], type := 29, pos := "ref.go:165", after := #[{ on := 1, ground := Go.Ground.data }, { on := 5, ground := Go.Ground.data }, { on := 6, ground := Go.Ground.data }], guard := none }) rfl (fun K hK => ?_) AllReadyH.nil
        go_simp
        refine hK.out _ _ (trivial) (fun hHeld2 => ?_)
        clear hK K hHeld1
        try simp only [Act.put, List.setIfInBounds_toArray, List.set_cons_zero, List.set_cons_succ]
        refine wpAnyH_ready (rs := [8]) (by kernel_rfl) (by simp) ?_
        refine AllReadyH.cons (o := { dst := some 55, op := Go.Op.call { callee := Go.Callee.value (Go.Operand.func 15), args := #[Go.Operand.tmp 54], argTypes := #[29] }, type := 22, pos := "ref.go:165", after := #[{ on := 7, ground := Go.Ground.data }], guard := none }) rfl (fun K hK => ?_) AllReadyH.nil
        go_simp
        refine J.mono ?_
        rintro e w4 ⟨g4, c4, rfl, o4', b4⟩
        have b34 : Below wr.heap.size wr w4 := b3d.trans (b4.mono sd3)
        have o4 := o4'.mono sd
        simp only [hlen, hPl] at o4
        refine hK.out _ _ (trivial) (fun hHeld3 => ?_)
        clear hK K hHeld2
        try simp only [Act.put, List.setIfInBounds_toArray, List.set_cons_zero, List.set_cons_succ]
        refine wpAnyH_ready (rs := [9]) (by kernel_rfl) (by simp) ?_
        refine AllReadyH.cons (o := { dst := some 56, op := Go.Op.buildSlice 29 1 #[(0, Go.Operand.tmp 55)], type := 29, pos := "ref.go:165", after := #[{ on := 8, ground := Go.Ground.data }], guard := none }) rfl (fun K hK => ?_) AllReadyH.nil
        go_simp
        refine hK.out _ _ (trivial) (fun hHeld4 => ?_)
        clear hK K hHeld3
        try simp only [Act.put, List.setIfInBounds_toArray, List.set_cons_zero, List.set_cons_succ]
        refine wpAnyH_ready (rs := [10]) (by kernel_rfl) (by simp) ?_
        refine AllReadyH.cons (o := { dst := some 57, op := Go.Op.call { callee := Go.Callee.builtin Go.Builtin.append, args := #[Go.Operand.tmp 47, Go.Operand.tmp 56], argTypes := #[29, 29] }, type := 29, pos := "ref.go:165", after := #[{ on := 0, ground := Go.Ground.data }, { on := 9, ground := Go.Ground.data }, { on := 8, ground := Go.Ground.chain }], guard := none }) rfl (fun K hK => ?_) AllReadyH.nil
        refine step_append29 rfl _ _ rfl w.heap.size _ (k + 1) vs (by rfl) (own_below' HROW.out b34) _ rfl (by rfl) (by omega) (by have := b34.size; omega) ?_
        intro v2 w6 o2 g2
        refine hK.out _ _ (trivial) (fun hHeld5 => ?_)
        clear hK K hHeld4
        try simp only [Act.put, List.setIfInBounds_toArray, List.set_cons_zero, List.set_cons_succ]
        refine wpAnyH_take (i := 11) (oi := { dst := some 9, op := Go.Op.assign (Go.Operand.tmp 57), type := 29, pos := "ref.go:165", after := #[{ on := 10, ground := Go.Ground.data }, { on := 10, ground := Go.Ground.chain }, { on := 0, ground := Go.Ground.phase }, { on := 1, ground := Go.Ground.phase }, { on := 2, ground := Go.Ground.phase }, { on := 3, ground := Go.Ground.phase }, { on := 4, ground := Go.Ground.phase }, { on := 5, ground := Go.Ground.phase }, { on := 6, ground := Go.Ground.phase }, { on := 7, ground := Go.Ground.phase }, { on := 8, ground := Go.Ground.phase }, { on := 9, ground := Go.Ground.phase }, { on := 10, ground := Go.Ground.phase }], guard := none }) (v := ?_) rfl (by kernel_rfl) (by kernel_rfl) (by kernel_rfl) (fun _ _ _ h => h) (Or.inl ⟨by rfl, ?_⟩) hHeld5 ?_
        rotate_left 1
        · (intro wq hSq; (try dsimp only at hSq); go_simp; first | done | with_reducible rfl)
        try simp only [Act.put, List.setIfInBounds_toArray, List.set_cons_zero, List.set_cons_succ]
        refine wpAnyH_done (by kernel_rfl) ?_ _
        refine NoPanic.normal ?_
        have st := HST.out _ _ _ _ _ (by simpa using HTS.out) b34 o4 o2 g2
        go_wp2_with fail
        go_roundw
        case rel => exact ⟨k + 1, by omega, by go_num, st.1, st.2.1, st.2.2⟩
        case measure => exact HD.out
    · obtain rfl : k = d := by omega
      go_wp2
      go_ret
      exact ⟨_, rfl, RI.out.parts (by omega), bl⟩
end Go.Proofs.YtlcenbhcegmnoaaDoor
namespace Go.Proofs.YtlcenbhcegmnoaaDoor
set_option linter.unusedSimpArgs false
set_option linter.unusedVariables false
open Go.RowKit
attribute [local go_sem ↓] Go.wp_at_zero Go.wp_at_succ
theorem textN_front (bl xs : List Bool) (c : List Int) (pr : List (List Int)) (j : Nat) (hj : j ≤ bl.length) : textN (bl ++ xs) c pr j = textN bl c pr j := by
  induction j with
  | zero => rfl
  | succ j ih =>
    have e : (bl ++ xs)[j]? = bl[j]? := List.getElem?_append_left (by omega)
    simp only [textN]
    rw [e, ih (by omega)]
theorem textN_lead (d : Nat) : ∀ (n i : Nat) (c : List Int) (pr : List (List Int)), hashOf (textN (turnsD d n i) c pr d) = leadD d (leafH c) n i pr := by
  induction d with
  | zero => intro n i c pr; rfl
  | succ d ih =>
    intro n i c pr
    have l1 := turnsD_length d (halfN n) i
    have l2 := turnsD_length d (n - halfN n) (i - halfN n)
    unfold turnsD leadD
    by_cases hik : i < halfN n
    · rw [if_pos hik, if_pos hik, ← ih]
      simp only [textN]
      rw [textN_front _ _ _ _ _ (by omega), List.getElem?_append_right (by omega), l1, Nat.sub_self]
      rfl
    · rw [if_neg hik, if_neg hik, ← ih]
      simp only [textN]
      rw [textN_front _ _ _ _ _ (by omega), List.getElem?_append_right (by omega), l2, Nat.sub_self]
      rfl
set_option maxRecDepth 100000 in
set_option maxHeartbeats 1000000 in
theorem rcheck_no (R : List Int) (n i : Int) (v : Value) (av : Option Addr) (m cp : Nat) (w : World) (hd : depthI n i ≠ m) (hm : m ≤ 4611686018427387904) :
    Calls Tryd.prog 38 #[.agg (vB R), .int .i64 n, .int .i64 i, v, .slice av m cp] w fun e w' => e = .returned (.bool false) ∧ Below w.heap.size w w' := by
  have C : Hid (∀ w' : World, Calls Tryd.prog 39 #[.int .i64 n, .int .i64 i] w' fun e w'' => e = .returned (.int .i64 (depthI n i)) ∧ w'' = w') := fun w' => rdepth_any n i w'
  generalize depthI n i = D at *
  have hd' : ¬ (m : Int) = D := fun h => hd h.symm
  have hne : ((m : Int) != D) = true := by simp [hd']
  clear hd hd'
  by_cases hD : D < 0
  all_goals go_enter Tryd.func38, Tryd.ntmps38
  all_goals go_wp2_with (first | (go_at_call 39; refine (C.out _).mono ?_; rintro e w' ⟨rfl, hw'⟩; have hw'' := hw'.symm; clear hw'; subst hw''))
  all_goals go_ret
  all_goals exact ⟨rfl, (Below.refl _ _).alloc (Nat.le_refl _) _⟩
set_option maxRecDepth 100000 in
set_option maxHeartbeats 600000 in
theorem rcheck_yes (R L tx : List Int) (n i : Int) (v : Value) (av : Option Addr) (m cp : Nat) (ls : List (List Int)) (w : World) (hR : R.length = 32) (hLl : L.length = 32) (hm : m ≤ 1000) (hls : ls.length = m + 1) (htx : ls[m]? = some tx)
    (C0 : ∀ w' : World, Calls Tryd.prog 39 #[.int .i64 n, .int .i64 i] w' fun e w'' => e = .returned (.int .i64 m) ∧ w'' = w')
    (C1 : ∀ w', Below w.heap.size w w' → Calls Tryd.prog 40 #[.int .i64 n, .int .i64 i, v, .slice av m cp] w' fun e w'' => ∃ u, e = .returned u ∧ PartsAt w'' u ls ∧ Below w'.heap.size w' w'')
    (C2 : ∀ w' x, PartAt w' x tx → Calls Tryd.prog 14 #[x] w' fun e w'' => e = .returned (.agg (vB L)) ∧ Below w'.heap.size w' w'') :
    Calls Tryd.prog 38 #[.agg (vB R), .int .i64 n, .int .i64 i, v, .slice av m cp] w fun e w' => e = .returned (.bool (decide (L = R))) ∧ Below w.heap.size w w' := by
  have D0 : Hid (∀ w' : World, Calls Tryd.prog 39 #[.int .i64 n, .int .i64 i] w' fun e w'' => e = .returned (.int .i64 m) ∧ w'' = w') := C0
  have D1 : Hid (∀ w', Below w.heap.size w w' → Calls Tryd.prog 40 #[.int .i64 n, .int .i64 i, v, .slice av m cp] w' fun e w'' => ∃ u, e = .returned u ∧ PartsAt w'' u ls ∧ Below w'.heap.size w' w'') := C1
  have D2 : Hid (∀ w' x, PartAt w' x tx → Calls Tryd.prog 14 #[x] w' fun e w'' => e = .returned (.agg (vB L)) ∧ Below w'.heap.size w' w'') := C2
  have e24 := eq24_dec L R hLl hR
  obtain ⟨B, hB⟩ : ∃ B : Bool, B = decide (L = R) := ⟨_, rfl⟩
  rw [← hB]
  rw [← hB] at e24
  have hcl : (List.map (Value.int .u8) R).length = 32 := by simpa using hR
  have hi : (Tryd.prog.info? 24).map (·.size) = some (List.map (Value.int .u8) R).length := by rw [hcl]; kernel_rfl
  have j0 : ¬ (m : Int) < 0 := by omega
  clear C0 C1 C2 hB
  go_enter Tryd.func38, Tryd.ntmps38
  go_wp2_with (first | (go_at_call 39; refine (D0.out _).mono ?_; rintro e w' ⟨rfl, hw'⟩; have hw'' := hw'.symm; clear hw'; subst hw'') | (go_at_call 40; refine (D1.out _ ((Below.refl _ _).alloc (Nat.le_refl _) _)).mono ?_; rintro e W ⟨u, rfl, pu, bW⟩; obtain ⟨avu, bu, ou, cpu, vs, rfl, a1, a2, a3, a4, a5, a6, a7⟩ := pu))
  have bA : Below w.heap.size w (w.alloc (Obj.cells (vB R) 24)) := (Below.refl _ _).alloc (Nat.le_refl _) _
  have f1 : W.heap[w.heap.size]? = some (.cells (vB R) 24) := by rw [bW.block _ (by simp)]; exact heap_alloc_new _ _
  have bw : Below w.heap.size w W := bA.trans (bW.mono bA.size)
  obtain rfl := a3 (by omega)
  obtain ⟨x, hx⟩ : ∃ x, vs[m]? = some x := ⟨vs[m], List.getElem?_eq_getElem (by omega)⟩
  have px := a7 m x tx hx htx
  have C14 : Hid (∀ w', Below W.heap.size W w' → Calls Tryd.prog 14 #[x] w' fun e w'' => e = .returned (.agg (vB L)) ∧ Below W.heap.size W w'') := fun w' q => (D2.out w' x (px.below q)).mono (fun e w5 h => ⟨h.1, q.trans (h.2.mono q.size)⟩)
  have HR : Hid (W.rangeAt w.heap.size 0 (List.map (Value.int .u8) R)) := range_of_block f1
  have hbl : w.heap.size < W.heap.size := (Array.getElem?_eq_some_iff.1 f1).1
  have qx : Hid (W.cell? ⟨bu, ou + m, none⟩ = some x) := a5 m x hx
  have ST : Hid (∀ w', Below W.heap.size W w' → (Below W.heap.size W w' ∧ w'.rangeAt w.heap.size 0 (List.map (Value.int .u8) R)) ∧ w'.cell? ⟨bu, ou + m, none⟩ = some x) := fun w' q => ⟨Held.of HR.out hbl q, by rw [q.cell (show bu < W.heap.size from a6)]; exact qx.out⟩
  obtain ⟨avx, _, _, cpx, hxv, _⟩ := px
  subst hxv
  try rw [hls]
  have jw : IntKind.i64.wrap ((m : Int) + 1 - 1) = (m : Int) := by rw [IntKind.wrap_i64]; omega
  have jw2 : IntKind.i64.wrap (m : Int) = (m : Int) := by rw [IntKind.wrap_i64]; omega
  have j1 : (0 : Int) ≤ (m : Int) := by omega
  have j2 : (m : Int) < (m : Int) + 1 := by omega
  clear a3 a5 a7 D0 D1 D2 f1 hx HR qx
  try go_wp2_with fail
  have hS := ST.out _ (below_drew (Below.refl W.heap.size W))
  refine wp_region_noPanic ?_
  refine wp_region_held_drew (S := fun w' => (Below W.heap.size W w' ∧ w'.rangeAt w.heap.size 0 (List.map (Value.int .u8) R)) ∧ w'.cell? ⟨bu, ou + m, none⟩ = some (Value.slice avx tx.length cpx)) (by kernel_rfl) (hS) (fun hHeld => ?_)
  try simp only [Act.put, List.setIfInBounds_toArray, List.set_cons_zero, List.set_cons_succ]
  refine wpAnyH_take (i := 0) (oi := { dst := some 29, op := Go.Op.move (Go.Operand.tmp 12), type := 29, pos := "ref.go:189", after := #[], guard := none }) (v := ?_) rfl (by kernel_rfl) (by kernel_rfl) (by kernel_rfl) (fun _ _ _ h => h) (Or.inl ⟨by rfl, ?_⟩) hHeld ?_
  rotate_left 1
  · (intro wq hSq; (try dsimp only at hSq); go_simp; first | done | with_reducible rfl)
  try simp only [Act.put, List.setIfInBounds_toArray, List.set_cons_zero, List.set_cons_succ]
  refine wpAnyH_take (i := 1) (oi := { dst := some 30, op := Go.Op.move (Go.Operand.tmp 12), type := 29, pos := "ref.go:189", after := #[], guard := none }) (v := ?_) rfl (by kernel_rfl) (by kernel_rfl) (by kernel_rfl) (fun _ _ _ h => h) (Or.inl ⟨by rfl, ?_⟩) hHeld ?_
  rotate_left 1
  · (intro wq hSq; (try dsimp only at hSq); go_simp; first | done | with_reducible rfl)
  try simp only [Act.put, List.setIfInBounds_toArray, List.set_cons_zero, List.set_cons_succ]
  refine wpAnyH_take (i := 2) (oi := { dst := some 31, op := Go.Op.call { callee := Go.Callee.builtin Go.Builtin.len, args := #[Go.Operand.tmp 30], argTypes := #[29] }, type := 3, pos := "ref.go:189", after := #[{ on := 1, ground := Go.Ground.data }], guard := none }) (v := ?_) rfl (by kernel_rfl) (by kernel_rfl) (by kernel_rfl) (fun _ _ _ h => h) (Or.inl ⟨by rfl, ?_⟩) hHeld ?_
  rotate_left 1
  · (intro wq hSq; (try dsimp only at hSq); go_simp; first | done | with_reducible rfl)
  try simp only [Act.put, List.setIfInBounds_toArray, List.set_cons_zero, List.set_cons_succ]
  refine wpAnyH_take (i := 3) (oi := { dst := some 32, op := Go.Op.binOp Go.BinOp.sub 3 (Go.Operand.tmp 31) (Go.Operand.const (Go.Value.int Go.IntKind.i64 1)) 3, type := 3, pos := "ref.go:189", after := #[{ on := 2, ground := Go.Ground.data }], guard := none }) (v := ?_) rfl (by kernel_rfl) (by kernel_rfl) (by kernel_rfl) (fun _ _ _ h => h) (Or.inl ⟨by rfl, ?_⟩) hHeld ?_
  rotate_left 1
  · (intro wq hSq; (try dsimp only at hSq); go_simp; first | done | with_reducible rfl)
  try simp only [Act.put, List.setIfInBounds_toArray, List.set_cons_zero, List.set_cons_succ]
  refine wpAnyH_take (i := 4) (oi := { dst := some 33, op := Go.Op.indexAddr 29 (Go.Operand.tmp 29) (Go.Operand.tmp 32), type := 0, pos := "ref.go:189", after := #[{ on := 0, ground := Go.Ground.data }, { on := 3, ground := Go.Ground.data }], guard := none }) (v := ?_) rfl (by kernel_rfl) (by kernel_rfl) (by kernel_rfl) (fun _ _ _ h => h) (Or.inl ⟨by rfl, ?_⟩) hHeld ?_
  rotate_left 1
  · (intro wq hSq; (try dsimp only at hSq); go_simp; first | done | with_reducible rfl)
  try simp only [Act.put, List.setIfInBounds_toArray, List.set_cons_zero, List.set_cons_succ]
  refine wpAnyH_take (i := 5) (oi := { dst := some 34, op := Go.Op.load 22 (Go.Operand.tmp 33), type := 22, pos := "ref.go:189", after := #[{ on := 4, ground := Go.Ground.data }], guard := none }) (v := ?_) rfl (by kernel_rfl) (by kernel_rfl) (by kernel_rfl) (fun _ _ _ h => h) (Or.inl ⟨by rfl, ?_⟩) hHeld ?_
  rotate_left 1
  · (intro wq hSq; (try dsimp only at hSq); go_simp; first | done | with_reducible rfl)
  try simp only [Act.put, List.setIfInBounds_toArray, List.set_cons_zero, List.set_cons_succ]
  refine wpAnyH_take (i := 7) (oi := { dst := some 36, op := Go.Op.load 24 (Go.Operand.tmp 5), type := 24, pos := "ref.go:189", after := #[], guard := none }) (v := .agg (List.toArray (List.map (Value.int .u8) R))) rfl (by kernel_rfl) (by kernel_rfl) (by kernel_rfl) (fun _ _ _ h => h) (yieldsIf_load_mid (by rfl) _ _ rfl (w.heap.size) (0) rfl (List.map (Value.int .u8) R) _ (fun _ h => h.1.2) Tryd.underlying24 rfl (hi)) hHeld ?_
  try simp only [Act.put, List.setIfInBounds_toArray, List.set_cons_zero, List.set_cons_succ]
  refine wpAnyH_ready (rs := [6]) (by kernel_rfl) (by simp) ?_
  refine AllReadyH.cons (o := { dst := some 35, op := Go.Op.call { callee := Go.Callee.value (Go.Operand.func 14), args := #[Go.Operand.tmp 34], argTypes := #[22] }, type := 24, pos := "ref.go:189", after := #[{ on := 5, ground := Go.Ground.data }], guard := none }) rfl (fun K hK => ?_) AllReadyH.nil
  go_simp
  refine (C14.out _ (below_drew (Below.refl W.heap.size W))).mono ?_
  rintro e w5 ⟨rfl, b5⟩
  refine hK.out _ _ (ST.out _ b5) (fun hHeld1 => ?_)
  clear hK K hHeld
  try simp only [Act.put, List.setIfInBounds_toArray, List.set_cons_zero, List.set_cons_succ]
  refine wpAnyH_take (i := 8) (oi := { dst := some 37, op := Go.Op.binOp Go.BinOp.eql 24 (Go.Operand.tmp 35) (Go.Operand.tmp 36) 24, type := 4, pos := "ref.go:189", after := #[{ on := 6, ground := Go.Ground.data }, { on := 7, ground := Go.Ground.data }], guard := none }) (v := ?_) rfl (by kernel_rfl) (by kernel_rfl) (by kernel_rfl) (fun _ _ _ h => h) (Or.inl ⟨by rfl, ?_⟩) hHeld1 ?_
  rotate_left 1
  · (intro wq hSq; (try dsimp only at hSq); go_simp; first | done | with_reducible rfl)
  try simp only [Act.put, List.setIfInBounds_toArray, List.set_cons_zero, List.set_cons_succ]
  refine wpAnyH_take (i := 9) (oi := { dst := some 10, op := Go.Op.assign (Go.Operand.tmp 37), type := 4, pos := "ref.go:189", after := #[{ on := 8, ground := Go.Ground.data }, { on := 6, ground := Go.Ground.chain }, { on := 0, ground := Go.Ground.phase }, { on := 1, ground := Go.Ground.phase }, { on := 2, ground := Go.Ground.phase }, { on := 3, ground := Go.Ground.phase }, { on := 4, ground := Go.Ground.phase }, { on := 5, ground := Go.Ground.phase }, { on := 6, ground := Go.Ground.phase }, { on := 7, ground := Go.Ground.phase }, { on := 8, ground := Go.Ground.phase }], guard := none }) (v := ?_) rfl (by kernel_rfl) (by kernel_rfl) (by kernel_rfl) (fun _ _ _ h => h) (Or.inl ⟨by rfl, ?_⟩) hHeld1 ?_
  rotate_left 1
  · (intro wq hSq; (try dsimp only at hSq); go_simp; first | done | with_reducible rfl)
  try simp only [Act.put, List.setIfInBounds_toArray, List.set_cons_zero, List.set_cons_succ]
  refine wpAnyH_done (by kernel_rfl) ?_ _
  refine NoPanic.normal ?_
  go_wp2
  go_ret
  exact ⟨rfl, bw.trans (b5.mono bw.size)⟩
theorem rcheck_any (R : List Int) (n i : Int) (v pv : Value) (bs : List Int) (pr : List (List Int)) (w : World) (hR : R.length = 32) (h0 : 0 < w.heap.size) (hv : PartAt w v bs) (hbs : bs.length ≤ 140737488351232) (hby : Bytes bs) (hp : ListAt w pv pr) (hH : Hashes pr) (hm : pr.length ≤ 1000) :
    Calls Tryd.prog 38 #[.agg (vB R), .int .i64 n, .int .i64 i, v, pv] w fun e w' => e = .returned (.bool (chkB R n i bs pr)) ∧ Below w.heap.size w w' := by
  have hp0 := hp
  obtain ⟨av, b, o, cp, rfl, _⟩ := hp
  unfold chkB
  by_cases hd : depthI n i = pr.length
  · rw [decide_eq_true hd, Bool.true_and]
    obtain ⟨N, I, rfl, rfl, h1, h3, h4⟩ := depthI_of hd
    have hx : textN (turnsD pr.length N I) bs pr pr.length = textN (turnsD pr.length N I) bs pr pr.length := rfl
    refine rcheck_yes R _ (textN (turnsD pr.length N I) bs pr pr.length) N I v av pr.length cp (textsTo (turnsD pr.length N I) bs pr pr.length) w hR (leadD_hash _ _ _ _ _ ⟨leafH_length bs, hashOf_bytes _⟩).1 hm (textsTo_length _ _ _ _) (textsTo_at _ _ _ _ _ (Nat.le_refl _)) (fun w' => by have := rdepth_any N I w'; rw [hd] at this; exact this) (fun w' q => ?_) (fun w' x px => ?_)
    · exact texts_any N I pr.length bs pr v _ w' h4 h1 h3 hm rfl (by have := q.size; omega) (hv.below q) hbs hby (hp0.below q) hH
    · have := rsum_big x _ w' px (by have := textN_len (turnsD pr.length N I) bs pr hH pr.length (Nat.le_refl _) hbs; omega) (textN_bytes (turnsD pr.length N I) bs pr hH pr.length (Nat.le_refl _) hby)
      rw [textN_lead] at this
      simpa using this
  · rw [decide_eq_false hd, Bool.false_and]
    exact rcheck_no R n i v av pr.length cp w hd (by omega)
end Go.Proofs.YtlcenbhcegmnoaaDoor
