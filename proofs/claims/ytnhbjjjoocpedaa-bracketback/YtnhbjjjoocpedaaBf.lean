import Derived.Test.YtnhbjjjoocpedaaBe
import Derived.Test.YtnhbjjjoocpedaaWb
import Derived.Test.YtnhbjjjoocpedaaYb
namespace Go.Proofs.Ytnhbjjjoocpedaa
set_option linter.unusedSimpArgs false
set_option linter.unusedVariables false
open Go.RowKit
structure PrS (w : World) (x0 x1 x2 x3 : Int) (w' : World) : Prop where
  box : BoxS w' w.heap.size x0 x1 x2 x3
  bel : Below w.heap.size w w'
  size : w.heap.size < w'.heap.size
theorem PrS.below {w w' w'' : World} {x0 x1 x2 x3 : Int} (h : PrS w x0 x1 x2 x3 w') (b : Below w'.heap.size w' w'') : PrS w x0 x1 x2 x3 w'' :=
  ⟨h.box.below b h.size, h.bel.trans (b.mono h.bel.size), by have := h.size; have := b.size; omega⟩
theorem PrS.start (w : World) (x0 x1 x2 x3 : Int) : PrS w x0 x1 x2 x3 (w.alloc (.cells #[.int .u64 x0, .int .u64 x1, .int .u64 x2, .int .u64 x3] 26)).drew :=
  ⟨(BoxS.new w 26 x0 x1 x2 x3).of_block rfl, ((Below.refl _ _).alloc (Nat.le_refl _) _).drew, by show w.heap.size < (w.alloc _).heap.size; simp⟩
theorem printP_no (s : S4) (h : writtenP s = [] ∨ (writtenP s.not ≠ [] ∧ (writtenP s.not).length + 1 < (writtenP s).length)) : printP s = 91 :: 94 :: writtenP s.not ++ [93] := by unfold printP; rw [if_pos h]
theorem printP_yes (s : S4) (h : ¬ (writtenP s = [] ∨ (writtenP s.not ≠ [] ∧ (writtenP s.not).length + 1 < (writtenP s).length))) : printP s = 91 :: writtenP s ++ [93] := by unfold printP; rw [if_neg h]
theorem nil_of (A : ByteArray) (h : A.data.toList = []) : A = ⟨#[]⟩ := by
  rcases A with ⟨d⟩; congr 1; exact Array.toList_inj.1 h
set_option maxHeartbeats 4000000 in
set_option maxRecDepth 100000 in
theorem print_any (s : S4) (x0 x1 x2 x3 : Int) (hs : SV s x0 x1 x2 x3) (w : World) : Calls Try.prog 22 #[.agg #[.int .u64 x0, .int .u64 x1, .int .u64 x2, .int .u64 x3]] w fun e w' => ∃ t : ByteArray, e = .returned (.string t) ∧ t.data.toList = printP s ∧ Below w.heap.size w w' := by
  have HW : Hid (∀ w, Calls Try.prog 28 #[.agg #[.int .u64 x0, .int .u64 x1, .int .u64 x2, .int .u64 x3]] w fun e w' => ∃ t : ByteArray, e = .returned (.string t) ∧ t.data.toList = writtenP s ∧ Below w.heap.size w w') := fun w => written_any s x0 x1 x2 x3 hs w
  have HN : Hid (∀ w, Calls Try.prog 16 #[.agg #[.int .u64 x0, .int .u64 x1, .int .u64 x2, .int .u64 x3]] w fun e w' => ∃ y0 y1 y2 y3, e = .returned (.agg #[.int .u64 y0, .int .u64 y1, .int .u64 y2, .int .u64 y3]) ∧ SV s.not y0 y1 y2 y3 ∧ Below w.heap.size w w') := fun w => not_any16 s x0 x1 x2 x3 hs w
  clear hs
  go_enter Try.func22, Try.ntmps22
  go_wp2
  refine wp_region_noPanic ?_
  refine wp_region_held_drew (S := fun w' => PrS w x0 x1 x2 x3 w') (by kernel_rfl) (PrS.start w x0 x1 x2 x3) (fun hHeld => ?_)
  try simp only [Act.put, List.setIfInBounds_toArray, List.set_cons_zero, List.set_cons_succ]
  refine wpAnyH_take (i := 0) (oi := { dst := some 5, op := Go.Op.load 26 (Go.Operand.tmp 1), type := 26, pos := "bracket.go:97", after := #[], guard := none }) (v := .agg #[.int .u64 x0, .int .u64 x1, .int .u64 x2, .int .u64 x3]) rfl (by kernel_rfl) (by kernel_rfl) (by kernel_rfl) (fun _ _ _ h => h) (Or.inl ⟨by rfl, ?_⟩) hHeld ?_
  · (intro wq hSq; (try dsimp only at hSq); obtain ⟨⟨qa, qb, qc, qd⟩, _⟩ := id hSq.box; go_simp; first | done | with_reducible rfl)
  try simp only [Act.put, List.setIfInBounds_toArray, List.set_cons_zero, List.set_cons_succ]
  refine wpAnyH_take (i := 2) (oi := { dst := some 7, op := Go.Op.load 26 (Go.Operand.tmp 1), type := 26, pos := "bracket.go:97", after := #[], guard := none }) (v := .agg #[.int .u64 x0, .int .u64 x1, .int .u64 x2, .int .u64 x3]) rfl (by kernel_rfl) (by kernel_rfl) (by kernel_rfl) (fun _ _ _ h => h) (Or.inl ⟨by rfl, ?_⟩) hHeld ?_
  · (intro wq hSq; (try dsimp only at hSq); obtain ⟨⟨qa, qb, qc, qd⟩, _⟩ := id hSq.box; go_simp; first | done | with_reducible rfl)
  try simp only [Act.put, List.setIfInBounds_toArray, List.set_cons_zero, List.set_cons_succ]
  refine wpAnyH_ready (rs := [1]) (by kernel_rfl) (by simp) ?_
  refine AllReadyH.cons (o := { dst := some 6, op := Go.Op.call { callee := Go.Callee.value (Go.Operand.func 28), args := #[Go.Operand.tmp 5], argTypes := #[26] }, type := 9, pos := "bracket.go:97", after := #[{ on := 0, ground := Go.Ground.data }], guard := none }) rfl (fun K hK => ?_) AllReadyH.nil
  go_simp
  refine (HW.out _).mono ?_
  rintro e w5 ⟨A, rfl, hA, b5⟩
  refine hK.out _ _ (hHeld.below b5) (fun hHeld1 => ?_)
  clear hK K hHeld
  try simp only [Act.put, List.setIfInBounds_toArray, List.set_cons_zero, List.set_cons_succ]
  have HAA : Hid (A.data.toList = writtenP s) := hA
  clear hA b5
  refine wpAnyH_ready (rs := [3]) (by kernel_rfl) (by simp) ?_
  refine AllReadyH.cons (o := { dst := some 8, op := Go.Op.call { callee := Go.Callee.value (Go.Operand.func 16), args := #[Go.Operand.tmp 7], argTypes := #[26] }, type := 26, pos := "bracket.go:97", after := #[{ on := 2, ground := Go.Ground.data }, { on := 1, ground := Go.Ground.chain }], guard := none }) rfl (fun K hK => ?_) AllReadyH.nil
  go_simp
  refine (HN.out _).mono ?_
  rintro e w6 ⟨y0, y1, y2, y3, rfl, sv, b6⟩
  refine hK.out _ _ (hHeld1.below b6) (fun hHeld2 => ?_)
  clear hK K hHeld1
  try simp only [Act.put, List.setIfInBounds_toArray, List.set_cons_zero, List.set_cons_succ]
  have HV : Hid (SV s.not y0 y1 y2 y3) := sv
  clear sv b6
  refine wpAnyH_ready (rs := [4]) (by kernel_rfl) (by simp) ?_
  refine AllReadyH.cons (o := { dst := some 9, op := Go.Op.call { callee := Go.Callee.value (Go.Operand.func 28), args := #[Go.Operand.tmp 8], argTypes := #[26] }, type := 9, pos := "bracket.go:97", after := #[{ on := 3, ground := Go.Ground.data }, { on := 3, ground := Go.Ground.chain }], guard := none }) rfl (fun K hK => ?_) AllReadyH.nil
  go_simp
  refine (written_any s.not y0 y1 y2 y3 HV.out _).mono ?_
  rintro e w7 ⟨B, rfl, hB, b7⟩
  refine hK.out _ _ (hHeld2.below b7) (fun hHeld3 => ?_)
  clear hK K hHeld2
  try simp only [Act.put, List.setIfInBounds_toArray, List.set_cons_zero, List.set_cons_succ]
  have HBB : Hid (B.data.toList = writtenP s.not) := hB
  clear hB b7
  refine wpAnyH_take (i := 5) (oi := { dst := some 3, op := Go.Op.assign (Go.Operand.tmp 6), type := 9, pos := "bracket.go:97", after := #[{ on := 1, ground := Go.Ground.data }, { on := 4, ground := Go.Ground.chain }, { on := 0, ground := Go.Ground.phase }, { on := 1, ground := Go.Ground.phase }, { on := 2, ground := Go.Ground.textOnly Go.Departure.lateStores }, { on := 3, ground := Go.Ground.textOnly Go.Departure.lateStoresUnsure }, { on := 4, ground := Go.Ground.textOnly Go.Departure.lateStoresUnsure }], guard := none }) (v := .string A) rfl (by kernel_rfl) (by kernel_rfl) (by kernel_rfl) (fun _ _ _ h => h) (Or.inl ⟨by rfl, ?_⟩) hHeld3 ?_
  · (intro wq hSq; (try dsimp only at hSq); go_simp; first | done | with_reducible rfl)
  try simp only [Act.put, List.setIfInBounds_toArray, List.set_cons_zero, List.set_cons_succ]
  refine wpAnyH_take (i := 6) (oi := { dst := some 4, op := Go.Op.assign (Go.Operand.tmp 9), type := 9, pos := "bracket.go:97", after := #[{ on := 4, ground := Go.Ground.data }, { on := 5, ground := Go.Ground.chain }, { on := 0, ground := Go.Ground.phase }, { on := 1, ground := Go.Ground.phase }, { on := 2, ground := Go.Ground.phase }, { on := 3, ground := Go.Ground.phase }, { on := 4, ground := Go.Ground.phase }, { on := 5, ground := Go.Ground.phase }], guard := none }) (v := .string B) rfl (by kernel_rfl) (by kernel_rfl) (by kernel_rfl) (fun _ _ _ h => h) (Or.inl ⟨by rfl, ?_⟩) hHeld3 ?_
  · (intro wq hSq; (try dsimp only at hSq); go_simp; first | done | with_reducible rfl)
  try simp only [Act.put, List.setIfInBounds_toArray, List.set_cons_zero, List.set_cons_succ]
  refine wpAnyH_done (by kernel_rfl) ?_ _
  refine NoPanic.normal ?_
  have BE : Hid (Below w.heap.size w _) := hHeld3.bel
  have hAs : A.size ≤ 2827 := by rw [Lib.size_eq, HAA.out]; exact wr_le s 257 0
  have hBs : B.size ≤ 2827 := by rw [Lib.size_eq, HBB.out]; exact wr_le s.not 257 0
  clear HW HN HV hHeld3
  by_cases h1 : writtenP s = []
  · have hE := printP_no s (.inl h1)
    obtain rfl := nil_of A (by rw [HAA.out, h1])
    have HE : Hid (printP s = 91 :: 94 :: writtenP s.not ++ [93]) := hE
    clear HAA hE h1
    go_wp2
    go_ret
    exact ⟨_, rfl, by rw [HE.out, app_data, app_data, HBB.out]; rfl, BE.out⟩
  · have hA0 : ¬ A.toList = [] := fun q => h1 (by rw [← HAA.out, ← ByteArray.toList_eq, q])
    have hA1 : A.toList.isEmpty = false := by cases e : A.toList with | nil => exact absurd e hA0 | cons _ _ => rfl
    by_cases h2 : writtenP s.not = []
    · have HE : Hid (printP s = 91 :: writtenP s ++ [93]) := printP_yes s (by rintro (q | ⟨q, _⟩); exact h1 q; exact q h2)
      obtain rfl := nil_of B (by rw [HBB.out, h2])
      clear HBB h1 h2
      go_wp2
      go_ret
      exact ⟨_, rfl, by rw [HE.out, app_data, app_data, HAA.out]; rfl, BE.out⟩
    · have hB0 : ¬ B.toList = [] := fun q => h2 (by rw [← HBB.out, ← ByteArray.toList_eq, q])
      have hB1 : B.toList.isEmpty = false := by cases e : B.toList with | nil => exact absurd e hB0 | cons _ _ => rfl
      have hBq : (⟨#[94]⟩ ++ B : ByteArray).size = 1 + B.size := by simp [ByteArray.size_append]; rfl
      by_cases h3 : (writtenP s.not).length + 1 < (writtenP s).length
      · have HE : Hid (printP s = 91 :: 94 :: writtenP s.not ++ [93]) := printP_no s (.inr ⟨h2, h3⟩)
        have hlt : 1 + B.size < A.size := by rw [Lib.size_eq, Lib.size_eq, HAA.out, HBB.out]; omega
        clear h1 h2 h3
        go_wp2
        go_ret
        exact ⟨_, rfl, by rw [HE.out, app_data, app_data, HBB.out]; rfl, BE.out⟩
      · have HE : Hid (printP s = 91 :: writtenP s ++ [93]) := printP_yes s (by rintro (q | ⟨_, q⟩); exact h1 q; exact h3 q)
        have hlt : ¬ 1 + B.size < A.size := by rw [Lib.size_eq, Lib.size_eq, HAA.out, HBB.out]; omega
        clear h1 h2 h3
        go_wp2
        go_ret
        exact ⟨_, rfl, by rw [HE.out, app_data, app_data, HAA.out]; rfl, BE.out⟩
end Go.Proofs.Ytnhbjjjoocpedaa
