import Derived.Test.YtndmjndokokmnaaPa
import Derived.WalkKit
import Derived.WalkSpells
import Derived.WalkLawsBesides
import Derived.BigRegion
import Derived.Deep.MidRow
import Derived.Deep.WholeRow
import Derived.Deep.Light
import Derived.KernelRfl
import Derived.BigQuiet
import Derived.Deep.QuietTactic
import Derived.Laws.BitsAllLaws
import Derived.Outline
namespace Go.Proofs.Ytndmjndokokmnaa
set_option linter.unusedSimpArgs false
set_option linter.unusedVariables false
open Go.RowKit
/-- The words of s. -/
def S4V (s : S4) (x0 x1 x2 x3 : Int) : Prop := x0 = (s.a.toNat : Int) ∧ x1 = (s.b.toNat : Int) ∧ x2 = (s.c.toNat : Int) ∧ x3 = (s.d.toNat : Int)
theorem S4V.uniq {s : S4} {x0 x1 x2 x3 y0 y1 y2 y3 : Int} (h : S4V s x0 x1 x2 x3) (k : S4V s y0 y1 y2 y3) : x0 = y0 ∧ x1 = y1 ∧ x2 = y2 ∧ x3 = y3 :=
  ⟨h.1.trans k.1.symm, h.2.1.trans k.2.1.symm, h.2.2.1.trans k.2.2.1.symm, h.2.2.2.trans k.2.2.2.symm⟩
theorem or_bv (a b : BitVec 64) : bits .or .u64 (a.toNat : Int) (b.toNat : Int) = ((a ||| b).toNat : Int) := by
  rw [u64_or_nat _ _ a.isLt b.isLt, BitVec.toNat_or]
theorem shl_bv (k : Nat) (h : k < 64) : IntKind.u64.wrap ((2 : Int) ^ k) = ((1#64 <<< k).toNat : Int) := by
  rw [IntKind.wrap_u64, BitVec.toNat_shiftLeft]
  simp [Nat.shiftLeft_eq]
theorem or_shl (a : BitVec 64) (k : Nat) (h : k < 64) : bits .or .u64 (a.toNat : Int) (IntKind.u64.wrap ((2 : Int) ^ k)) = ((a ||| 1#64 <<< k).toNat : Int) := by
  rw [shl_bv k h, or_bv]
theorem run_next (s : S4) (f C : Nat) (h : f ≤ C) : s.run f (C + 1 - f) = (s.run f (C - f)).bit C := by
  rw [show C + 1 - f = (C - f) + 1 by omega]
  show (s.run f (C - f)).bit (f + (C - f)) = _
  rw [show f + (C - f) = C by omega]
theorem with_step (s : S4) (f C : Nat) (y0 y1 y2 y3 : Int) (h : f ≤ C) (hv : Hid (S4V (s.run f (C - f)) y0 y1 y2 y3)) (J : Nat) (hJ : C % 64 = J) (hC : C < 256) :
    Hid ((C < 64 → Hid (S4V (s.run f (C + 1 - f)) (bits .or .u64 y0 (IntKind.u64.wrap ((2 : Int) ^ J))) y1 y2 y3)) ∧
      (64 ≤ C ∧ C < 128 → Hid (S4V (s.run f (C + 1 - f)) y0 (bits .or .u64 y1 (IntKind.u64.wrap ((2 : Int) ^ J))) y2 y3)) ∧
      (128 ≤ C ∧ C < 192 → Hid (S4V (s.run f (C + 1 - f)) y0 y1 (bits .or .u64 y2 (IntKind.u64.wrap ((2 : Int) ^ J))) y3)) ∧
      (192 ≤ C → Hid (S4V (s.run f (C + 1 - f)) y0 y1 y2 (bits .or .u64 y3 (IntKind.u64.wrap ((2 : Int) ^ J)))))) := by
  obtain ⟨rfl, rfl, rfl, rfl⟩ := hv.out
  rw [run_next s f C h]
  generalize s.run f (C - f) = r
  refine ⟨fun c => ?_, fun c => ?_, fun c => ?_, fun c => ?_⟩
  · have e : J = C := by omega
    subst e
    rw [or_shl _ _ (by omega)]
    unfold S4.bit; rw [if_pos c]; exact ⟨rfl, rfl, rfl, rfl⟩
  · rw [or_shl _ _ (by omega)]
    unfold S4.bit; rw [if_neg (by omega), if_pos c.2, show C - 64 = J by omega]; exact ⟨rfl, rfl, rfl, rfl⟩
  · rw [or_shl _ _ (by omega)]
    unfold S4.bit; rw [if_neg (by omega), if_neg (by omega), if_pos c.2, show C - 128 = J by omega]; exact ⟨rfl, rfl, rfl, rfl⟩
  · rw [or_shl _ _ (by omega)]
    unfold S4.bit; rw [if_neg (by omega), if_neg (by omega), if_neg (by omega), show C - 192 = J by omega]; exact ⟨rfl, rfl, rfl, rfl⟩
theorem set4_0 (w : World) (y0 y1 y2 y3 v : Value) (t n : Nat) (Z : Obj) : (((w.alloc (.cells #[y0, y1, y2, y3] t)).alloc Z).drewN n).setCell ⟨w.heap.size, 0, none⟩ v = ((w.alloc (.cells #[v, y1, y2, y3] t)).alloc Z).drewN n := by
  show (((w.alloc (.cells #[y0, y1, y2, y3] t)).alloc Z).setCell ⟨w.heap.size, 0, none⟩ v).drewN n = _
  rw [World.setCell_alloc_past _ _ _ _ (by simp), World.setCell_alloc_at _ _ _ _ _ rfl]; rfl
theorem set4_1 (w : World) (y0 y1 y2 y3 v : Value) (t n : Nat) (Z : Obj) : (((w.alloc (.cells #[y0, y1, y2, y3] t)).alloc Z).drewN n).setCell ⟨w.heap.size, 1, none⟩ v = ((w.alloc (.cells #[y0, v, y2, y3] t)).alloc Z).drewN n := by
  show (((w.alloc (.cells #[y0, y1, y2, y3] t)).alloc Z).setCell ⟨w.heap.size, 1, none⟩ v).drewN n = _
  rw [World.setCell_alloc_past _ _ _ _ (by simp), World.setCell_alloc_at _ _ _ _ _ rfl]; rfl
theorem set4_2 (w : World) (y0 y1 y2 y3 v : Value) (t n : Nat) (Z : Obj) : (((w.alloc (.cells #[y0, y1, y2, y3] t)).alloc Z).drewN n).setCell ⟨w.heap.size, 2, none⟩ v = ((w.alloc (.cells #[y0, y1, v, y3] t)).alloc Z).drewN n := by
  show (((w.alloc (.cells #[y0, y1, y2, y3] t)).alloc Z).setCell ⟨w.heap.size, 2, none⟩ v).drewN n = _
  rw [World.setCell_alloc_past _ _ _ _ (by simp), World.setCell_alloc_at _ _ _ _ _ rfl]; rfl
theorem set4_3 (w : World) (y0 y1 y2 y3 v : Value) (t n : Nat) (Z : Obj) : (((w.alloc (.cells #[y0, y1, y2, y3] t)).alloc Z).drewN n).setCell ⟨w.heap.size, 3, none⟩ v = ((w.alloc (.cells #[y0, y1, y2, v] t)).alloc Z).drewN n := by
  show (((w.alloc (.cells #[y0, y1, y2, y3] t)).alloc Z).setCell ⟨w.heap.size, 3, none⟩ v).drewN n = _
  rw [World.setCell_alloc_past _ _ _ _ (by simp), World.setCell_alloc_at _ _ _ _ _ rfl]; rfl
set_option maxHeartbeats 2000000 in
set_option maxRecDepth 100000 in
theorem with_any14 (s : S4) (f t : Nat) (hf : f < 256) (ht : t < 256) (x0 x1 x2 x3 : Int) (hs : S4V s x0 x1 x2 x3) (w : World) :
    Calls Try.prog 21 #[.agg #[.int .u64 x0, .int .u64 x1, .int .u64 x2, .int .u64 x3], .int .u8 f, .int .u8 t] w fun e w' => ∃ y0 y1 y2 y3, e = .returned (.agg #[.int .u64 y0, .int .u64 y1, .int .u64 y2, .int .u64 y3]) ∧ S4V (s.rng f t) y0 y1 y2 y3 ∧ Below w.heap.size w w' := by
  have HS : Hid (S4V s x0 x1 x2 x3) := hs
  clear hs
  go_enter Try.func21, Try.ntmps21
  go_wp2
  go_loopw [7] (fun s7 wr => ∃ (C n : Nat) (y0 y1 y2 y3 : Int), s7 = .int .i64 C ∧ f ≤ C ∧ Hid (S4V (s.run f (C - f)) y0 y1 y2 y3) ∧ (C = f ∨ C ≤ t + 1) ∧ wr = ((w.alloc (.cells #[.int .u64 y0, .int .u64 y1, .int .u64 y2, .int .u64 y3] 26)).alloc (.cells #[.int .u64 0, .int .u64 0, .int .u64 0, .int .u64 0] 26)).drewN n) (fun s7 _ => 256 - (intOf s7).toNat)
  case atStart =>
    exact ⟨f, 0, x0, x1, x2, x3, rfl, Nat.le_refl _, by rw [Nat.sub_self]; exact HS, .inl rfl, rfl⟩
  case round =>
    obtain ⟨C, n, y0, y1, y2, y3, rfl, hfC, hSV, hCt, rfl⟩ := hrel
    by_cases hlt : C ≤ t
    · have h0 : (0 : Int) ≤ C := by omega
      have h256 : (C : Int) ≤ 255 := by omega
      obtain ⟨J, hJ⟩ : ∃ J : Nat, (C : Int) % 64 = J := ⟨C % 64, by omega⟩
      have hJ64 : J < 64 := by omega
      have HN := with_step s f C y0 y1 y2 y3 hfC hSV J (by omega) (by omega)
      rcases (show C < 64 ∨ (64 ≤ C ∧ C < 128) ∨ (128 ≤ C ∧ C < 192) ∨ 192 ≤ C by omega) with c | c | c | c
      · have hq : (C : Int) / 64 = 0 := by omega
        have HW := HN.out.1 c
        have hf1 : f ≤ C + 1 := by omega
        clear HN hSV hCt c
        go_wp2
        go_region
        go_wp2
        rw [set4_0]
        go_roundw
        case rel => exact ⟨C + 1, _, _, y1, y2, y3, by go_num, hf1, HW, .inr (by omega), rfl⟩
        case measure => simp [intOf]; try omega
      · have hq : (C : Int) / 64 = 1 := by omega
        have HW := HN.out.2.1 c
        have hf1 : f ≤ C + 1 := by omega
        clear HN hSV hCt c
        go_wp2
        go_region
        go_wp2
        rw [set4_1]
        go_roundw
        case rel => exact ⟨C + 1, _, y0, _, y2, y3, by go_num, hf1, HW, .inr (by omega), rfl⟩
        case measure => simp [intOf]; try omega
      · have hq : (C : Int) / 64 = 2 := by omega
        have HW := HN.out.2.2.1 c
        have hf1 : f ≤ C + 1 := by omega
        clear HN hSV hCt c
        go_wp2
        go_region
        go_wp2
        rw [set4_2]
        go_roundw
        case rel => exact ⟨C + 1, _, y0, y1, _, y3, by go_num, hf1, HW, .inr (by omega), rfl⟩
        case measure => simp [intOf]; try omega
      · have hq : (C : Int) / 64 = 3 := by omega
        have HW := HN.out.2.2.2 c
        have hf1 : f ≤ C + 1 := by omega
        clear HN hSV hCt c
        go_wp2
        go_region
        go_wp2
        rw [set4_3]
        go_roundw
        case rel => exact ⟨C + 1, _, y0, y1, y2, _, by go_num, hf1, HW, .inr (by omega), rfl⟩
        case measure => simp [intOf]; try omega
    · have HE : Hid (S4V (s.rng f t) y0 y1 y2 y3) := by
        have : C - f = t + 1 - f := by omega
        rw [this] at hSV; exact hSV
      go_wp2
      exact bodyPost_ret (v := .agg #[.int .u64 y0, .int .u64 y1, .int .u64 y2, .int .u64 y3]) (by simp [results, Try.results21, go_sem]) rfl ⟨y0, y1, y2, y3, rfl, HE.out, by (repeat first | exact Below.refl _ _ | refine Below.setCell ?_ (by simp) _ | refine below_drewN ?_ _ | refine Below.drew ?_ | refine Below.alloc ?_ (by simp) _)⟩
set_option maxHeartbeats 2000000 in
set_option maxRecDepth 100000 in
theorem with_any15 (s : S4) (f t : Nat) (hf : f < 256) (ht : t < 256) (x0 x1 x2 x3 : Int) (hs : S4V s x0 x1 x2 x3) (w : World) :
    Calls Try.prog 22 #[.agg #[.int .u64 x0, .int .u64 x1, .int .u64 x2, .int .u64 x3], .int .u8 f, .int .u8 t] w fun e w' => ∃ y0 y1 y2 y3, e = .returned (.agg #[.int .u64 y0, .int .u64 y1, .int .u64 y2, .int .u64 y3]) ∧ S4V (s.rng f t) y0 y1 y2 y3 ∧ Below w.heap.size w w' := by
  have HS : Hid (S4V s x0 x1 x2 x3) := hs
  clear hs
  go_enter Try.func22, Try.ntmps22
  go_wp2
  go_loopw [7] (fun s7 wr => ∃ (C n : Nat) (y0 y1 y2 y3 : Int), s7 = .int .i64 C ∧ f ≤ C ∧ Hid (S4V (s.run f (C - f)) y0 y1 y2 y3) ∧ (C = f ∨ C ≤ t + 1) ∧ wr = ((w.alloc (.cells #[.int .u64 y0, .int .u64 y1, .int .u64 y2, .int .u64 y3] 24)).alloc (.cells #[.int .u64 0, .int .u64 0, .int .u64 0, .int .u64 0] 24)).drewN n) (fun s7 _ => 256 - (intOf s7).toNat)
  case atStart =>
    exact ⟨f, 0, x0, x1, x2, x3, rfl, Nat.le_refl _, by rw [Nat.sub_self]; exact HS, .inl rfl, rfl⟩
  case round =>
    obtain ⟨C, n, y0, y1, y2, y3, rfl, hfC, hSV, hCt, rfl⟩ := hrel
    by_cases hlt : C ≤ t
    · have h0 : (0 : Int) ≤ C := by omega
      have h256 : (C : Int) ≤ 255 := by omega
      obtain ⟨J, hJ⟩ : ∃ J : Nat, (C : Int) % 64 = J := ⟨C % 64, by omega⟩
      have hJ64 : J < 64 := by omega
      have HN := with_step s f C y0 y1 y2 y3 hfC hSV J (by omega) (by omega)
      rcases (show C < 64 ∨ (64 ≤ C ∧ C < 128) ∨ (128 ≤ C ∧ C < 192) ∨ 192 ≤ C by omega) with c | c | c | c
      · have hq : (C : Int) / 64 = 0 := by omega
        have HW := HN.out.1 c
        have hf1 : f ≤ C + 1 := by omega
        clear HN hSV hCt c
        go_wp2
        try rw [set4_0]
        go_roundw
        case rel => exact ⟨C + 1, _, _, y1, y2, y3, by go_num, hf1, HW, .inr (by omega), rfl⟩
        case measure => simp [intOf]; try omega
      · have hq : (C : Int) / 64 = 1 := by omega
        have HW := HN.out.2.1 c
        have hf1 : f ≤ C + 1 := by omega
        clear HN hSV hCt c
        go_wp2
        try rw [set4_1]
        go_roundw
        case rel => exact ⟨C + 1, _, y0, _, y2, y3, by go_num, hf1, HW, .inr (by omega), rfl⟩
        case measure => simp [intOf]; try omega
      · have hq : (C : Int) / 64 = 2 := by omega
        have HW := HN.out.2.2.1 c
        have hf1 : f ≤ C + 1 := by omega
        clear HN hSV hCt c
        go_wp2
        try rw [set4_2]
        go_roundw
        case rel => exact ⟨C + 1, _, y0, y1, _, y3, by go_num, hf1, HW, .inr (by omega), rfl⟩
        case measure => simp [intOf]; try omega
      · have hq : (C : Int) / 64 = 3 := by omega
        have HW := HN.out.2.2.2 c
        have hf1 : f ≤ C + 1 := by omega
        clear HN hSV hCt c
        go_wp2
        try rw [set4_3]
        go_roundw
        case rel => exact ⟨C + 1, _, y0, y1, y2, _, by go_num, hf1, HW, .inr (by omega), rfl⟩
        case measure => simp [intOf]; try omega
    · have HE : Hid (S4V (s.rng f t) y0 y1 y2 y3) := by
        have : C - f = t + 1 - f := by omega
        rw [this] at hSV; exact hSV
      go_wp2
      exact bodyPost_ret (v := .agg #[.int .u64 y0, .int .u64 y1, .int .u64 y2, .int .u64 y3]) (by simp [results, Try.results22, go_sem]) rfl ⟨y0, y1, y2, y3, rfl, HE.out, by (repeat first | exact Below.refl _ _ | refine Below.setCell ?_ (by simp) _ | refine below_drewN ?_ _ | refine Below.drew ?_ | refine Below.alloc ?_ (by simp) _)⟩
end Go.Proofs.Ytndmjndokokmnaa
namespace Go.Proofs.Ytndmjndokokmnaa
set_option linter.unusedSimpArgs false
set_option linter.unusedVariables false
open Go.RowKit
theorem xor_bv (a : BitVec 64) : bits .xor .u64 IntKind.u64.max (a.toNat : Int) = ((~~~a).toNat : Int) := by
  have e : IntKind.u64.max = ((18446744073709551615 : Nat) : Int) := by decide
  rw [e, bits_xor_u64_nat _ _ (by decide) a.isLt]
  have := BitVec.toNat_xor (BitVec.allOnes 64) a
  rw [BitVec.allOnes_xor] at this
  rw [this, BitVec.toNat_allOnes]
theorem S4V.not {s : S4} {x0 x1 x2 x3 : Int} (h : S4V s x0 x1 x2 x3) : S4V s.not (bits .xor .u64 IntKind.u64.max x0) (bits .xor .u64 IntKind.u64.max x1) (bits .xor .u64 IntKind.u64.max x2) (bits .xor .u64 IntKind.u64.max x3) := by
  obtain ⟨rfl, rfl, rfl, rfl⟩ := h
  exact ⟨xor_bv _, xor_bv _, xor_bv _, xor_bv _⟩
theorem S4V.or {s t : S4} {x0 x1 x2 x3 z0 z1 z2 z3 : Int} (h : S4V s x0 x1 x2 x3) (k : S4V t z0 z1 z2 z3) : S4V (s.or t) (bits .or .u64 x0 z0) (bits .or .u64 x1 z1) (bits .or .u64 x2 z2) (bits .or .u64 x3 z3) := by
  obtain ⟨rfl, rfl, rfl, rfl⟩ := h
  obtain ⟨rfl, rfl, rfl, rfl⟩ := k
  exact ⟨or_bv _ _, or_bv _ _, or_bv _ _, or_bv _ _⟩
set_option maxHeartbeats 2000000 in
set_option maxRecDepth 100000 in
theorem not_any16 (s : S4) (x0 x1 x2 x3 : Int) (hs : S4V s x0 x1 x2 x3) (w : World) :
    Calls Try.prog 23 #[.agg #[.int .u64 x0, .int .u64 x1, .int .u64 x2, .int .u64 x3]] w fun e w' => ∃ y0 y1 y2 y3, e = .returned (.agg #[.int .u64 y0, .int .u64 y1, .int .u64 y2, .int .u64 y3]) ∧ S4V s.not y0 y1 y2 y3 ∧ Below w.heap.size w w' := by
  have HS : Hid (S4V s x0 x1 x2 x3) := hs
  clear hs
  go_enter Try.func23, Try.ntmps23
  go_wp2
  refine wp_loop_rounds 5 ?_
  rw [rounds_succ]
  go_wp2
  rw [rounds_succ]
  go_wp2
  rw [rounds_succ]
  go_wp2
  rw [rounds_succ]
  go_wp2
  rw [rounds_succ]
  go_wp2
  exact bodyPost_ret (v := .agg #[.int .u64 (bits .xor .u64 IntKind.u64.max x0), .int .u64 (bits .xor .u64 IntKind.u64.max x1), .int .u64 (bits .xor .u64 IntKind.u64.max x2), .int .u64 (bits .xor .u64 IntKind.u64.max x3)]) (by simp [results, Try.results23, go_sem]) rfl ⟨_, _, _, _, rfl, HS.out.not, by (repeat first | exact Below.refl _ _ | refine Below.setCell ?_ (by simp) _ | refine below_drewN ?_ _ | refine Below.drew ?_ | refine Below.alloc ?_ (by simp; try omega) _)⟩
set_option maxHeartbeats 2000000 in
set_option maxRecDepth 100000 in
theorem not_any17 (s : S4) (x0 x1 x2 x3 : Int) (hs : S4V s x0 x1 x2 x3) (w : World) :
    Calls Try.prog 24 #[.agg #[.int .u64 x0, .int .u64 x1, .int .u64 x2, .int .u64 x3]] w fun e w' => ∃ y0 y1 y2 y3, e = .returned (.agg #[.int .u64 y0, .int .u64 y1, .int .u64 y2, .int .u64 y3]) ∧ S4V s.not y0 y1 y2 y3 ∧ Below w.heap.size w w' := by
  have HS : Hid (S4V s x0 x1 x2 x3) := hs
  clear hs
  go_enter Try.func24, Try.ntmps24
  go_wp2
  refine wp_loop_rounds 5 ?_
  rw [rounds_succ]
  go_wp2
  rw [rounds_succ]
  go_wp2
  rw [rounds_succ]
  go_wp2
  rw [rounds_succ]
  go_wp2
  rw [rounds_succ]
  go_wp2
  exact bodyPost_ret (v := .agg #[.int .u64 (bits .xor .u64 IntKind.u64.max x0), .int .u64 (bits .xor .u64 IntKind.u64.max x1), .int .u64 (bits .xor .u64 IntKind.u64.max x2), .int .u64 (bits .xor .u64 IntKind.u64.max x3)]) (by simp [results, Try.results24, go_sem]) rfl ⟨_, _, _, _, rfl, HS.out.not, by (repeat first | exact Below.refl _ _ | refine Below.setCell ?_ (by simp) _ | refine below_drewN ?_ _ | refine Below.drew ?_ | refine Below.alloc ?_ (by simp; try omega) _)⟩
set_option maxHeartbeats 2000000 in
set_option maxRecDepth 100000 in
theorem or_any31 (s t : S4) (x0 x1 x2 x3 z0 z1 z2 z3 : Int) (hs : S4V s x0 x1 x2 x3) (ht : S4V t z0 z1 z2 z3) (w : World) :
    Calls Try.prog 79 #[.agg #[.int .u64 x0, .int .u64 x1, .int .u64 x2, .int .u64 x3], .agg #[.int .u64 z0, .int .u64 z1, .int .u64 z2, .int .u64 z3]] w fun e w' => ∃ y0 y1 y2 y3, e = .returned (.agg #[.int .u64 y0, .int .u64 y1, .int .u64 y2, .int .u64 y3]) ∧ S4V (s.or t) y0 y1 y2 y3 ∧ Below w.heap.size w w' := by
  have HS : Hid (S4V s x0 x1 x2 x3) := hs
  have HT : Hid (S4V t z0 z1 z2 z3) := ht
  clear hs ht
  go_enter Try.func79, Try.ntmps79
  go_wp2
  refine wp_loop_rounds 5 ?_
  rw [rounds_succ]
  go_wp2
  go_region
  go_wp2
  rw [rounds_succ]
  go_wp2
  go_region
  go_wp2
  rw [rounds_succ]
  go_wp2
  go_region
  go_wp2
  rw [rounds_succ]
  go_wp2
  go_region
  go_wp2
  rw [rounds_succ]
  go_wp2
  exact bodyPost_ret (v := .agg #[.int .u64 (bits .or .u64 x0 z0), .int .u64 (bits .or .u64 x1 z1), .int .u64 (bits .or .u64 x2 z2), .int .u64 (bits .or .u64 x3 z3)]) (by simp [results, Try.results79, go_sem]) rfl ⟨_, _, _, _, rfl, HS.out.or HT.out, by (repeat first | exact Below.refl _ _ | refine Below.setCell ?_ (by simp) _ | refine below_drewN ?_ _ | refine Below.drew ?_ | refine Below.alloc ?_ (by simp; try omega) _)⟩
set_option maxHeartbeats 2000000 in
set_option maxRecDepth 100000 in
theorem or_any27 (s t : S4) (x0 x1 x2 x3 z0 z1 z2 z3 : Int) (hs : S4V s x0 x1 x2 x3) (ht : S4V t z0 z1 z2 z3) (w : World) :
    Calls Try.prog 59 #[.agg #[.int .u64 x0, .int .u64 x1, .int .u64 x2, .int .u64 x3], .agg #[.int .u64 z0, .int .u64 z1, .int .u64 z2, .int .u64 z3]] w fun e w' => ∃ y0 y1 y2 y3, e = .returned (.agg #[.int .u64 y0, .int .u64 y1, .int .u64 y2, .int .u64 y3]) ∧ S4V (s.or t) y0 y1 y2 y3 ∧ Below w.heap.size w w' := by
  have HS : Hid (S4V s x0 x1 x2 x3) := hs
  have HT : Hid (S4V t z0 z1 z2 z3) := ht
  clear hs ht
  go_enter Try.func59, Try.ntmps59
  go_wp2
  refine wp_loop_rounds 5 ?_
  rw [rounds_succ]
  go_wp2
  go_region
  go_wp2
  rw [rounds_succ]
  go_wp2
  go_region
  go_wp2
  rw [rounds_succ]
  go_wp2
  go_region
  go_wp2
  rw [rounds_succ]
  go_wp2
  go_region
  go_wp2
  rw [rounds_succ]
  go_wp2
  exact bodyPost_ret (v := .agg #[.int .u64 (bits .or .u64 x0 z0), .int .u64 (bits .or .u64 x1 z1), .int .u64 (bits .or .u64 x2 z2), .int .u64 (bits .or .u64 x3 z3)]) (by simp [results, Try.results59, go_sem]) rfl ⟨_, _, _, _, rfl, HS.out.or HT.out, by (repeat first | exact Below.refl _ _ | refine Below.setCell ?_ (by simp) _ | refine below_drewN ?_ _ | refine Below.drew ?_ | refine Below.alloc ?_ (by simp; try omega) _)⟩
end Go.Proofs.Ytndmjndokokmnaa
