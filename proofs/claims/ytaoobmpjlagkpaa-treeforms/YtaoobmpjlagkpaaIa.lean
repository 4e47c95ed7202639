import Derived.Test.YtaoobmpjlagkpaaHd
import Derived.Test.YtaoobmpjlagkpaaTd
import Derived.Test.YtaoobmpjlagkpaaTe
namespace Go.Proofs.Ytaoobmpjlagkpaa
set_option linter.unusedSimpArgs false
set_option linter.unusedVariables false
open Go.RowKit
open Go.Deep
theorem storeA {ops : Array Oper} {rest : List Oper} {o : Oper} {a : Act} {w : World} {Q : Exit → Act → World → Prop} (hgd : o.guard = none) (x y : Operand) (ho : o.op = .store 76 x y) (hx : a.eval x = .pointer (some ⟨w.heap.size, 0, none⟩)) (e : List Bool) (hl : e.length = 10) (hy : a.eval y = .agg (e.map Value.bool).toArray)
    (h : wpList Try.prog ops Q rest (a.put o.dst undef) (w.alloc (.cells (e.map Value.bool).toArray 76))) : wpList Try.prog ops Q (o :: rest) a (w.alloc (.cells #[.bool false, .bool false, .bool false, .bool false, .bool false, .bool false, .bool false, .bool false, .bool false, .bool false] 76)) := by
  refine wpList_store_row hgd 76 x y ho w.heap.size _ hx hy 76 _ (heap_alloc_last w _) (by rw [size76]; simp [hl]) (by simp [hl]) (all_oneCell_toArray (bools_one e)) ?_
  rw [World.setRow_alloc_new]
  exact h
set_option maxHeartbeats 4000000 in
set_option maxRecDepth 100000 in
theorem rformed_any (t : T) (w : World) (u : Value) (hu : SV AnyB w u t.kids) (hc : countT t ≤ 1000000) : Calls Try.prog 32 #[vN t.hd u] w fun e w' => e = .returned (.bool (formedT t)) ∧ Below w.heap.size w w' := by
  have HF := formed_walk t
  have hdl := deep_le.1 t
  have CNT : Hid (∀ W, Below w.heap.size w W → Calls Try.prog 34 #[vN t.hd u] W fun e w' => e = .returned (.int .i64 ((countT t : Nat) : Int)) ∧ Below W.heap.size W w') := fun W hW => rcount_any t W u (hu.below hW) hc
  have DEP : Hid (∀ W, Below w.heap.size w W → Calls Try.prog 36 #[vN t.hd u] W fun e w' => e = .returned (.int .i64 ((deepT t : Nat) : Int)) ∧ Below W.heap.size W w') := fun W hW => rdeep_any t W u (hu.below hW) hc
  have WALK : Hid (∀ W, Below w.heap.size w W → Calls Try.prog 55 #[vN t.hd u, .int .i64 0, .agg #[.bool false, .bool false, .bool false, .bool false, .bool false, .bool false, .bool false, .bool false, .bool false, .bool false]] W (WalkO (walkT t gs0) W)) := fun W hW => walk_any t gs0 W u gs0_ok (hu.below hW)
  obtain ⟨hd, l, rfl⟩ := t.out
  rw [T.kids_mk] at hu
  rw [T.hd_mk] at CNT DEP WALK ⊢
  have B0 : Hid (Below w.heap.size w (w.alloc (.cells (cN hd u).toArray 51))) := (Below.refl _ _).alloc (Nat.le_refl _) _
  have X0 : Hid (BoxN 51 (w.alloc (.cells (cN hd u).toArray 51)) w.heap.size hd u) := BoxN.new 51 w hd u
  generalize formedT (T.mk hd l) = R at *
  generalize hC : countT (T.mk hd l) = C at *
  generalize hD : deepT (T.mk hd l) = D at *
  generalize hW : walkT (T.mk hd l) gs0 = Z at *
  clear hu hC hD hW
  obtain ⟨k, c, x0, x1, x2, x3, nn, lo, hi⟩ := hd
  change Calls Try.prog 32 #[.agg #[.int .i64 k, .int .u8 (c : Int), .int .u64 (x0 : Int), .int .u64 x1, .int .u64 x2, .int .u64 x3, .int .i64 nn, .int .i64 lo, .int .i64 hi, u]] w _
  by_cases hc2 : 200 < C
  · have i1 : (200 : Int) < (C : Int) := by omega
    have HR : Hid (R = false) := by unfold Hid; rw [HF, decide_eq_false (by omega)]; rfl
    clear HF
    go_enter Try.func32, Try.ntmps32
    go_wp2_with (first | (refine loadN51 rfl _ rfl w.heap.size 0 rfl ⟨k, c, x0, x1, x2, x3, nn, lo, hi⟩ _ X0.out.range ?_) | (go_at_call 34; refine (CNT.out _ B0.out).mono ?_; rintro e w1 ⟨rfl, b1⟩))
    go_ret
    exact ⟨by rw [HR.out]; rfl, B0.out.trans (b1.mono B0.out.size)⟩
  · have i1 : ¬ (200 : Int) < (C : Int) := by omega
    by_cases hd2 : 10 < D
    · have i2 : (10 : Int) < (D : Int) := by omega
      have HR : Hid (R = false) := by unfold Hid; rw [HF, decide_eq_false (by omega)]; rfl
      clear HF
      go_enter Try.func32, Try.ntmps32
      go_wp2_with (first | (refine loadN51 rfl _ rfl w.heap.size 0 rfl ⟨k, c, x0, x1, x2, x3, nn, lo, hi⟩ _ X0.out.range ?_) | (go_at_call 34; refine (CNT.out _ B0.out).mono ?_; rintro e w1 ⟨rfl, b1⟩; have B1 := B0.out.trans (b1.mono B0.out.size); have X1 := X0.out.below b1 X0.out.lt) | (refine loadN51g (by simp [Region.wanted, yielded, i1]) _ rfl w.heap.size 0 rfl ⟨k, c, x0, x1, x2, x3, nn, lo, hi⟩ _ X1.range ?_) | (go_at_call 36; refine (DEP.out _ B1).mono ?_; rintro e w2 ⟨rfl, b2⟩))
      go_ret
      exact ⟨by rw [HR.out]; rfl, B1.trans (b2.mono B1.size)⟩
    · have i2 : ¬ (10 : Int) < (D : Int) := by omega
      have HR : Hid (R = Z.isSome) := by unfold Hid; rw [HF, decide_eq_true (by omega)]; rfl
      clear HF
      go_enter Try.func32, Try.ntmps32
      go_wp2_with (first | (refine loadN51 rfl _ rfl w.heap.size 0 rfl ⟨k, c, x0, x1, x2, x3, nn, lo, hi⟩ _ X0.out.range ?_) | (go_at_call 34; refine (CNT.out _ B0.out).mono ?_; rintro e w1 ⟨rfl, b1⟩; have B1 := B0.out.trans (b1.mono B0.out.size); have X1 := X0.out.below b1 X0.out.lt) | (refine loadN51g (by simp [Region.wanted, yielded, i1]) _ rfl w.heap.size 0 rfl ⟨k, c, x0, x1, x2, x3, nn, lo, hi⟩ _ X1.range ?_) | (go_at_call 36; refine (DEP.out _ B1).mono ?_; rintro e w2 ⟨rfl, b2⟩; have B2 := B1.trans (b2.mono B1.size); have X2 := X1.below b2 X1.lt) | (refine loadN51 rfl _ rfl w.heap.size 0 rfl ⟨k, c, x0, x1, x2, x3, nn, lo, hi⟩ _ X2.range ?_) | (go_at_call 55; refine (WALK.out _ B2).mono ?_; rintro e w3 ⟨ok, ⟨sb, se⟩, rfl, hl, hr, b3⟩) | (refine storeA rfl _ _ rfl rfl se hl rfl ?_))
      go_ret
      refine ⟨?_, (B2.trans (b3.mono B2.size)).alloc (by have := B2.size; have := b3.size; omega) _⟩
      rw [HR.out]
      cases ok with
      | true => rw [(if_pos rfl : (if true = true then _ else _) = _).mp hr]; rfl
      | false => rw [(if_neg (by simp) : (if false = true then _ else _) = _).mp hr]; rfl
end Go.Proofs.Ytaoobmpjlagkpaa
