import Derived.Test.YtffhjjgkoapioaaDoorMk
import Derived.Test.YtffhjjgkoapioaaDoorMe
namespace Go.Proofs.YtffhjjgkoapioaaDoor
set_option linter.unusedSimpArgs false
set_option linter.unusedVariables false
open Go.RowKit
attribute [local go_sem ↓] Go.wp_at_zero Go.wp_at_succ
set_option maxRecDepth 100000 in
theorem forIn_seek {β : Type} {P : Program} (w : World) (f : Nat → β → Sem (ForInStep β)) (g : Nat → Bool) (b c : β) : ∀ (n s : Nat), (∀ j, s ≤ j ∧ j < s + n → g j = true → (f j b).run P w = .ok (.yield b) w) → (∀ j, s ≤ j ∧ j < s + n → g j = false → (f j b).run P w = .ok (.done c) w) → (forIn (List.range' s n) b f).run P w = .ok (if (List.range' s n).all g = true then b else c) w
  | 0, s, _, _ => by simp
  | n + 1, s, h1, h2 => by
    rw [List.range'_succ, List.forIn_cons, Sem.run_bind]
    cases hg : g s with
    | true =>
      rw [h1 s ⟨by omega, by omega⟩ hg]
      simp only [Result.andThen_ok]
      rw [forIn_seek w f g b c n (s + 1) (fun j hj => h1 j ⟨by omega, by omega⟩) (fun j hj => h2 j ⟨by omega, by omega⟩), List.all_cons, hg, Bool.true_and]
    | false =>
      rw [h2 s ⟨by omega, by omega⟩ hg]
      simp [hg]
set_option maxRecDepth 100000 in
theorem all_same (a b : List Int) (ha : a.length = 32) (hb : b.length = 32) : (List.range' 0 32).all (fun j => decide (gi a j = gi b j)) = decide (a = b) := by
  rw [Bool.eq_iff_iff, List.all_eq_true]
  simp only [decide_eq_true_eq]
  constructor
  · intro h
    apply List.ext_getElem (by omega)
    intro i h1 h2
    have := h i (by simp; omega)
    simpa [gi, h1, h2] using this
  · rintro rfl j _; rfl
set_option maxRecDepth 100000 in
theorem eq24_any (d : Nat) (l m : List Int) (hl : l.length = 32) (hm : m.length = 32) (w : World) : (Op.equalIn (d + 2) 24 (.agg (vB l)) (.agg (vB m))).run Tryd.prog w = .ok (decide (l = m)) w := by
  have hs : (Tryd.prog.info? 5).map (·.size) = some 1 := by kernel_rfl
  have hagg : (isAgg 5).run Tryd.prog w = .ok false w := by
    unfold isAgg; rw [Sem.run_bind, run_underlying Tryd.underlying5 w]; rfl
  cases hi : Tryd.prog.info? 5 with
  | none => simp [hi] at hs
  | some i =>
    have hz : i.size = 1 := by simpa [hi] using hs
    have hpart : ∀ (l : List Int), l.length = 32 → ∀ j, j < 32 → (part 5 (vB l) j).run Tryd.prog w = .ok (.int .u8 (gi l j)) w := fun l hl j hj => by
      have hq := vB_at l j (by omega)
      simp [part, hagg, hq]
    unfold Op.equalIn
    simp only [Sem.run_bind, run_underlying Tryd.underlying24, Result.andThen_ok]
    have hso : (sizeOf 5).run Tryd.prog w = .ok 1 w := by simp [sizeOf, typeInfo, hi, hz]
    simp only [hso, Result.andThen_ok, Std.Legacy.Range.forIn_eq_forIn_range']
    rw [show ([:32] : Std.Legacy.Range).size = 32 from rfl, forIn_seek _ _ (fun j => decide (gi l j = gi m j)) (none, ()) (some false, ()) 32 0]
    · rw [all_same l m hl hm]
      by_cases h : l = m <;> simp [h]
    · intro j hj hg
      have hp := hpart l hl j (by omega)
      have hp2 := hpart m hm j (by omega)
      have he : (Op.equalIn (d + 1) 5 (.int .u8 (gi l j)) (.int .u8 (gi m j))).run Tryd.prog w = .ok true w := by
        rw [run_equalIn_int w d 5 .u8 .u8 _ _ Tryd.underlying5]
        have := of_decide_eq_true hg
        simp [this]
      simp [Sem.run_bind, hp, hp2, he]
    · intro j hj hg
      have hp := hpart l hl j (by omega)
      have hp2 := hpart m hm j (by omega)
      have he : (Op.equalIn (d + 1) 5 (.int .u8 (gi l j)) (.int .u8 (gi m j))).run Tryd.prog w = .ok false w := by
        rw [run_equalIn_int w d 5 .u8 .u8 _ _ Tryd.underlying5]
        have := of_decide_eq_false hg
        simp [this]
      simp [Sem.run_bind, hp, hp2, he]
set_option maxRecDepth 100000 in
set_option maxHeartbeats 1000000 in
theorem rdepth_any (n i : Int) (w : World) : Calls Tryd.prog 43 #[.int .i64 n, .int .i64 i] w fun e w' => e = .returned (.int .i64 (depthI n i)) ∧ w' = w := by
  by_cases hb : i < 0 ∨ n ≤ i ∨ 1073741824 < n
  · have hd : depthI n i = -1 := by unfold depthI; rw [if_pos hb]
    have HD : Hid (depthI n i = -1) := hd
    clear hd
    by_cases h1 : 1073741824 < n
    · go_enter Tryd.func43, Tryd.ntmps43
      go_wp2
      go_ret
      exact ⟨by rw [HD.out]; rfl, rfl⟩
    · by_cases h2 : i < 0
      · go_enter Tryd.func43, Tryd.ntmps43
        go_wp2
        go_ret
        exact ⟨by rw [HD.out]; rfl, rfl⟩
      · have h3 : n ≤ i := by omega
        go_enter Tryd.func43, Tryd.ntmps43
        go_wp2
        go_ret
        exact ⟨by rw [HD.out]; rfl, rfl⟩
  · have hd : depthI n i = depthN n.toNat i.toNat := by unfold depthI; rw [if_neg hb]
    obtain ⟨N, rfl⟩ : ∃ N : Nat, n = N := ⟨n.toNat, by omega⟩
    obtain ⟨I, rfl⟩ : ∃ I : Nat, i = I := ⟨i.toNat, by omega⟩
    have HD : Hid (depthI N I = depthN N I) := by unfold Hid; rw [hd]; simp
    have hI : I < N := by omega
    have hN : N ≤ 1073741824 := by omega
    clear hd hb
    go_enter Tryd.func43, Tryd.ntmps43
    go_wp2
    generalize decide (N ≤ I) = q12
    generalize decide ((I : Int) < 0) = q8
    generalize decide (1073741824 < (N : Int)) = q16
    go_loop [0, 1, 5] (fun x y d => ∃ m j k : Nat, j < m ∧ m ≤ N ∧ x = .int .i64 m ∧ y = .int .i64 j ∧ d = .int .i64 k ∧ Hid (depthN N I = depthN m j + k) ∧ k + m ≤ N) (fun x _ _ => (intOf x).toNat)
    case atStart => exact ⟨N, I, 0, hI, Nat.le_refl _, rfl, rfl, rfl, rfl, by omega⟩
    case round =>
      obtain ⟨m, j, k, hj, hm, rfl, rfl, rfl, HR, hk⟩ := hrel
      by_cases hlt : 2 ≤ m
      · have hp := halfN_pos m
        have hl := halfN_lt m hlt
        have HL : Hid (j < halfN m → depthN m j = depthN (halfN m) j + 1) := depthN_lo m j hlt
        have HH : Hid (¬ j < halfN m → depthN m j = depthN (m - halfN m) (j - halfN m) + 1) := depthN_hi m j hlt
        have C : Hid (∀ w : World, Calls Tryd.prog 66 #[.int .i64 m] w fun e w' => e = .returned (.int .i64 (halfN m)) ∧ w' = w) := fun w => half_any m hlt (by omega) w
        generalize halfN m = x at *
        by_cases hx : j < x
        · go_wp2_with (go_at_call 66; refine (C.out _).mono ?_; rintro e w' ⟨rfl, rfl⟩)
          go_round
          case rel => exact ⟨x, j, k + 1, hx, by omega, rfl, rfl, by go_num, by unfold Hid; rw [HR.out, HL.out hx]; omega, by omega⟩
          case measure => simp [intOf]; omega
        · go_wp2_with (go_at_call 66; refine (C.out _).mono ?_; rintro e w' ⟨rfl, rfl⟩)
          go_round
          case rel => exact ⟨m - x, j - x, k + 1, by omega, by omega, by go_num, by go_num, by go_num, by unfold Hid; rw [HR.out, HH.out hx]; omega, by omega⟩
          case measure => simp [intOf]; omega
      · have HO : Hid (depthN m j = 0) := depthN_one m j (by omega)
        go_wp2
        go_ret
        exact ⟨by rw [HD.out, HR.out, HO.out]; show Ending.returned (.int .i64 k) = _; rw [Nat.zero_add], rfl⟩
/-- The root to which a proof of d hashes leads. -/
def leadD : Nat → List Int → Nat → Nat → List (List Int) → List Int
  | 0, leaf, _, _, _ => leaf
  | d + 1, leaf, n, i, pr => if i < halfN n then nodeH (leadD d leaf (halfN n) i pr) (pr[d]?.getD []) else nodeH (pr[d]?.getD []) (leadD d leaf (n - halfN n) (i - halfN n) pr)
set_option maxRecDepth 100000 in
theorem leadD_take (d : Nat) : ∀ (k : Nat) (leaf : List Int) (n i : Nat) (pr : List (List Int)), d ≤ k → leadD d leaf n i (pr.take k) = leadD d leaf n i pr := by
  induction d with
  | zero => intro k leaf n i pr _; rfl
  | succ d ih =>
    intro k leaf n i pr h
    have e : (pr.take k)[d]? = pr[d]? := by rw [List.getElem?_take, if_pos (by omega)]
    unfold leadD
    rw [e, ih k _ _ _ _ (by omega), ih k _ _ _ _ (by omega)]
set_option maxRecDepth 100000 in
theorem leadD_hash (d : Nat) (leaf : List Int) (n i : Nat) (pr : List (List Int)) (h : leaf.length = 32 ∧ Bytes leaf) : (leadD d leaf n i pr).length = 32 ∧ Bytes (leadD d leaf n i pr) := by
  cases d with
  | zero => exact h
  | succ d =>
    unfold leadD
    split <;> exact ⟨nodeH_length _ _, hashOf_bytes _⟩
end Go.Proofs.YtffhjjgkoapioaaDoor
