import Derived.Test.YtffhjjgkoapioaaDoorMe
import Derived.Test.YtffhjjgkoapioaaDoorMk
namespace Go.Proofs.YtffhjjgkoapioaaDoor
set_option linter.unusedSimpArgs false
set_option linter.unusedVariables false
open Go.RowKit
attribute [local go_sem ↓] Go.wp_at_zero Go.wp_at_succ
theorem eq24_all (l : List Int) (hl : l.length = 32) : ∀ w' : World, (Op.equalIn 10000 24 (.agg (vB l)) (.agg (vB l))).run Tryd.prog w' = .ok true w' := fun w' => eq24_self 9998 l hl w'
theorem below_drew {B : Nat} {w w' : World} (h : Below B w w') : Below B w w'.drew := ⟨h.os, h.tape, h.output, h.size, h.block⟩
/-- What lies there still lies there, and so do these cells. -/
def Held (w : World) (b o : Nat) (cs : List Value) (w' : World) : Prop := Below w.heap.size w w' ∧ w'.rangeAt b o cs
theorem Held.drew {w w' : World} {b o : Nat} {cs : List Value} (h : Below w.heap.size w w' ∧ w'.rangeAt b o cs) : Below w.heap.size w w'.drew ∧ w'.drew.rangeAt b o cs := ⟨below_drew h.1, h.2⟩
theorem Held.of {w w' : World} {b o : Nat} {cs : List Value} (h : w.rangeAt b o cs) (hb : b < w.heap.size) (k : Below w.heap.size w w') : Below w.heap.size w w' ∧ w'.rangeAt b o cs := ⟨k, range_below h k hb⟩
set_option maxRecDepth 100000 in
set_option maxHeartbeats 2000000 in
theorem halves_in (b o n cp : Nat) (hs : List (List Int)) (w : World) (hL : Laid w) (hn : hs.length = n) (h2n : 2 ≤ n) (hle : n ≤ 150) (hcp : n ≤ cp) (hcp2 : cp ≤ 9223372036854775807) (hr : w.rangeAt b o (vB hs.flatten).toList) (hb : b < w.heap.size) (hH : Hashes hs) :
    Calls Tryd.prog 12 #[.slice (some ⟨b, o, none⟩) n cp] w fun e w' => e = .returned (.bool true) ∧ Below w.heap.size w w' := by
  have h2 := hL.two
  obtain ⟨h0, hs', rfl⟩ : ∃ h0 hs', hs = h0 :: hs' := by
    cases hs with
    | nil => simp at hn; omega
    | cons x l => exact ⟨x, l, rfl⟩
  have hh0 := hH h0 (by simp)
  have hk1 := halfN_pos n
  have hk2 := halfN_lt n h2n
  have hk3 := halfN_ge n h2n
  obtain ⟨R0, hR0⟩ : ∃ R, R = overH (h0 :: hs') := ⟨_, rfl⟩
  obtain ⟨L, hLq⟩ : ∃ L, L = overH ((h0 :: hs').take (halfN n)) := ⟨_, rfl⟩
  obtain ⟨R, hRq⟩ : ∃ R, R = overH ((h0 :: hs').drop (halfN n)) := ⟨_, rfl⟩
  have hRh0 : R0.length = 32 := by rw [hR0]; exact (overH_hash _ hH).1
  have hLh : L.length = 32 := by rw [hLq]; exact (overH_hash _ (hH.take _)).1
  have hRh : R.length = 32 := by rw [hRq]; exact (overH_hash _ (hH.drop _)).1
  have hnode : nodeH L R = R0 := by rw [hLq, hRq, hR0, overH_more (h0 :: hs') (by omega), hn]
  have hone : overH ((h0 :: hs').take 1) = h0 := by rw [overH_one _ (by simp)]; rfl
  have C0 : Hid (∀ w', Below w.heap.size w w' → Calls Tryd.prog 36 #[.slice (some ⟨b, o, none⟩) n cp] w' fun e w'' => e = .returned (.agg (vB R0)) ∧ Below w.heap.size w w'') := fun w' k => by
    have hp := ListAt.take hn (range_below hr k hb) hH (Nat.lt_of_lt_of_le hb k.size) hcp2 hcp n (Nat.le_refl _)
    rw [List.take_of_length_le (by omega)] at hp
    refine (over_any n _ (h0 :: hs') w' (by omega) (by omega) hH (hL.below k h2) hp).mono ?_
    rintro e w5 ⟨rfl, b5⟩
    exact ⟨by rw [hR0], k.trans (b5.mono k.size)⟩
  have C1 : Hid (∀ w', Below w.heap.size w w' → Calls Tryd.prog 36 #[.slice (some ⟨b, o, none⟩) (halfN n) cp] w' fun e w'' => e = .returned (.agg (vB L)) ∧ Below w.heap.size w w'') := fun w' k => by
    have hp := ListAt.take hn (range_below hr k hb) hH (Nat.lt_of_lt_of_le hb k.size) hcp2 hcp (halfN n) (by omega)
    refine (over_any n _ _ w' (by simp; simp at hn; omega) (by simp; omega) (hH.take _) (hL.below k h2) hp).mono ?_
    rintro e w5 ⟨rfl, b5⟩
    exact ⟨by rw [hLq], k.trans (b5.mono k.size)⟩
  have C2 : Hid (∀ w', Below w.heap.size w w' → Calls Tryd.prog 36 #[.slice (some ⟨b, o + halfN n * 32, none⟩) (n - halfN n) (cp - halfN n)] w' fun e w'' => e = .returned (.agg (vB R)) ∧ Below w.heap.size w w'') := fun w' k => by
    have hp := ListAt.drop hn (range_below hr k hb) hH (Nat.lt_of_lt_of_le hb k.size) hcp2 hcp (halfN n) (by omega)
    refine (over_any n _ _ w' (by simp; simp at hn; omega) (by simp; simp at hn; omega) (hH.drop _) (hL.below k h2) hp).mono ?_
    rintro e w5 ⟨rfl, b5⟩
    exact ⟨by rw [hRq], k.trans (b5.mono k.size)⟩
  have C3 : Hid (∀ w', Below w.heap.size w w' → Calls Tryd.prog 36 #[.slice (some ⟨b, o, none⟩) 1 cp] w' fun e w'' => e = .returned (.agg (vB h0)) ∧ Below w.heap.size w w'') := fun w' k => by
    have hp := ListAt.take hn (range_below hr k hb) hH (Nat.lt_of_lt_of_le hb k.size) hcp2 hcp 1 (by omega)
    refine (over_any n _ _ w' (by simp; omega) (by simp) (hH.take _) (hL.below k h2) hp).mono ?_
    rintro e w5 ⟨rfl, b5⟩
    exact ⟨by rw [hone], k.trans (b5.mono k.size)⟩
  have C4 : Hid (∀ w', Below w.heap.size w w' → Calls Tryd.prog 34 #[.agg (vB L), .agg (vB R)] w' fun e w'' => e = .returned (.agg (vB R0)) ∧ Below w.heap.size w w'') := fun w' k => by
    refine (node_any L R hLh hRh w' (hL.below k h2)).mono ?_
    rintro e w5 ⟨rfl, b5⟩
    exact ⟨by rw [hnode], k.trans (b5.mono k.size)⟩
  have e24 := eq24_all R0 hRh0
  have e24' : ∀ w' : World, (Op.equalIn 10000 24 (.agg (vB h0)) (.agg (List.map (Value.int .u8) h0).toArray)).run Tryd.prog w' = .ok true w' := eq24_all h0 hh0.1
  have hr0 : w.rangeAt b o (List.map (Value.int .u8) h0) := by
    have := range_take hr 32
    rwa [List.flatten_cons, List.take_left' hh0.1] at this
  have hu := Tryd.underlying24
  have hcl : (List.map (Value.int .u8) h0).length = 32 := by simpa using hh0.1
  have hi : (Tryd.prog.info? 24).map (·.size) = some (List.map (Value.int .u8) h0).length := by rw [hcl]; kernel_rfl
  have HO : Hid (∀ j, 2 ^ j < n → ¬ 2 * 2 ^ j < n → halfN n = 2 ^ j) := fun j h1 h3 => halfN_of n j h2n h1 (by omega)
  have HR0 : Hid (w.rangeAt b o (List.map (Value.int .u8) h0)) := hr0
  clear hnode hone hLq hRq hR0 hH hr hh0 hr0 hn
  generalize halfN n = k at *
  go_enter Tryd.func12, Tryd.ntmps12
  go_wp2_with (first | (go_at_call 27; refine (awake2_any _).mono ?_; rintro e w1 ⟨rfl, b1⟩))
  go_loop [3] (fun x => ∃ j : Nat, 2 ^ j < n ∧ x = .int .i64 ((2 ^ j : Nat) : Int)) (fun x => n - (intOf x).toNat)
  case atStart => exact ⟨0, by omega, rfl⟩
  case round =>
    obtain ⟨j, hj, rfl⟩ := hrel
    have hp := Nat.two_pow_pos j
    have HE : Hid (2 ^ (j + 1) = 2 * 2 ^ j) := by unfold Hid; rw [Nat.pow_succ]; omega
    have HO' : Hid (¬ 2 * 2 ^ j < n → k = 2 ^ j) := fun hlt => HO.out j hj hlt
    obtain ⟨x, hx⟩ : ∃ x : Nat, 2 ^ j = x := ⟨_, rfl⟩
    rw [hx] at hj hp HO' ⊢
    have HX : Hid (2 ^ j = x) := hx
    clear hx HO
    by_cases hlt : 2 * x < n
    · clear C0 C1 C2 C3 C4 e24 e24' hi hu HO'
      go_wp2
      go_round
      case rel => exact ⟨j + 1, by rw [HE.out, HX.out]; exact hlt, by rw [HE.out, HX.out]; go_num⟩
      case measure => simp [intOf]; omega
    · obtain rfl := HO'.out hlt
      have i1 : (0 : Int) ≤ (k : Int) := by omega
      have i2 : (k : Int) ≤ (n : Int) := by omega
      have i3 : (k : Int) ≤ (cp : Int) := by omega
      have i4 : (n : Int) ≤ (cp : Int) := by omega
      have i5 : (1 : Int) ≤ (cp : Int) := by omega
      have i6 : 0 < n := by omega
      go_wp2
      have hS := Held.of HR0.out hb b1
      go_region_held3 (fun w' => Below w.heap.size w w' ∧ w'.rangeAt b o (List.map (Value.int .u8) h0)) (first | exact Held.drew (by assumption) | exact Held.of HR0.out hb (by assumption)) (first | (go_at_call_of 36 (Value.slice (some ⟨b, o, none⟩) n cp); refine (C0.out _ (And.left ‹_›)).mono ?_; rintro e w3 ⟨rfl, b3⟩) | (go_at_call_of 36 (Value.slice (some ⟨b, o, none⟩) k cp); refine (C1.out _ (And.left ‹_›)).mono ?_; rintro e w4 ⟨rfl, b4⟩) | (go_at_call_of 36 (Value.slice (some ⟨b, o, none⟩) 1 cp); refine (C3.out _ (And.left ‹_›)).mono ?_; rintro e w5 ⟨rfl, b5⟩) | (go_at_call 36; refine (C2.out _ (And.left ‹_›)).mono ?_; rintro e w6 ⟨rfl, b6⟩) | (go_at_call 34; refine (C4.out _ (And.left ‹_›)).mono ?_; rintro e w7 ⟨rfl, b7⟩))
      all_goals go_wp2
      all_goals go_ret
      all_goals exact ⟨rfl, by assumption⟩
set_option maxRecDepth 100000 in
set_option maxHeartbeats 1000000 in
theorem halves_out (av : Option Addr) (n cp : Nat) (w : World) (hn : n < 2 ∨ 150 < n) (hcp : n ≤ 4611686018427387904) :
    Calls Tryd.prog 12 #[.slice av n cp] w fun e w' => e = .returned (.bool true) ∧ Below w.heap.size w w' := by
  by_cases h1 : n < 2
  · go_enter Tryd.func12, Tryd.ntmps12
    go_wp2_with fail
    refine (awake2_any _).mono ?_
    rintro e w1 ⟨rfl, b1⟩
    go_wp2_with fail
    refine (awake2_any _).mono ?_
    rintro e w2 ⟨rfl, b2⟩
    go_wp2
    go_ret
    exact ⟨rfl, b1.trans (b2.mono b1.size)⟩
  · have h3 : 150 < n := by omega
    go_enter Tryd.func12, Tryd.ntmps12
    go_wp2_with fail
    refine (awake2_any _).mono ?_
    rintro e w1 ⟨rfl, b1⟩
    go_wp2_with fail
    refine (awake2_any _).mono ?_
    rintro e w2 ⟨rfl, b2⟩
    go_wp2
    go_ret
    exact ⟨rfl, b1.trans (b2.mono b1.size)⟩
theorem merkleHalves_walk (v : Value) (hs : List (List Int)) (w : World) (hL : Laid w) (hp : ListAt w v hs) (hH : Hashes hs) (hn : hs.length ≤ 140737488351232) :
    Calls Tryd.prog 12 #[v] w fun e w' => e = .returned (.bool true) ∧ Below w.heap.size w w' := by
  obtain ⟨av, b, o, cp, rfl, hcp, hcp2, hav, hr, hb, _⟩ := hp
  by_cases h : hs.length < 2 ∨ 150 < hs.length
  · exact halves_out av hs.length cp w h (by omega)
  · obtain rfl := hav (by omega)
    exact halves_in b o hs.length cp hs w hL rfl (by omega) (by omega) hcp hcp2 hr hb hH
end Go.Proofs.YtffhjjgkoapioaaDoor
