import Derived.Test.YtplihbncmmggjaaDoorBb
import Derived.Deep.QuietTactic
import Derived.BigQuiet
namespace Go.Proofs.YtplihbncmmggjaaDoor
set_option linter.unusedSimpArgs false
set_option linter.unusedVariables false
open Go.RowKit
theorem below_drewN {B : Nat} {a w : World} (h : Below B a w) (n : Nat) : Below B a (w.drewN n) := ⟨h.os, h.tape, h.output, h.size, h.block⟩
theorem gi_begOf_lt (bs : List Int) (k : Nat) (hk : k < bs.length) (h6 : k < 6) : gi (begOf bs) k = gi bs k := by
  unfold begOf gi
  rw [List.getD_eq_getElem?_getD, List.getD_eq_getElem?_getD, List.getElem?_append_left (by simp; omega), List.getElem?_take_of_lt h6]
theorem gi_begOf_ge (bs : List Int) (k : Nat) (hk : bs.length ≤ k) (h6 : k < 6) : gi (begOf bs) k = gi [114, 100, 1, 1, 0, 0] k := by
  have e : (bs.take 6).length = bs.length := by simp; omega
  unfold begOf gi
  rw [List.getD_eq_getElem?_getD, List.getD_eq_getElem?_getD, e, List.getElem?_append_right (by omega), e, List.getElem?_drop]
  congr 2; omega
theorem beg_no (bs : List Int) (k : Nat) (h3 : k < 3) (hk : k < bs.length) (hne : ¬ gi bs k = gi [114, 100, 1] k) : beginsB bs = false := by
  unfold beginsB
  rw [decide_eq_false]
  intro h
  apply hne
  rw [← gi_begOf_lt bs k hk (by omega)]
  match k, h3 with
  | 0, _ => exact h.1
  | 1, _ => exact h.2.1
  | 2, _ => exact h.2.2.1
theorem beg_yes (bs : List Int) (hm : ∀ j, j < 3 → j < bs.length → gi bs j = gi [114, 100, 1] j) : beginsB bs = decide (gi (begOf bs) 3 ≠ 0 ∧ gi (begOf bs) 4 * 256 + gi (begOf bs) 5 ≤ 1000) := by
  have m : ∀ j, j < 3 → gi (begOf bs) j = gi [114, 100, 1] j := fun j hj => by
    by_cases h : j < bs.length
    · rw [gi_begOf_lt bs j h (by omega)]; exact hm j hj h
    · rw [gi_begOf_ge bs j (by omega) (by omega)]
      match j, hj with
      | 0, _ => rfl
      | 1, _ => rfl
      | 2, _ => rfl
  unfold beginsB
  rw [m 0 (by omega), m 1 (by omega), m 2 (by omega)]
  simp [gi]
theorem beg_le3 (bs : List Int) (hn : bs.length ≤ 3) (hm : ∀ j, j < 3 → j < bs.length → gi bs j = gi [114, 100, 1] j) : beginsB bs = true := by
  rw [beg_yes bs hm, gi_begOf_ge bs 3 (by omega) (by omega), gi_begOf_ge bs 4 (by omega) (by omega), gi_begOf_ge bs 5 (by omega) (by omega)]; rfl
theorem beg_4 (bs : List Int) (hn : bs.length = 4) (hm : ∀ j, j < 3 → j < bs.length → gi bs j = gi [114, 100, 1] j) : beginsB bs = decide (gi bs 3 ≠ 0) := by
  rw [beg_yes bs hm, gi_begOf_lt bs 3 (by omega) (by omega), gi_begOf_ge bs 4 (by omega) (by omega), gi_begOf_ge bs 5 (by omega) (by omega)]
  simp [gi]
theorem beg_5 (bs : List Int) (hn : bs.length = 5) (hm : ∀ j, j < 3 → j < bs.length → gi bs j = gi [114, 100, 1] j) : beginsB bs = decide (gi bs 3 ≠ 0 ∧ gi bs 4 ≤ 3) := by
  rw [beg_yes bs hm, gi_begOf_lt bs 3 (by omega) (by omega), gi_begOf_lt bs 4 (by omega) (by omega), gi_begOf_ge bs 5 (by omega) (by omega)]
  rw [show gi [114, 100, 1, 1, 0, 0] 5 = 0 from rfl, decide_eq_decide]
  constructor
  · rintro ⟨a, b⟩; exact ⟨a, by omega⟩
  · rintro ⟨a, b⟩; exact ⟨a, by omega⟩
theorem beg_6 (bs : List Int) (hn : 6 ≤ bs.length) (hm : ∀ j, j < 3 → j < bs.length → gi bs j = gi [114, 100, 1] j) : beginsB bs = decide (gi bs 3 ≠ 0 ∧ gi bs 4 * 256 + gi bs 5 ≤ 1000) := by
  rw [beg_yes bs hm, gi_begOf_lt bs 3 (by omega) (by omega), gi_begOf_lt bs 4 (by omega) (by omega), gi_begOf_lt bs 5 (by omega) (by omega)]
set_option maxRecDepth 100000 in
theorem markIx (k : Nat) (h : k < 3) (W : World) : (Instr.index 9 (.string ⟨#[114, 100, 1]⟩) (.int .i64 k)).run Tryd.prog W = .ok (.int .u8 (gi [114, 100, 1] k)) W := by
  match k, h with
  | 0, _ => rfl
  | 1, _ => rfl
  | 2, _ => rfl
theorem two_at (bs : List Int) (h : 6 ≤ bs.length) : (bs.drop 4).take 2 = [gi bs 4, gi bs 5] := by
  match bs, h with
  | a :: b :: c :: d :: e :: f :: r, _ => rfl
set_option maxHeartbeats 1000000 in
set_option maxRecDepth 100000 in
theorem rbegins_3 (b o n cp : Nat) (bs : List Int) (hbn : bs.length = n) (hn3 : n ≤ 3) (w : World) (hp : w.rangeAt b o (vB bs).toList) (hbl : b < w.heap.size) (hcp : n ≤ cp) (h63 : cp ≤ 9223372036854775807) (hb : Bytes bs) : Calls Tryd.prog 36 #[.slice (some ⟨b, o, none⟩) n cp] w fun e w' => e = .returned (.bool (beginsB bs)) ∧ Below w.heap.size w w' := by
  have CELL : Hid (∀ W, Below w.heap.size w W → ∀ j, j < n → W.cell? ⟨b, o + j, none⟩ = some (.int .u8 (gi bs j))) := fun W q j hj => rangeB (range_below hp q hbl) j (by omega)
  have HBY : Hid (∀ j, j < n → 0 ≤ gi bs j ∧ gi bs j ≤ 255) := fun j hj => hb _ (by unfold gi; rw [List.getD_eq_getElem?_getD, List.getElem?_eq_getElem (by omega)]; exact List.getElem_mem _)

  go_enter Tryd.func36, Tryd.ntmps36
  go_wp2
  go_loopw [3] (fun i wr => ∃ k : Nat, k ≤ 3 ∧ k ≤ n ∧ i = .int .i64 k ∧ (∀ j, j < k → gi bs j = gi [114, 100, 1] j) ∧ Below w.heap.size w wr) (fun i _ => 3 - (intOf i).toNat)
  case atStart => exact ⟨0, by omega, by omega, rfl, fun j hj => by omega, Below.refl _ _⟩
  case round =>
    obtain ⟨k, hk3, hkn, rfl, hm0, bw0⟩ := hrel
    have HM : Hid (∀ j, j < k → gi bs j = gi [114, 100, 1] j) := hm0
    have BW : Hid (Below w.heap.size w wr) := bw0
    clear hm0 bw0
    by_cases hlt : k < n ∧ k < 3
    · have hc := CELL.out wr BW.out k hlt.1
      have i1 : (k : Int) < (n : Int) := by omega
      have i2 : (k : Int) < 3 := by omega
      have i3 : (0 : Int) ≤ (k : Int) := by omega
      have hx := markIx k hlt.2
      have HLT : Hid (k < n ∧ k < 3) := hlt
      have HBN : Hid (bs.length = n) := hbn
      clear hlt hkn hk3 CELL HBY hcp h63 hbl hp hb
      by_cases he : gi bs k = gi [114, 100, 1] k
      · have HE : Hid (gi bs k = gi [114, 100, 1] k) := he
        rw [he] at hc
        clear he
        generalize hMk : gi [114, 100, 1] k = M at *
        go_wp2
        go_quiet (fail)
        go_wp2
        go_roundw
        case rel =>
          refine ⟨k + 1, by have := HLT.out; omega, by have := HLT.out; omega, by go_num, fun j hj => ?_, below_drewN BW.out _⟩
          by_cases hjk : j = k
          · subst hjk; rw [hMk]; exact HE.out
          · exact HM.out j (by omega)
        case measure => have := HLT.out; simp [intOf]; omega
      · have HE : Hid (¬ gi bs k = gi [114, 100, 1] k) := he
        have HR : Hid (beginsB bs = false) := beg_no bs k HLT.out.2 (by have := HLT.out; have := HBN.out; omega) he
        have hz : (gi bs k == gi [114, 100, 1] k) = false := by simpa using he
        clear he
        generalize gi [114, 100, 1] k = M at *
        generalize gi bs k = X at *
        go_wp2
        go_quiet (fail)
        go_wp2
        go_ret
        exact ⟨by rw [HR.out]; rfl, below_drewN BW.out _⟩
    · have HMM : Hid (∀ j, j < 3 → j < bs.length → gi bs j = gi [114, 100, 1] j) := fun j h1 h2 => HM.out j (by omega)
      have j3 : (k : Int) < (n : Int) → ¬ (k : Int) < 3 := by omega
      have BEG : Hid (beginsB bs = true) := beg_le3 bs (by omega) HMM.out
      have t1 : ¬ (3 : Int) < (n : Int) := by omega
      have t2 : ((n : Int) == 5) = false := by simp; omega
      have t3 : ¬ (5 : Int) < (n : Int) := by omega
      clear hbn hn3 hcp h63 HMM CELL HBY
      by_cases j1 : (k : Int) < (n : Int)
      all_goals
        first | have j2 := j3 j1 | skip
        clear j3 hlt hkn hk3 HM
        go_wp2
        go_ret
        exact ⟨by rw [BEG.out]; rfl, BW.out⟩
set_option maxHeartbeats 1000000 in
set_option maxRecDepth 100000 in
theorem rbegins_4 (b o n cp : Nat) (bs : List Int) (hbn : bs.length = n) (hn4 : n = 4) (w : World) (hp : w.rangeAt b o (vB bs).toList) (hbl : b < w.heap.size) (hcp : n ≤ cp) (h63 : cp ≤ 9223372036854775807) (hb : Bytes bs) : Calls Tryd.prog 36 #[.slice (some ⟨b, o, none⟩) 4 cp] w fun e w' => e = .returned (.bool (beginsB bs)) ∧ Below w.heap.size w w' := by
  have CELL : Hid (∀ W, Below w.heap.size w W → ∀ j, j < n → W.cell? ⟨b, o + j, none⟩ = some (.int .u8 (gi bs j))) := fun W q j hj => rangeB (range_below hp q hbl) j (by omega)
  have HBY : Hid (∀ j, j < n → 0 ≤ gi bs j ∧ gi bs j ≤ 255) := fun j hj => hb _ (by unfold gi; rw [List.getD_eq_getElem?_getD, List.getElem?_eq_getElem (by omega)]; exact List.getElem_mem _)

  go_enter Tryd.func36, Tryd.ntmps36
  go_wp2
  go_loopw [3] (fun i wr => ∃ k : Nat, k ≤ 3 ∧ k ≤ n ∧ i = .int .i64 k ∧ (∀ j, j < k → gi bs j = gi [114, 100, 1] j) ∧ Below w.heap.size w wr) (fun i _ => 3 - (intOf i).toNat)
  case atStart => exact ⟨0, by omega, by omega, rfl, fun j hj => by omega, Below.refl _ _⟩
  case round =>
    obtain ⟨k, hk3, hkn, rfl, hm0, bw0⟩ := hrel
    have HM : Hid (∀ j, j < k → gi bs j = gi [114, 100, 1] j) := hm0
    have BW : Hid (Below w.heap.size w wr) := bw0
    clear hm0 bw0
    by_cases hlt : k < n ∧ k < 3
    · have hc := CELL.out wr BW.out k hlt.1
      have i1 : (k : Int) < (4 : Int) := by omega
      have i2 : (k : Int) < 3 := by omega
      have i3 : (0 : Int) ≤ (k : Int) := by omega
      have hx := markIx k hlt.2
      have HLT : Hid (k < n ∧ k < 3) := hlt
      have HBN : Hid (bs.length = n) := hbn
      clear hlt hkn hk3 CELL HBY hcp h63 hbl hp hb
      by_cases he : gi bs k = gi [114, 100, 1] k
      · have HE : Hid (gi bs k = gi [114, 100, 1] k) := he
        rw [he] at hc
        clear he
        generalize hMk : gi [114, 100, 1] k = M at *
        go_wp2
        go_quiet (fail)
        go_wp2
        go_roundw
        case rel =>
          refine ⟨k + 1, by have := HLT.out; omega, by have := HLT.out; omega, by go_num, fun j hj => ?_, below_drewN BW.out _⟩
          by_cases hjk : j = k
          · subst hjk; rw [hMk]; exact HE.out
          · exact HM.out j (by omega)
        case measure => have := HLT.out; simp [intOf]; omega
      · have HE : Hid (¬ gi bs k = gi [114, 100, 1] k) := he
        have HR : Hid (beginsB bs = false) := beg_no bs k HLT.out.2 (by have := HLT.out; have := HBN.out; omega) he
        have hz : (gi bs k == gi [114, 100, 1] k) = false := by simpa using he
        clear he
        generalize gi [114, 100, 1] k = M at *
        generalize gi bs k = X at *
        go_wp2
        go_quiet (fail)
        go_wp2
        go_ret
        exact ⟨by rw [HR.out]; rfl, below_drewN BW.out _⟩
    · have HMM : Hid (∀ j, j < 3 → j < bs.length → gi bs j = gi [114, 100, 1] j) := fun j h1 h2 => HM.out j (by omega)
      have j3 : (k : Int) < (4 : Int) → ¬ (k : Int) < 3 := by omega
      have BE := beg_4 bs (by omega) HMM.out
      have hc3 := CELL.out wr BW.out 3 (by omega)
      have HBE : Hid (beginsB bs = decide (gi bs 3 ≠ 0)) := BE
      have h4 : (4 : Int) ≤ (cp : Int) := by omega
      clear BE hbn hn4 hcp h63 HMM CELL HBY
      generalize gi bs 3 = X3 at *
      by_cases j1 : (k : Int) < (4 : Int)
      all_goals
        first | have j2 := j3 j1 | skip
        clear j3 hlt hkn hk3 HM
        by_cases hx : X3 = 0
        · have BEG : Hid (beginsB bs = false) := by rw [Hid, HBE.out]; simp [hx]
          subst hx
          clear HBE
          go_wp2
          go_ret
          exact ⟨by rw [BEG.out]; rfl, BW.out⟩
        · have BEG : Hid (beginsB bs = true) := by rw [Hid, HBE.out]; simp [hx]
          have hz : (X3 == 0) = false := by simpa using hx
          clear HBE
          go_wp2
          go_ret
          exact ⟨by rw [BEG.out]; rfl, BW.out⟩
set_option maxHeartbeats 1000000 in
set_option maxRecDepth 100000 in
theorem rbegins_5 (b o n cp : Nat) (bs : List Int) (hbn : bs.length = n) (hn5 : n = 5) (w : World) (hp : w.rangeAt b o (vB bs).toList) (hbl : b < w.heap.size) (hcp : n ≤ cp) (h63 : cp ≤ 9223372036854775807) (hb : Bytes bs) : Calls Tryd.prog 36 #[.slice (some ⟨b, o, none⟩) 5 cp] w fun e w' => e = .returned (.bool (beginsB bs)) ∧ Below w.heap.size w w' := by
  have CELL : Hid (∀ W, Below w.heap.size w W → ∀ j, j < n → W.cell? ⟨b, o + j, none⟩ = some (.int .u8 (gi bs j))) := fun W q j hj => rangeB (range_below hp q hbl) j (by omega)
  have HBY : Hid (∀ j, j < n → 0 ≤ gi bs j ∧ gi bs j ≤ 255) := fun j hj => hb _ (by unfold gi; rw [List.getD_eq_getElem?_getD, List.getElem?_eq_getElem (by omega)]; exact List.getElem_mem _)

  go_enter Tryd.func36, Tryd.ntmps36
  go_wp2
  go_loopw [3] (fun i wr => ∃ k : Nat, k ≤ 3 ∧ k ≤ n ∧ i = .int .i64 k ∧ (∀ j, j < k → gi bs j = gi [114, 100, 1] j) ∧ Below w.heap.size w wr) (fun i _ => 3 - (intOf i).toNat)
  case atStart => exact ⟨0, by omega, by omega, rfl, fun j hj => by omega, Below.refl _ _⟩
  case round =>
    obtain ⟨k, hk3, hkn, rfl, hm0, bw0⟩ := hrel
    have HM : Hid (∀ j, j < k → gi bs j = gi [114, 100, 1] j) := hm0
    have BW : Hid (Below w.heap.size w wr) := bw0
    clear hm0 bw0
    by_cases hlt : k < n ∧ k < 3
    · have hc := CELL.out wr BW.out k hlt.1
      have i1 : (k : Int) < (5 : Int) := by omega
      have i2 : (k : Int) < 3 := by omega
      have i3 : (0 : Int) ≤ (k : Int) := by omega
      have hx := markIx k hlt.2
      have HLT : Hid (k < n ∧ k < 3) := hlt
      have HBN : Hid (bs.length = n) := hbn
      clear hlt hkn hk3 CELL HBY hcp h63 hbl hp hb
      by_cases he : gi bs k = gi [114, 100, 1] k
      · have HE : Hid (gi bs k = gi [114, 100, 1] k) := he
        rw [he] at hc
        clear he
        generalize hMk : gi [114, 100, 1] k = M at *
        go_wp2
        go_quiet (fail)
        go_wp2
        go_roundw
        case rel =>
          refine ⟨k + 1, by have := HLT.out; omega, by have := HLT.out; omega, by go_num, fun j hj => ?_, below_drewN BW.out _⟩
          by_cases hjk : j = k
          · subst hjk; rw [hMk]; exact HE.out
          · exact HM.out j (by omega)
        case measure => have := HLT.out; simp [intOf]; omega
      · have HE : Hid (¬ gi bs k = gi [114, 100, 1] k) := he
        have HR : Hid (beginsB bs = false) := beg_no bs k HLT.out.2 (by have := HLT.out; have := HBN.out; omega) he
        have hz : (gi bs k == gi [114, 100, 1] k) = false := by simpa using he
        clear he
        generalize gi [114, 100, 1] k = M at *
        generalize gi bs k = X at *
        go_wp2
        go_quiet (fail)
        go_wp2
        go_ret
        exact ⟨by rw [HR.out]; rfl, below_drewN BW.out _⟩
    · have HMM : Hid (∀ j, j < 3 → j < bs.length → gi bs j = gi [114, 100, 1] j) := fun j h1 h2 => HM.out j (by omega)
      have j3 : (k : Int) < (5 : Int) → ¬ (k : Int) < 3 := by omega
      have BE := beg_5 bs (by omega) HMM.out
      have hc3 := CELL.out wr BW.out 3 (by omega)
      have hc4 := CELL.out wr BW.out 4 (by omega)
      have HBE : Hid (beginsB bs = decide (gi bs 3 ≠ 0 ∧ gi bs 4 ≤ 3)) := BE
      clear BE hbn hn5 hcp h63 HMM CELL HBY
      generalize gi bs 3 = X3 at *
      generalize gi bs 4 = X4 at *
      by_cases j1 : (k : Int) < (5 : Int)
      all_goals
        first | have j2 := j3 j1 | skip
        clear j3 hlt hkn hk3 HM
        by_cases hx : X3 = 0
        · have BEG : Hid (beginsB bs = false) := by rw [Hid, HBE.out]; simp [hx]
          subst hx
          clear HBE
          go_wp2
          go_ret
          exact ⟨by rw [BEG.out]; rfl, BW.out⟩
        · have hz : (X3 == 0) = false := by simpa using hx
          by_cases hy : X4 ≤ 3
          · have BEG : Hid (beginsB bs = true) := by rw [Hid, HBE.out]; simp [hx, hy]
            have hy2 : ¬ 3 < X4 := by omega
            clear HBE
            go_wp2
            go_ret
            exact ⟨by rw [BEG.out]; rfl, BW.out⟩
          · have BEG : Hid (beginsB bs = false) := by rw [Hid, HBE.out]; simp [hx, hy]
            have hy2 : 3 < X4 := by omega
            clear HBE
            go_wp2
            go_ret
            exact ⟨by rw [BEG.out]; rfl, BW.out⟩
set_option maxHeartbeats 1000000 in
set_option maxRecDepth 100000 in
theorem rbegins_6 (b o n cp : Nat) (bs : List Int) (hbn : bs.length = n) (hn6 : 6 ≤ n) (w : World) (hp : w.rangeAt b o (vB bs).toList) (hbl : b < w.heap.size) (hcp : n ≤ cp) (h63 : cp ≤ 9223372036854775807) (hb : Bytes bs) : Calls Tryd.prog 36 #[.slice (some ⟨b, o, none⟩) n cp] w fun e w' => e = .returned (.bool (beginsB bs)) ∧ Below w.heap.size w w' := by
  have CELL : Hid (∀ W, Below w.heap.size w W → ∀ j, j < n → W.cell? ⟨b, o + j, none⟩ = some (.int .u8 (gi bs j))) := fun W q j hj => rangeB (range_below hp q hbl) j (by omega)
  have HBY : Hid (∀ j, j < n → 0 ≤ gi bs j ∧ gi bs j ≤ 255) := fun j hj => hb _ (by unfold gi; rw [List.getD_eq_getElem?_getD, List.getElem?_eq_getElem (by omega)]; exact List.getElem_mem _)
  have hby2 : Bytes [gi bs 4, gi bs 5] := fun y hy => by
    rw [← two_at bs (by omega)] at hy
    exact hb y (List.mem_of_mem_drop (List.mem_of_mem_take hy))
  have OF : Hid (∀ W, Below w.heap.size w W → Calls Tryd.prog 56 #[.slice (some ⟨b, o + 4, none⟩) 2 (cp - 4)] W fun e w' => e = .returned (.int .u64 (gi bs 4 * 256 + gi bs 5)) ∧ W = w') := fun W q => by
    have r := sub_part hbn hcp h63 (range_below hp q hbl) (Nat.lt_of_lt_of_le hbl q.size) 4 2 (by omega)
    rw [two_at bs (by omega)] at r
    obtain ⟨av, b', o', cp', e, r1, r2, r3, r4, r5, r6⟩ := r
    have r3' := r3 (by simp)
    injection e with e1 e2 e3
    rw [← e1] at r3'
    injection r3' with r3'
    injection r3' with a1 a2
    subst a1 a2
    have h := rofk_any b (o + 4) (cp - 4) [gi bs 4, gi bs 5] W (by simp) (by simp; omega) hby2 r4
    rw [val2 _ _ (hby2 _ (by simp)).1 (hby2 _ (by simp)).2 (hby2 _ (by simp)).1 (hby2 _ (by simp)).2] at h
    exact h.mono fun e w' ⟨r1, r2⟩ => ⟨r1, r2.symm⟩
  go_enter Tryd.func36, Tryd.ntmps36
  go_wp2
  go_loopw [3] (fun i wr => ∃ k : Nat, k ≤ 3 ∧ k ≤ n ∧ i = .int .i64 k ∧ (∀ j, j < k → gi bs j = gi [114, 100, 1] j) ∧ Below w.heap.size w wr) (fun i _ => 3 - (intOf i).toNat)
  case atStart => exact ⟨0, by omega, by omega, rfl, fun j hj => by omega, Below.refl _ _⟩
  case round =>
    obtain ⟨k, hk3, hkn, rfl, hm0, bw0⟩ := hrel
    have HM : Hid (∀ j, j < k → gi bs j = gi [114, 100, 1] j) := hm0
    have BW : Hid (Below w.heap.size w wr) := bw0
    clear hm0 bw0
    by_cases hlt : k < n ∧ k < 3
    · have hc := CELL.out wr BW.out k hlt.1
      have i1 : (k : Int) < (n : Int) := by omega
      have i2 : (k : Int) < 3 := by omega
      have i3 : (0 : Int) ≤ (k : Int) := by omega
      have hx := markIx k hlt.2
      have HLT : Hid (k < n ∧ k < 3) := hlt
      have HBN : Hid (bs.length = n) := hbn
      clear hlt hkn hk3 CELL HBY hcp h63 hbl hp hb
      by_cases he : gi bs k = gi [114, 100, 1] k
      · have HE : Hid (gi bs k = gi [114, 100, 1] k) := he
        rw [he] at hc
        clear he
        generalize hMk : gi [114, 100, 1] k = M at *
        go_wp2
        go_quiet (fail)
        go_wp2
        go_roundw
        case rel =>
          refine ⟨k + 1, by have := HLT.out; omega, by have := HLT.out; omega, by go_num, fun j hj => ?_, below_drewN BW.out _⟩
          by_cases hjk : j = k
          · subst hjk; rw [hMk]; exact HE.out
          · exact HM.out j (by omega)
        case measure => have := HLT.out; simp [intOf]; omega
      · have HE : Hid (¬ gi bs k = gi [114, 100, 1] k) := he
        have HR : Hid (beginsB bs = false) := beg_no bs k HLT.out.2 (by have := HLT.out; have := HBN.out; omega) he
        have hz : (gi bs k == gi [114, 100, 1] k) = false := by simpa using he
        clear he
        generalize gi [114, 100, 1] k = M at *
        generalize gi bs k = X at *
        go_wp2
        go_quiet (fail)
        go_wp2
        go_ret
        exact ⟨by rw [HR.out]; rfl, below_drewN BW.out _⟩
    · have HMM : Hid (∀ j, j < 3 → j < bs.length → gi bs j = gi [114, 100, 1] j) := fun j h1 h2 => HM.out j (by omega)
      have j3 : (k : Int) < (n : Int) → ¬ (k : Int) < 3 := by omega
      have BE := beg_6 bs (by omega) HMM.out
      have hc3 := CELL.out wr BW.out 3 (by omega)
      have HBE : Hid (beginsB bs = decide (gi bs 3 ≠ 0 ∧ gi bs 4 * 256 + gi bs 5 ≤ 1000)) := BE
      have y4 := HBY.out 4 (by omega)
      have y5 := HBY.out 5 (by omega)
      have t1 : (3 : Int) < (n : Int) := by omega
      have t2 : ((n : Int) == 5) = false := by simp; omega
      have t3 : (5 : Int) < (n : Int) := by omega
      have t4 : (6 : Int) ≤ (cp : Int) := by omega
      have t5 : ¬ cp = 4 := by omega
      obtain ⟨M, hM⟩ : ∃ M : Nat, gi bs 4 * 256 + gi bs 5 = (M : Int) := ⟨(gi bs 4 * 256 + gi bs 5).toNat, by omega⟩
      rw [hM] at OF HBE
      clear BE hbn hn6 hcp h63 HMM CELL HBY hM y4 y5 hby2
      generalize gi bs 3 = X3 at *
      by_cases j1 : (k : Int) < (n : Int)
      all_goals
        first | have j2 := j3 j1 | skip
        clear j3 hlt hkn hk3 HM
        by_cases hx : X3 = 0
        · have BEG : Hid (beginsB bs = false) := by rw [Hid, HBE.out]; simp [hx]
          subst hx
          clear HBE
          go_wp2_with (first | (go_at_call 56; refine (OF.out _ BW.out).mono ?_; rintro e w5 ⟨rfl, q5⟩; subst q5))
          go_ret
          exact ⟨by rw [BEG.out]; rfl, BW.out⟩
        · have hz : (X3 == 0) = false := by simpa using hx
          by_cases hy : (M : Int) ≤ 1000
          · have BEG : Hid (beginsB bs = true) := by rw [Hid, HBE.out]; simp [hx, hy]
            have hy2 : ¬ (1000 : Int) < (M : Int) := by omega
            clear HBE
            go_wp2_with (first | (go_at_call 56; refine (OF.out _ BW.out).mono ?_; rintro e w5 ⟨rfl, q5⟩; subst q5))
            go_ret
            exact ⟨by rw [BEG.out]; rfl, BW.out⟩
          · have BEG : Hid (beginsB bs = false) := by rw [Hid, HBE.out]; simp [hx, hy]
            have hy2 : (1000 : Int) < (M : Int) := by omega
            clear HBE
            go_wp2_with (first | (go_at_call 56; refine (OF.out _ BW.out).mono ?_; rintro e w5 ⟨rfl, q5⟩; subst q5))
            go_ret
            exact ⟨by rw [BEG.out]; rfl, BW.out⟩
set_option maxHeartbeats 1000000 in
set_option maxRecDepth 100000 in
theorem rbegins_0 (av : Option Addr) (cp : Nat) (w : World) : Calls Tryd.prog 36 #[.slice av 0 cp] w fun e w' => e = .returned (.bool true) ∧ Below w.heap.size w w' := by
  go_enter Tryd.func36, Tryd.ntmps36
  go_wp2
  go_loopw [3] (fun i wr => i = .int .i64 0 ∧ Below w.heap.size w wr) (fun i _ => 0)
  case atStart => exact ⟨rfl, Below.refl _ _⟩
  case round =>
    obtain ⟨rfl, bw⟩ := hrel
    go_wp2
    go_ret
    exact ⟨rfl, bw⟩
theorem rbegins_any (v : Value) (bs : List Int) (w : World) (hp : PartAt w v bs) (hb : Bytes bs) : Calls Tryd.prog 36 #[v] w fun e w' => e = .returned (.bool (beginsB bs)) ∧ Below w.heap.size w w' := by
  obtain ⟨av, b, o, cp, rfl, q1, q2, q3, q4, q5, q6⟩ := hp
  rcases Nat.eq_zero_or_pos bs.length with h0 | h0
  · have hl : bs = [] := List.eq_nil_of_length_eq_zero h0
    subst hl
    exact rbegins_0 av cp w
  obtain rfl := q3 h0
  by_cases h3 : bs.length ≤ 3
  · exact rbegins_3 b o _ cp bs rfl h3 w q4 q5 q1 q2 hb
  by_cases h4 : bs.length = 4
  · have := rbegins_4 b o _ cp bs rfl h4 w q4 q5 q1 q2 hb
    rw [h4]; exact this
  by_cases h5 : bs.length = 5
  · have := rbegins_5 b o _ cp bs rfl h5 w q4 q5 q1 q2 hb
    rw [h5]; exact this
  exact rbegins_6 b o _ cp bs rfl (by omega) w q4 q5 q1 q2 hb
end Go.Proofs.YtplihbncmmggjaaDoor
