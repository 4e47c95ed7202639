import Derived.Test.YtjhnnblilfddpaaDoorFt
import Derived.Test.YtjhnnblilfddpaaDoorFu
namespace Go.Proofs.YtjhnnblilfddpaaDoor
set_option linter.unusedSimpArgs false
set_option linter.unusedVariables false
open Go.RowKit
set_option maxHeartbeats 1000000 in
set_option maxRecDepth 100000 in
theorem decodes_out (av : Option Addr) (n cp : Nat) (hn : 3000 < n) (hn2 : n ≤ 140737488351232) (w : World) (hL : Laid w) : Calls Tryd.prog 7 #[.slice av n cp] w fun e w' => e = .returned (.bool true) ∧ Below w.heap.size w w' := by
  have h2 := hL.two
  have AW : Hid (∀ W, Below w.heap.size w W → Calls Tryd.prog 24 #[] W fun e w' => e = .returned (.bool true) ∧ Below w.heap.size w w') := fun W q =>
    (awake4_any W (hL.below q h2)).mono fun e w' ⟨r1, r2⟩ => ⟨r1, q.trans (r2.mono q.size)⟩
  have g1 : (3000 : Int) < (n : Int) := by omega
  have b0 : Below w.heap.size w w := Below.refl _ _
  clear hL h2
  go_enter Tryd.func7, Tryd.ntmps7
  go_wp2_with fail
  refine (AW.out _ b0).mono ?_
  rintro e w1 ⟨rfl, b1⟩
  clear b0
  go_wp2_with fail
  refine (AW.out _ b1).mono ?_
  rintro e w2 ⟨rfl, b2⟩
  clear b1
  go_wp2
  go_ret
  exact ⟨rfl, b2⟩
theorem DecE.form {r : Int × List Int × Int × Int} {w : World} {e : Ending} {w' : World} (h : DecE r w e w') : ∃ a2 l2 c2, e = .returned (.tuple #[.agg #[.int .u8 r.1, .slice a2 l2 c2], .int .i64 r.2.2.1, .int .i64 r.2.2.2]) ∧ PartAt w' (.slice a2 l2 c2) r.2.1 ∧ Below w.heap.size w w' := by
  obtain ⟨u, h1, h2, h3⟩ := h
  have h2' := h2
  obtain ⟨a2, b2, o2, c2, rfl, _⟩ := h2'
  exact ⟨a2, _, c2, h1, h2, h3⟩
set_option maxHeartbeats 1000000 in
set_option maxRecDepth 100000 in
theorem decodes_in (av : Option Addr) (n cp : Nat) (bs : List Int) (hbn : bs.length = n) (hn : n ≤ 3000) (w : World) (hL : Laid w) (hp : PartAt w (.slice av n cp) bs) (hb : Bytes bs) : Calls Tryd.prog 7 #[.slice av n cp] w fun e w' => e = .returned (.bool true) ∧ Below w.heap.size w w' := by
  have h2 := hL.two
  obtain ⟨X, B, N, C, hX⟩ : ∃ X B N C, decR bs = (X, B, N, C) := ⟨_, _, _, _, rfl⟩
  have AW : Hid (Calls Tryd.prog 24 #[] w fun e w' => e = .returned (.bool true) ∧ Below w.heap.size w w') := awake4_any w hL
  have DC : Hid (∀ W, Below w.heap.size w W → Calls Tryd.prog 27 #[.slice av n cp] W fun e w' => ∃ a2 l2 c2, e = .returned (.tuple #[.agg #[.int .u8 X, .slice a2 l2 c2], .int .i64 N, .int .i64 C]) ∧ PartAt w' (.slice a2 l2 c2) B ∧ Below w.heap.size w w') := fun W q =>
    (decode_any _ bs W (hL.below q h2) (hp.below q) hb).mono fun e w' r => by
      rw [hX] at r
      obtain ⟨a2, l2, c2, r1, r2, r3⟩ := r.form
      exact ⟨a2, l2, c2, r1, r2, q.trans (r3.mono q.size)⟩
  have RD : Hid (∀ W, Below w.heap.size w W → Calls Tryd.prog 28 #[.slice av n cp] W fun e w' => ∃ a2 l2 c2, e = .returned (.tuple #[.agg #[.int .u8 X, .slice a2 l2 c2], .int .i64 N, .int .i64 C]) ∧ PartAt w' (.slice a2 l2 c2) B ∧ Below W.heap.size W w' ∧ Below w.heap.size w w') := fun W q =>
    (rdecode_any _ bs W (by have := q.size; omega) (hp.below q) hb).mono fun e w' r => by
      rw [hX] at r
      obtain ⟨a2, l2, c2, r1, r2, r3⟩ := r.form
      exact ⟨a2, l2, c2, r1, r2, r3, q.trans (r3.mono q.size)⟩
  have BG : Hid (∀ W, Below w.heap.size w W → Calls Tryd.prog 30 #[.slice av n cp] W fun e w' => e = .returned (.bool (beginsB bs)) ∧ Below w.heap.size w w') := fun W q =>
    (begins_any _ bs W (hp.below q) hb).mono fun e w' ⟨r1, r2⟩ => ⟨r1, q.trans (r2.mono q.size)⟩
  have RB : Hid (∀ W, Below w.heap.size w W → Calls Tryd.prog 31 #[.slice av n cp] W fun e w' => e = .returned (.bool (beginsB bs)) ∧ Below w.heap.size w w') := fun W q =>
    (rbegins_any _ bs W (hp.below q) hb).mono fun e w' ⟨r1, r2⟩ => ⟨r1, q.trans (r2.mono q.size)⟩
  have g1 : ¬ (3000 : Int) < (n : Int) := by omega
  generalize beginsB bs = q at *
  clear hL hp hb hbn h2 hX
  go_enter Tryd.func7, Tryd.ntmps7
  go_wp2_with fail
  refine AW.out.mono ?_
  rintro e w1 ⟨rfl, b1⟩
  have DH : Hid (Calls Tryd.prog 27 #[.slice av n cp] w1 fun e w' => ∃ a2 l2 c2, e = .returned (.tuple #[.agg #[.int .u8 X, .slice a2 l2 c2], .int .i64 N, .int .i64 C]) ∧ PartAt w' (.slice a2 l2 c2) B ∧ Below w.heap.size w w') := DC.out w1 b1
  clear AW DC b1
  go_wp2_with fail
  refine DH.out.mono ?_
  rintro e w2 ⟨a2, l2, c2, rfl, p2, b2⟩
  have P2 : Hid (PartAt w2 (.slice a2 l2 c2) B) := p2
  have B2 : Hid (Below w.heap.size w w2) := b2
  clear p2 b2 DH
  go_wp2_with (first | (refine store61 rfl _ _ rfl w2.heap.size (.int .u8 X) (.slice a2 l2 c2) rfl rfl (one61 _ _ _ _) (.int .u8 0) (.slice none 0 0) (heap_alloc_new _ _) ?_))
  obtain ⟨w3, hw3⟩ : ∃ W, W = (w2.alloc (Obj.cells #[Value.int IntKind.u8 0, Value.slice none 0 0] 46)).setRow w2.heap.size #[Value.int IntKind.u8 X, Value.slice a2 l2 c2] := ⟨_, rfl⟩
  rw [← hw3]
  have B23 : Hid (Below w2.heap.size w2 w3) := by rw [hw3]; exact below_setRow ((Below.refl _ _).alloc (Nat.le_refl _) _) (Nat.le_refl _) _
  have K3 : Hid (w3.heap[w2.heap.size]? = some (.cells #[Value.int IntKind.u8 X, Value.slice a2 l2 c2] 46)) := by rw [hw3]; exact setRow_same (w := w2.alloc (Obj.cells #[Value.int IntKind.u8 0, Value.slice none 0 0] 46)) (heap_alloc_new _ _)
  have B3 : Hid (Below w.heap.size w w3) := B2.out.trans (B23.out.mono B2.out.size)
  have RH : Hid (Calls Tryd.prog 28 #[.slice av n cp] w3 fun e w' => ∃ a2 l2 c2, e = .returned (.tuple #[.agg #[.int .u8 X, .slice a2 l2 c2], .int .i64 N, .int .i64 C]) ∧ PartAt w' (.slice a2 l2 c2) B ∧ Below w3.heap.size w3 w' ∧ Below w.heap.size w w') := RD.out w3 B3.out
  clear hw3 RD B2
  refine RH.out.mono ?_
  rintro e w4 ⟨a4, l4, c4, rfl, p4, b34, b4⟩
  have P4 : Hid (PartAt w4 (.slice a4 l4 c4) B) := p4
  have B34 : Hid (Below w3.heap.size w3 w4) := b34
  have B4 : Hid (Below w.heap.size w w4) := b4
  clear p4 b34 b4 RH
  go_wp2_with (first | ((refine store63 rfl _ _ rfl w4.heap.size (.int .u8 X) (.slice a4 l4 c4) rfl rfl (one61 _ _ _ _) (.int .u8 0) (.slice none 0 0) (heap_alloc_new _ _) ?_); (obtain ⟨w5, hw5⟩ : ∃ W, W = (w4.alloc (Obj.cells #[Value.int IntKind.u8 0, Value.slice none 0 0] 48)).setRow w4.heap.size #[Value.int IntKind.u8 X, Value.slice a4 l4 c4] := ⟨_, rfl⟩); (rw [← hw5]); (have B45 : Hid (Below w4.heap.size w4 w5) := by rw [hw5]; exact below_setRow ((Below.refl _ _).alloc (Nat.le_refl _) _) (Nat.le_refl _) _); (have k5 : w5.heap[w4.heap.size]? = some (.cells #[Value.int IntKind.u8 X, Value.slice a4 l4 c4] 48) := by rw [hw5]; exact setRow_same (w := w4.alloc (Obj.cells #[Value.int IntKind.u8 0, Value.slice none 0 0] 48)) (heap_alloc_new _ _)); (have B35 : Hid (Below w3.heap.size w3 w5) := B34.out.trans (B45.out.mono B34.out.size)); (have k35 : w5.heap[w2.heap.size]? = some (.cells #[Value.int IntKind.u8 X, Value.slice a2 l2 c2] 46) := by rw [B35.out.block _ (Array.getElem?_eq_some_iff.1 K3.out).1]; exact K3.out); (have B5 : Hid (Below w.heap.size w w5) := B4.out.trans (B45.out.mono B4.out.size)); (have e0 : w5.cell? ⟨w4.heap.size, 0, none⟩ = some (.int .u8 X) := row_cell (j := 0) k5 rfl); (have e1 : w5.cell? ⟨w4.heap.size, 1, none⟩ = some (.slice a4 l4 c4) := row_cell (j := 1) k5 rfl); (have e2 : w5.cell? ⟨w2.heap.size, 0, none⟩ = some (.int .u8 X) := row_cell (j := 0) k35 rfl); (have e3 : w5.cell? ⟨w2.heap.size, 1, none⟩ = some (.slice a2 l2 c2) := row_cell (j := 1) k35 rfl); (have SA : Hid (Calls Tryd.prog 29 #[.agg #[.int .u8 X, .slice a2 l2 c2], .agg #[.int .u8 X, .slice a4 l4 c4]] w5 fun e w' => e = .returned (.bool true) ∧ Below w.heap.size w w') := (same_any X _ _ B w5 (((P2.out.below B23.out)).below B35.out) (P4.out.below B45.out)).mono fun e w' ⟨r1, r2⟩ => ⟨r1, B5.out.trans (r2.mono B5.out.size)⟩); (clear hw5 k5 k35 P2 P4 B23 B34 B45 B35 K3 B3 B4)))
  refine SA.out.mono ?_
  rintro e w6 ⟨rfl, b6⟩
  have BH : Hid (Calls Tryd.prog 30 #[.slice av n cp] w6 fun e w' => e = .returned (.bool q) ∧ Below w.heap.size w w') := BG.out w6 b6
  clear SA BG b6 e0 e1 e2 e3
  go_wp2_with fail
  refine BH.out.mono ?_
  rintro e w7 ⟨rfl, b7⟩
  have RBH : Hid (Calls Tryd.prog 31 #[.slice av n cp] w7 fun e w' => e = .returned (.bool q) ∧ Below w.heap.size w w') := RB.out w7 b7
  clear BH RB b7
  go_wp2_with fail
  refine RBH.out.mono ?_
  rintro e w8 ⟨rfl, b8⟩
  clear RBH
  cases q <;> go_wp2 <;> go_ret <;> exact ⟨rfl, b8⟩
/-- FrameDecodes, of whatever argument. -/
theorem frameDecodes_walk (v : Value) (b : List Int) (w : World) (hL : Laid w) (hp : PartAt w v b) (hn : b.length ≤ 140737488351232) (hb : Bytes b) : Calls Tryd.prog 7 #[v] w fun e w' => e = .returned (.bool true) ∧ Below w.heap.size w w' := by
  have p := hp
  obtain ⟨av, b1, o1, cp, rfl, _⟩ := hp
  by_cases h : 3000 < b.length
  · exact decodes_out av _ cp h hn w hL
  · exact decodes_in av _ cp b rfl (by omega) w hL p hb
end Go.Proofs.YtjhnnblilfddpaaDoor
