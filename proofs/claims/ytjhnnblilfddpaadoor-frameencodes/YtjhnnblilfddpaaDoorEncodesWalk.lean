import Derived.Test.YtjhnnblilfddpaaDoorFr
import Derived.Test.YtjhnnblilfddpaaDoorFu
namespace Go.Proofs.YtjhnnblilfddpaaDoor
set_option linter.unusedSimpArgs false
set_option linter.unusedVariables false
open Go.RowKit
set_option maxHeartbeats 1000000 in
set_option maxRecDepth 100000 in
theorem encodes_out (t : Int) (av : Option Addr) (n cp : Nat) (hn : 3000 < n) (hn2 : n ≤ 140737488351232) (w : World) (hL : Laid w) : Calls Tryd.prog 6 #[.int .u8 t, .slice av n cp] w fun e w' => e = .returned (.bool true) ∧ Below w.heap.size w w' := by
  have h2 := hL.two
  have AW : Hid (∀ W, Below w.heap.size w W → Calls Tryd.prog 24 #[] W fun e w' => e = .returned (.bool true) ∧ Below w.heap.size w w') := fun W q =>
    (awake4_any W (hL.below q h2)).mono fun e w' ⟨r1, r2⟩ => ⟨r1, q.trans (r2.mono q.size)⟩
  have g1 : (3000 : Int) < (n : Int) := by omega
  have b0 : Below w.heap.size w w := Below.refl _ _
  clear hL h2
  go_enter Tryd.func6, Tryd.ntmps6
  go_wp2_with fail
  refine (AW.out _ b0).mono ?_
  rintro e w1 ⟨rfl, b1⟩
  clear b0
  go_wp2_with fail
  refine (AW.out _ b1).mono ?_
  rintro e w2 ⟨rfl, b2⟩
  clear b1
  go_wp2
  go_ret
  exact ⟨rfl, b2⟩
set_option maxHeartbeats 1000000 in
set_option maxRecDepth 100000 in
theorem encodes_in (t : Int) (av : Option Addr) (n cp : Nat) (b : List Int) (hbn : b.length = n) (hn : n ≤ 3000) (ht : 0 ≤ t ∧ t ≤ 255) (w : World) (hL : Laid w) (hp : PartAt w (.slice av n cp) b) (hb : Bytes b) : Calls Tryd.prog 6 #[.int .u8 t, .slice av n cp] w fun e w' => e = .returned (.bool true) ∧ Below w.heap.size w w' := by
  have h2 := hL.two
  have AW : Hid (Calls Tryd.prog 24 #[] w fun e w' => e = .returned (.bool true) ∧ Below w.heap.size w w') := awake4_any w hL
  have EN : Hid (∀ W, Below w.heap.size w W → Calls Tryd.prog 25 #[.agg #[.int .u8 t, .slice av n cp]] W fun e w' => ∃ av2 L2 cp2, e = .returned (.tuple #[.slice av2 L2 cp2, .int .i64 (encC t b)]) ∧ PartAt w' (.slice av2 L2 cp2) (encL t b) ∧ Below w.heap.size w w') := fun W q =>
    (encode_any t ht _ b (by omega) hb W (hL.below q h2) (hp.below q)).mono fun e w' r => by
      obtain ⟨a2, l2, c2, r1, r2, r3⟩ := r.u (by have := q.size; omega)
      exact ⟨a2, l2, c2, r1, r2, q.trans (r3.mono q.size)⟩
  have RE : Hid (∀ W, Below w.heap.size w W → Calls Tryd.prog 26 #[.agg #[.int .u8 t, .slice av n cp]] W fun e w' => ∃ av2 L2 cp2, e = .returned (.tuple #[.slice av2 L2 cp2, .int .i64 (encC t b)]) ∧ PartAt w' (.slice av2 L2 cp2) (encL t b) ∧ Below W.heap.size W w' ∧ Below w.heap.size w w') := fun W q =>
    (rencode_any t ht _ b (by omega) hb W (by have := q.size; omega) (hp.below q)).mono fun e w' r => by
      obtain ⟨a2, l2, c2, r1, r2, r3⟩ := r.u (by have := q.size; omega)
      exact ⟨a2, l2, c2, r1, r2, r3, q.trans (r3.mono q.size)⟩
  have g1 : ¬ (3000 : Int) < (n : Int) := by omega
  generalize encC t b = C at *
  generalize encL t b = E at *
  clear hL hp hb hbn h2 ht
  go_enter Tryd.func6, Tryd.ntmps6
  go_wp2_with fail
  refine AW.out.mono ?_
  rintro e w1 ⟨rfl, b1⟩
  clear AW
  have EN1 := EN.out w1 b1
  have EH : Hid (Calls Tryd.prog 25 #[.agg #[.int .u8 t, .slice av n cp]] w1 fun e w' => ∃ av2 L2 cp2, e = .returned (.tuple #[.slice av2 L2 cp2, .int .i64 C]) ∧ PartAt w' (.slice av2 L2 cp2) E ∧ Below w.heap.size w w') := EN1
  clear EN1 EN b1
  go_wp2_with fail
  refine EH.out.mono ?_
  rintro e w2 ⟨a2, l2, c2, rfl, p2, b2⟩
  have P2 : Hid (PartAt w2 (.slice a2 l2 c2) E) := p2
  have RH : Hid (Calls Tryd.prog 26 #[.agg #[.int .u8 t, .slice av n cp]] w2 fun e w' => ∃ av2 L2 cp2, e = .returned (.tuple #[.slice av2 L2 cp2, .int .i64 C]) ∧ PartAt w' (.slice av2 L2 cp2) E ∧ Below w2.heap.size w2 w' ∧ Below w.heap.size w w') := RE.out w2 b2
  clear EH RE b2 p2
  go_wp2_with fail
  refine RH.out.mono ?_
  rintro e w3 ⟨a3, l3, c3, rfl, p3, b23, b3⟩
  have v2 := run_conv (P2.out.below b23)
  have v3 := run_conv p3
  have B3 : Hid (Below w.heap.size w w3) := b3
  generalize strOfNums E = S at *
  clear P2 p3 b23 b3 RH
  go_wp2
  go_ret
  exact ⟨rfl, B3.out⟩
/-- FrameEncodes, of whatever arguments. -/
theorem frameEncodes_walk (t : Int) (v : Value) (b : List Int) (w : World) (hL : Laid w) (ht : 0 ≤ t ∧ t ≤ 255) (hp : PartAt w v b) (hn : b.length ≤ 140737488351232) (hb : Bytes b) : Calls Tryd.prog 6 #[.int .u8 t, v] w fun e w' => e = .returned (.bool true) ∧ Below w.heap.size w w' := by
  have p := hp
  obtain ⟨av, b1, o1, cp, rfl, _⟩ := hp
  by_cases h : 3000 < b.length
  · exact encodes_out t av _ cp h hn w hL
  · exact encodes_in t av _ cp b rfl (by omega) ht w hL p hb
end Go.Proofs.YtjhnnblilfddpaaDoor
