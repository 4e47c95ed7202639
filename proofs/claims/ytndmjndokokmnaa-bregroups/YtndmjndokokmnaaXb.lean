import Derived.Test.YtndmjndokokmnaaXa
namespace Go.Proofs.Ytndmjndokokmnaa
set_option linter.unusedSimpArgs false
set_option linter.unusedVariables false
open Go.RowKit
theorem begins_rb (g : Nat) (l : List UInt8) (p : ByteArray) (w : World) (h : RB w g l) :
    Calls Try.prog 96 #[.pointer (some ⟨g, 0, none⟩), .string p] w fun e w' => e = .returned (.bool (pre p.data.toList l)) ∧ w = w' := by
  obtain ⟨s, hc, rfl, hf, hg⟩ := h
  exact begins_any g s p w hc
theorem begins_bool (g : Nat) (l : List UInt8) (p : ByteArray) (b : Bool) (hb : pre p.data.toList l = b) :
    Hid (∀ w, RB w g l → Calls Try.prog 96 #[.pointer (some ⟨g, 0, none⟩), .string p] w fun e w' => e = .returned (.bool b) ∧ w = w') := fun w h => by rw [← hb]; exact begins_rb g l p w h
theorem skip_hit (g : Nat) (l : List UInt8) (p : ByteArray) (hb : pre p.data.toList l = true) :
    Hid (∀ w, RB w g l → Calls Try.prog 77 #[.pointer (some ⟨g, 0, none⟩), .string p] w fun e w' => e = .returned (.bool true) ∧ RB w' g (l.drop p.data.toList.length) ∧ w.grownBy w' (some g)) := fun w h => by
  have := skip_any g l p w h; rw [hb] at this; exact this
theorem skip_miss (g : Nat) (l : List UInt8) (p : ByteArray) (hb : pre p.data.toList l = false) :
    Hid (∀ w, RB w g l → Calls Try.prog 77 #[.pointer (some ⟨g, 0, none⟩), .string p] w fun e w' => e = .returned (.bool false) ∧ RB w' g l ∧ w.grownBy w' (some g)) := fun w h => by
  have := skip_any g l p w h; rw [hb] at this; exact this
set_option maxHeartbeats 1000000 in
set_option maxRecDepth 100000 in
theorem sign_any (g : Nat) (l : List UInt8) (w : World) (h : RB w g l) :
    Calls Try.prog 100 #[.pointer (some ⟨g, 0, none⟩)] w (ByteO (signP l) w g) := by
  have HR : Hid (RB w g l) := h
  clear h
  cases h1 : pre [91, 61] l
  · cases h2 : pre [91, 58] l
    · have G1 := begins_bool g l ⟨#[91, 61]⟩ false h1
      have G2 := begins_bool g l ⟨#[91, 58]⟩ false h2
      have HE : Hid (signP l = singleP l) := by unfold Hid signP; rw [h1, h2]; rfl
      rw [HE.out]
      cases h3 : pre [91, 46] l
      · have G3 := skip_miss g l ⟨#[91, 46]⟩ h3
        cases h4 : pre [92, 110] l
        · have G4 := skip_miss g l ⟨#[92, 110]⟩ h4
          have HE2 : Hid (singleP l = byteA [] l) := by unfold Hid singleP; rw [h3, h4]; rfl
          have G5 : Hid (∀ w, RB w g l → Calls Try.prog 98 #[.pointer (some ⟨g, 0, none⟩), .string ⟨#[]⟩] w (ByteO (byteA [] l) w g)) := fun w h => byteAhead_any g l ⟨#[]⟩ w h
          rw [HE2.out]
          clear h1 h2 h3 h4 HE HE2
          go_enter Try.func100, Try.ntmps100
          go_wp2_with fail
          refine (G1.out _ HR.out).mono ?_
          rintro e w' ⟨rfl, rfl⟩
          go_wp2_with fail
          refine (G2.out _ HR.out).mono ?_
          rintro e w' ⟨rfl, rfl⟩
          go_wp2_with fail
          refine (G3.out _ HR.out).mono ?_
          rintro e w1 ⟨rfl, r1, g1⟩
          have R1 : Hid (RB w1 g l) := r1
          have GR1 : Hid (w.grownBy w1 (some g)) := g1
          clear r1 g1
          go_wp2_with fail
          refine (G4.out _ R1.out).mono ?_
          rintro e w2 ⟨rfl, r2, g2⟩
          have R2 : Hid (RB w2 g l) := r2
          have GR2 : Hid (w.grownBy w2 (some g)) := grown_trans GR1.out g2
          clear r2 g2
          go_wp2_with fail
          refine (G5.out _ R2.out).mono ?_
          rintro e w3 ⟨c, ok, l', rfl, r3, g3, h5, h6⟩
          have R3 : Hid (RB w3 g l') := r3
          have GR3 : Hid (w.grownBy w3 (some g)) := grown_trans GR2.out g3
          have H5 : Hid ((byteA [] l).isSome = ok ∧ (ok = true → byteA [] l = some (c, l'))) := ⟨h5, h6⟩
          clear r3 g3 h5 h6
          go_wp2
          go_ret2
          exact ⟨c, ok, l', rfl, R3.out, GR3.out, H5.out⟩
        · have G4 := skip_hit g l ⟨#[92, 110]⟩ h4
          have HE2 : Hid (singleP l = some (10, l.drop 2)) := by unfold Hid singleP; rw [h3, h4]; rfl
          rw [HE2.out]
          clear h1 h2 h3 h4 HE HE2
          go_enter Try.func100, Try.ntmps100
          go_wp2_with fail
          refine (G1.out _ HR.out).mono ?_
          rintro e w' ⟨rfl, rfl⟩
          go_wp2_with fail
          refine (G2.out _ HR.out).mono ?_
          rintro e w' ⟨rfl, rfl⟩
          go_wp2_with fail
          refine (G3.out _ HR.out).mono ?_
          rintro e w1 ⟨rfl, r1, g1⟩
          have R1 : Hid (RB w1 g l) := r1
          have GR1 : Hid (w.grownBy w1 (some g)) := g1
          clear r1 g1
          go_wp2_with fail
          refine (G4.out _ R1.out).mono ?_
          rintro e w2 ⟨rfl, r2, g2⟩
          have R2 : Hid (RB w2 g (l.drop 2)) := r2
          have GR2 : Hid (w.grownBy w2 (some g)) := grown_trans GR1.out g2
          clear r2 g2
          go_wp2
          go_ret2
          exact ⟨10, true, l.drop 2, rfl, R2.out, GR2.out, rfl, fun _ => rfl⟩
      · have G3 := skip_hit g l ⟨#[91, 46]⟩ h3
        have HE2 : Hid (singleP l = byteA [46, 93] (l.drop 2)) := by unfold Hid singleP; rw [h3]; rfl
        have G5 : Hid (∀ w, RB w g (l.drop 2) → Calls Try.prog 98 #[.pointer (some ⟨g, 0, none⟩), .string ⟨#[46, 93]⟩] w (ByteO (byteA [46, 93] (l.drop 2)) w g)) := fun w h => byteAhead_any g (l.drop 2) ⟨#[46, 93]⟩ w h
        rw [HE2.out]
        clear h1 h2 h3 HE HE2
        go_enter Try.func100, Try.ntmps100
        go_wp2_with fail
        refine (G1.out _ HR.out).mono ?_
        rintro e w' ⟨rfl, rfl⟩
        go_wp2_with fail
        refine (G2.out _ HR.out).mono ?_
        rintro e w' ⟨rfl, rfl⟩
        go_wp2_with fail
        refine (G3.out _ HR.out).mono ?_
        rintro e w1 ⟨rfl, r1, g1⟩
        have R1 : Hid (RB w1 g (l.drop 2)) := r1
        have GR1 : Hid (w.grownBy w1 (some g)) := g1
        clear r1 g1
        go_wp2_with fail
        refine (G5.out _ R1.out).mono ?_
        rintro e w3 ⟨c, ok, l', rfl, r3, g3, h5, h6⟩
        have R3 : Hid (RB w3 g l') := r3
        have GR3 : Hid (w.grownBy w3 (some g)) := grown_trans GR1.out g3
        have H5 : Hid ((byteA [46, 93] (l.drop 2)).isSome = ok ∧ (ok = true → byteA [46, 93] (l.drop 2) = some (c, l'))) := ⟨h5, h6⟩
        clear r3 g3 h5 h6
        go_wp2
        go_ret2
        exact ⟨c, ok, l', rfl, R3.out, GR3.out, H5.out⟩
    · have G1 := begins_bool g l ⟨#[91, 61]⟩ false h1
      have G2 := begins_bool g l ⟨#[91, 58]⟩ true h2
      have HE : Hid (signP l = none) := by unfold Hid signP; rw [h1, h2]; rfl
      rw [HE.out]
      clear h1 h2 HE
      go_enter Try.func100, Try.ntmps100
      go_wp2_with fail
      refine (G1.out _ HR.out).mono ?_
      rintro e w' ⟨rfl, rfl⟩
      go_wp2_with fail
      refine (G2.out _ HR.out).mono ?_
      rintro e w' ⟨rfl, rfl⟩
      go_wp2
      go_ret2
      exact ⟨0, false, l, rfl, HR.out, grown_refl7 _ _, rfl, fun q => by cases q⟩
  · have G1 := begins_bool g l ⟨#[91, 61]⟩ true h1
    have HE : Hid (signP l = none) := by unfold Hid signP; rw [h1]; rfl
    rw [HE.out]
    clear h1 HE
    go_enter Try.func100, Try.ntmps100
    go_wp2_with fail
    refine (G1.out _ HR.out).mono ?_
    rintro e w' ⟨rfl, rfl⟩
    go_wp2
    go_ret2
    exact ⟨0, false, l, rfl, HR.out, grown_refl7 _ _, rfl, fun q => by cases q⟩
/-- What member, and what is like it, hand back: a set. -/
def SetO (o : Option (S4 × List UInt8)) (w : World) (g : Nat) (e : Ending) (w' : World) : Prop :=
  ∃ (x0 x1 x2 x3 : Int) (ok : Bool) (l' : List UInt8), e = .returned (.tuple #[.agg #[.int .u64 x0, .int .u64 x1, .int .u64 x2, .int .u64 x3], .bool ok]) ∧ RB w' g l' ∧ w.grownBy w' (some g) ∧ o.isSome = ok ∧ (ok = true → ∃ s, o = some (s, l') ∧ S4V s x0 x1 x2 x3)
/-- The library's own variable is a number. -/
def MaxL (w : World) : Prop := (∃ m, w.cell? ⟨0, 0, none⟩ = some (.int .i64 m)) ∧ 0 < w.heap.size
theorem MaxL.grown {w w' : World} {g : Nat} (h : MaxL w) (k : w.grownBy w' (some g)) (hg : 0 < g) : MaxL w' := by
  obtain ⟨⟨m, hm⟩, hz⟩ := h
  refine ⟨⟨m, ?_⟩, Nat.lt_of_lt_of_le hz k.size⟩
  rw [← hm]
  exact World.cell?_of_block (k.block 0 hz (fun q => by injection q with q; omega))
theorem MaxL.alloc {w : World} (h : MaxL w) (o : Obj) : MaxL (w.alloc o) := by
  obtain ⟨⟨m, hm⟩, hz⟩ := h
  have b : Below w.heap.size w (w.alloc o) := (Below.refl _ _).alloc (Nat.le_refl _) o
  exact ⟨⟨m, by rw [b.cell hz]; exact hm⟩, Nat.lt_of_lt_of_le hz b.size⟩
theorem Box4.grown {w w' : World} {r g : Nat} (h : Box4 w r) (k : w.grownBy w' (some g)) (hr : r < w.heap.size) (hn : r ≠ g) : Box4 w' r := by
  have e : w'.heap[r]? = w.heap[r]? := k.block r hr (fun q => by injection q with q; exact hn q)
  have c : ∀ o, w'.cell? ⟨r, o, none⟩ = w.cell? ⟨r, o, none⟩ := fun o => World.cell?_of_block e
  have f : ∀ o, w'.frozen? ⟨r, o, none⟩ = w.frozen? ⟨r, o, none⟩ := fun o => World.frozen?_of_block e
  obtain ⟨⟨a0, a1, a2, a3⟩, b0, b1, b2, b3⟩ := h
  exact ⟨⟨by rw [c]; exact a0, by rw [c]; exact a1, by rw [c]; exact a2, by rw [c]; exact a3⟩, by rw [f]; exact b0, by rw [f]; exact b1, by rw [f]; exact b2, by rw [f]; exact b3⟩
theorem RB.below {w w' : World} {B g : Nat} {l : List UInt8} (h : RB w g l) (b : Below B w w') (hg : g < B) : RB w' g l := by
  obtain ⟨s, hc, hs, hf, hz⟩ := h
  exact ⟨s, by rw [b.cell hg]; exact hc, hs, by rw [b.frozen hg]; exact hf, Nat.lt_of_lt_of_le hz b.size⟩
theorem RB.alloc {w : World} {g : Nat} {l : List UInt8} (h : RB w g l) (o : Obj) : RB (w.alloc o) g l := h.below ((Below.refl _ _).alloc (Nat.le_refl _) o) (by obtain ⟨_, _, _, _, hz⟩ := h; exact hz)
theorem RB.lt {w : World} {g : Nat} {l : List UInt8} (h : RB w g l) : g < w.heap.size := by obtain ⟨_, _, _, _, hz⟩ := h; exact hz
/-- Stores into a block of the call's own. -/
theorem grown_own {w w' : World} {r : Nat} {o : Option Nat} (h : w.grownBy w' o) (hr : w.heap.size ≤ r) (k : Nat) (v : Value) : w.grownBy (w'.setCell ⟨r, k, none⟩ v) o :=
  ⟨h.os, h.tape, h.output, by simpa [World.setCell] using h.size, fun i hi e => (Below.heap_setCell _ _ _ _ (by intro q; simp at q; omega)).trans (h.block i hi e)⟩
theorem RB.own {w : World} {g : Nat} {l : List UInt8} (h : RB w g l) (r k : Nat) (hr : r ≠ g) (v : Value) : RB (w.setCell ⟨r, k, none⟩ v) g l := by
  obtain ⟨s, hc, hs, hf, hz⟩ := h
  have e : (w.setCell ⟨r, k, none⟩ v).heap[g]? = w.heap[g]? := Below.heap_setCell _ _ _ _ (by intro q; exact hr q.symm)
  exact ⟨s, by rw [← hc]; exact World.cell?_of_block e, hs, by rw [← hf]; exact World.frozen?_of_block e, by simpa [World.setCell] using hz⟩
end Go.Proofs.Ytndmjndokokmnaa
