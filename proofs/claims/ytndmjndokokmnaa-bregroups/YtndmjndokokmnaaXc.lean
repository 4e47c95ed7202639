import Derived.Test.YtndmjndokokmnaaXb
namespace Go.Proofs.Ytndmjndokokmnaa
set_option linter.unusedSimpArgs false
set_option linter.unusedVariables false
open Go.RowKit
theorem grown_alloc {w w' : World} {o : Option Nat} {x : Obj} (k : (w.alloc x).grownBy w' o) : w.grownBy w' o :=
  ⟨k.os, k.tape, k.output, Nat.le_trans (by simp) k.size, fun i hi e => (k.block i (by simp; omega) e).trans (Below.heap_alloc _ _ _ hi)⟩
/-- In a call that has laid its result's box first: the reader, and what else there is. -/
structure St (w w' : World) (g : Nat) (l : List UInt8) : Prop where
  rb : RB w' g l
  gr : w.grownBy w' (some g)
  box : Box4 w' w.heap.size
  size : w.heap.size < w'.heap.size
  max : MaxL w'
  pos : 0 < g
  lt : g < w.heap.size
theorem St.start {w : World} {g : Nat} {l : List UInt8} (h : RB w g l) (hM : MaxL w) (hg : 0 < g) (T : Nat) : St w (w.alloc (.cells #[.int .u64 0, .int .u64 0, .int .u64 0, .int .u64 0] T)) g l :=
  ⟨h.alloc _, grown_below ((Below.refl _ _).alloc (Nat.le_refl _) _) _, Box4.new w T, by simp, hM.alloc _, hg, h.lt⟩
theorem St.drewN {w w' : World} {g : Nat} {l : List UInt8} (h : St w w' g l) (n : Nat) : St w (w'.drewN n) g l :=
  ⟨h.rb, ⟨h.gr.os, h.gr.tape, h.gr.output, h.gr.size, h.gr.block⟩, h.box, h.size, h.max, h.pos, h.lt⟩
theorem St.grown {w w' w2 : World} {g : Nat} {l l2 : List UInt8} (h : St w w' g l) (r : RB w2 g l2) (k : w'.grownBy w2 (some g)) : St w w2 g l2 :=
  ⟨r, grown_trans h.gr k, h.box.grown k h.size (by have := h.lt; omega), Nat.lt_of_lt_of_le h.size k.size, h.max.grown k h.pos, h.pos, h.lt⟩
theorem St.below {w w' w2 : World} {g : Nat} {l : List UInt8} (h : St w w' g l) (b : Below w'.heap.size w' w2) : St w w2 g l :=
  h.grown (h.rb.below b (by have := h.lt; have := h.size; omega)) (grown_below b _)
theorem St.set {w w' : World} {g : Nat} {l : List UInt8} (h : St w w' g l) (t : ByteArray) : St w (w'.setCell ⟨g, 0, none⟩ (.string t)) g t.data.toList :=
  h.grown (h.rb.set t) (grown_cell w' g 0 _)
theorem St.put {w w' : World} {g : Nat} {l : List UInt8} (h : St w w' g l) (v0 v1 v2 v3 : Value) :
    RB ((((w'.setCell ⟨w.heap.size, 0, none⟩ v0).setCell ⟨w.heap.size, 1, none⟩ v1).setCell ⟨w.heap.size, 2, none⟩ v2).setCell ⟨w.heap.size, 3, none⟩ v3) g l ∧
    w.grownBy ((((w'.setCell ⟨w.heap.size, 0, none⟩ v0).setCell ⟨w.heap.size, 1, none⟩ v1).setCell ⟨w.heap.size, 2, none⟩ v2).setCell ⟨w.heap.size, 3, none⟩ v3) (some g) :=
  ⟨(((h.rb.own _ _ (by have := h.lt; omega) _).own _ _ (by have := h.lt; omega) _).own _ _ (by have := h.lt; omega) _).own _ _ (by have := h.lt; omega) _,
   grown_own (grown_own (grown_own (grown_own h.gr (Nat.le_refl _) _ _) (Nat.le_refl _) _ _) (Nat.le_refl _) _ _) (Nat.le_refl _) _ _⟩
set_option maxHeartbeats 2000000 in
set_option maxRecDepth 100000 in
theorem class_rd (g : Nat) (l : List UInt8) (w : World) (h : RB w g l) (hM : MaxL w) (hl : l.length ≤ 4000000) (hg0 : 0 < g) :
    Calls Try.prog 99 #[.pointer (some ⟨g, 0, none⟩)] w (SetO (classP l) w g) := by
  have ST0 : Hid (St w (w.alloc (.cells #[.int .u64 0, .int .u64 0, .int .u64 0, .int .u64 0] 26)) g l) := St.start h hM hg0 26
  obtain ⟨s, hc, hs, hf, _⟩ := id ST0.out.rb
  obtain ⟨m, hm⟩ := ST0.out.max.1
  have hsz : s.size < 4294967281 := by rw [Lib.size_eq, hs]; omega
  have CUT : Hid (∀ W, W.cell? ⟨0, 0, none⟩ = some (.int .i64 m) → Calls Try.prog 113 #[.string s, .string ⟨#[58, 93]⟩] W fun e w' => e = .returned (.tuple #[.string ⟨(Lib.cut l [58, 93]).1.toArray⟩, .string ⟨(Lib.cut l [58, 93]).2.1.toArray⟩, .bool (Lib.cut l [58, 93]).2.2]) ∧ ∃ n, w' = W.drewN n) := fun W q => by
    have := Try.strings_Cut s ⟨#[58, 93]⟩ m W hsz q; rw [hs] at this; exact this
  have HE : Hid (classP l = if (Lib.cut l [58, 93]).2.2 then (classS (Lib.cut l [58, 93]).1).map (fun s => (s, (Lib.cut l [58, 93]).2.1)) else none) := rfl
  rw [HE.out]
  clear HE h hM hl hs hsz
  generalize Lib.cut l [58, 93] = q at *
  obtain ⟨nm, rs, fd⟩ := q
  simp only at CUT ⊢
  have HM : Hid ((w.alloc (.cells #[.int .u64 0, .int .u64 0, .int .u64 0, .int .u64 0] 26)).cell? ⟨0, 0, none⟩ = some (.int .i64 m)) := hm
  clear hm
  cases fd
  · go_enter Try.func99, Try.ntmps99
    go_wp2_with fail
    refine (CUT.out _ HM.out).mono ?_
    rintro e w1 ⟨rfl, n, hw1⟩
    have ST1 : Hid (St w w1 g l) := by rw [hw1]; exact ST0.out.drewN n
    obtain ⟨⟨ca, cb, cc, cd⟩, fa, fb, fc, fd⟩ := id ST1.out.box
    clear hw1 CUT HM hc hf
    go_wp2
    exact bodyPost_ret (v := .tuple #[.agg #[.int .u64 0, .int .u64 0, .int .u64 0, .int .u64 0], .bool false]) (by simp [results, Try.results99, go_sem, ca, cb, cc, cd, fa, fb, fc, fd]) rfl ⟨0, 0, 0, 0, false, l, rfl, (ST1.out.put _ _ _ _).1, (ST1.out.put _ _ _ _).2, rfl, fun q => by cases q⟩
  · have CL : Hid (∀ W, Calls Try.prog 25 #[.string ⟨nm.toArray⟩] W fun e w' => ∃ y0 y1 y2 y3, e = .returned (.tuple #[.agg #[.int .u64 y0, .int .u64 y1, .int .u64 y2, .int .u64 y3], .bool (classS nm).isSome]) ∧ S4V ((classS nm).getD S4.zero) y0 y1 y2 y3 ∧ Below W.heap.size W w') := fun W => by
      have := class_any18 ⟨nm.toArray⟩ W; simpa using this
    generalize classS nm = cn at *
    obtain ⟨ok, hok⟩ : ∃ ok, cn.isSome = ok := ⟨_, rfl⟩
    rw [hok] at CL
    have HOK : Hid (cn.isSome = ok) := hok
    clear hok
    go_enter Try.func99, Try.ntmps99
    go_wp2_with fail
    refine (CUT.out _ HM.out).mono ?_
    rintro e w1 ⟨rfl, n, hw1⟩
    have ST1 : Hid (St w w1 g l) := by rw [hw1]; exact ST0.out.drewN n
    clear hw1 CUT HM hc hf
    obtain ⟨s1, hc, _, hf, _⟩ := id ST1.out.rb
    go_wp2_with fail
    refine (CL.out _).mono ?_
    rintro e w2 ⟨y0, y1, y2, y3, rfl, sv, b2⟩
    have ST2 : Hid (St w w2 g rs) := by have := (ST1.out.set ⟨rs.toArray⟩).below b2; rwa [mk_list] at this
    have HSV : Hid (S4V (cn.getD S4.zero) y0 y1 y2 y3) := sv
    clear sv b2 hc hf ST1
    obtain ⟨⟨ca, cb, cc, cd⟩, fa, fb, fc, fd⟩ := id ST2.out.box
    go_wp2
    refine bodyPost_ret (v := .tuple #[.agg #[.int .u64 y0, .int .u64 y1, .int .u64 y2, .int .u64 y3], .bool ok]) (by simp [results, Try.results99, go_sem, ca, cb, cc, cd, fa, fb, fc, fd]) rfl ⟨y0, y1, y2, y3, ok, rs, rfl, (ST2.out.put _ _ _ _).1, (ST2.out.put _ _ _ _).2, ?_, ?_⟩
    · rw [← HOK.out]; cases cn <;> rfl
    · intro hq
      cases cn with
      | none => have := HOK.out; rw [hq] at this; cases this
      | some x => exact ⟨x, rfl, HSV.out⟩
end Go.Proofs.Ytndmjndokokmnaa
