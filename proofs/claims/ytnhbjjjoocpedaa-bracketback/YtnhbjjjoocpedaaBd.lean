import Derived.Test.YtnhbjjjoocpedaaBa
import Derived.Test.YtnhbjjjoocpedaaBc
import Derived.Test.YtnhbjjjoocpedaaShb
import Derived.Lib.UnsafeStr
import Derived.Test.YtnhbjjjoocpedaaXe
import Derived.Test.YtnhbjjjoocpedaaWc
namespace Go.Proofs.Ytnhbjjjoocpedaa
set_option linter.unusedSimpArgs false
set_option linter.unusedVariables false
open Go.RowKit
theorem bAt_below {B b : Nat} {p : Value} {bs : List Value} {W W' : World} (h : Lib.BuilderAt 63 5 B b p bs W) (hb : Below W.heap.size W W') : Lib.BuilderAt 63 5 B b p bs W' := by
  have hlt := h.lt
  obtain ⟨hB, v, hv, hown, hne⟩ := h
  refine ⟨hB, v, (hb.block b hlt).trans hv, ⟨hown.1, ?_⟩, hne⟩
  rcases hown.2 with h | ⟨g, cap, cur, e1, e2, e3, e4⟩
  · exact .inl h
  · have hg : g < W.heap.size := by
      rcases Nat.lt_or_ge g W.heap.size with h' | h'
      · exact h'
      · simp [Array.getElem?_eq_none h'] at e3
    exact .inr ⟨g, cap, cur, e1, e2, (hb.block g hg).trans e3, e4⟩
theorem isB_below {B b : Nat} {bs : List Value} {W W' : World} (h : Lib.IsBuilder 63 5 B b bs W) (hb : Below W.heap.size W W') : Lib.IsBuilder 63 5 B b bs W' :=
  h.elim (fun x => .inl (bAt_below x hb)) (fun x => .inr (bAt_below x hb))
theorem range_len (f t : UInt8) : (rangeW f t).length ≤ 11 := by
  have := sign_len f; have := sign_len t
  unfold rangeW
  split
  · omega
  · split <;> simp <;> omega
theorem wr_le (s : S4) : ∀ n f, (wr s n f).length ≤ n * 11
  | 0, f => by simp [wr]
  | n + 1, f => by
    have := range_len (UInt8.ofNat f) (UInt8.ofNat (endRun s 256 f))
    have := wr_le s n (endRun s 256 f + 1)
    have := wr_le s n (f + 1)
    unfold wr
    split
    · split
      · rw [List.length_append]; omega
      · omega
    · simp
def OutW (s : S4) (bs : List UInt8) (n f : Nat) : Prop := bs ++ wr s n f = writtenP s ∧ 257 ≤ n + f
theorem OutW.start (s : S4) : OutW s [] 257 0 := ⟨rfl, by omega⟩
theorem OutW.len {s : S4} {bs : List UInt8} {n f : Nat} (h : OutW s bs n f) : bs.length ≤ 2827 := by
  have h1 := congrArg List.length h.1
  have h2 : (writtenP s).length ≤ 257 * 11 := wr_le s 257 0
  rw [List.length_append] at h1; omega
theorem OutW.skip {s : S4} {bs : List UInt8} {n f : Nat} (h : OutW s bs n f) (hf : f ≤ 255) (hh : s.has f = false) : OutW s bs (n - 1) (f + 1) := by
  obtain ⟨m, rfl⟩ : ∃ m, n = m + 1 := ⟨n - 1, by have := h.2; omega⟩
  have e := h.1
  conv at e => lhs; unfold wr
  rw [if_pos hf, hh] at e
  exact ⟨by simpa using e, by have := h.2; omega⟩
theorem OutW.run {s : S4} {bs : List UInt8} {n f e : Nat} (h : OutW s bs n f) (hf : f ≤ 255) (hh : s.has f = true) (he : endRun s 256 f = e) : OutW s (bs ++ rangeW (UInt8.ofNat f) (UInt8.ofNat e)) (n - 1) (e + 1) := by
  subst he
  obtain ⟨m, rfl⟩ : ∃ m, n = m + 1 := ⟨n - 1, by have := h.2; omega⟩
  have e := h.1
  have g := (endRun_spec s 256 f hf).1
  conv at e => lhs; unfold wr
  rw [if_pos hf, hh] at e
  refine ⟨?_, by have := h.2; omega⟩
  rw [List.append_assoc]; simpa using e
theorem OutW.done {s : S4} {bs : List UInt8} {n : Nat} (h : OutW s bs n 256) : bs = writtenP s := by
  have e := h.1
  cases n with
  | zero => simpa [wr] using e
  | succ n => conv at e => lhs; unfold wr
              simpa using e
/-- The run's end is still ahead. -/
def EndR (s : S4) (f t : Nat) : Prop := ∃ k, endRun s k t = endRun s 256 f ∧ 256 ≤ k + t
theorem EndR.start (s : S4) (f : Nat) : EndR s f f := ⟨256, rfl, by omega⟩
theorem EndR.step {s : S4} {f t : Nat} (h : EndR s f t) (ht : t < 255) (hh : s.has (t + 1) = true) : EndR s f (t + 1) := by
  obtain ⟨k, e, hk⟩ := h
  obtain ⟨m, rfl⟩ : ∃ m, k = m + 1 := ⟨k - 1, by omega⟩
  conv at e => lhs; unfold endRun
  rw [if_pos ⟨ht, hh⟩] at e
  exact ⟨m, e, by omega⟩
theorem EndR.stop {s : S4} {f t : Nat} (h : EndR s f t) (hh : ¬ (t < 255 ∧ s.has (t + 1) = true)) : endRun s 256 f = t := by
  obtain ⟨k, e, hk⟩ := h
  cases k with
  | zero => exact e.symm
  | succ k => conv at e => lhs; unfold endRun
              rw [if_neg hh] at e; exact e.symm
/-- The world of a round: the set's box at b, the builder behind it. -/
structure WWt (w : World) (x0 x1 x2 x3 : Int) (bs : List UInt8) (w' : World) : Prop where
  box : BoxS w' w.heap.size x0 x1 x2 x3
  bld : Lib.IsBuilder 63 5 (w.heap.size + 1) (w.heap.size + 1) (Lib.byteCells bs) w'
  bel : Below w.heap.size w w'
  size : w.heap.size + 1 < w'.heap.size
theorem WWt.below {w w' w'' : World} {x0 x1 x2 x3 : Int} {bs : List UInt8} (h : WWt w x0 x1 x2 x3 bs w') (b : Below w'.heap.size w' w'') : WWt w x0 x1 x2 x3 bs w'' :=
  ⟨h.box.below b (by have := h.size; omega), isB_below h.bld b, h.bel.trans (b.mono h.bel.size), by have := h.size; have := b.size; omega⟩
theorem WWt.put {w w' w'' : World} {x0 x1 x2 x3 : Int} {bs : List UInt8} {t : ByteArray} {l : List UInt8} (h : WWt w x0 x1 x2 x3 bs w') (ht : t.data.toList = l) (b : Below (w.heap.size + 1) w' w'')
    (k : Lib.BuilderAt 63 5 (w.heap.size + 1) (w.heap.size + 1) (.pointer (some ⟨w.heap.size + 1, 0, none⟩)) (Lib.byteCells bs ++ Lib.strCells t) w'') : WWt w x0 x1 x2 x3 (bs ++ l) w'' :=
  ⟨h.box.below b (by omega), .inr (by rw [Lib.strCells_eq, ht] at k; unfold Lib.byteCells at *; rw [List.map_append]; exact k), h.bel.trans (b.mono (by omega)), by have := h.size; have := b.size; omega⟩
theorem WWt.start (w : World) (x0 x1 x2 x3 : Int) : WWt w x0 x1 x2 x3 [] ((w.alloc (.cells #[.int .u64 x0, .int .u64 x1, .int .u64 x2, .int .u64 x3] 26)).alloc (.cells #[.pointer none, .slice none 0 0] 63)) := by
  have hz : (w.alloc (.cells #[.int .u64 x0, .int .u64 x1, .int .u64 x2, .int .u64 x3] 26)).heap.size = w.heap.size + 1 := by simp
  refine ⟨(BoxS.new w 26 x0 x1 x2 x3).below (B := w.heap.size + 1) ((Below.refl _ _).alloc (by simp) _) (by omega), ?_, ((Below.refl _ _).alloc (Nat.le_refl _) _).alloc (by simp) _, by simp⟩
  have := Lib.fresh_isBuilder 63 5 (w.alloc (.cells #[.int .u64 x0, .int .u64 x1, .int .u64 x2, .int .u64 x3] 26))
  rw [hz] at this; exact this
end Go.Proofs.Ytnhbjjjoocpedaa
