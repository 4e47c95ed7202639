import Derived.Test.YtnpjknnalekdpaaDoorTg
namespace Go.Proofs.YtnpjknnalekdpaaDoor
set_option linter.unusedSimpArgs false
set_option linter.unusedVariables false
open Go.RowKit
theorem feed_enc (t : Int) (ht : 0 < t ∧ t ≤ 255) (b : List Int) (h : b.length ≤ 1000) : feedR (encB t b) = ([(t, b)], 0, []) := by
  have hd := dec_enc t ht b [] h
  rw [List.append_nil] at hd
  have hl := encB_length t b
  have hne : encB t b ≠ [] := fun e => by rw [e] at hl; simp at hl
  have hz : (encB t b).drop (10 + (b.length : Int)).toNat = [] := List.drop_eq_nil_of_le (by rw [hl]; omega)
  rw [feedR_ok _ hne (by rw [hd])]
  rw [hd]
  show ((t, b) :: (feedR ((encB t b).drop (10 + (b.length : Int)).toNat)).1, (feedR ((encB t b).drop (10 + (b.length : Int)).toNat)).2) = _
  rw [hz, feedR_nil]
/-- The law's memory: the frame's box, the stream's box. -/
structure CutS (w : World) (gf gs : Nat) (t : Int) (v : Value) (S : List Int) (w' : World) : Prop where
  bel : Below w.heap.size w w'
  box : w'.rangeAt gf 0 [.int .u8 t, v]
  lf : gf < gs
  lg : w.heap.size ≤ gs
  st : SBox w' gs S 0
theorem CutS.below {w w' w'' : World} {gf gs : Nat} {t : Int} {v : Value} {S : List Int} (h : CutS w gf gs t v S w') (b : Below w'.heap.size w' w'') : CutS w gf gs t v S w'' :=
  ⟨h.bel.trans (b.mono h.bel.size), range_below h.box b (Nat.lt_trans h.lf h.st.lt), h.lf, h.lg, h.st.below b⟩
theorem CutS.grown {w w' w'' : World} {gf gs : Nat} {t : Int} {v : Value} {S S' : List Int} (h : CutS w gf gs t v S w') (g : w'.grownBy w'' (some gs)) (s : SBox w'' gs S' 0) : CutS w gf gs t v S' w'' :=
  ⟨h.bel.grown g h.bel.size (fun k hk => by injection hk with hk; have := h.lg; omega), fun j x hx => by
    rw [World.cell?_of_block (w := w') (g.block gf (Nat.lt_trans h.lf h.st.lt) (fun e => by injection e with e; have := h.lf; omega))]; exact h.box j x hx, h.lf, h.lg, s⟩
end Go.Proofs.YtnpjknnalekdpaaDoor
