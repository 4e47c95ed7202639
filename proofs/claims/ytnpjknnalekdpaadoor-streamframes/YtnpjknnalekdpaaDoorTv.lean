import Derived.Test.YtnpjknnalekdpaaDoorTy
namespace Go.Proofs.YtnpjknnalekdpaaDoor
set_option linter.unusedSimpArgs false
set_option linter.unusedVariables false
open Go.RowKit
/-- The law's memory while it writes the frames: all bytes, and the frames that are wanted. -/
structure LoopS (w0 w : World) (v5 v6 : Value) (acc : List Int) (fs : List (Int × List Int)) (us : List Value) : Prop where
  bel : Below w0.heap.size w0 w
  all : OwnB w w0.heap.size v5 acc
  want : WantS w0 w v6 fs us
theorem LoopS.below {w0 w w' : World} {v5 v6 : Value} {acc : List Int} {fs : List (Int × List Int)} {us : List Value} (h : LoopS w0 w v5 v6 acc fs us) (b : Below w.heap.size w w') : LoopS w0 w' v5 v6 acc fs us :=
  ⟨h.bel.trans (b.mono h.bel.size), own_belowR h.all b, h.want.below b⟩
theorem own5 {w : World} {base : Nat} {v : Value} {l : List Int} (h : OwnB w base v l) (b : Nat) (hb : v.ownBlock = some b) : base ≤ b ∧ ∃ C m, w.heap[b]? = some (.cells C 5 m) := by
  rcases h.2 with ⟨q, _⟩ | ⟨g0, cap, cur0, q1, q2, q3, _⟩
  · rw [q] at hb; cases hb
  · rw [q1] at hb
    have hb : some g0 = some b := hb
    injection hb with hb
    subst hb
    exact ⟨q2, _, _, q3⟩
set_option maxRecDepth 100000 in
/-- More bytes behind all. -/
theorem run_all {w0 w : World} {v5 v6 : Value} {acc ys : List Int} {fs : List (Int × List Int)} {us : List Value} (h : LoopS w0 w v5 v6 acc fs us) {g9 L c9 : Nat} (hL : L = ys.length) (hp : PartAt w (.slice (some ⟨g9, 0, none⟩) L c9) ys) (hy : 0 < ys.length) (hn : acc.length + ys.length ≤ 140737488355328) :
    ∃ v' w', (Builtin.append_ #[22, 22] 22 #[v5, .slice (some ⟨g9, 0, none⟩) L c9]).run Tryd.prog w = .ok v' w' ∧ LoopS w0 w' v' v6 (acc ++ ys) fs us ∧ ∀ (g : Nat) C m, w.heap[g]? = some (.cells C 48 m) → w'.heap[g]? = w.heap[g]? := by
  obtain ⟨i, hi, hz0, hz1, hz2⟩ := info_parts info5
  obtain ⟨av, b, off, cp, e, h1, h2, h3, h4, h5, h6⟩ := hp
  injection e with e1 e2 e3
  subst e3
  have e4 := h3 hy
  rw [← e1] at e4
  injection e4 with e4
  injection e4 with e4 e5
  subst e4 e5
  have hnw : ∀ j u, (vB ys).toList[j]? = some u → w.cell? ((⟨g9, 0, none⟩ : Addr).add j) = some u := fun j u hu => by
    rw [Addr.add_mid]; exact h4 j u hu
  obtain ⟨v', w', r1, r2, r3, _, r5⟩ := run_append_own_at (w := w) w0.heap.size 22 22 5 i (.int .u8 0) 1 1 Tryd.underlying22 hi hz0 hz1 hz2 rfl (by omega) v5 acc.length (vB acc).toList h.all ⟨g9, 0, none⟩ L c9 (vB ys).toList (by rw [Array.length_toList, vB_size]; omega) hnw
    (fun v hv => by simp [vB] at hv; obtain ⟨y, _, rfl⟩ := hv; rfl) (by unfold maxLen; omega) (by omega) h.bel.size
  have k48 : ∀ (g : Nat) C m, w.heap[g]? = some (.cells C 48 m) → w'.heap[g]? = w.heap[g]? := fun g C m hg => r3.block g (Array.getElem?_eq_some_iff.1 hg).1 fun q => by
    obtain ⟨_, C', m', q2⟩ := own5 h.all g q.symm
    rw [hg] at q2
    injection q2 with q2
    injection q2 with _ q2
    cases q2
  refine ⟨v', w', r1, ⟨h.bel.grown r3 h.bel.size (fun b hb => (own5 h.all b hb).1), ?_, ⟨h.want.len, own_keep h.want.own fun k cur _ hc _ => k48 k _ _ hc, h.want.part⟩⟩, k48⟩
  unfold OwnB
  rw [List.length_append, ← hL]
  simpa [vB] using r2
set_option maxRecDepth 100000 in
/-- One frame more that is wanted. -/
theorem run_want {w0 w : World} {v5 v6 : Value} {acc : List Int} {fs : List (Int × List Int)} {us : List Value} (h : LoopS w0 w v5 v6 acc fs us) {gb : Nat} {t : Int} {u : Value} {bd : List Int} (hg : w.rangeAt gb 0 [.int .u8 t, u]) (hu1 : u.oneCell' = true) (hu : PartAt w0 u bd) (hn : fs.length ≤ 1000) :
    ∃ v' w', (Builtin.append_ #[81, 81] 81 #[v6, .slice (some ⟨gb, 0, none⟩) 1 1]).run Tryd.prog w = .ok v' w' ∧ LoopS w0 w' v5 v' acc (fs ++ [(t, bd)]) (us ++ [u]) ∧ w.grownBy w' v6.ownBlock := by
  have hi1 : (Tryd.prog.info? 48).map (fun i => (i.size, i.zero.map (·.cells.size))) = some (2, some 2) := by kernel_rfl
  have hi2 : (Tryd.prog.info? 48).map (fun i => decide (i.bytes ≤ 64)) = some true := by kernel_rfl
  cases hi : Tryd.prog.info? 48 with
  | none => rw [hi] at hi1; cases hi1
  | some ii =>
    rw [hi] at hi1 hi2
    simp only [Option.map_some] at hi1 hi2
    injection hi1 with hi1
    injection hi1 with hi3 hi4
    injection hi2 with hi2
    have hi2 := of_decide_eq_true hi2
    cases hz : ii.zero with
    | none => rw [hz] at hi4; cases hi4
    | some zz =>
      rw [hz] at hi4
      simp only [Option.map_some] at hi4
      injection hi4 with hi4
      obtain ⟨v', w', r1, r2, r3, _, r5⟩ := run_append_own_at (w := w) w0.heap.size 81 81 48 ii zz 2 ii.bytes Tryd.underlying81 hi hz hi3 rfl hi4 (by omega) v6 fs.length (cellsF fs us) h.want.own ⟨gb, 0, none⟩ 1 1 [.int .u8 t, u] rfl
        (fun j x hx => by rw [Addr.add_mid]; exact hg j x hx) (fun x hx => by
          simp only [List.mem_cons, List.not_mem_nil, or_false] at hx
          rcases hx with rfl | rfl
          · rfl
          · exact hu1) (by unfold maxLen; omega) (by have := Nat.mul_le_mul (show fs.length + 1 ≤ 1001 by omega) hi2; exact Nat.le_trans this (by omega)) h.bel.size
      refine ⟨v', w', r1, ⟨h.bel.grown r3 h.bel.size (fun b hb => (h.want.low b hb).1), own_keep h.all fun k cur _ hc _ => r3.block k (Array.getElem?_eq_some_iff.1 hc).1 fun q => ?_, h.want.snoc t bd u hu r2⟩, r3⟩
      obtain ⟨_, C', m', q2⟩ := h.want.low k q.symm
      rw [hc] at q2
      injection q2 with q2
      injection q2 with _ q2
      cases q2
end Go.Proofs.YtnpjknnalekdpaaDoor
namespace Go.Proofs.YtnpjknnalekdpaaDoor
set_option linter.unusedSimpArgs false
set_option linter.unusedVariables false
open Go.RowKit
theorem own_form {w : World} {base : Nat} {v : Value} {l : List Int} (h : OwnB w base v l) : ∃ av cp, v = .slice av l.length cp := by
  rcases h.2 with ⟨q, q0⟩ | ⟨g0, cap, cur0, q1, _⟩
  · exact ⟨none, 0, by rw [q, q0]⟩
  · exact ⟨_, cap, q1⟩
end Go.Proofs.YtnpjknnalekdpaaDoor
