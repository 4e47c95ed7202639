import Derived.Test.YtnpjknnalekdpaaDoorSFrWalk
namespace Go.Proofs.YtnpjknnalekdpaaDoor
set_option linter.unusedSimpArgs false
set_option linter.unusedVariables false
open Go.RowKit
/-- The law's memory behind each piece: a stream that waits for nothing and has dropped D bytes. -/
structure OuterS (w0 w : World) (g : Nat) (D : Int) : Prop where
  bel : Below w0.heap.size w0 w
  lg : w0.heap.size ≤ g
  st : SBox w g [] D
theorem OuterS.below {w0 w w' : World} {g : Nat} {D : Int} (h : OuterS w0 w g D) (b : Below w.heap.size w w') : OuterS w0 w' g D := ⟨h.bel.trans (b.mono h.bel.size), h.lg, h.st.below b⟩
/-- Junk and frame, while they are put together in a row of their own. -/
structure JS (w4 w : World) (v : Value) (l : List Int) : Prop where
  bel : Below w4.heap.size w4 w
  own : OwnB w w4.heap.size v l
theorem JS.below {w4 w w' : World} {v : Value} {l : List Int} (h : JS w4 w v l) (b : Below w.heap.size w w') : JS w4 w' v l := ⟨h.bel.trans (b.mono h.bel.size), own_belowR h.own b⟩
theorem JS.start {w4 w : World} (h : Below w4.heap.size w4 w) : JS w4 (w.alloc (.cells #[] 5)) (.slice (some ⟨w.heap.size, 0, none⟩) 0 0) [] :=
  ⟨h.alloc h.size _, (ownB_new w).lower h.size⟩
set_option maxRecDepth 100000 in
theorem run_appJ {w4 w : World} {vv sv : Value} {l ys : List Int} (h : JS w4 w vv l) (hp : PartAt w sv ys) (hn : l.length + ys.length ≤ 140737488355328) :
    ∃ v' w', (Builtin.append_ #[22, 22] 22 #[vv, sv]).run Tryd.prog w = .ok v' w' ∧ JS w4 w' v' (l ++ ys) ∧ ∀ (g : Nat) C m, w.heap[g]? = some (.cells C 48 m) → w'.heap[g]? = w.heap[g]? := by
  obtain ⟨i, hi, hz0, hz1, hz2⟩ := info_parts info5
  obtain ⟨av, b, off, cp, rfl, h1, h2, h3, h4, h5, h6⟩ := hp
  cases av with
  | none =>
    have hl0 : ys.length = 0 := by
      rcases Nat.eq_zero_or_pos ys.length with h0 | h0
      · exact h0
      · have := h3 h0; cases this
    have hy : ys = [] := List.eq_nil_of_length_eq_zero hl0
    subst hy
    have hc := h6 rfl
    subst hc
    refine ⟨vv, w, run_append_owned_none w w4.heap.size 22 22 5 i 1 Tryd.underlying22 hi vv l.length _ h.own, by rw [List.append_nil]; exact h, fun _ _ _ _ => rfl⟩
  | some ad =>
    have hnw : ∀ j u, (vB ys).toList[j]? = some u → w.cell? (ad.add j) = some u := fun j u hu => by
      have hj : j < ys.length := by have := (List.getElem?_eq_some_iff.1 hu).1; rw [Array.length_toList, vB_size] at this; exact this
      have e := h3 (by omega)
      injection e with e; subst e
      rw [Addr.add_mid]; exact h4 j u hu
    obtain ⟨v', w', r1, r2, r3, _, r5⟩ := run_append_own_at (w := w) w4.heap.size 22 22 5 i (.int .u8 0) 1 1 Tryd.underlying22 hi hz0 hz1 hz2 rfl (by omega) vv l.length (vB l).toList h.own ad ys.length cp (vB ys).toList (by rw [Array.length_toList, vB_size]; omega) hnw
      (fun v hv => by simp [vB] at hv; obtain ⟨y, _, rfl⟩ := hv; rfl) (by unfold maxLen; omega) (by omega) h.bel.size
    refine ⟨v', w', r1, ⟨h.bel.grown r3 h.bel.size (fun b hb => (own5 h.own b hb).1), ?_⟩, fun g C m hg => r3.block g (Array.getElem?_eq_some_iff.1 hg).1 fun q => ?_⟩
    · unfold OwnB
      rw [List.length_append]
      simpa [vB] using r2
    · obtain ⟨_, C', m', q2⟩ := own5 h.own g q.symm
      rw [hg] at q2
      injection q2 with q2
      injection q2 with _ q2
      cases q2
/-- The law's memory behind the Feed. -/
def FedS (w0 w : World) (g : Nat) (D : Int) (u : Value) (f : Int × List Int) : Prop := OuterS w0 w g D ∧ ∃ B us, FrO w B u [f] us
theorem FedS.below {w0 w w' : World} {g : Nat} {D : Int} {u : Value} {f : Int × List Int} (h : FedS w0 w g D u f) (b : Below w.heap.size w w') : FedS w0 w' g D u f := by
  obtain ⟨B, us, q⟩ := h.2
  exact ⟨h.1.below b, B, us, q.below b⟩
theorem feed_one {w0 w4 w : World} (hL : Laid w0) {g : Nat} {D : Nat} {vv : Value} {jk bd : List Int} {T : Int} (h : OuterS w0 w4 g D) (j : JS w4 w vv (([] ++ jk) ++ encB T bd)) (hT : 0 < T ∧ T ≤ 255) (hb : Bytes bd) (hbl : bd.length ≤ 300) (hj : Bytes jk) (hjl : jk.length ≤ 400) (hjr : ∀ x ∈ jk, x ≠ 114) (hD : D ≤ 100000) :
    Calls Tryd.prog 48 #[.pointer (some ⟨g, 0, none⟩), vv] w fun e w' => ∃ u, e = .returned u ∧ FedS w0 w' g ((D : Int) + (jk.length : Int)) u (T, bd) ∧ w.grownBy w' (some g) := by
  rw [List.nil_append] at j
  have h2 := hL.two
  have hE : Bytes (encB T bd) := encB_bytes T hT bd (by omega) hb
  have hb0 : Below w0.heap.size w0 w := h.bel.trans (j.bel.mono h.bel.size)
  refine (feed_any g [] (jk ++ encB T bd) D (fun x hx => by cases hx) (hj.app hE) (by simp) (by rw [List.length_append, encB_length]; omega) (by omega) vv w (hL.below hb0 h2) (by have := h.lg; omega) (h.st.below j.bel) (OwnB.partG j.own (by have := hb0.size; omega))).mono fun e w' ⟨u, us, r1, r2, r3, r4⟩ => ?_
  rw [List.nil_append, feed_junk_enc T hT bd jk (by omega) hjr] at r2 r3
  exact ⟨u, r1, ⟨⟨hb0.grown r4 hb0.size (fun k hk => by injection hk with hk; have := h.lg; omega), h.lg, r3⟩, _, us, r2⟩, r4⟩
theorem same_one {w : World} {B gb : Nat} {u x : Value} {T : Int} {bd : List Int} {us : List Value} (h : FrO w B u [(T, bd)] us) (k : BoxW w gb T x) (p : PartAt w x bd) (h0 : 0 < w.heap.size) :
    Calls Tryd.prog 50 #[u, .slice (some ⟨gb, 0, none⟩) 1 1] w fun e w' => e = .returned (.bool true) ∧ Below w.heap.size w w' := by
  obtain ⟨g, cap, rfl, hg, hr⟩ := own_range h.own (by simp)
  refine samef_pos g 0 cap gb 0 1 1 (by omega) w fun i hi => ?_
  obtain rfl : i = 0 := by omega
  have hl := h.len
  have u1 : us[0]? = some (us[0]'(by rw [hl]; simp)) := List.getElem?_eq_getElem _
  have f1 : ([(T, bd)] : List (Int × List Int))[0]? = some (T, bd) := rfl
  have c1 := cellsF_at [(T, bd)] us 0 _ _ f1 u1
  have p1 := (h.part 0 _ _ u1 f1).partG h0
  have two : w.rangeAt g (0 + 0 * 2) [.int .u8 T, us[0]'(by rw [hl]; simp)] := fun j z hz => by
    match j, hz with
    | 0, hz => have := hr (0 * 2) _ c1.1; simp at hz; rw [← hz]; simpa using this
    | 1, hz => have := hr (0 * 2 + 1) _ c1.2; simp at hz; rw [← hz]; simpa [Nat.add_assoc] using this
    | j + 2, hz => simp at hz
  exact ⟨T, bd, _, _, fun W b => ⟨range_below two b hg, range_below (by simpa using k.range) b k.lt, p1.below b, p.below b⟩⟩
end Go.Proofs.YtnpjknnalekdpaaDoor
