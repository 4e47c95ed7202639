import Derived.Test.YtnpjknnalekdpaaGg
import Derived.Test.YtnpjknnalekdpaaGz
namespace Go.Proofs.Ytnpjknnalekdpaa
set_option linter.unusedSimpArgs false
set_option linter.unusedVariables false
open Go.RowKit
/-- A truth's byte. -/
def tb (b : Bool) : Int := if b = true then 1 else 0
/-- The bytes of what only a kind has. -/
def ownB (m : Msg) : List Int :=
  if m.kind = 1 then numB m.base 4 ++ ([tb m.quiet] ++ ([tb m.ext] ++ (m.hash ++ (numB m.s.size 2 ++ nB m.s))))
  else if m.kind = 2 then (if m.yes = true then [1] ++ (m.vh ++ m.vr) else [0] ++ [m.code])
  else if m.kind = 3 ∨ m.kind = 6 then [tb m.commit] else []
def bodyB (m : Msg) : List Int := [m.frm] ++ ([m.to] ++ (numB m.id 4 ++ ownB m))
theorem num1 (n : Int) (h0 : 0 ≤ n) (h1 : n ≤ 255) : numSt n 1 = some [n] := by
  unfold numSt fitsB
  rw [show sizeB 1 = true from rfl, show ((1 : Int).toNat) = 1 from rfl, decide_eq_true (by omega)]
  simp [numB]; omega
theorem num4 (n : Int) (h0 : 0 ≤ n) (h1 : n ≤ 4294967295) : numSt n 4 = some (numB n 4) := by
  unfold numSt fitsB
  rw [show sizeB 4 = true from rfl, show ((4 : Int).toNat) = 4 from rfl, decide_eq_true (by omega)]; rfl
theorem num2 (n : Nat) (h1 : n ≤ 500) : numSt (n : Int) 2 = some (numB n 2) := by
  unfold numSt fitsB
  rw [show sizeB 2 = true from rfl, show ((2 : Int).toNat) = 2 from rfl, decide_eq_true (by omega)]; rfl
theorem truth1 (b : Bool) : truthSt b = some [tb b] := by
  unfold truthSt tb
  cases b
  · exact num1 0 (by omega) (by omega)
  · exact num1 1 (by omega) (by omega)
/-- What formed says. -/
theorem form_all {m : Msg} (h : formB m = true) : (1 ≤ m.kind ∧ m.kind ≤ 6) ∧ (0 ≤ m.frm ∧ m.frm ≤ 16) ∧ (0 ≤ m.to ∧ m.to ≤ 16) ∧ m.frm ≠ m.to ∧ 0 < m.id ∧ m.id ≤ 4294967295 ∧ m = ofKind m ∧ inB m = true := by
  unfold formB kindB nodeB at h
  simp only [Bool.and_eq_true, decide_eq_true_eq, Bool.not_eq_true', beq_eq_false_iff_ne] at h
  obtain ⟨h1, h2, h3, h4, h5, h6, h7, h8⟩ := h
  exact ⟨h1, h2, h3, h4, h5, h6, (eqM_iff _ _).1 h7, h8⟩
theorem own_bytes (m : Msg) (hm : m.Ok) (h : formB m = true) (l : List Int) : ownSt (some l) m = some (l ++ ownB m) ∧ (ownB m).length ≤ 540 ∧ Bytes (ownB m) := by
  obtain ⟨h1, _, _, _, _, _, _, h8⟩ := form_all h
  unfold inB at h8
  have hb1 : ∀ b : Bool, Bytes [tb b] := fun b x hx => by simp at hx; subst hx; unfold tb; split <;> omega
  unfold ownSt ownB
  by_cases k1 : m.kind = 1
  · rw [if_pos k1] at h8
    have h9 := of_decide_eq_true h8
    simp only [if_pos k1]
    refine ⟨?_, ?_, ?_⟩
    · unfold textSt
      rw [num4 m.base hm.b.1 h9.1, truth1, truth1, num2 m.s.size h9.2]
      simp only [addSt, List.append_assoc]
    · simp only [List.length_append, numB_length, List.length_cons, List.length_nil, hm.h, nB_length]; omega
    · exact (numB_bytes _ _).app ((hb1 _).app ((hb1 _).app (hm.hb.app ((numB_bytes _ _).app (nB_bytes _)))))
  · rw [if_neg k1] at h8
    simp only [if_neg k1]
    by_cases k2 : m.kind = 2
    · rw [if_pos k2] at h8
      simp only [if_pos k2]
      cases hy : m.yes with
      | true =>
        simp only [if_true]
        refine ⟨?_, ?_, ?_⟩
        · rw [truth1]; simp only [addSt, tb, if_true, List.append_assoc]
        · simp only [List.length_append, List.length_cons, List.length_nil, hm.v, hm.r]; omega
        · exact Bytes.app (hb1 true) (hm.vb.app hm.rb)
      | false =>
        rw [hy] at h8
        simp at h8
        simp only [Bool.false_eq_true, if_false]
        refine ⟨?_, ?_, ?_⟩
        · rw [truth1, num1 m.code (by omega) (by omega)]; simp only [addSt, tb, Bool.false_eq_true, if_false, List.append_assoc]
        · simp
        · exact Bytes.app (hb1 false) (fun x hx => by simp at hx; subst hx; omega)
    · simp only [if_neg k2]
      by_cases k3 : m.kind = 3 ∨ m.kind = 6
      · simp only [if_pos k3]
        exact ⟨by rw [truth1]; rfl, by simp, hb1 _⟩
      · simp only [if_neg k3]
        exact ⟨by simp, by simp, fun x hx => by cases hx⟩
end Go.Proofs.Ytnpjknnalekdpaa
