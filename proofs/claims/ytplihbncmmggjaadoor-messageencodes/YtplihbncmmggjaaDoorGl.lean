import Derived.Test.YtplihbncmmggjaaDoorGj
namespace Go.Proofs.YtplihbncmmggjaaDoor
set_option linter.unusedSimpArgs false
set_option linter.unusedVariables false
open Go.RowKit
theorem numB_inj4 (a b : Int) (ha : 0 ≤ a ∧ a ≤ 4294967295) (hb : 0 ≤ b ∧ b ≤ 4294967295) (h : numB a 4 = numB b 4) : a = b := by
  unfold numB at h
  rw [show List.range 4 = [0, 1, 2, 3] from rfl] at h
  simp at h
  omega
theorem tb_inj (a b : Bool) (h : tb a = tb b) : a = b := by
  unfold tb at h
  cases a <;> cases b <;> simp at h <;> rfl
theorem app_inj {α : Type} {a b c d : List α} (hl : a.length = c.length) (h : a ++ b = c ++ d) : a = c ∧ b = d := List.append_inj h hl
theorem nB_inj (a b : ByteArray) (h : nB a = nB b) : a = b := by rw [← str_nB a, ← str_nB b, h]
/-- Formed messages of one kind whose own bytes are alike are alike. -/
theorem own_inj (a b : Msg) (ha : a.Ok) (hb : b.Ok) (fa : formB a = true) (fb : formB b = true) (hk : a.kind = b.kind) (hf : a.frm = b.frm) (ht : a.to = b.to) (hi : a.id = b.id) (h : ownB a = ownB b) : a = b := by
  obtain ⟨_, _, _, _, _, _, ea, na⟩ := form_all fa
  obtain ⟨_, _, _, _, _, _, eb, nb⟩ := form_all fb
  unfold inB at na nb
  rw [ea, eb]
  unfold ofKind
  unfold ownB at h
  have ho : own0 a = own0 b := by unfold own0; rw [hk, hf, ht, hi]
  rw [ho, hk]
  rw [hk] at h na
  by_cases k1 : b.kind = 1
  · simp only [if_pos k1] at h na nb ⊢
    have na := of_decide_eq_true na
    have nb := of_decide_eq_true nb
    obtain ⟨h1, h⟩ := app_inj (by simp [numB_length]) h
    obtain ⟨h2, h⟩ := app_inj (by simp) h
    obtain ⟨h3, h⟩ := app_inj (by simp) h
    obtain ⟨h4, h⟩ := app_inj (by rw [ha.h, hb.h]) h
    obtain ⟨h5, h⟩ := app_inj (by simp [numB_length]) h
    have q1 := numB_inj4 a.base b.base ⟨ha.b.1, na.1⟩ ⟨hb.b.1, nb.1⟩ h1
    have q2 := tb_inj a.quiet b.quiet (by simpa using h2)
    have q3 := tb_inj a.ext b.ext (by simpa using h3)
    have q5 := nB_inj a.s b.s h
    rw [q1, q2, q3, h4, q5]
  · simp only [if_neg k1] at h na nb ⊢
    by_cases k2 : b.kind = 2
    · simp only [if_pos k2] at h na nb ⊢
      cases ya : a.yes <;> cases yb : b.yes <;> rw [ya, yb] at h
      · simp only [Bool.false_eq_true, if_false] at h ⊢
        have : a.code = b.code := by simpa using h
        rw [this]
      · simp at h
      · simp at h
      · simp only [if_true] at h ⊢
        obtain ⟨_, h⟩ := app_inj (by simp) h
        obtain ⟨h1, h2⟩ := app_inj (by rw [ha.v, hb.v]) h
        rw [h1, h2]
    · simp only [if_neg k2] at h ⊢
      by_cases k3 : b.kind = 3 ∨ b.kind = 6
      · simp only [if_pos k3] at h ⊢
        have hc := tb_inj a.commit b.commit (by simpa using h)
        rw [hc]
      · simp only [if_neg k3]
theorem body_le (m : Msg) (hm : m.Ok) (h : formB m = true) : (bodyB m).length ≤ 1000 ∧ Bytes (bodyB m) := by
  obtain ⟨f1, f2, f3, f4, f5, f6, f7, f8⟩ := form_all h
  have hob := own_bytes m hm h []
  refine ⟨?_, Bytes.cons' (by omega) (Bytes.cons' (by omega) ((numB_bytes _ _).app hob.2.2))⟩
  unfold bodyB; simp only [List.length_append, List.length_cons, List.length_nil, numB_length]; omega
theorem enc_inj (a b : Msg) (ha : a.Ok) (hb : b.Ok) (fa : formB a = true) (fb : formB b = true) (h : encB a.kind (bodyB a) = encB b.kind (bodyB b)) : a = b := by
  have la := body_le a ha fa
  have lb := body_le b hb fb
  obtain ⟨_, _, _, _, ia, ja, _, _⟩ := form_all fa
  obtain ⟨_, _, _, _, ib, jb, _, _⟩ := form_all fb
  have hl : (bodyB a).length = (bodyB b).length := by
    have := congrArg List.length h
    rw [encB_length, encB_length] at this; omega
  unfold encB at h
  obtain ⟨_, h⟩ := app_inj (by simp) h
  obtain ⟨h1, h⟩ := app_inj (by simp [numB_length]) h
  obtain ⟨_, h⟩ := app_inj (by rw [sum4_length, sum4_length]) h
  have hk : a.kind = b.kind := by injection h1
  unfold bodyB at h
  obtain ⟨h2, h⟩ := app_inj (by simp) h
  obtain ⟨h3, h⟩ := app_inj (by simp) h
  obtain ⟨h4, h⟩ := app_inj (by simp [numB_length]) h
  exact own_inj a b ha hb fa fb hk (by simpa using h2) (by simpa using h3) (numB_inj4 _ _ (by omega) (by omega) h4) h
/-- Their bytes, as strings, are alike just if they are. -/
theorem enc_eq (a b : Msg) (ha : a.Ok) (hb : b.Ok) (fa : formB a = true) (fb : formB b = true) : ((strOfNums (encB a.kind (bodyB a))).toList == (strOfNums (encB b.kind (bodyB b))).toList) = eqM a b := by
  by_cases h : a = b
  · subst h
    rw [(eqM_iff a a).2 rfl]; simp
  · have e : eqM a b = false := by
      cases q : eqM a b with
      | false => rfl
      | true => exact absurd ((eqM_iff a b).1 q) h
    rw [e]
    have la := body_le a ha fa
    have lb := body_le b hb fb
    obtain ⟨ka, _⟩ := form_all fa
    obtain ⟨kb, _⟩ := form_all fb
    exact str_neF _ _ (encB_bytes _ (by omega) _ la.1 la.2) (encB_bytes _ (by omega) _ lb.1 lb.2) (fun q => h (enc_inj a b ha hb fa fb q))
end Go.Proofs.YtplihbncmmggjaaDoor
