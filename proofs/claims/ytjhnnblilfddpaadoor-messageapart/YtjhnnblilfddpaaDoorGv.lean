import Derived.Test.YtjhnnblilfddpaaDoorGj
namespace Go.Proofs.YtjhnnblilfddpaaDoor
set_option linter.unusedSimpArgs false
set_option linter.unusedVariables false
open Go.RowKit
theorem loadM65g {ops : Array Oper} {rest : List Oper} {o : Oper} {a : Act} {w : World} {Q : Exit → Act → World → Prop} (hw : Region.wanted o (yielded ops a.tmps) = true) (x : Operand) (ho : o.op = .load 65 x) (g : Nat) (hx : a.eval x = .pointer (some ⟨g, 0, none⟩)) (m : Msg) (hm : m.Ok) (hb : BoxM 65 w g m)
    (h : wpList Tryd.prog ops Q rest (a.put o.dst (.agg (mC m).toArray)) w) : wpList Tryd.prog ops Q (o :: rest) a w := by
  unfold wpList
  rw [if_pos hw]
  exact Or.inl (wp_load_mid 65 x ho g 0 hx (mC m) _ (box_range hb) Tryd.underlying65 rfl (by rw [size65, mC_length m hm]) h)
def msgA : Msg := ⟨4, 1, 0, 1, 0, ⟨#[]⟩, false, false, zs 32, false, 0, zs 32, zs 32, false⟩
theorem msgA_ok : msgA.Ok := ⟨by simp [msgA], by simp [msgA], by simp [msgA], by simp [msgA], by simp [msgA], by simp [msgA], (by show (0 : Nat) ≤ _; omega), by simp [msgA, zs], by simp [msgA, zs], by simp [msgA, zs], zs_bytes _, zs_bytes _, zs_bytes _⟩
theorem msgA_form : formB msgA = true := by
  have e : eqM msgA (ofKind msgA) = true := (eqM_iff _ _).2 rfl
  unfold formB
  rw [e]; rfl
theorem msg0_form : formB msg0 = false := rfl
theorem ceA : (((Tryd.zeroCells68.setIfInBounds 0 (Value.int IntKind.i64 4)).setIfInBounds 1 (Value.int IntKind.i64 1)).setIfInBounds 3 (Value.int IntKind.u64 1)) = (mC msgA).toArray := by
  rw [zero68, List.setIfInBounds_toArray, List.setIfInBounds_toArray, List.setIfInBounds_toArray]; rfl
set_option maxHeartbeats 1000000 in
set_option maxRecDepth 100000 in
theorem awake5_any (w : World) : Calls Tryd.prog 32 #[] w fun e w' => e = .returned (.bool true) ∧ Below w.heap.size w w' := by
  have F1 : Hid (Calls Tryd.prog 36 #[.agg (((Tryd.zeroCells68.setIfInBounds 0 (Value.int IntKind.i64 4)).setIfInBounds 1 (Value.int IntKind.i64 1)).setIfInBounds 3 (Value.int IntKind.u64 1))] w fun e w' => e = .returned (.bool true) ∧ Below w.heap.size w w') := by
    unfold Hid; rw [ceA]
    have q := formed_any msgA msgA_ok w
    rw [msgA_form] at q
    exact q
  have F2 : Hid (∀ W, Below w.heap.size w W → Calls Tryd.prog 36 #[.agg Tryd.zeroCells68] W fun e w' => e = .returned (.bool false) ∧ Below w.heap.size w w') := fun W b => by
    rw [zero68]
    have q := formed_any msg0 msg0_ok W
    rw [msg0_form] at q
    exact q.mono fun e w' ⟨r1, r2⟩ => ⟨r1, b.trans (r2.mono b.size)⟩
  go_enter Tryd.func32, Tryd.ntmps32
  go_wp2_with fail
  refine F1.out.mono ?_
  rintro e w1 ⟨rfl, b1⟩
  have F3 : Hid (Calls Tryd.prog 36 #[.agg Tryd.zeroCells68] w1 fun e w' => e = .returned (.bool false) ∧ Below w.heap.size w w') := F2.out w1 b1
  clear F1 F2 b1
  go_wp2_with fail
  refine F3.out.mono ?_
  rintro e w2 ⟨rfl, b2⟩
  go_wp2
  go_ret
  exact ⟨rfl, b2⟩
set_option maxHeartbeats 1000000 in
set_option maxRecDepth 100000 in
theorem few5_any (m : Msg) (hm : m.Ok) (w : World) : Calls Tryd.prog 33 #[.agg (mC m).toArray] w fun e w' => e = .returned (.bool (decide ((m.s.size : Int) ≤ 2000))) ∧ Below w.heap.size w w' := by
  have hg := heap_alloc_new w (.cells (mC m).toArray 65)
  have c5 := row_cell hg (mC_5 m)
  have B1 : Hid (Below w.heap.size w (w.alloc (.cells (mC m).toArray 65))) := (Below.refl _ _).alloc (Nat.le_refl _) _
  have hs := hm.s
  generalize (mC m).toArray = C at *
  generalize m.s = s at *
  clear hg hm
  by_cases h : (s.size : Int) ≤ 2000
  · have HD : Hid (decide ((s.size : Int) ≤ 2000) = true) := decide_eq_true h
    go_enter Tryd.func33, Tryd.ntmps33
    go_wp2
    go_ret
    exact ⟨by rw [HD.out]; first | rfl | simp [h], B1.out⟩
  · have HD : Hid (decide ((s.size : Int) ≤ 2000) = false) := decide_eq_false h
    go_enter Tryd.func33, Tryd.ntmps33
    go_wp2
    go_ret
    exact ⟨by rw [HD.out]; first | rfl | simp [h], B1.out⟩
end Go.Proofs.YtjhnnblilfddpaaDoor
namespace Go.Proofs.YtjhnnblilfddpaaDoor
set_option linter.unusedSimpArgs false
set_option linter.unusedVariables false
open Go.RowKit
theorem numB_inj4 (a b : Int) (ha : 0 ≤ a ∧ a ≤ 4294967295) (hb : 0 ≤ b ∧ b ≤ 4294967295) (h : numB a 4 = numB b 4) : a = b := by
  unfold numB at h
  rw [show List.range 4 = [0, 1, 2, 3] from rfl] at h
  simp at h
  omega
theorem tb_inj (a b : Bool) (h : tb a = tb b) : a = b := by
  unfold tb at h
  cases a <;> cases b <;> simp at h <;> rfl
theorem app_inj {α : Type} {a b c d : List α} (hl : a.length = c.length) (h : a ++ b = c ++ d) : a = c ∧ b = d := List.append_inj h hl
theorem nB_inj (a b : ByteArray) (h : nB a = nB b) : a = b := by rw [← str_nB a, ← str_nB b, h]
/-- Formed messages of one kind whose own bytes are alike are alike. -/
theorem own_inj (a b : Msg) (ha : a.Ok) (hb : b.Ok) (fa : formB a = true) (fb : formB b = true) (hk : a.kind = b.kind) (hf : a.frm = b.frm) (ht : a.to = b.to) (hi : a.id = b.id) (h : ownB a = ownB b) : a = b := by
  obtain ⟨_, _, _, _, _, _, ea, na⟩ := form_all fa
  obtain ⟨_, _, _, _, _, _, eb, nb⟩ := form_all fb
  unfold inB at na nb
  rw [ea, eb]
  unfold ofKind
  unfold ownB at h
  have ho : own0 a = own0 b := by unfold own0; rw [hk, hf, ht, hi]
  rw [ho, hk]
  rw [hk] at h na
  by_cases k1 : b.kind = 1
  · simp only [if_pos k1] at h na nb ⊢
    have na := of_decide_eq_true na
    have nb := of_decide_eq_true nb
    obtain ⟨h1, h⟩ := app_inj (by simp [numB_length]) h
    obtain ⟨h2, h⟩ := app_inj (by simp) h
    obtain ⟨h3, h⟩ := app_inj (by simp) h
    obtain ⟨h4, h⟩ := app_inj (by rw [ha.h, hb.h]) h
    obtain ⟨h5, h⟩ := app_inj (by simp [numB_length]) h
    have q1 := numB_inj4 a.base b.base ⟨ha.b.1, na.1⟩ ⟨hb.b.1, nb.1⟩ h1
    have q2 := tb_inj a.quiet b.quiet (by simpa using h2)
    have q3 := tb_inj a.ext b.ext (by simpa using h3)
    have q5 := nB_inj a.s b.s h
    rw [q1, q2, q3, h4, q5]
  · simp only [if_neg k1] at h na nb ⊢
    by_cases k2 : b.kind = 2
    · simp only [if_pos k2] at h na nb ⊢
      cases ya : a.yes <;> cases yb : b.yes <;> rw [ya, yb] at h
      · simp only [Bool.false_eq_true, if_false] at h ⊢
        have : a.code = b.code := by simpa using h
        rw [this]
      · simp at h
      · simp at h
      · simp only [if_true] at h ⊢
        obtain ⟨_, h⟩ := app_inj (by simp) h
        obtain ⟨h1, h2⟩ := app_inj (by rw [ha.v, hb.v]) h
        rw [h1, h2]
    · simp only [if_neg k2] at h ⊢
      by_cases k3 : b.kind = 3 ∨ b.kind = 6
      · simp only [if_pos k3] at h ⊢
        have hc := tb_inj a.commit b.commit (by simpa using h)
        rw [hc]
      · simp only [if_neg k3]
theorem body_le (m : Msg) (hm : m.Ok) (h : formB m = true) : (bodyB m).length ≤ 1000 ∧ Bytes (bodyB m) := by
  obtain ⟨f1, f2, f3, f4, f5, f6, f7, f8⟩ := form_all h
  have hob := own_bytes m hm h []
  refine ⟨?_, Bytes.cons' (by omega) (Bytes.cons' (by omega) ((numB_bytes _ _).app hob.2.2))⟩
  unfold bodyB; simp only [List.length_append, List.length_cons, List.length_nil, numB_length]; omega
theorem enc_inj (a b : Msg) (ha : a.Ok) (hb : b.Ok) (fa : formB a = true) (fb : formB b = true) (h : encB a.kind (bodyB a) = encB b.kind (bodyB b)) : a = b := by
  have la := body_le a ha fa
  have lb := body_le b hb fb
  obtain ⟨_, _, _, _, ia, ja, _, _⟩ := form_all fa
  obtain ⟨_, _, _, _, ib, jb, _, _⟩ := form_all fb
  have hl : (bodyB a).length = (bodyB b).length := by
    have := congrArg List.length h
    rw [encB_length, encB_length] at this; omega
  unfold encB at h
  obtain ⟨_, h⟩ := app_inj (by simp) h
  obtain ⟨h1, h⟩ := app_inj (by simp [numB_length]) h
  obtain ⟨_, h⟩ := app_inj (by rw [sum4_length, sum4_length]) h
  have hk : a.kind = b.kind := by injection h1
  unfold bodyB at h
  obtain ⟨h2, h⟩ := app_inj (by simp) h
  obtain ⟨h3, h⟩ := app_inj (by simp) h
  obtain ⟨h4, h⟩ := app_inj (by simp [numB_length]) h
  exact own_inj a b ha hb fa fb hk (by simpa using h2) (by simpa using h3) (numB_inj4 _ _ (by omega) (by omega) h4) h
/-- Their bytes, as strings, are alike just if they are. -/
theorem enc_eq (a b : Msg) (ha : a.Ok) (hb : b.Ok) (fa : formB a = true) (fb : formB b = true) : ((strOfNums (encB a.kind (bodyB a))).toList == (strOfNums (encB b.kind (bodyB b))).toList) = eqM a b := by
  by_cases h : a = b
  · subst h
    rw [(eqM_iff a a).2 rfl]; simp
  · have e : eqM a b = false := by
      cases q : eqM a b with
      | false => rfl
      | true => exact absurd ((eqM_iff a b).1 q) h
    rw [e]
    have la := body_le a ha fa
    have lb := body_le b hb fb
    obtain ⟨ka, _⟩ := form_all fa
    obtain ⟨kb, _⟩ := form_all fb
    exact str_neF _ _ (encB_bytes _ (by omega) _ la.1 la.2) (encB_bytes _ (by omega) _ lb.1 lb.2) (fun q => h (enc_inj a b ha hb fa fb q))
end Go.Proofs.YtjhnnblilfddpaaDoor
