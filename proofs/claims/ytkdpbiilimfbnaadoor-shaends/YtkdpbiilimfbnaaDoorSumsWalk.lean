import Derived.Test.YtkdpbiilimfbnaaDoorRl
namespace Go.Proofs.YtkdpbiilimfbnaaDoor
set_option linter.unusedSimpArgs false
set_option linter.unusedVariables false
open Go.RowKit
/-- Of, of one part that lies in a row of its own. -/
theorem of_one (v : Value) (bs : List Int) (w : World) (hL : Laid w) (hp : PartAt w v bs) (hn : bs.length ≤ 1000000000000000000) :
    Calls Tryd.prog 12 #[.slice (some ⟨w.heap.size, 0, none⟩) 1 1] (w.alloc (Obj.cells #[v] 22)) fun e w' => e = .returned (.agg (vB (hashOf bs))) ∧ Below w.heap.size w w' := by
  have h2 := hL.two
  have hbw : Below w.heap.size w (w.alloc (Obj.cells #[v] 22)) := (Below.refl _ _).alloc (Nat.le_refl _) _
  have f1 := heap_alloc_new w (Obj.cells #[v] 22)
  refine (of_any w.heap.size 0 1 1 [v] [bs] rfl rfl (w.alloc (Obj.cells #[v] 22)) (hL.below hbw h2) ?_ (by simp) ?_ (by simpa using hn) (by omega)).mono ?_
  · intro j x hv
    have hj : j = 0 := by have := (List.getElem?_eq_some_iff.1 hv).1; simp at this; exact this
    subst hj
    simp at hv; subst hv
    exact row_cell f1 rfl
  · intro i x bs' hv hbs
    have hi : i = 0 := by have := (List.getElem?_eq_some_iff.1 hv).1; simp at this; exact this
    subst hi
    simp at hv hbs; subst hv hbs
    exact hp.below hbw
  · rintro e w5 ⟨rfl, b5⟩
    refine ⟨by simp, hbw.trans (b5.mono (by simp))⟩
set_option maxRecDepth 100000 in
set_option maxHeartbeats 1000000 in
theorem shaSums_walk (v : Value) (bs : List Int) (w : World) (hL : Laid w) (hp : PartAt w v bs) (hn : bs.length ≤ 140737488351232) (hby : ∀ x ∈ bs, 0 ≤ x ∧ x ≤ 255) :
    Calls Tryd.prog 3 #[v] w fun e w' => e = .returned (.bool true) ∧ Below w.heap.size w w' := by
  have h2 := hL.two
  obtain ⟨HB, hHB⟩ : ∃ HB, HB = hashOf bs := ⟨_, rfl⟩
  have hlen : HB.length = 32 := by rw [hHB]; exact hashOf_length bs
  have C10 : Hid (∀ w' : World, Laid w' → PartAt w' v bs → Calls Tryd.prog 10 #[v] w' fun e w'' => e = .returned (.agg (vB HB)) ∧ Below w'.heap.size w' w'') := fun w' h1 h3 => by rw [hHB]; exact sum1_any v bs w' h1 h3 (by omega)
  have C11 : Hid (∀ w' : World, PartAt w' v bs → Calls Tryd.prog 11 #[v] w' fun e w'' => e = .returned (.agg (vB HB)) ∧ Below w'.heap.size w' w'') := fun w' h3 => by rw [hHB]; exact rsum_any v bs w' h3 hn hby
  have C12 : Hid (∀ w' : World, Laid w' → PartAt w' v bs → Calls Tryd.prog 12 #[.slice (some ⟨w'.heap.size, 0, none⟩) 1 1] (w'.alloc (Obj.cells #[v] 22)) fun e w'' => e = .returned (.agg (vB HB)) ∧ Below w'.heap.size w' w'') := fun w' h1 h3 => by rw [hHB]; exact of_one v bs w' h1 h3 (by omega)
  have E24 : Hid (∀ w' : World, (Op.equalIn 10000 24 (.agg (vB HB)) (.agg (vB HB))).run Tryd.prog w' = .ok true w') := fun w' => eq24_self 9998 HB hlen w'
  clear hHB hby
  have hp0 := hp
  obtain ⟨av, b, o, cp, hv, hrest⟩ := hp
  subst hv
  go_enter Tryd.func3, Tryd.ntmps3
  go_wp2_with fail
  refine (awake_any _ hL).mono ?_
  rintro e w1 ⟨rfl, b1⟩
  have hL1 := hL.below b1 h2
  have hp1 := hp0.below b1
  go_wp2_with fail
  refine (C10.out _ hL1 hp1).mono ?_
  rintro e w2 ⟨rfl, b2⟩
  have hp2 := hp1.below b2
  have b02 := b1.trans (b2.mono b1.size)
  go_wp2_with fail
  refine (C11.out _ hp2).mono ?_
  rintro e w3 ⟨rfl, b3⟩
  have hp3 := hp2.below b3
  have b03 := b02.trans (b3.mono b02.size)
  have hL3 := hL.below b03 h2
  have e24 := E24.out w3
  go_wp2_with fail
  refine (C12.out _ hL3 hp3).mono ?_
  rintro e w4 ⟨rfl, b4⟩
  have hp4 := hp3.below b4
  have b04 := b03.trans (b4.mono b03.size)
  clear e24
  go_wp2_with fail
  refine (C11.out _ hp4).mono ?_
  rintro e w5 ⟨rfl, b5⟩
  have b05 := b04.trans (b5.mono b04.size)
  have e24 := E24.out w5
  go_wp2_with fail
  go_ret
  exact ⟨rfl, b05⟩
end Go.Proofs.YtkdpbiilimfbnaaDoor
