import Derived.Test.YtkdpbiilimfbnaaDoorSumsWalk
namespace Go.Proofs.YtkdpbiilimfbnaaDoor
set_option linter.unusedSimpArgs false
set_option linter.unusedVariables false
open Go.RowKit
def endsTo (c : Int) (m : Nat) : Nat → List Int
  | 0 => zs m
  | k + 1 => (endsTo c m k).set k ((c + k) % 256)
theorem endsTo_length (c : Int) (m k : Nat) : (endsTo c m k).length = m := by
  induction k with
  | zero => simp [endsTo, zs]
  | succ k ih => simp [endsTo, ih]
theorem endsTo_bytes (c : Int) (m k : Nat) : ∀ x ∈ endsTo c m k, 0 ≤ x ∧ x ≤ 255 := by
  induction k with
  | zero =>
    intro x hx
    simp [endsTo, zs] at hx; omega
  | succ k ih =>
    intro x hx
    rcases List.mem_or_eq_of_mem_set hx with h | h
    · exact ih x h
    · omega
theorem makeB8 (n : Nat) (h : n ≤ 255) (w : World) : (Instr.makeSlice 22 (.int .u8 n) (.int .u8 n)).run Tryd.prog w = .ok (.slice (some ⟨w.heap.size, 0, none⟩) n n) (w.alloc (.cells (vB (zs n)) 5)) := by
  rw [← madeB]
  exact run_make_row' 22 5 (.int .u8 0) 1 Tryd.underlying22 (by kernel_rfl) rfl .u8 .u8 n (by omega) (by omega) w
set_option maxRecDepth 100000 in
set_option maxHeartbeats 1000000 in
theorem shaEnds_walk (c : Int) (m : Nat) (w : World) (hL : Laid w) (hc : 0 ≤ c ∧ c ≤ 255) (hm : m ≤ 255) :
    Calls Tryd.prog 7 #[.int .u8 c, .int .u8 m] w fun e w' => e = .returned (.bool true) ∧ Below w.heap.size w w' := by
  have h2 := hL.two
  have hmk : ∀ w : World, (Instr.makeSlice 22 (.int .u8 m) (.int .u8 m)).run Tryd.prog w = .ok (.slice (some ⟨w.heap.size, 0, none⟩) m m) (w.alloc (.cells (vB (zs m)) 5)) := fun w => makeB8 m hm w
  go_enter Tryd.func7, Tryd.ntmps7
  go_wp2_with fail
  refine (awake_any _ hL).mono ?_
  rintro e w1 ⟨rfl, b1⟩
  have s1 := b1.size
  go_wp2_with fail
  go_loopw [13] (fun i wr => ∃ k : Nat, k ≤ m ∧ i = .int .i64 k ∧ Below w1.heap.size w1 wr ∧ Hid (wr.heap.size = w1.heap.size + 1) ∧ Hid (wr.heap[w1.heap.size]? = some (.cells (vB (endsTo c m k)) 5))) (fun i _ => m - (intOf i).toNat)
  case atStart => exact ⟨0, by omega, rfl, (Below.refl _ _).alloc (Nat.le_refl _) _, show (w1.alloc (Obj.cells (vB (zs m)) 5)).heap.size = _ by simp, heap_alloc_new _ _⟩
  case round =>
    obtain ⟨k, hk, rfl, hbl, hsz, hb0⟩ := hrel
    have hl := endsTo_length c m k
    by_cases hlt : k < m
    · have hcl := row_cell hb0.out (vB_at (endsTo c m k) k (by omega))
      have hfw : wr.frozen? ⟨w1.heap.size, k, none⟩ = false := frozen_of_row _ _ _ _ _ hb0.out
      go_wp2_with fail
      go_roundw
      case rel =>
        refine ⟨k + 1, by omega, by go_num, hbl.setCell (Nat.le_refl _) _, ?_, ?_⟩
        · have := hsz.out
          unfold Hid
          simpa using this
        · exact setB hb0.out
      case measure => simp [intOf]; omega
    · have ek : k = m := by omega
      have hb1 : wr.heap[w1.heap.size]? = some (.cells (vB (endsTo c m m)) 5) := by rw [hb0.out, ek]
      have hby := endsTo_bytes c m m
      have hl2 := endsTo_length c m m
      obtain ⟨bs, hbs⟩ : ∃ bs, bs = endsTo c m m := ⟨_, rfl⟩
      rw [← hbs] at hb1 hby hl2
      have hgl : w1.heap.size < wr.heap.size := (Array.getElem?_eq_some_iff.1 hb1).1
      have hp : PartAt wr (.slice (some ⟨w1.heap.size, 0, none⟩) m m) bs := ⟨some ⟨w1.heap.size, 0, none⟩, w1.heap.size, 0, m, by rw [hl2], by omega, by omega, fun _ => rfl, range_of_block hb1, hgl, fun h => by cases h⟩
      have b0 : Below w.heap.size w wr := b1.trans (hbl.mono b1.size)
      have hLr := hL.below b0 h2
      clear ek hbs hb0 hb1 hsz hbl
      obtain ⟨HB, hHB⟩ : ∃ HB, HB = hashOf bs := ⟨_, rfl⟩
      have hlen : HB.length = 32 := by rw [hHB]; exact hashOf_length bs
      have C10 : Hid (Calls Tryd.prog 10 #[.slice (some ⟨w1.heap.size, 0, none⟩) m m] wr fun e w'' => e = .returned (.agg (vB HB)) ∧ Below wr.heap.size wr w'') := by unfold Hid; rw [hHB]; exact sum1_any _ bs wr hLr hp (by omega)
      have C11 : Hid (∀ w' : World, PartAt w' (.slice (some ⟨w1.heap.size, 0, none⟩) m m) bs → Calls Tryd.prog 11 #[.slice (some ⟨w1.heap.size, 0, none⟩) m m] w' fun e w'' => e = .returned (.agg (vB HB)) ∧ Below w'.heap.size w' w'') := fun w' h3 => by rw [hHB]; exact rsum_any _ bs w' h3 (by omega) hby
      have E24 : Hid (∀ w' : World, (Op.equalIn 10000 24 (.agg (vB HB)) (.agg (vB HB))).run Tryd.prog w' = .ok true w') := fun w' => eq24_self 9998 HB hlen w'
      clear hHB hby
      go_wp2_with fail
      refine C10.out.mono ?_
      rintro e w2 ⟨rfl, b2⟩
      have hp2 := hp.below b2
      have b02 := b0.trans (b2.mono b0.size)
      go_wp2_with fail
      refine (C11.out _ hp2).mono ?_
      rintro e w3 ⟨rfl, b3⟩
      have b03 := b02.trans (b3.mono b02.size)
      have e24 := E24.out w3
      go_wp2_with fail
      go_ret
      exact ⟨rfl, b03⟩
end Go.Proofs.YtkdpbiilimfbnaaDoor
