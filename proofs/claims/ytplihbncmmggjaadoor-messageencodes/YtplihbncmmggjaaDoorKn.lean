import Derived.Test.YtplihbncmmggjaaDoorKy
namespace Go.Proofs.YtplihbncmmggjaaDoor
set_option linter.unusedSimpArgs false
set_option linter.unusedVariables false
open Go.RowKit
set_option maxRecDepth 100000 in
set_option maxHeartbeats 400000 in
theorem truth_h (p : Value) (st : Option (List Int)) (b : Bool) (w : World) (h : Hnd w p st) (hn : stLen st ≤ 100000000) :
    Calls Tryd.prog 89 #[p, .bool b] w (Wrote w p (addSt st (truthSt b))) := by
  have C : Hid (∀ n : Int, 0 ≤ n → n ≤ 18446744073709551615 → Calls Tryd.prog 61 #[p, .int .u64 n, .int .i64 1] w (Wrote w p (addSt st (numSt n 1)))) := fun n h0 h1 => number_h p st n h0 h1 1 w h hn
  clear h
  cases b
  · go_enter Tryd.func89, Tryd.ntmps89
    go_wp2_with fail
    refine (C.out 0 (by omega) (by omega)).mono ?_
    rintro e w' ⟨rfl, h1, h2⟩
    go_wp2
    exact fell Tryd.results89 rfl ⟨rfl, h1, h2⟩
  · go_enter Tryd.func89, Tryd.ntmps89
    go_wp2_with fail
    refine (C.out 1 (by omega) (by omega)).mono ?_
    rintro e w' ⟨rfl, h1, h2⟩
    go_wp2
    exact fell Tryd.results89 rfl ⟨rfl, h1, h2⟩
set_option maxRecDepth 100000 in
set_option maxHeartbeats 400000 in
theorem text_h (p : Value) (st : Option (List Int)) (s : ByteArray) (hs : s.size ≤ 9223372036854775807) (w : World) (h : Hnd w p st) (hn : stLen st ≤ 90000000) :
    Calls Tryd.prog 91 #[p, .string s] w (Wrote w p (addSt st (textSt s))) := by
  have C : Hid (Calls Tryd.prog 61 #[p, .int .u64 s.size, .int .i64 2] w (Wrote w p (addSt st (numSt s.size 2)))) := number_h p st s.size (by omega) (by omega) 2 w h (by omega)
  have hc : (s.size : Int) % 18446744073709551616 = s.size := by omega
  clear h
  go_enter Tryd.func91, Tryd.ntmps91
  go_wp2_with fail
  refine C.out.mono ?_
  rintro e w1 ⟨rfl, h1, g1⟩
  have D : Hid (Calls Tryd.prog 84 #[p, .string s] w1 (Wrote w1 p (addSt st (textSt s)))) := by
    unfold Hid textSt
    rw [← addSt_assoc]
    cases hq : numSt s.size 2 with
    | none =>
      rw [hq] at h1
      have e0 : addSt st none = none := by cases st <;> rfl
      rw [e0] at h1
      rw [e0, addSt_none]; exact add_none p _ w1 h1
    | some l0 =>
    obtain ⟨m, em, hm, hf, el⟩ := numSt_some hq
    have hf' := of_decide_eq_true hf
    obtain rfl : m = 2 := by omega
    have hsz : s.size < 65536 := by omega
    rw [← hq]
    have := add_h p (addSt st (numSt s.size 2)) (nB s) w1 h1 (by have := stLen_add st (numSt s.size 2); have := stLen_num s.size 2; rw [nB_length]; omega)
    rwa [str_nB] at this
  clear h1 C
  go_wp2_with fail
  refine D.out.mono ?_
  rintro e w2 ⟨rfl, h2, g2⟩
  go_wp2
  exact fell Tryd.results91 rfl ⟨rfl, h2, grown_trans g1 g2⟩
set_option maxRecDepth 100000 in
set_option maxHeartbeats 400000 in
theorem hash_h (p : Value) (st : Option (List Int)) (h : List Int) (hl : h.length = 32) (w : World) (hp : Hnd w p st) (hn : stLen st ≤ 100000000) :
    Calls Tryd.prog 90 #[p, .agg (vB h)] w (Wrote w p (addSt st (some h))) := by
  have b1 : Below w.heap.size w (w.alloc (.cells (vB h) 24)) := (Below.refl _ _).alloc (Nat.le_refl _) _
  have hcv := run_conv28 (cap := 32) hl (range_of_block (heap_alloc_new w (.cells (vB h) 24)))
  have D : Hid (Calls Tryd.prog 84 #[p, .string (strOfNums h)] (w.alloc (.cells (vB h) 24)) (Wrote (w.alloc (.cells (vB h) 24)) p (addSt st (some h)))) := add_h p st h _ (hp.below b1) (by omega)
  have B1 : Hid (Below w.heap.size w (w.alloc (.cells (vB h) 24))) := b1
  clear b1 hp
  have hvs := vB_size h
  go_enter Tryd.func90, Tryd.ntmps90
  go_wp2_with fail
  refine D.out.mono ?_
  rintro e w2 ⟨rfl, h2, g2⟩
  go_wp2
  exact fell Tryd.results90 rfl ⟨rfl, h2, grown_trans (by have := B1.out; exact grown_below this _) g2⟩
end Go.Proofs.YtplihbncmmggjaaDoor
