import Derived.Test.YtndmjndokokmnaaFf
import Derived.Test.YtndmjndokokmnaaTc
namespace Go.Proofs.Ytndmjndokokmnaa
set_option linter.unusedSimpArgs false
set_option linter.unusedVariables false
open Go.RowKit
open Go.Deep
set_option maxHeartbeats 1000000 in
set_option maxRecDepth 100000 in
theorem formed_any (t : T) (w : World) (u : Value) (hu : SV AnyB w u t.kids) : Calls Try.prog 34 #[vN t.hd u] w fun e w' => e = .returned (.bool (formedT t)) ∧ Below w.heap.size w w' := by
  obtain ⟨hd, l, rfl⟩ := t.out
  rw [T.kids_mk] at hu
  have hz : (w.alloc (.cells (cN hd u).toArray 55)).heap.size = w.heap.size + 1 := by simp
  have B1 : Below w.heap.size w (w.alloc (.cells (cN hd u).toArray 55)) := (Below.refl _ _).alloc (Nat.le_refl _) _
  have B2 : Below w.heap.size w ((w.alloc (.cells (cN hd u).toArray 55)).alloc (.cells (cC 0 gs0).toArray 84)) := B1.alloc (by omega) _
  have X2 : BoxN 55 ((w.alloc (.cells (cN hd u).toArray 55)).alloc (.cells (cC 0 gs0).toArray 84)) w.heap.size hd u := (BoxN.new 55 w hd u).blk (Below.heap_alloc _ _ _ (by omega))
  have C2 : CBox ((w.alloc (.cells (cN hd u).toArray 55)).alloc (.cells (cC 0 gs0).toArray 84)) (w.heap.size + 1) 0 gs0 := by
    have := heap_alloc_last (w.alloc (.cells (cN hd u).toArray 55)) (.cells (cC 0 gs0).toArray 84)
    rw [hz] at this; exact this
  have S2 : SV (fun b => b ≠ w.heap.size + 1) ((w.alloc (.cells (cN hd u).toArray 55)).alloc (.cells (cC 0 gs0).toArray 84)) u l :=
    hu.keep B2.size fun b _ hb => ⟨by omega, B2.block b hb⟩
  have CALL : Hid (Calls Try.prog 62 #[.pointer (some ⟨w.heap.size + 1, 0, none⟩), vN hd u, .int .i64 1] ((w.alloc (.cells (cN hd u).toArray 55)).alloc (.cells (cC 0 gs0).toArray 84)) fun e w' => e = .returned (.bool (formedT (.mk hd l))) ∧ Below w.heap.size w w') := by
    have q := passes_any (.mk hd l) (w.heap.size + 1) 0 1 gs0 _ u C2 gs0_ok (by omega) (by omega) (by omega) (by rw [T.kids_mk]; exact S2)
    rw [T.hd_mk] at q
    refine q.mono fun e w' ⟨ok, m', s', he, _, hg, hp⟩ => ⟨?_, B2.grown hg B2.size (fun k hk => by injection hk; omega)⟩
    rw [he, formed_pass]
    cases ok with
    | true => rw [(if_pos rfl : PassR _ true _ _ = _).mp hp]; rfl
    | false => rw [(if_neg (by simp) : PassR _ false _ _ = _).mp hp]; rfl
  have HX : Hid (((w.alloc (.cells (cN hd u).toArray 55)).alloc (.cells (cC 0 gs0).toArray 84)).rangeAt w.heap.size 0 (cN hd u)) := X2.range
  generalize formedT (.mk hd l) = R at *
  clear hu hz B1 B2 X2 C2 S2
  rw [T.hd_mk]
  obtain ⟨k, c, x0, x1, x2, x3, nn, lo, hi⟩ := hd
  change Calls Try.prog 34 #[.agg #[.int .i64 k, .int .u8 (c : Int), .int .u64 (x0 : Int), .int .u64 x1, .int .u64 x2, .int .u64 x3, .int .i64 nn, .int .i64 lo, .int .i64 hi, u]] w _
  go_enter Try.func34, Try.ntmps34
  go_wp2_with (first | (refine loadN55 rfl _ rfl w.heap.size 0 rfl ⟨k, c, x0, x1, x2, x3, nn, lo, hi⟩ _ HX.out ?_) | (go_at_call 62; refine CALL.out.mono ?_; rintro e w6 ⟨rfl, b6⟩))
  go_ret
  exact ⟨rfl, b6⟩
theorem kid0 (w : World) : SV AnyB w (.slice none 0 0) [] := SV.nil _ _
theorem formed_2 : formedT (.mk ⟨2, 0, 0, 0, 0, 0, 0, 0, 0⟩ []) = true := by decide +kernel
theorem formed_0 : formedT (.mk ⟨0, 0, 0, 0, 0, 0, 0, 0, 0⟩ []) = false := by decide +kernel
set_option maxHeartbeats 1000000 in
set_option maxRecDepth 100000 in
theorem awake_any (w : World) : Calls Try.prog 31 #[] w fun e w' => e = .returned (.bool true) ∧ Below w.heap.size w w' := by
  have F1 : Hid (∀ W, Calls Try.prog 34 #[.agg #[.int .i64 2, .int .u8 0, .int .u64 0, .int .u64 0, .int .u64 0, .int .u64 0, .int .i64 0, .int .i64 0, .int .i64 0, .slice none 0 0]] W fun e w' => e = .returned (.bool true) ∧ Below W.heap.size W w') := fun W => by
    have q := formed_any (.mk ⟨2, 0, 0, 0, 0, 0, 0, 0, 0⟩ []) W (.slice none 0 0) (by rw [T.kids_mk]; exact kid0 W)
    rw [formed_2] at q; exact q
  have F2 : Hid (∀ W, Calls Try.prog 34 #[.agg #[.int .i64 0, .int .u8 0, .int .u64 0, .int .u64 0, .int .u64 0, .int .u64 0, .int .i64 0, .int .i64 0, .int .i64 0, .slice none 0 0]] W fun e w' => e = .returned (.bool false) ∧ Below W.heap.size W w') := fun W => by
    have q := formed_any (.mk ⟨0, 0, 0, 0, 0, 0, 0, 0, 0⟩ []) W (.slice none 0 0) (by rw [T.kids_mk]; exact kid0 W)
    rw [formed_0] at q; exact q
  have F3 : Hid (∀ W, Calls Try.prog 36 #[.agg #[.int .i64 0, .int .u8 0, .int .u64 0, .int .u64 0, .int .u64 0, .int .u64 0, .int .i64 0, .int .i64 0, .int .i64 0, .slice none 0 0]] W fun e w' => e = .returned (.int .i64 1) ∧ Below W.heap.size W w') := fun W => by
    have q := count_any (.mk ⟨0, 0, 0, 0, 0, 0, 0, 0, 0⟩ []) W (.slice none 0 0) (by rw [T.kids_mk]; exact kid0 W) (by decide)
    exact q
  go_enter Try.func31, Try.ntmps31
  go_wp2_with (first | (go_at_call 34; refine (F1.out _).mono ?_; rintro e w1 ⟨rfl, b1⟩) | (go_at_call 34; refine (F2.out _).mono ?_; rintro e w2 ⟨rfl, b2⟩) | (go_at_call 36; refine (F3.out _).mono ?_; rintro e w3 ⟨rfl, b3⟩))
  go_ret
  exact ⟨rfl, b1.trans ((b2.mono b1.size).trans (b3.mono (Nat.le_trans b1.size b2.size)))⟩
end Go.Proofs.Ytndmjndokokmnaa
