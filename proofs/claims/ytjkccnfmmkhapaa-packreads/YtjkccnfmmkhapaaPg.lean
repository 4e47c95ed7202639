import Derived.Test.YtjkccnfmmkhapaaPf
namespace Go.Proofs.Ytjkccnfmmkhapaa
set_option linter.unusedSimpArgs false
set_option linter.unusedVariables false
open Go.RowKit
def pb : Value → Option Nat
  | .pointer (some a) => some a.block
  | _ => none
/-- A writer, or none. -/
def Hnd (w : World) (p : Value) (st : Option (List Int)) : Prop := (p = .pointer none ∧ st = none) ∨ ∃ g, p = .pointer (some ⟨g, 0, none⟩) ∧ WSt w g st
theorem Hnd.below {w w' : World} {p : Value} {st : Option (List Int)} (h : Hnd w p st) (hb : Below w.heap.size w w') : Hnd w' p st := by
  rcases h with h | ⟨g, h1, h2⟩
  · exact Or.inl h
  · exact Or.inr ⟨g, h1, h2.below hb⟩
theorem addSt_none (b : Option (List Int)) : addSt none b = none := by cases b <;> rfl
theorem grown_nil {a b : World} (h : Below a.heap.size a b) : a.grownBy b none := ⟨h.os, h.tape, h.output, h.size, fun k hk _ => h.block k hk⟩
/-- What a call on a writer leaves. -/
def Wrote (w : World) (p : Value) (st : Option (List Int)) (e : Ending) (w' : World) : Prop := e = .returned (.tuple #[]) ∧ Hnd w' p st ∧ w.grownBy w' (pb p)
theorem number_h (p : Value) (st : Option (List Int)) (n : Int) (h0 : 0 ≤ n) (h1 : n ≤ 18446744073709551615) (k : Int) (w : World) (h : Hnd w p st) (hn : stLen st ≤ 100000000) :
    Calls Try.prog 22 #[p, .int .u64 n, .int .i64 k] w (Wrote w p (addSt st (numSt n k))) := by
  rcases h with ⟨rfl, rfl⟩ | ⟨g, rfl, h⟩
  · refine (number_nil n h0 h1 k w).mono ?_
    rintro e w' ⟨rfl, hb⟩
    exact ⟨rfl, Or.inl ⟨rfl, addSt_none _⟩, grown_nil hb⟩
  · refine (number_any g st n h0 h1 k w h hn).mono ?_
    rintro e w' ⟨rfl, h1, h2⟩
    exact ⟨rfl, Or.inr ⟨g, rfl, h1⟩, h2⟩
theorem add_h (p : Value) (st : Option (List Int)) (s : List Int) (w : World) (h : Hnd w p st) (hn : stLen st + s.length ≤ 140737488355328) :
    Calls Try.prog 33 #[p, .string (strOfNums s)] w (Wrote w p (addSt st (some s))) := by
  rcases h with ⟨rfl, rfl⟩ | ⟨g, rfl, h⟩
  · refine (add_nil _ w).mono ?_
    rintro e w' ⟨rfl, rfl⟩
    exact ⟨rfl, Or.inl ⟨rfl, addSt_none _⟩, grown_nil (Below.refl _ _)⟩
  · refine (add_any g st s w h hn).mono ?_
    rintro e w' ⟨rfl, h1, h2⟩
    exact ⟨rfl, Or.inr ⟨g, rfl, h1⟩, h2⟩
theorem add_none (p : Value) (v : Value) (w : World) (h : Hnd w p none) : Calls Try.prog 33 #[p, v] w (Wrote w p none) := by
  rcases h with ⟨rfl, _⟩ | ⟨g, rfl, h⟩
  · refine (add_nil _ w).mono ?_
    rintro e w' ⟨rfl, rfl⟩
    exact ⟨rfl, Or.inl ⟨rfl, rfl⟩, grown_nil (Below.refl _ _)⟩
  · refine (add_bad g _ w h).mono ?_
    rintro e w' ⟨rfl, rfl⟩
    exact ⟨rfl, Or.inr ⟨g, rfl, h⟩, World.grownBy.refl _ _⟩
def truthSt (b : Bool) : Option (List Int) := numSt (if b then 1 else 0) 1
set_option maxHeartbeats 400000 in
theorem truth_h (p : Value) (st : Option (List Int)) (b : Bool) (w : World) (h : Hnd w p st) (hn : stLen st ≤ 100000000) :
    Calls Try.prog 23 #[p, .bool b] w (Wrote w p (addSt st (truthSt b))) := by
  have C : Hid (∀ n : Int, 0 ≤ n → n ≤ 18446744073709551615 → Calls Try.prog 22 #[p, .int .u64 n, .int .i64 1] w (Wrote w p (addSt st (numSt n 1)))) := fun n h0 h1 => number_h p st n h0 h1 1 w h hn
  clear h
  cases b
  · go_enter Try.func23, Try.ntmps23
    go_wp2_with fail
    refine (C.out 0 (by omega) (by omega)).mono ?_
    rintro e w' ⟨rfl, h1, h2⟩
    go_wp2
    exact fell Try.results23 rfl ⟨rfl, h1, h2⟩
  · go_enter Try.func23, Try.ntmps23
    go_wp2_with fail
    refine (C.out 1 (by omega) (by omega)).mono ?_
    rintro e w' ⟨rfl, h1, h2⟩
    go_wp2
    exact fell Try.results23 rfl ⟨rfl, h1, h2⟩
def textSt (s : ByteArray) : Option (List Int) := addSt (numSt s.size 2) (some (nB s))
theorem addSt_assoc (a b c : Option (List Int)) : addSt (addSt a b) c = addSt a (addSt b c) := by
  cases a <;> cases b <;> cases c <;> simp [addSt]
theorem stLen_add (a b : Option (List Int)) : stLen (addSt a b) ≤ stLen a + stLen b := by
  cases a <;> cases b <;> simp [addSt, stLen]
theorem stLen_num (n k : Int) : stLen (numSt n k) ≤ 8 := by
  cases h : numSt n k with
  | none => simp [stLen]
  | some l =>
    obtain ⟨m, _, hm, _, rfl⟩ := numSt_some h
    simp [stLen, numB_length]; omega
theorem pb_grown_trans {a b c : World} {p : Value} (h : a.grownBy b (pb p)) (k : b.grownBy c (pb p)) : a.grownBy c (pb p) := grown_trans h k
set_option maxHeartbeats 400000 in
theorem text_h (p : Value) (st : Option (List Int)) (s : ByteArray) (hs : s.size ≤ 9223372036854775807) (w : World) (h : Hnd w p st) (hn : stLen st ≤ 90000000) :
    Calls Try.prog 24 #[p, .string s] w (Wrote w p (addSt st (textSt s))) := by
  have C : Hid (Calls Try.prog 22 #[p, .int .u64 s.size, .int .i64 2] w (Wrote w p (addSt st (numSt s.size 2)))) := number_h p st s.size (by omega) (by omega) 2 w h (by omega)
  have hc : (s.size : Int) % 18446744073709551616 = s.size := by omega
  clear h
  go_enter Try.func24, Try.ntmps24
  go_wp2_with fail
  refine C.out.mono ?_
  rintro e w1 ⟨rfl, h1, g1⟩
  have D : Hid (Calls Try.prog 33 #[p, .string s] w1 (Wrote w1 p (addSt st (textSt s)))) := by
    unfold Hid textSt
    rw [← addSt_assoc]
    cases hq : numSt s.size 2 with
    | none =>
      rw [hq] at h1
      have e0 : addSt st none = none := by cases st <;> rfl
      rw [e0] at h1
      rw [e0, addSt_none]; exact add_none p _ w1 h1
    | some l0 =>
    obtain ⟨m, em, hm, hf, el⟩ := numSt_some hq
    have hf' := of_decide_eq_true hf
    obtain rfl : m = 2 := by omega
    have hsz : s.size < 65536 := by omega
    rw [← hq]
    have := add_h p (addSt st (numSt s.size 2)) (nB s) w1 h1 (by have := stLen_add st (numSt s.size 2); have := stLen_num s.size 2; rw [nB_length]; omega)
    rwa [str_nB] at this
  clear h1 C
  go_wp2_with fail
  refine D.out.mono ?_
  rintro e w2 ⟨rfl, h2, g2⟩
  go_wp2
  exact fell Try.results24 rfl ⟨rfl, h2, grown_trans g1 g2⟩
set_option maxHeartbeats 400000 in
theorem hash_h (p : Value) (st : Option (List Int)) (h : List Int) (hl : h.length = 32) (w : World) (hp : Hnd w p st) (hn : stLen st ≤ 100000000) :
    Calls Try.prog 25 #[p, .agg (vB h)] w (Wrote w p (addSt st (some h))) := by
  have b1 : Below w.heap.size w (w.alloc (.cells (vB h) 32)) := (Below.refl _ _).alloc (Nat.le_refl _) _
  have hcv := run_conv28 (cap := 32) hl (range_of_block (heap_alloc_new w (.cells (vB h) 32)))
  have D : Hid (Calls Try.prog 33 #[p, .string (strOfNums h)] (w.alloc (.cells (vB h) 32)) (Wrote (w.alloc (.cells (vB h) 32)) p (addSt st (some h)))) := add_h p st h _ (hp.below b1) (by omega)
  have B1 : Hid (Below w.heap.size w (w.alloc (.cells (vB h) 32))) := b1
  clear b1 hp
  have hvs := vB_size h
  go_enter Try.func25, Try.ntmps25
  go_wp2_with fail
  refine D.out.mono ?_
  rintro e w2 ⟨rfl, h2, g2⟩
  go_wp2
  exact fell Try.results25 rfl ⟨rfl, h2, grown_trans (by have := B1.out; exact grown_below this _) g2⟩
end Go.Proofs.Ytjkccnfmmkhapaa
