import Derived.Test.YtjhnnblilfddpaaDoorKf
namespace Go.Proofs.YtjhnnblilfddpaaDoor
set_option linter.unusedSimpArgs false
set_option linter.unusedVariables false
open Go.RowKit
def pb : Value → Option Nat
  | .pointer (some a) => some a.block
  | _ => none
/-- A writer, or none. -/
def Hnd (w : World) (p : Value) (st : Option (List Int)) : Prop := (p = .pointer none ∧ st = none) ∨ ∃ g, p = .pointer (some ⟨g, 0, none⟩) ∧ WSt w g st
set_option maxRecDepth 100000 in
theorem Hnd.below {w w' : World} {p : Value} {st : Option (List Int)} (h : Hnd w p st) (hb : Below w.heap.size w w') : Hnd w' p st := by
  rcases h with h | ⟨g, h1, h2⟩
  · exact Or.inl h
  · exact Or.inr ⟨g, h1, h2.below hb⟩
set_option maxRecDepth 100000 in
theorem addSt_none (b : Option (List Int)) : addSt none b = none := by cases b <;> rfl
set_option maxRecDepth 100000 in
theorem grown_nil {a b : World} (h : Below a.heap.size a b) : a.grownBy b none := ⟨h.os, h.tape, h.output, h.size, fun k hk _ => h.block k hk⟩
/-- What a call on a writer leaves. -/
def Wrote (w : World) (p : Value) (st : Option (List Int)) (e : Ending) (w' : World) : Prop := e = .returned (.tuple #[]) ∧ Hnd w' p st ∧ w.grownBy w' (pb p)
set_option maxRecDepth 100000 in
theorem number_h (p : Value) (st : Option (List Int)) (n : Int) (h0 : 0 ≤ n) (h1 : n ≤ 18446744073709551615) (k : Int) (w : World) (h : Hnd w p st) (hn : stLen st ≤ 100000000) :
    Calls Tryd.prog 49 #[p, .int .u64 n, .int .i64 k] w (Wrote w p (addSt st (numSt n k))) := by
  rcases h with ⟨rfl, rfl⟩ | ⟨g, rfl, h⟩
  · refine (number_nil n h0 h1 k w).mono ?_
    rintro e w' ⟨rfl, hb⟩
    exact ⟨rfl, Or.inl ⟨rfl, addSt_none _⟩, grown_nil hb⟩
  · refine (number_any g st n h0 h1 k w h hn).mono ?_
    rintro e w' ⟨rfl, h1, h2⟩
    exact ⟨rfl, Or.inr ⟨g, rfl, h1⟩, h2⟩
set_option maxRecDepth 100000 in
theorem add_h (p : Value) (st : Option (List Int)) (s : List Int) (w : World) (h : Hnd w p st) (hn : stLen st + s.length ≤ 140737488355328) :
    Calls Tryd.prog 72 #[p, .string (strOfNums s)] w (Wrote w p (addSt st (some s))) := by
  rcases h with ⟨rfl, rfl⟩ | ⟨g, rfl, h⟩
  · refine (add_nil _ w).mono ?_
    rintro e w' ⟨rfl, rfl⟩
    exact ⟨rfl, Or.inl ⟨rfl, addSt_none _⟩, grown_nil (Below.refl _ _)⟩
  · refine (add_any g st s w h hn).mono ?_
    rintro e w' ⟨rfl, h1, h2⟩
    exact ⟨rfl, Or.inr ⟨g, rfl, h1⟩, h2⟩
set_option maxRecDepth 100000 in
theorem add_none (p : Value) (v : Value) (w : World) (h : Hnd w p none) : Calls Tryd.prog 72 #[p, v] w (Wrote w p none) := by
  rcases h with ⟨rfl, _⟩ | ⟨g, rfl, h⟩
  · refine (add_nil _ w).mono ?_
    rintro e w' ⟨rfl, rfl⟩
    exact ⟨rfl, Or.inl ⟨rfl, rfl⟩, grown_nil (Below.refl _ _)⟩
  · refine (add_bad g _ w h).mono ?_
    rintro e w' ⟨rfl, rfl⟩
    exact ⟨rfl, Or.inr ⟨g, rfl, h⟩, World.grownBy.refl _ _⟩
def truthSt (b : Bool) : Option (List Int) := numSt (if b then 1 else 0) 1
def textSt (s : ByteArray) : Option (List Int) := addSt (numSt s.size 2) (some (nB s))
set_option maxRecDepth 100000 in
theorem addSt_assoc (a b c : Option (List Int)) : addSt (addSt a b) c = addSt a (addSt b c) := by
  cases a <;> cases b <;> cases c <;> simp [addSt]
set_option maxRecDepth 100000 in
theorem stLen_add (a b : Option (List Int)) : stLen (addSt a b) ≤ stLen a + stLen b := by
  cases a <;> cases b <;> simp [addSt, stLen]
set_option maxRecDepth 100000 in
theorem stLen_num (n k : Int) : stLen (numSt n k) ≤ 8 := by
  cases h : numSt n k with
  | none => simp [stLen]
  | some l =>
    obtain ⟨m, _, hm, _, rfl⟩ := numSt_some h
    simp [stLen, numB_length]; omega
set_option maxRecDepth 100000 in
theorem pb_grown_trans {a b c : World} {p : Value} (h : a.grownBy b (pb p)) (k : b.grownBy c (pb p)) : a.grownBy c (pb p) := grown_trans h k
end Go.Proofs.YtjhnnblilfddpaaDoor
