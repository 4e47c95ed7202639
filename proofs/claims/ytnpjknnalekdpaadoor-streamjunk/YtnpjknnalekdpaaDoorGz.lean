import Derived.Test.YtnpjknnalekdpaaDoorBc
import Derived.Laws.StructEq
import Derived.Deep.MidRow
import Derived.Test.YtnpjknnalekdpaaDoorKx
import Derived.Laws.Bits64b
import Derived.Test.YtnpjknnalekdpaaDoorFw
namespace Go.Proofs.YtnpjknnalekdpaaDoor
set_option linter.unusedSimpArgs false
set_option linter.unusedVariables false
open Go.RowKit
/-- A message, plain. -/
structure Msg where
  kind : Int
  frm : Int
  to : Int
  id : Int
  base : Int
  s : ByteArray
  quiet : Bool
  ext : Bool
  hash : List Int
  yes : Bool
  code : Int
  vh : List Int
  vr : List Int
  commit : Bool
structure Msg.Ok (m : Msg) : Prop where
  k : -9223372036854775808 ≤ m.kind ∧ m.kind ≤ 9223372036854775807
  f : -9223372036854775808 ≤ m.frm ∧ m.frm ≤ 9223372036854775807
  t : -9223372036854775808 ≤ m.to ∧ m.to ≤ 9223372036854775807
  i : 0 ≤ m.id ∧ m.id ≤ 18446744073709551615
  b : 0 ≤ m.base ∧ m.base ≤ 18446744073709551615
  c : -9223372036854775808 ≤ m.code ∧ m.code ≤ 9223372036854775807
  s : m.s.size ≤ 9223372036854775807
  h : m.hash.length = 32
  v : m.vh.length = 32
  r : m.vr.length = 32
  hb : Bytes m.hash
  vb : Bytes m.vh
  rb : Bytes m.vr
def eC (m : Msg) : List Value := [.string m.s, .bool m.quiet, .bool m.ext] ++ (vB m.hash).toList
def mC (m : Msg) : List Value := [.int .i64 m.kind, .int .i64 m.frm, .int .i64 m.to, .int .u64 m.id, .int .u64 m.base] ++ (eC m ++ ([.bool m.yes, .int .i64 m.code] ++ ((vB m.vh).toList ++ ((vB m.vr).toList ++ [.bool m.commit]))))
theorem vBl (l : List Int) : (vB l).toList.length = l.length := by rw [Array.length_toList, vB_size]
/-- A piece of a row. -/
theorem piece (A B C : List Value) (a n : Nat) (ha : A.length = a) (hn : B.length = n) : (A ++ (B ++ C)).toArray.extract a (a + n) = B.toArray := by
  rw [List.extract_toArray]
  congr 1
  unfold List.extract
  rw [List.drop_append_of_le_length (by omega), List.drop_eq_nil_of_le (by omega), List.nil_append, List.take_append_of_le_length (by omega), List.take_of_length_le (by omega)]
end Go.Proofs.YtnpjknnalekdpaaDoor
namespace Go.Proofs.YtnpjknnalekdpaaDoor
set_option linter.unusedSimpArgs false
set_option linter.unusedVariables false
open Go.RowKit
def inB (m : Msg) : Bool := if m.kind = 1 then decide (m.base ≤ 4294967295 ∧ m.s.size ≤ 500) else if m.kind = 2 then (m.yes || decide (1 ≤ m.code ∧ m.code ≤ 17)) else true
end Go.Proofs.YtnpjknnalekdpaaDoor
namespace Go.Proofs.YtnpjknnalekdpaaDoor
set_option linter.unusedSimpArgs false
set_option linter.unusedVariables false
open Go.RowKit
/-- A message's box. -/
def BoxM (T : TypeId) (w : World) (g : Nat) (m : Msg) : Prop := w.heap[g]? = some (.cells (mC m).toArray T)
theorem BoxM.lt {T : TypeId} {w : World} {g : Nat} {m : Msg} (h : BoxM T w g m) : g < w.heap.size := (Array.getElem?_eq_some_iff.1 h).1
theorem BoxM.below {T : TypeId} {w w' : World} {g : Nat} {m : Msg} (h : BoxM T w g m) (b : Below w.heap.size w w') : BoxM T w' g m := by
  unfold BoxM; rw [b.block g h.lt]; exact h
theorem BoxM.under {T : TypeId} {B : Nat} {w w' : World} {g : Nat} {m : Msg} (h : BoxM T w g m) (b : Below B w w') (hg : g < B) : BoxM T w' g m := by
  unfold BoxM; rw [b.block g hg]; exact h
theorem boxCell {T : TypeId} {w : World} {g : Nat} {m m' : Msg} (h : BoxM T w g m) (o : Nat) (v : Value) (he : (mC m).set o v = mC m') : BoxM T (w.setCell ⟨g, o, none⟩ v) g m' := by
  unfold BoxM at h ⊢
  rw [heap_setCell_same w g o _ T v h, List.setIfInBounds_toArray, he]
theorem boxCells {T : TypeId} {w : World} {g : Nat} {m m' : Msg} (h : BoxM T w g m) (o : Nat) (vs : List Value) (hl : o + vs.length ≤ (mC m).length) (he : (mC m).take o ++ vs ++ (mC m).drop (o + vs.length) = mC m') : BoxM T (w.setCells g o vs) g m' := by
  unfold BoxM at h ⊢
  rw [setCells_block g T vs o w _ h (by simpa using hl), List.toList_toArray, he]
theorem vB_one (l : List Int) : ∀ v ∈ (vB l).toList, v.oneCell' = true := by
  intro v hv
  unfold vB at hv
  simp only [List.mem_map, List.toList_toArray] at hv
  obtain ⟨_, _, rfl⟩ := hv; rfl
theorem below_cells {B : Nat} {a w : World} {g o : Nat} {vs : List Value} (h : Below B a w) (hg : B ≤ g) (hB : B ≤ w.heap.size) : Below B a (w.setCells g o vs) := h.grown (grown_setCells w g o vs) hB (fun k hk => by injection hk; omega)
end Go.Proofs.YtnpjknnalekdpaaDoor
namespace Go.Proofs.YtnpjknnalekdpaaDoor
set_option linter.unusedSimpArgs false
set_option linter.unusedVariables false
open Go.RowKit
end Go.Proofs.YtnpjknnalekdpaaDoor
namespace Go.Proofs.YtnpjknnalekdpaaDoor
set_option linter.unusedSimpArgs false
set_option linter.unusedVariables false
open Go.RowKit
end Go.Proofs.YtnpjknnalekdpaaDoor
namespace Go.Proofs.YtnpjknnalekdpaaDoor
set_option linter.unusedSimpArgs false
set_option linter.unusedVariables false
open Go.RowKit
end Go.Proofs.YtnpjknnalekdpaaDoor
namespace Go.Proofs.YtnpjknnalekdpaaDoor
set_option linter.unusedSimpArgs false
set_option linter.unusedVariables false
open Go.RowKit
end Go.Proofs.YtnpjknnalekdpaaDoor
namespace Go.Proofs.YtnpjknnalekdpaaDoor
set_option linter.unusedSimpArgs false
set_option linter.unusedVariables false
open Go.RowKit
end Go.Proofs.YtnpjknnalekdpaaDoor
namespace Go.Proofs.YtnpjknnalekdpaaDoor
set_option linter.unusedSimpArgs false
set_option linter.unusedVariables false
open Go.RowKit
/-- A writer at g, a message's box at gm, and what was there before. -/
structure KW (w : World) (g gm : Nat) (m : Msg) (W : World) (st : Option (List Int)) : Prop where
  st : WSt W g st
  box : BoxM 68 W gm m
  ne : gm ≠ g
  gr : w.grownBy W (some g)
theorem KW.hnd {w W : World} {g gm : Nat} {m : Msg} {st : Option (List Int)} (k : KW w g gm m W st) : Hnd W (.pointer (some ⟨g, 0, none⟩)) st := .inr ⟨g, rfl, k.st⟩
end Go.Proofs.YtnpjknnalekdpaaDoor
namespace Go.Proofs.YtnpjknnalekdpaaDoor
set_option linter.unusedSimpArgs false
set_option linter.unusedVariables false
open Go.RowKit
end Go.Proofs.YtnpjknnalekdpaaDoor
namespace Go.Proofs.YtnpjknnalekdpaaDoor
set_option linter.unusedSimpArgs false
set_option linter.unusedVariables false
open Go.RowKit
end Go.Proofs.YtnpjknnalekdpaaDoor
namespace Go.Proofs.YtnpjknnalekdpaaDoor
set_option linter.unusedSimpArgs false
set_option linter.unusedVariables false
open Go.RowKit
section
variable {ops : Array Oper} {rest : List Oper} {o : Oper} {a : Act} {w : World} {Q : Exit → Act → World → Prop}
end
section
variable {ops : Array Oper} {rest : List Oper} {o : Oper} {a : Act} {w : World} {Q : Exit → Act → World → Prop}
end
set_option maxRecDepth 100000 in
theorem RHnd.up {w w' : World} {p : Value} {st : Option (List Int)} (h : RHnd w p st) (hk : ∀ k, pb p = some k → w'.heap[k]? = w.heap[k]?) : RHnd w' p st := by
  rcases h with h | ⟨g, rfl, h⟩
  · exact Or.inl h
  · exact Or.inr ⟨g, rfl, h.keep (hk g rfl)⟩
end Go.Proofs.YtnpjknnalekdpaaDoor
namespace Go.Proofs.YtnpjknnalekdpaaDoor
set_option linter.unusedSimpArgs false
set_option linter.unusedVariables false
open Go.RowKit
/-- What is left of a reader holds bytes. -/
def YSt (st : Option (List Int)) : Prop := ∀ l, st = some l → Bytes l
theorem YSt.some {l : List Int} (h : Bytes l) : YSt (some l) := fun l' e => by cases e; exact h
theorem Bytes.left {a b : List Int} (h : Bytes (a ++ b)) : Bytes a := fun x hx => h x (List.mem_append_left _ hx)
theorem Bytes.right {a b : List Int} (h : Bytes (a ++ b)) : Bytes b := fun x hx => h x (List.mem_append_right _ hx)
theorem take_inv {st : Option (List Int)} {k : Nat} {l' : List Int} (h : takeSt st k = some l') : ∃ l, st = some l ∧ k ≤ l.length ∧ l' = l.drop k ∧ takeV st k = l.take k := by
  unfold takeSt at h
  cases st with
  | none => cases h
  | some l =>
    by_cases hk : k ≤ l.length
    · simp only [if_pos hk] at h
      refine ⟨l, rfl, hk, by injection h with h; exact h.symm, ?_⟩
      unfold takeV; simp only [if_pos hk]
    · simp only [if_neg hk] at h; cases h
theorem YSt.take {st : Option (List Int)} (hb : YSt st) (k : Nat) : YSt (takeSt st k) := fun l' h => by
  obtain ⟨l, e, _, e2, _⟩ := take_inv h
  rw [e2]
  exact fun x hx => hb l e x (List.drop_subset _ _ hx)
end Go.Proofs.YtnpjknnalekdpaaDoor
namespace Go.Proofs.YtnpjknnalekdpaaDoor
set_option linter.unusedSimpArgs false
set_option linter.unusedVariables false
open Go.RowKit
/-- A reader at g, a message's box at gm, both new since w0. -/
structure RW (B : Nat) (w0 : World) (g gm : Nat) (m : Msg) (W : World) (st : Option (List Int)) : Prop where
  st : RSt W g st
  box : BoxM 68 W gm m
  ok : m.Ok
  ne : gm ≠ g
  gB : B ≤ g
  mB : B ≤ gm
  bl : Below B w0 W
theorem RW.hnd {B : Nat} {w0 : World} {g gm : Nat} {m : Msg} {W : World} {st : Option (List Int)} (k : RW B w0 g gm m W st) : RHnd W (.pointer (some ⟨g, 0, none⟩)) st := .inr ⟨g, rfl, k.st⟩
theorem RW.read {B : Nat} {w0 : World} {g gm : Nat} {m : Msg} {W W' : World} {st st' : Option (List Int)} {v : Value} {e : Ending} (k : RW B w0 g gm m W st) (h : Rread W (.pointer (some ⟨g, 0, none⟩)) st' v e W') : e = .returned v ∧ RW B w0 g gm m W' st' := by
  obtain ⟨h1, h2, h3⟩ := h
  have h3 : W.grownBy W' (some g) := h3
  refine ⟨h1, ?_, by unfold BoxM; rw [h3.block gm k.box.lt (fun e => k.ne (by injection e))]; exact k.box, k.ok, k.ne, k.gB, k.mB, k.bl.grown h3 (by have := k.st.lt; have := k.gB; omega) (fun j hj => by injection hj with hj; have := k.gB; omega)⟩
  rcases h2 with ⟨h2, _⟩ | ⟨g', h2, h4⟩
  · cases h2
  · injection h2 with h2; injection h2 with h2; injection h2 with h2; subst h2; exact h4
theorem RW.cell {B : Nat} {w0 : World} {g gm : Nat} {m m' : Msg} {W : World} {st : Option (List Int)} (k : RW B w0 g gm m W st) (o : Nat) (v : Value) (he : (mC m).set o v = mC m') (hok : m'.Ok) : RW B w0 g gm m' (W.setCell ⟨gm, o, none⟩ v) st :=
  ⟨k.st.keep (Below.heap_setCell _ _ _ _ (fun e => k.ne e.symm)), boxCell k.box o v he, hok, k.ne, k.gB, k.mB, k.bl.setCell k.mB v⟩
theorem RW.cells {B : Nat} {w0 : World} {g gm : Nat} {m m' : Msg} {W : World} {st : Option (List Int)} (k : RW B w0 g gm m W st) (o : Nat) (vs : List Value) (hl : o + vs.length ≤ (mC m).length) (he : (mC m).take o ++ vs ++ (mC m).drop (o + vs.length) = mC m') (hok : m'.Ok) : RW B w0 g gm m' (W.setCells gm o vs) st :=
  ⟨k.st.keep (setCells_far gm vs o W g (fun e => k.ne e.symm)), boxCells k.box o vs hl he, hok, k.ne, k.gB, k.mB, below_cells k.bl k.mB (by have := k.st.lt; have := k.gB; omega)⟩
theorem wrapI (n : Int) (h0 : 0 ≤ n) (h1 : n ≤ 9223372036854775807) : IntKind.i64.wrap n = n := by
  exact IntWalk.i64_in _ (by omega)
end Go.Proofs.YtnpjknnalekdpaaDoor
namespace Go.Proofs.YtnpjknnalekdpaaDoor
set_option linter.unusedSimpArgs false
set_option linter.unusedVariables false
open Go.RowKit
end Go.Proofs.YtnpjknnalekdpaaDoor
namespace Go.Proofs.YtnpjknnalekdpaaDoor
set_option linter.unusedSimpArgs false
set_option linter.unusedVariables false
open Go.RowKit
end Go.Proofs.YtnpjknnalekdpaaDoor
namespace Go.Proofs.YtnpjknnalekdpaaDoor
set_option linter.unusedSimpArgs false
set_option linter.unusedVariables false
open Go.RowKit
end Go.Proofs.YtnpjknnalekdpaaDoor
namespace Go.Proofs.YtnpjknnalekdpaaDoor
set_option linter.unusedSimpArgs false
set_option linter.unusedVariables false
open Go.RowKit
theorem decR_ok (bs : List Int) (hb : Bytes bs) (h : (decR bs).2.2.2 = 0) : (0 ≤ (decR bs).1 ∧ (decR bs).1 ≤ 255) ∧ Bytes (decR bs).2.1 ∧ (decR bs).2.1.length ≤ 1000 ∧ (decR bs).2.2.1 = 10 + ((decR bs).2.1.length : Int) ∧ (decR bs).2.2.1 ≤ bs.length := by
  unfold decR at h ⊢
  by_cases h1 : beginsB bs = false
  · rw [if_pos h1] at h; cases h
  rw [if_neg h1] at h ⊢
  by_cases h2 : bs.length < 10 + (if bs.length < 10 then 0 else lenD bs)
  · rw [if_pos h2] at h; cases h
  rw [if_neg h2] at h ⊢
  have h10 : ¬ bs.length < 10 := fun q => by rw [if_pos q] at h2; omega
  rw [if_neg h10] at h2
  have hB : beginsB bs = true := by cases q : beginsB bs with | true => rfl | false => exact absurd q h1
  have hl := lenD_le bs (by omega) hB hb
  by_cases h3 : (hashOf ([gi bs 3, gi bs 4, gi bs 5] ++ (bs.drop 10).take (lenD bs))).take 4 = (bs.drop 6).take 4
  · rw [if_pos h3] at h ⊢
    have l1 : ((bs.drop 10).take (lenD bs)).length = lenD bs := by simp; omega
    refine ⟨?_, fun x hx => hb x (List.drop_subset _ _ (List.take_subset _ _ hx)), ?_, ?_, ?_⟩
    · show 0 ≤ gi bs 3 ∧ gi bs 3 ≤ 255
      unfold gi
      rw [List.getD_eq_getElem?_getD, List.getElem?_eq_getElem (by omega)]
      exact hb _ (List.getElem_mem _)
    · show ((bs.drop 10).take (lenD bs)).length ≤ 1000
      rw [l1]; exact hl.2
    · show (10 + (lenD bs : Int)) = 10 + (((bs.drop 10).take (lenD bs)).length : Int)
      rw [l1]
    · show (10 + (lenD bs : Int)) ≤ bs.length
      omega
  · rw [if_neg h3] at h; cases h
end Go.Proofs.YtnpjknnalekdpaaDoor
