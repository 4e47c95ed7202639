import Derived.Test.YtplihbncmmggjaaDoorIa
import Derived.Test.YtplihbncmmggjaaDoorGi
namespace Go.Proofs.YtplihbncmmggjaaDoor
set_option linter.unusedSimpArgs false
set_option linter.unusedVariables false
open Go.RowKit
/-- A reader at g, a message's box at gm, both new since w0. -/
structure RW (B : Nat) (w0 : World) (g gm : Nat) (m : Msg) (W : World) (st : Option (List Int)) : Prop where
  st : RSt W g st
  box : BoxM 68 W gm m
  ok : m.Ok
  ne : gm ≠ g
  gB : B ≤ g
  mB : B ≤ gm
  bl : Below B w0 W
theorem RW.hnd {B : Nat} {w0 : World} {g gm : Nat} {m : Msg} {W : World} {st : Option (List Int)} (k : RW B w0 g gm m W st) : RHnd W (.pointer (some ⟨g, 0, none⟩)) st := .inr ⟨g, rfl, k.st⟩
theorem RW.bst {B : Nat} {w0 : World} {g gm : Nat} {m : Msg} {W : World} {st : Option (List Int)} (k : RW B w0 g gm m W st) : YSt st := fun l e => by
  have := k.st; subst e; exact this.2.1
theorem RW.read {B : Nat} {w0 : World} {g gm : Nat} {m : Msg} {W W' : World} {st st' : Option (List Int)} {v : Value} {e : Ending} (k : RW B w0 g gm m W st) (h : Rread W (.pointer (some ⟨g, 0, none⟩)) st' v e W') : e = .returned v ∧ RW B w0 g gm m W' st' := by
  obtain ⟨h1, h2, h3⟩ := h
  have h3 : W.grownBy W' (some g) := h3
  refine ⟨h1, ?_, by unfold BoxM; rw [h3.block gm k.box.lt (fun e => k.ne (by injection e))]; exact k.box, k.ok, k.ne, k.gB, k.mB, k.bl.grown h3 (by have := k.st.lt; have := k.gB; omega) (fun j hj => by injection hj with hj; have := k.gB; omega)⟩
  rcases h2 with ⟨h2, _⟩ | ⟨g', h2, h4⟩
  · cases h2
  · injection h2 with h2; injection h2 with h2; injection h2 with h2; subst h2; exact h4
theorem RW.cell {B : Nat} {w0 : World} {g gm : Nat} {m m' : Msg} {W : World} {st : Option (List Int)} (k : RW B w0 g gm m W st) (o : Nat) (v : Value) (he : (mC m).set o v = mC m') (hok : m'.Ok) : RW B w0 g gm m' (W.setCell ⟨gm, o, none⟩ v) st :=
  ⟨k.st.keep (Below.heap_setCell _ _ _ _ (fun e => k.ne e.symm)), boxCell k.box o v he, hok, k.ne, k.gB, k.mB, k.bl.setCell k.mB v⟩
theorem RW.cells {B : Nat} {w0 : World} {g gm : Nat} {m m' : Msg} {W : World} {st : Option (List Int)} (k : RW B w0 g gm m W st) (o : Nat) (vs : List Value) (hl : o + vs.length ≤ (mC m).length) (he : (mC m).take o ++ vs ++ (mC m).drop (o + vs.length) = mC m') (hok : m'.Ok) : RW B w0 g gm m' (W.setCells gm o vs) st :=
  ⟨k.st.keep (setCells_far gm vs o W g (fun e => k.ne e.symm)), boxCells k.box o vs hl he, hok, k.ne, k.gB, k.mB, below_cells k.bl k.mB (by have := k.st.lt; have := k.gB; omega)⟩
theorem rw_num {B : Nat} {w0 : World} {g gm : Nat} {m : Msg} {W : World} {st : Option (List Int)} (k : RW B w0 g gm m W st) (z : Int) : Calls Tryd.prog 88 #[.pointer (some ⟨g, 0, none⟩), .int .i64 z] W fun e W' => e = .returned (.int .u64 (rnumV st z)) ∧ RW B w0 g gm m W' (rnumSt st z) :=
  (rnumber_h _ st z W k.hnd).mono fun e W' r => k.read r
theorem rw_truth {B : Nat} {w0 : World} {g gm : Nat} {m : Msg} {W : World} {st : Option (List Int)} (k : RW B w0 g gm m W st) : Calls Tryd.prog 97 #[.pointer (some ⟨g, 0, none⟩)] W fun e W' => e = .returned (.bool (rtruthV st)) ∧ RW B w0 g gm m W' (rtruthSt st) :=
  (rtruth_h _ st W k.hnd).mono fun e W' r => k.read r
theorem rw_text {B : Nat} {w0 : World} {g gm : Nat} {m : Msg} {W : World} {st : Option (List Int)} (k : RW B w0 g gm m W st) : Calls Tryd.prog 99 #[.pointer (some ⟨g, 0, none⟩)] W fun e W' => e = .returned (.string (strOfNums (rtextV st))) ∧ RW B w0 g gm m W' (rtextSt st) :=
  (rtext_h _ st W k.hnd).mono fun e W' r => k.read r
theorem rw_hash {B : Nat} {w0 : World} {g gm : Nat} {m : Msg} {W : World} {st : Option (List Int)} (k : RW B w0 g gm m W st) : Calls Tryd.prog 98 #[.pointer (some ⟨g, 0, none⟩)] W fun e W' => e = .returned (.agg (vB (rhashV st))) ∧ RW B w0 g gm m W' (takeSt st 32) :=
  (rhash_h _ st W k.hnd).mono fun e W' r => k.read r
theorem set_s (m : Msg) (x : ByteArray) : (mC m).set 5 (.string x) = mC { m with s := x } := rfl
theorem set_quiet (m : Msg) (b : Bool) : (mC m).set 6 (.bool b) = mC { m with quiet := b } := rfl
theorem set_ext (m : Msg) (b : Bool) : (mC m).set 7 (.bool b) = mC { m with ext := b } := rfl
theorem set_hash (m : Msg) (hm : m.Ok) (l : List Int) (hl : l.length = 32) : (mC m).take 8 ++ (vB l).toList ++ (mC m).drop (8 + (vB l).toList.length) = mC { m with hash := l } := by
  have e : mC m = ([.int .i64 m.kind, .int .i64 m.frm, .int .i64 m.to, .int .u64 m.id, .int .u64 m.base, .string m.s, .bool m.quiet, .bool m.ext] : List Value) ++ ((vB m.hash).toList ++ ([.bool m.yes, .int .i64 m.code] ++ ((vB m.vh).toList ++ ((vB m.vr).toList ++ [.bool m.commit])))) := by unfold mC eC; simp only [List.append_assoc, List.cons_append, List.nil_append]
  rw [e, repl _ _ _ _ 8 32 rfl (by rw [vBl, hm.h]) (by rw [vBl, hl])]
  unfold mC eC; simp only [List.append_assoc, List.cons_append, List.nil_append]
theorem rnum64 {st : Option (List Int)} (hb : YSt st) (k : Nat) (z : Int) (hk : z.toNat = k) (h7 : k ≤ 7) : 0 ≤ rnumV st z ∧ rnumV st z ≤ 72057594037927936 := by
  have := rnum_bound hb k z hk (by omega)
  have := pow256 k h7
  omega
theorem rtext_le {st : Option (List Int)} (hb : YSt st) : (rtextV st).length ≤ 65535 := by
  unfold rtextV
  have h1 := takeV_length (rnumSt st 2) (rnumV st 2).toNat
  have h2 := rnum_bound hb 2 2 rfl (by omega)
  omega
theorem storeH {ops : Array Oper} {rest : List Oper} {o : Oper} {a : Act} {w : World} {Q : Exit → Act → World → Prop} (hgd : o.guard = none) (x y : Operand) (ho : o.op = .store 24 x y) (g off : Nat) (hx : a.eval x = .pointer (some ⟨g, off, none⟩)) (l : List Int) (hl : l.length = 32) (hy : a.eval y = .agg (vB l)) (ht : w.there g off 32)
    (h : wpList Tryd.prog ops Q rest (a.put o.dst undef) (w.setCells g off (vB l).toList)) : wpList Tryd.prog ops Q (o :: rest) a w := by
  have hs : (vB l).size = 32 := by rw [vB_size, hl]
  have ha : (vB l).all (·.oneCell') = true := by
    have := all_oneCell_toArray (vB_one l)
    rwa [Array.toArray_toList] at this
  exact wpList_store_mid hgd 24 x y ho g off _ hx hy (by rw [hs]; exact ht) (by rw [hs]; exact size24) ha h
theorem wrapI (n : Int) (h0 : 0 ≤ n) (h1 : n ≤ 9223372036854775807) : IntKind.i64.wrap n = n := by
  exact IntWalk.i64_in _ (by omega)
end Go.Proofs.YtplihbncmmggjaaDoor
