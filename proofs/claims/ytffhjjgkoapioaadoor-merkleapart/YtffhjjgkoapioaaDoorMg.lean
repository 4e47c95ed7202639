import Derived.Test.YtffhjjgkoapioaaDoorMd
import Derived.RangeFuncNested
import Derived.RangeFuncBound
import Derived.RangeFuncCalls
import Derived.RangeFuncLeaves
import Derived.RangeFuncBox
import Derived.Shelf.Abstract
import Derived.Shelf.RegionOpen
import Derived.OwnWalkIn
import Derived.TacticsInMore
import Derived.LoopNIn
import Derived.LoopIn
import Derived.Maps.AppendAt
namespace Go.Proofs.YtffhjjgkoapioaaDoor
set_option linter.unusedSimpArgs false
set_option linter.unusedVariables false
open Go.RowKit Go.Shelf
attribute [local go_sem] Oper.semAt_some
/-- A piece of a slice of n bytes: where it begins, and how many it has. -/
def Piece (n : Nat) : Type := { x : Nat × Nat // x.1 + x.2 ≤ n ∧ x.2 ≤ 32 }
def pieceAt (n k : Nat) : Piece n := ⟨(min (32 * k) n, min 32 (n - min (32 * k) n)), by constructor <;> omega⟩
def piecesTo (n k : Nat) : List (Piece n) := (List.range k).map (pieceAt n)
set_option maxRecDepth 100000 in
theorem piecesTo_succ (n k : Nat) : piecesTo n (k + 1) = piecesTo n k ++ [pieceAt n k] := by simp [piecesTo, List.range_succ]
set_option maxRecDepth 100000 in
theorem piecesTo_length (n k : Nat) : (piecesTo n k).length = k := by simp [piecesTo]
/-- The two boxes at B are as they were. -/
def Keep2 (B : Nat) (W W' : World) : Prop := ∀ k, B ≤ k → k < B + 2 → W'.heap[k]? = W.heap[k]?
set_option maxRecDepth 100000 in
theorem Keep2.trans {B : Nat} {a b c : World} (h : Keep2 B a b) (k : Keep2 B b c) : Keep2 B a c := fun j h1 h2 => (k j h1 h2).trans (h j h1 h2)
set_option maxRecDepth 100000 in
theorem Keep2.cell {B : Nat} {a b : World} (h : Keep2 B a b) {j : Nat} (h1 : B ≤ j) (h2 : j < B + 2) : b.cell? ⟨j, 0, none⟩ = a.cell? ⟨j, 0, none⟩ := World.cell?_of_block (h j h1 h2)
set_option maxRecDepth 100000 in
set_option maxHeartbeats 2000000 in
theorem chunk1_in (F : Fence) (n : Nat) (h60 : F.fn 80) (hro : F.round = none) (hn : 1 ≤ n) (l B b off len cap : Nat) (hlen : len ≤ 140737488351232) (hcap : len ≤ cap) (hcap2 : cap ≤ 9223372036854775807) (J Jx : List (Piece len) → World → Prop) {D : Nat} (hJ : AbidesFrom D J)
    (hY : ∀ pre (x : Piece len) W, J pre W → pre.length < (len + 31) / 32 → YieldAt F (n - 1) Tryd.prog l #[.slice (some ⟨b, off + x.1.1, none⟩) x.1.2 x.1.2] W fun e W' =>
      (e = .returned (.bool true) ∧ J (pre ++ [x]) W' ∧ Keep2 B W W') ∨ (e = .returned (.bool false) ∧ Jx (pre ++ [x]) W'))
    (W : World) (hBs : W.cell? ⟨B, 0, none⟩ = some (.slice (some ⟨b, off, none⟩) len cap)) (hBn : W.cell? ⟨B + 1, 0, none⟩ = some (.int .i64 32)) (h0 : J [] W) :
    CallsIn F n Tryd.prog 80 #[.func (.yield l) #[] #[], .pointer (some ⟨B, 0, none⟩), .pointer (some ⟨B + 1, 0, none⟩)] W fun e W' => (∃ v, e = .returned v) ∧
      ((∃ ys, ys = piecesTo len ((len + 31) / 32) ∧ J ys W') ∨ (∃ pre, (∃ k, pre = piecesTo len k) ∧ Jx pre W')) := by
  refine callsIn_of_wp Tryd.func80 rfl h60 ?_ hro
  simp only [Tryd.ntmps80, List.size_toArray, List.length_cons, List.length_nil, Nat.reduceAdd, Nat.reduceSub, Array.replicate_succ, Array.replicate_zero, List.push_toArray, List.append_toArray, List.nil_append, List.cons_append]
  gi_wp2
  gi_loopw [4] (fun i wr => ∃ k : Nat, k ≤ (len + 31) / 32 ∧ i = .int .i64 ((32 * k : Nat) : Int) ∧ J (piecesTo len k) wr ∧ Keep2 B W wr)
    (fun i _ => len + 32 - (intOf i).toNat)
  case atStart => exact ⟨0, Nat.zero_le _, rfl, h0, fun _ _ _ => rfl⟩
  case round =>
    obtain ⟨k, hk, rfl, hJs, hnx⟩ := hrel
    have hcs : wr.cell? ⟨B, 0, none⟩ = some (.slice (some ⟨b, off, none⟩) len cap) := (hnx.cell (Nat.le_refl _) (by omega)).trans hBs
    have hcn : wr.cell? ⟨B + 1, 0, none⟩ = some (.int .i64 32) := (hnx.cell (by omega) (by omega)).trans hBn
    by_cases hlt : 32 * k < len
    · have gd : wr.grownBy wr.drew none := ⟨rfl, rfl, rfl, Nat.le_refl _, fun _ _ _ => rfl⟩
      have hJd := hJ _ _ _ none hJs gd (fun r e => by cases e)
      obtain ⟨fn, tmps, assign, body, hy, hR⟩ := hY _ (pieceAt len k) wr.drew hJd (by rw [piecesTo_length]; omega)
      have e : (pieceAt len k).1 = (32 * k, min 32 (len - 32 * k)) := by unfold pieceAt; simp; omega
      rw [e] at hy
      dsimp only at hy
      have hms : Hid (32 * k + 32 = 32 * (k + 1)) := by unfold Hid; omega
      obtain ⟨p, hp⟩ : ∃ p, p = 32 * k := ⟨_, rfl⟩
      rw [← hp] at hy hlt hms ⊢
      have HP : Hid (p = 32 * k) := hp
      clear hp e
      have HM : Hid (((p : Int) + min 32 ((len - p : Nat) : Int)).toNat - p = min 32 (len - p)) := by unfold Hid; omega
      have HK : Hid (k + 1 ≤ (len + 31) / 32) := by unfold Hid; have := HP.out; omega
      have HE : Hid ((p : Int) + 32 = ((32 * (k + 1) : Nat) : Int)) := by unfold Hid; have := HP.out; omega
      have HD : Hid (len + 32 - (intOf (Value.int .i64 ((p : Int) + 32))).toNat < len + 32 - (intOf (Value.int .i64 (p : Int))).toNat) := by unfold Hid; simp [intOf]; omega
      have i0 : (0 : Int) ≤ (p : Int) := by omega
      have i1 : (p : Int) ≤ (len : Int) := by omega
      have i2 : (p : Int) ≤ (cap : Int) := by omega
      have i3 : (p : Int) ≤ (p : Int) + min 32 ((len - p : Nat) : Int) := by omega
      have i4 : (p : Int) + min 32 ((len - p : Nat) : Int) ≤ (cap : Int) := by omega
      have i5 : (0 : Int) ≤ min 32 ((len - p : Nat) : Int) := by omega
      have i6 : min 32 ((len - p : Nat) : Int) ≤ 32 := by omega
      gi_wp2
      gi_region
      all_goals gi_wp2
      all_goals rw [HM.out, hy]
      all_goals gi_wp2
      all_goals refine hR.mono ?_
      all_goals rintro e W3 (⟨rfl, hJ3, hk3⟩ | ⟨rfl, hJx3⟩)
      all_goals try have hk3' : Keep2 B wr W3 := hk3
      all_goals try have hcn3 : W3.cell? ⟨B + 1, 0, none⟩ = some (.int .i64 32) := (hk3'.cell (by omega) (by omega)).trans hcn
      all_goals gi_wp2
      all_goals first
        | exact ⟨⟨k + 1, HK.out, by rw [HE.out], by rw [piecesTo_succ]; exact hJ3, hnx.trans hk3'⟩, HD.out⟩
        | (refine bodyPost_ret (results_none rfl _ _ _) rfl ?_
           exact ⟨⟨_, rfl⟩, .inr ⟨_, ⟨k + 1, (piecesTo_succ _ _).symm⟩, hJx3⟩⟩)
    · have ek : k = (len + 31) / 32 := by omega
      gi_wp2
      go_end0
      exact ⟨⟨_, rfl⟩, .inl ⟨_, by rw [← ek], hJs⟩⟩
end Go.Proofs.YtffhjjgkoapioaaDoor
