import Derived.Test.YtffhjjgkoapioaaDoorMg
namespace Go.Proofs.YtffhjjgkoapioaaDoor
set_option linter.unusedSimpArgs false
set_option linter.unusedVariables false
open Go.RowKit Go.Shelf
attribute [local go_sem] Oper.semAt_some
set_option maxRecDepth 100000 in
set_option maxHeartbeats 1000000 in
theorem chunk1_nil_in (F : Fence) (n : Nat) (h60 : F.fn 80) (hro : F.round = none) (l B cap : Nat) (av : Option Addr) (J : List (Piece 0) → World → Prop)
    (W : World) (hBs : W.cell? ⟨B, 0, none⟩ = some (.slice av 0 cap)) (h0 : J [] W) :
    CallsIn F n Tryd.prog 80 #[.func (.yield l) #[] #[], .pointer (some ⟨B, 0, none⟩), .pointer (some ⟨B + 1, 0, none⟩)] W fun e W' => (∃ v, e = .returned v) ∧ J [] W' := by
  refine callsIn_of_wp Tryd.func80 rfl h60 ?_ hro
  simp only [Tryd.ntmps80, List.size_toArray, List.length_cons, List.length_nil, Nat.reduceAdd, Nat.reduceSub, Array.replicate_succ, Array.replicate_zero, List.push_toArray, List.append_toArray, List.nil_append, List.cons_append]
  gi_wp2
  gi_loopw [4] (fun i wr => i = .int .i64 0 ∧ J [] wr ∧ wr.cell? ⟨B, 0, none⟩ = some (.slice av 0 cap)) (fun _ _ => 0)
  case atStart => exact ⟨rfl, h0, hBs⟩
  case round =>
    obtain ⟨rfl, hJs, hc⟩ := hrel
    gi_wp2
    go_end0
    exact ⟨⟨_, rfl⟩, hJs⟩
set_option maxRecDepth 100000 in
set_option maxHeartbeats 1000000 in
theorem chunk_in (F : Fence) (n : Nat) (h50 : F.fn 62) (hro : F.round = none) (a : Option Addr) (len cap : Nat) (w : World) :
    CallsIn F n Tryd.prog 62 #[.slice a len cap, .int .i64 32] w fun e w' => e = .returned (.func (.func 80) #[] #[.pointer (some ⟨w.heap.size, 0, none⟩), .pointer (some ⟨w.heap.size + 1, 0, none⟩)]) ∧ w' = (w.alloc (.cells #[.slice a len cap] 22)).alloc (.cells #[.int .i64 32] 3) := by
  refine callsIn_of_wp Tryd.func62 rfl h50 ?_ hro
  simp only [Tryd.ntmps62, List.size_toArray, List.length_cons, List.length_nil, Nat.reduceAdd, Nat.reduceSub, Array.replicate_succ, Array.replicate_zero, List.push_toArray, List.append_toArray, List.nil_append, List.cons_append]
  gi_wp2
  go_ret
  exact ⟨rfl, rfl⟩
set_option maxRecDepth 100000 in
/-- slices.Chunk hands back a value that gives all pieces, in order. -/
theorem chunk_stops (F : Fence) (n : Nat) (h60 : F.fn 80) (hro : F.round = none) (hn : 1 ≤ n) (B b off len cap : Nat) (av : Option Addr) (hav : 0 < len → av = some ⟨b, off, none⟩) (hlen : len ≤ 140737488351232) (hcap : len ≤ cap) (hcap2 : cap ≤ 9223372036854775807) (w : World) (hB : B + 1 < w.heap.size)
    (hBs : w.cell? ⟨B, 0, none⟩ = some (.slice av len cap)) (hBn : w.cell? ⟨B + 1, 0, none⟩ = some (.int .i64 32)) :
    SeqStopsK F n Tryd.prog 80 #[.pointer (some ⟨B, 0, none⟩), .pointer (some ⟨B + 1, 0, none⟩)] (fun x : Piece len => #[.slice (some ⟨b, off + x.1.1, none⟩) x.1.2 x.1.2]) (Keep2 B) (fun ys => ys = piecesTo len ((len + 31) / 32)) (fun pre => ∃ k, pre = piecesTo len k) ((len + 31) / 32) w := fun l J Jx W hW hJ _ hY h0 => by
  have hc1 := (hW.cell (p := ⟨B, 0, none⟩) (show B < w.heap.size by omega)).trans hBs
  have hc2 := (hW.cell (p := ⟨B + 1, 0, none⟩) (show B + 1 < w.heap.size by omega)).trans hBn
  rcases Nat.eq_zero_or_pos len with h | h
  · subst h
    exact (chunk1_nil_in F n h60 hro l B cap av J W hc1 h0).mono fun e W' ⟨he, hj⟩ => ⟨he, .inl ⟨_, rfl, hj⟩⟩
  · rw [hav h] at hc1
    exact chunk1_in F n h60 hro hn l B b off len cap hlen hcap hcap2 J Jx hJ hY W hc1 hc2 h0
set_option maxRecDepth 100000 in
theorem keep2_b {B : Nat} {w : World} (hB : B + 1 < w.heap.size) (W : World) (l : Nat) (o o' : Obj) (hl : w.heap.size ≤ l) (h : W.heap[l]? = some o) (_ : o.isCells = false) (_ : o.isWalk = false) : Keep2 B W (W.putObj l o') := fun k h1 h2 =>
  (grownBy_putObj' W l o').block k (by have := (Array.getElem?_eq_some_iff.1 h).1; omega) (by intro e; injection e; omega)
set_option maxRecDepth 100000 in
set_option maxHeartbeats 400000 in
theorem count_any (a : Option Addr) (len cap : Nat) (hlen : len ≤ 140737488351232) (w : World) : Calls Tryd.prog 61 #[.slice a len cap] w fun e w' => e = .returned (.int .i64 ((len + 31) / 32 : Nat)) ∧ w' = w := by
  have HE : Hid (((len : Int) + 31) / 32 = (((len + 31) / 32 : Nat) : Int)) := by unfold Hid; omega
  go_enter Tryd.func61, Tryd.ntmps61
  go_wp2
  go_ret
  refine ⟨?_, rfl⟩
  rw [← HE.out]
  show Ending.returned (.int .i64 _) = _
  congr 2
  omega
set_option maxRecDepth 100000 in
theorem copyIn {F : Fence} {n : Nat} {ops : Array Oper} {rest : List Oper} {o : Oper} {a : Act} {w : World} {Q : Exit → Act → World → Prop} (hgd : o.guard = none) (d s : Operand) (dT sT : TypeId)
    (ho : o.op = .call { callee := .builtin .copy, args := #[d, s], argTypes := #[dT, sT] }) (dv sv : Value) (hd : a.eval d = dv) (hs : a.eval s = sv) (v : Value) (w' : World)
    (hrun : (Builtin.copy_ #[dT, sT] o.type #[dv, sv]).run Tryd.prog w = .ok v w') (h : wpListIn F n Tryd.prog ops Q rest (a.put o.dst v) w') : wpListIn F n Tryd.prog ops Q (o :: rest) a w := by
  refine wpListIn_plain hgd fun K hK => ?_
  unfold Oper.wpIn
  refine ⟨by simp [Oper.about, ho, resolve, Target.leads, Sem.run_pure], ?_⟩
  rw [Oper.semAt_plain F _ _ (by rw [ho]; intro c hc'; cases hc')]
  simp [execOp, ho, resolve, invoke, builtin, hd, hs, hrun, Result.andThen]
  exact hK _ _ h
set_option maxRecDepth 100000 in
theorem info22 : (Tryd.prog.info? 22).map (fun i => (i.zero, i.size, i.bytes)) = some (some (.slice none 0 0), 1, 24) := by kernel_rfl
end Go.Proofs.YtffhjjgkoapioaaDoor
