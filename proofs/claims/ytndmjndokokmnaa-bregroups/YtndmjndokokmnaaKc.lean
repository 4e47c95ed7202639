import Derived.Test.YtndmjndokokmnaaKb
namespace Go.Proofs.Ytndmjndokokmnaa
set_option linter.unusedSimpArgs false
set_option linter.unusedVariables false
open Go.RowKit
open Go.Deep
theorem grown_refl (w : World) (row : Option Nat) : w.grownBy w row := ⟨rfl, rfl, rfl, Nat.le_refl _, fun _ _ _ => rfl⟩
set_option maxRecDepth 100000 in
theorem run_none55 (w : World) (base c : Nat) (v : Value) (n : Nat) (xs : List Value) (hown : w.ownsRow base 55 10 v n xs) :
    (Builtin.append_ #[53, 53] 53 #[v, .slice none 0 c]).run Try.prog w = .ok v w := by
  obtain ⟨i, z, hi, hz, h1, h2, h3⟩ := info_partsT info55
  rcases hown.2 with ⟨rfl, rfl⟩ | ⟨g, cap, cur, rfl, _, _, hnc, _⟩
  · simp [Builtin.append_, run_underlying Try.underlying53, sizeOf, typeInfo, hi, Builtin.lenOf, Builtin.firstCells]
  · simp [Builtin.append_, run_underlying Try.underlying53, sizeOf, typeInfo, hi, Builtin.lenOf, Builtin.firstCells, hnc, storeCells]
set_option maxRecDepth 100000 in
/-- Nodes behind nodes. -/
theorem run_app55 (w : World) (D : Nat → Prop) (base : Nat) (v : Value) (ls : List T) (hown : OwnT 55 D base w v ls) (ms : List T) (u : Value) (hu : SV (fun b => D b ∧ some b ≠ v.ownBlock) w u ms) (hn : ls.length + ms.length ≤ 1000000) (hbase : base ≤ w.heap.size) :
    ∃ v' w', (Builtin.append_ #[53, 53] 53 #[v, u]).run Try.prog w = .ok v' w' ∧ OwnT 55 D base w' v' (ls ++ ms) ∧ w.grownBy w' v.ownBlock := by
  obtain ⟨us, e, ow, p⟩ := hown.ex
  obtain ⟨av, cp, b, o, rfl, q1, q2, q3, q4⟩ := hu
  obtain ⟨i, z, hi, hz, h1, h2, h3⟩ := info_partsT info55
  cases av with
  | none =>
    have h0 : ms.length = 0 := by
      rcases Nat.eq_zero_or_pos ms.length with h | h
      · exact h
      · have := q3 h; cases this
    have hm : ms = [] := List.eq_nil_of_length_eq_zero h0
    subst hm
    refine ⟨v, w, run_none55 w base cp v ls.length (cT ls us) ow, ?_, grown_refl _ _⟩
    rw [List.append_nil]; exact hown
  | some a =>
    obtain ⟨vs, hv, hvs⟩ := LAt.open q4
    have hce : (cT ms vs).length = ms.length * 10 := cT_len ms vs hv
    have hnews : ∀ j y, (cT ms vs)[j]? = some y → w.cell? (a.add j) = some y := fun j y hj => by
      rcases Nat.eq_zero_or_pos ms.length with h | h
      · exfalso
        have := (List.getElem?_eq_some_iff.1 hj).1
        omega
      · have ea := q3 h
        injection ea with ea
        subst ea
        rw [Addr.add_mid]
        exact LAt.cells (o := o) hv (fun k t u a1 a2 => (hvs k t u a1 a2).1) j y hj
    have hone : ∀ u ∈ cT ms vs, u.oneCell' = true := cT_one ms vs fun u hu => by
      obtain ⟨k, hk, hku⟩ := List.mem_iff_getElem.1 hu
      have hk2 : k < ms.length := by omega
      exact (hvs k ms[k] u (List.getElem?_eq_getElem hk2) (by rw [List.getElem?_eq_getElem hk, hku])).2.2.2.one
    obtain ⟨v', w', hr, r1, r2, r3, r4⟩ := run_append_own_at (P := Try.prog) w base 53 53 55 i z 10 96 Try.underlying53 hi hz h1 h2 h3 (by omega) v ls.length (cT ls us) ow a ms.length cp (cT ms vs) hce hnews hone (by unfold maxLen; omega) (by omega) hbase
    exact ⟨v', w', hr, OwnT.app us e p vs hv (fun k t u a1 a2 => (hvs k t u a1 a2).2.2.2) r1 r2 r4, r2⟩
set_option maxRecDepth 100000 in
theorem wp_app55 {o : Oper} {a : Act} {w : World} {K : Act → World → Prop} {Q : Exit → Act → World → Prop} (s x : Operand)
    (ho : o.op = .call { callee := .builtin .append, args := #[s, x], argTypes := #[53, 53] }) (hty : o.type = 53) (D : Nat → Prop) (base : Nat) (v : Value) (ls : List T) (hv : a.eval s = v) (hown : OwnT 55 D base w v ls)
    (ms : List T) (u : Value) (hu : SV (fun b => D b ∧ some b ≠ v.ownBlock) w u ms) (hx : a.eval x = u) (hn : ls.length + ms.length ≤ 1000000) (hbase : base ≤ w.heap.size)
    (hK : ∀ v' w', OwnT 55 D base w' v' (ls ++ ms) → w.grownBy w' v.ownBlock → K (a.put o.dst v') w') : o.wp Try.prog a w K Q := by
  obtain ⟨v', w', hr, r1, r2⟩ := run_app55 w D base v ls hown ms u hu hn hbase
  unfold Oper.wp
  simp [execOp, ho, hty, resolve, invoke, builtin, hv, hx, hr, Result.andThen]
  exact hK v' w' r1 r2
theorem app55 {ops : Array Oper} {rest : List Oper} {o : Oper} {a : Act} {w : World} {Q : Exit → Act → World → Prop} (hgd : o.guard = none) (s x : Operand)
    (ho : o.op = .call { callee := .builtin .append, args := #[s, x], argTypes := #[53, 53] }) (hty : o.type = 53) (D : Nat → Prop) (base : Nat) (v : Value) (ls : List T) (hv : a.eval s = v) (hown : OwnT 55 D base w v ls)
    (ms : List T) (u : Value) (hu : SV (fun b => D b ∧ some b ≠ v.ownBlock) w u ms) (hx : a.eval x = u) (hn : ls.length + ms.length ≤ 1000000) (hbase : base ≤ w.heap.size)
    (hK : ∀ v' w', OwnT 55 D base w' v' (ls ++ ms) → w.grownBy w' v.ownBlock → wpList Try.prog ops Q rest (a.put o.dst v') w') : wpList Try.prog ops Q (o :: rest) a w :=
  wpList_plain hgd fun _ hK' => wp_app55 s x ho hty D base v ls hv hown ms u hu hx hn hbase fun v' w' h1 h2 => hK' _ _ (hK v' w' h1 h2)
set_option maxRecDepth 100000 in
theorem run_none51 (w : World) (base c : Nat) (v : Value) (n : Nat) (xs : List Value) (hown : w.ownsRow base 51 10 v n xs) :
    (Builtin.append_ #[49, 49] 49 #[v, .slice none 0 c]).run Try.prog w = .ok v w := by
  obtain ⟨i, z, hi, hz, h1, h2, h3⟩ := info_partsT info51
  rcases hown.2 with ⟨rfl, rfl⟩ | ⟨g, cap, cur, rfl, _, _, hnc, _⟩
  · simp [Builtin.append_, run_underlying Try.underlying49, sizeOf, typeInfo, hi, Builtin.lenOf, Builtin.firstCells]
  · simp [Builtin.append_, run_underlying Try.underlying49, sizeOf, typeInfo, hi, Builtin.lenOf, Builtin.firstCells, hnc, storeCells]
set_option maxRecDepth 100000 in
/-- Nodes behind nodes. -/
theorem run_app51 (w : World) (D : Nat → Prop) (base : Nat) (v : Value) (ls : List T) (hown : OwnT 51 D base w v ls) (ms : List T) (u : Value) (hu : SV (fun b => D b ∧ some b ≠ v.ownBlock) w u ms) (hn : ls.length + ms.length ≤ 1000000) (hbase : base ≤ w.heap.size) :
    ∃ v' w', (Builtin.append_ #[49, 49] 49 #[v, u]).run Try.prog w = .ok v' w' ∧ OwnT 51 D base w' v' (ls ++ ms) ∧ w.grownBy w' v.ownBlock := by
  obtain ⟨us, e, ow, p⟩ := hown.ex
  obtain ⟨av, cp, b, o, rfl, q1, q2, q3, q4⟩ := hu
  obtain ⟨i, z, hi, hz, h1, h2, h3⟩ := info_partsT info51
  cases av with
  | none =>
    have h0 : ms.length = 0 := by
      rcases Nat.eq_zero_or_pos ms.length with h | h
      · exact h
      · have := q3 h; cases this
    have hm : ms = [] := List.eq_nil_of_length_eq_zero h0
    subst hm
    refine ⟨v, w, run_none51 w base cp v ls.length (cT ls us) ow, ?_, grown_refl _ _⟩
    rw [List.append_nil]; exact hown
  | some a =>
    obtain ⟨vs, hv, hvs⟩ := LAt.open q4
    have hce : (cT ms vs).length = ms.length * 10 := cT_len ms vs hv
    have hnews : ∀ j y, (cT ms vs)[j]? = some y → w.cell? (a.add j) = some y := fun j y hj => by
      rcases Nat.eq_zero_or_pos ms.length with h | h
      · exfalso
        have := (List.getElem?_eq_some_iff.1 hj).1
        omega
      · have ea := q3 h
        injection ea with ea
        subst ea
        rw [Addr.add_mid]
        exact LAt.cells (o := o) hv (fun k t u a1 a2 => (hvs k t u a1 a2).1) j y hj
    have hone : ∀ u ∈ cT ms vs, u.oneCell' = true := cT_one ms vs fun u hu => by
      obtain ⟨k, hk, hku⟩ := List.mem_iff_getElem.1 hu
      have hk2 : k < ms.length := by omega
      exact (hvs k ms[k] u (List.getElem?_eq_getElem hk2) (by rw [List.getElem?_eq_getElem hk, hku])).2.2.2.one
    obtain ⟨v', w', hr, r1, r2, r3, r4⟩ := run_append_own_at (P := Try.prog) w base 49 49 51 i z 10 96 Try.underlying49 hi hz h1 h2 h3 (by omega) v ls.length (cT ls us) ow a ms.length cp (cT ms vs) hce hnews hone (by unfold maxLen; omega) (by omega) hbase
    exact ⟨v', w', hr, OwnT.app us e p vs hv (fun k t u a1 a2 => (hvs k t u a1 a2).2.2.2) r1 r2 r4, r2⟩
set_option maxRecDepth 100000 in
theorem wp_app51 {o : Oper} {a : Act} {w : World} {K : Act → World → Prop} {Q : Exit → Act → World → Prop} (s x : Operand)
    (ho : o.op = .call { callee := .builtin .append, args := #[s, x], argTypes := #[49, 49] }) (hty : o.type = 49) (D : Nat → Prop) (base : Nat) (v : Value) (ls : List T) (hv : a.eval s = v) (hown : OwnT 51 D base w v ls)
    (ms : List T) (u : Value) (hu : SV (fun b => D b ∧ some b ≠ v.ownBlock) w u ms) (hx : a.eval x = u) (hn : ls.length + ms.length ≤ 1000000) (hbase : base ≤ w.heap.size)
    (hK : ∀ v' w', OwnT 51 D base w' v' (ls ++ ms) → w.grownBy w' v.ownBlock → K (a.put o.dst v') w') : o.wp Try.prog a w K Q := by
  obtain ⟨v', w', hr, r1, r2⟩ := run_app51 w D base v ls hown ms u hu hn hbase
  unfold Oper.wp
  simp [execOp, ho, hty, resolve, invoke, builtin, hv, hx, hr, Result.andThen]
  exact hK v' w' r1 r2
theorem app51 {ops : Array Oper} {rest : List Oper} {o : Oper} {a : Act} {w : World} {Q : Exit → Act → World → Prop} (hgd : o.guard = none) (s x : Operand)
    (ho : o.op = .call { callee := .builtin .append, args := #[s, x], argTypes := #[49, 49] }) (hty : o.type = 49) (D : Nat → Prop) (base : Nat) (v : Value) (ls : List T) (hv : a.eval s = v) (hown : OwnT 51 D base w v ls)
    (ms : List T) (u : Value) (hu : SV (fun b => D b ∧ some b ≠ v.ownBlock) w u ms) (hx : a.eval x = u) (hn : ls.length + ms.length ≤ 1000000) (hbase : base ≤ w.heap.size)
    (hK : ∀ v' w', OwnT 51 D base w' v' (ls ++ ms) → w.grownBy w' v.ownBlock → wpList Try.prog ops Q rest (a.put o.dst v') w') : wpList Try.prog ops Q (o :: rest) a w :=
  wpList_plain hgd fun _ hK' => wp_app51 s x ho hty D base v ls hv hown ms u hu hx hn hbase fun v' w' h1 h2 => hK' _ _ (hK v' w' h1 h2)
end Go.Proofs.Ytndmjndokokmnaa
