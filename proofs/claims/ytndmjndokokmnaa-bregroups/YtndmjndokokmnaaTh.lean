import Derived.Test.YtndmjndokokmnaaTb
import Derived.Maps.AppendAt
import Derived.Laws.AppendOwnNone
import Derived.Laws.OwnMore
namespace Go.Proofs.Ytndmjndokokmnaa
set_option linter.unusedSimpArgs false
set_option linter.unusedVariables false
open Go.RowKit
open Go.Deep
/-- The cells of nodes, one behind the other. -/
def cT : List T → List Value → List Value
  | t :: r, u :: s => cN t.hd u ++ cT r s
  | _, _ => []
theorem cT_len : ∀ (ls : List T) (us : List Value), us.length = ls.length → (cT ls us).length = ls.length * 10
  | [], us, _ => by cases us <;> simp [cT]
  | t :: r, [], h => by simp at h
  | t :: r, u :: s, h => by
    have := cT_len r s (by simpa using h)
    simp only [cT, List.length_append, this, List.length_cons, cN, List.length_nil]; omega
theorem cT_append : ∀ (a : List T) (us : List Value) (b : List T) (vs : List Value), us.length = a.length → cT (a ++ b) (us ++ vs) = cT a us ++ cT b vs
  | [], us, b, vs, h => by
    have : us = [] := List.eq_nil_of_length_eq_zero (by simpa using h)
    subst this; simp [cT]
  | t :: r, [], b, vs, h => by simp at h
  | t :: r, u :: s, b, vs, h => by
    have := cT_append r s b vs (by simpa using h)
    simp only [List.cons_append, cT, this, List.append_assoc]
theorem cT_at : ∀ (ls : List T) (us : List Value) (k : Nat) (t : T) (u : Value) (j : Nat) (v : Value), ls[k]? = some t → us[k]? = some u → (cN t.hd u)[j]? = some v → (cT ls us)[k * 10 + j]? = some v
  | [], _, k, _, _, _, _, h, _, _ => by simp at h
  | _ :: _, [], k, _, _, _, _, _, h, _ => by simp at h
  | t :: r, u :: s, 0, t', u', j, v, h1, h2, h3 => by
    have e1 : t = t' := by simpa using h1
    have e2 : u = u' := by simpa using h2
    subst e1 e2
    have hj := (List.getElem?_eq_some_iff.1 h3).1
    simp only [cT, Nat.zero_mul, Nat.zero_add]
    rw [List.getElem?_append_left hj]; exact h3
  | t :: r, u :: s, k + 1, t', u', j, v, h1, h2, h3 => by
    have := cT_at r s k t' u' j v (by simpa using h1) (by simpa using h2) h3
    simp only [cT]
    rw [List.getElem?_append_right (by simp [cN]; omega)]
    rw [show (k + 1) * 10 + j - (cN t.hd u).length = k * 10 + j from by simp [cN]; omega]
    exact this
theorem cN_ok {h : Hd} {u : Value} (hu : u.oneCell' = true) : ∀ v ∈ cN h u, v.oneCell' = true := by
  intro v hv
  simp only [cN, List.mem_cons, List.not_mem_nil, or_false] at hv
  rcases hv with rfl | rfl | rfl | rfl | rfl | rfl | rfl | rfl | rfl | rfl <;> first | rfl | exact hu
theorem SV.one {S : Nat → Prop} {w : World} {u : Value} {l : List T} (h : SV S w u l) : u.oneCell' = true := by
  obtain ⟨av, cp, b, o, rfl, _⟩ := h; rfl
theorem cT_one : ∀ (ls : List T) (us : List Value), (∀ u ∈ us, u.oneCell' = true) → ∀ v ∈ cT ls us, v.oneCell' = true
  | [], us, _, v, hv => by cases us <;> simp [cT] at hv
  | t :: r, [], _, v, hv => by simp [cT] at hv
  | t :: r, u :: s, h, v, hv => by
    simp only [cT, List.mem_append] at hv
    rcases hv with hv | hv
    · exact cN_ok (h u (by simp)) v hv
    · exact cT_one r s (fun x hx => h x (by simp [hx])) v hv
/-- Nodes that lie one behind the other, opened. -/
theorem LAt.open {S : Nat → Prop} {w : World} {b : Nat} : ∀ {l : List T} {o : Nat}, LAt S w b o l → ∃ us : List Value, us.length = l.length ∧ (∀ (k : Nat) (t : T) (u : Value), l[k]? = some t → us[k]? = some u → w.rangeAt b (o + k * 10) (cN t.hd u) ∧ S b ∧ b < w.heap.size ∧ SV S w u t.kids)
  | [], o, _ => ⟨[], rfl, fun k t u h => by simp at h⟩
  | t :: r, o, h => by
    rw [LAt_cons] at h
    obtain ⟨us, e, q⟩ := LAt.open h.2
    obtain ⟨hd, l, rfl⟩ := t.out
    obtain ⟨u, r1, r2, r3, r4⟩ := h.1.out
    refine ⟨u :: us, by simp [e], fun k t' u' h1 h2 => ?_⟩
    match k, h1, h2 with
    | 0, h1, h2 =>
      have e1 : T.mk hd l = t' := by simpa using h1
      have e2 : u = u' := by simpa using h2
      subst e1 e2
      exact ⟨by simpa [T.hd_mk] using r1, r2, r3, by rw [T.kids_mk]; exact r4⟩
    | k + 1, h1, h2 =>
      have := q k t' u' (by simpa using h1) (by simpa using h2)
      rw [show o + (k + 1) * 10 = o + 10 + k * 10 by omega]; exact this
theorem LAt.cells {w : World} {b : Nat} : ∀ {l : List T} {us : List Value} {o : Nat}, us.length = l.length → (∀ (k : Nat) (t : T) (u : Value), l[k]? = some t → us[k]? = some u → w.rangeAt b (o + k * 10) (cN t.hd u)) → w.rangeAt b o (cT l us)
  | [], us, o, _, _ => fun j v hv => by cases us <;> simp [cT] at hv
  | t :: r, [], o, e, _ => by simp at e
  | t :: r, u :: s, o, e, h => fun j v hv => by
    simp only [cT] at hv
    by_cases hj : j < 10
    · rw [List.getElem?_append_left (by simp [cN]; omega)] at hv
      have := h 0 t u rfl rfl j v hv
      simpa using this
    · rw [List.getElem?_append_right (by simp [cN]; omega)] at hv
      have ih := LAt.cells (w := w) (b := b) (l := r) (us := s) (o := o + 10) (by simpa using e) (fun k t' u' h1 h2 => by
        have := h (k + 1) t' u' (by simpa using h1) (by simpa using h2)
        rw [show o + 10 + k * 10 = o + (k + 1) * 10 by omega]; exact this)
      have := ih _ v hv
      rw [show o + 10 + (j - (cN t.hd u).length) = o + j from by simp [cN]; omega] at this
      exact this
/-- A row of nodes of the call's own; what is in them lies in blocks of D, not in the row's own. -/
structure OwnT (E : TypeId) (D : Nat → Prop) (base : Nat) (w : World) (v : Value) (ls : List T) : Prop where
  ex : ∃ us : List Value, us.length = ls.length ∧ w.ownsRow base E 10 v ls.length (cT ls us) ∧ ∀ (k : Nat) (t : T) (u : Value), ls[k]? = some t → us[k]? = some u → SV (fun b => D b ∧ some b ≠ v.ownBlock) w u t.kids
theorem OwnT.nil (E : TypeId) (D : Nat → Prop) (base : Nat) (w : World) : OwnT E D base w (.slice none 0 0) [] := ⟨[], rfl, World.ownsRow_nil w base E 10, fun k t u h => by simp at h⟩
theorem own_keep {w w' : World} {base e size : Nat} {v : Value} {n : Nat} {xs : List Value} (h : w.ownsRow base e size v n xs) (hk : ∀ g cur, base ≤ g → w.heap[g]? = some (.cells cur e) → v.ownBlock = some g → w'.heap[g]? = w.heap[g]?) : w'.ownsRow base e size v n xs := by
  obtain ⟨h1, h2⟩ := h
  refine ⟨h1, ?_⟩
  rcases h2 with h2 | ⟨g, cap, cur, q1, q2, q3, q⟩
  · exact .inl h2
  · exact .inr ⟨g, cap, cur, q1, q2, by rw [hk g cur q2 q3 (by rw [q1]; rfl)]; exact q3, q⟩
theorem OwnT.keep {E : TypeId} {D : Nat → Prop} {base : Nat} {w w' : World} {v : Value} {ls : List T} (h : OwnT E D base w v ls) (hs : w.heap.size ≤ w'.heap.size) (hk : ∀ b, (D b ∨ base ≤ b) → b < w.heap.size → w'.heap[b]? = w.heap[b]?) : OwnT E D base w' v ls := by
  obtain ⟨us, e, o, p⟩ := h.ex
  exact ⟨us, e, own_keep o fun g cur h1 h2 _ => hk g (.inr h1) (Array.getElem?_eq_some_iff.1 h2).1, fun k t u h1 h2 => (p k t u h1 h2).keep hs fun b q1 q2 => ⟨q1, hk b (.inl q1.1) q2⟩⟩
theorem OwnT.below {E : TypeId} {D : Nat → Prop} {base : Nat} {w w' : World} {v : Value} {ls : List T} (h : OwnT E D base w v ls) (b : Below w.heap.size w w') : OwnT E D base w' v ls :=
  h.keep b.size fun k _ hk => b.block k hk
theorem OwnT.low {E : TypeId} {D : Nat → Prop} {base : Nat} {w : World} {v : Value} {ls : List T} (h : OwnT E D base w v ls) (g : Nat) (hg : v.ownBlock = some g) : base ≤ g ∧ g < w.heap.size := by
  obtain ⟨us, e, o, p⟩ := h.ex
  rcases o.2 with ⟨q, _⟩ | ⟨g0, cap, cur0, q1, q2, q3, _⟩
  · rw [q] at hg; cases hg
  · rw [q1] at hg
    have hg : some g0 = some g := hg
    injection hg with hg
    exact ⟨by omega, by have := (Array.getElem?_eq_some_iff.1 q3).1; omega⟩
theorem OwnT.form {E : TypeId} {D : Nat → Prop} {base : Nat} {w : World} {v : Value} {ls : List T} (h : OwnT E D base w v ls) : ∃ av cp, v = .slice av ls.length cp := by
  obtain ⟨us, e, o, p⟩ := h.ex
  rcases o.2 with ⟨q, q0⟩ | ⟨g0, cap, cur0, q1, _⟩
  · exact ⟨none, 0, by rw [q, q0]⟩
  · exact ⟨_, cap, q1⟩
/-- Such a row as a slice of nodes. -/
theorem OwnT.sv {E : TypeId} {D : Nat → Prop} {base : Nat} {w : World} {v : Value} {ls : List T} (h : OwnT E D base w v ls) : SV (fun b => D b ∨ base ≤ b) w v ls := by
  obtain ⟨us, e, o, p⟩ := h.ex
  rcases o.2 with ⟨q, q0⟩ | ⟨g, cap, cur, q1, q2, q3, q4, q5, q6, q7⟩
  · have : ls = [] := List.eq_nil_of_length_eq_zero q0
    subst this
    rw [q]; exact SV.nil _ _
  · refine ⟨_, cap, g, 0, q1, q4, q5, fun _ => rfl, LAt.of fun k t ht => ?_⟩
    obtain ⟨hd, l, rfl⟩ := t.out
    have hk : k < us.length := by rw [e]; exact (List.getElem?_eq_some_iff.1 ht).1
    have hu : us[k]? = some us[k] := List.getElem?_eq_getElem hk
    refine NAt.mk (u := us[k]) (fun j v hv => ?_) (.inr q2) (Array.getElem?_eq_some_iff.1 q3).1 (by have := p k _ _ ht hu; rw [T.kids_mk] at this; exact this.weak fun b hb _ => .inl hb.1)
    have hc := cT_at ls us k _ us[k] j v ht hu (by rw [T.hd_mk]; exact hv)
    rw [← q7, List.getElem?_take] at hc
    split at hc
    · rw [Nat.zero_add, cell_of_row w g _ cur E (0, 0) q3]; simpa using hc
    · cases hc
/-- More nodes behind them. -/
theorem OwnT.app {E : TypeId} {D : Nat → Prop} {base : Nat} {w w' : World} {v v' : Value} {ls ms : List T} (us : List Value) (e : us.length = ls.length) (p : ∀ (k : Nat) (t : T) (u : Value), ls[k]? = some t → us[k]? = some u → SV (fun b => D b ∧ some b ≠ v.ownBlock) w u t.kids) (vs : List Value) (hv : vs.length = ms.length) (hp : ∀ (k : Nat) (t : T) (u : Value), ms[k]? = some t → vs[k]? = some u → SV (fun b => D b ∧ some b ≠ v.ownBlock) w u t.kids)
    (hu : w'.ownsRow base E 10 v' (ls.length + ms.length) (cT ls us ++ cT ms vs)) (gr : w.grownBy w' v.ownBlock) (at_ : v'.ownBlock = v.ownBlock ∨ v'.ownBlock = some w.heap.size) : OwnT E D base w' v' (ls ++ ms) := by
  have kp : ∀ (u : Value) (l : List T), SV (fun b => D b ∧ some b ≠ v.ownBlock) w u l → SV (fun b => D b ∧ some b ≠ v'.ownBlock) w' u l := fun u l q => q.keep gr.size fun b hb hlt => by
    refine ⟨⟨hb.1, ?_⟩, gr.block b hlt hb.2⟩
    rcases at_ with e1 | e1
    · rw [e1]; exact hb.2
    · rw [e1]; intro q; injection q with q; omega
  refine ⟨us ++ vs, by simp [e, hv], ?_, fun k t u h1 h2 => ?_⟩
  · rw [cT_append _ _ _ _ e, List.length_append]; exact hu
  · rcases Nat.lt_or_ge k ls.length with hk | hk
    · rw [List.getElem?_append_left hk] at h1
      rw [List.getElem?_append_left (by omega)] at h2
      exact kp _ _ (p k t u h1 h2)
    · rw [List.getElem?_append_right hk] at h1
      rw [List.getElem?_append_right (by omega), e] at h2
      exact kp _ _ (hp _ t u h1 h2)
theorem info_partsT {E : TypeId} (h : (Try.prog.info? E).map (fun i => (i.size, i.zero.map (·.cells.size), i.bytes)) = some (10, some 10, 96)) : ∃ i z, Try.prog.info? E = some i ∧ i.zero = some z ∧ i.size = 10 ∧ i.bytes = 96 ∧ z.cells.size = 10 := by
  cases hi : Try.prog.info? E with
  | none => simp [hi] at h
  | some i =>
    simp only [hi, Option.map_some, Option.some.injEq, Prod.mk.injEq] at h
    cases hz : i.zero with
    | none => simp [hz] at h
    | some z => exact ⟨i, z, rfl, hz, h.1, h.2.2, by simpa [hz] using h.2.1⟩
theorem info55 : (Try.prog.info? 55).map (fun i => (i.size, i.zero.map (·.cells.size), i.bytes)) = some (10, some 10, 96) := by kernel_rfl
theorem buildR55 (h : Hd) (u : Value) (w : World) : (Instr.buildSlice 53 1 #[(0, vN h u)]).run Try.prog w = .ok (.slice (some ⟨w.heap.size, 0, none⟩) 1 1) (w.alloc (.cells (cN h u).toArray 55)) := by
  kernel_rfl
theorem wp_build55 {o : Oper} {a : Act} {w : World} {K : Act → World → Prop} {Q : Exit → Act → World → Prop} (x : Operand) (ho : o.op = .buildSlice 53 1 #[(0, x)]) (h : Hd) (u : Value) (hx : a.eval x = vN h u)
    (hK : K (a.put o.dst (.slice (some ⟨w.heap.size, 0, none⟩) 1 1)) (w.alloc (.cells (cN h u).toArray 55))) : o.wp Try.prog a w K Q := by
  have hrun := buildR55 h u w
  unfold Oper.wp execOp
  simp only [ho]
  rw [show (#[(0, x)].map fun (i, x) => (i, a.eval x)) = #[(0, vN h u)] by simp [hx]]
  simp only [Sem.run_bind, hrun, Result.andThen_ok]
  exact hK
theorem build55 {ops : Array Oper} {rest : List Oper} {o : Oper} {a : Act} {w : World} {Q : Exit → Act → World → Prop} (hgd : o.guard = none) (x : Operand) (ho : o.op = .buildSlice 53 1 #[(0, x)]) (h : Hd) (u : Value) (hx : a.eval x = vN h u)
    (hK : wpList Try.prog ops Q rest (a.put o.dst (.slice (some ⟨w.heap.size, 0, none⟩) 1 1)) (w.alloc (.cells (cN h u).toArray 55))) : wpList Try.prog ops Q (o :: rest) a w :=
  wpList_plain hgd fun _ hK' => wp_build55 x ho h u hx (hK' _ _ hK)
theorem step_build55 {ops : Array Oper} {o : Oper} {a : Act} {w : World} {K : Act → World → Prop} {Q : Exit → Act → World → Prop} {Z : Prop} (hgd : o.guard = none) (x : Operand) (ho : o.op = .buildSlice 53 1 #[(0, x)]) (h : Hd) (u : Value) (hx : a.eval x = vN h u)
    (hK : K (a.put o.dst (.slice (some ⟨w.heap.size, 0, none⟩) 1 1)) (w.alloc (.cells (cN h u).toArray 55))) : if Region.wanted o (yielded ops a.tmps) = true then Oper.wp Try.prog o a w K Q else Z := by
  have hw : Region.wanted o (yielded ops a.tmps) = true := by simp [Region.wanted, hgd]
  rw [if_pos hw]
  exact wp_build55 x ho h u hx hK
/-- One node more. -/
theorem wp_snoc55 {o : Oper} {a : Act} {w : World} {K : Act → World → Prop} {Q : Exit → Act → World → Prop} (s x : Operand)
    (ho : o.op = .call { callee := .builtin .append, args := #[s, x], argTypes := #[53, 53] }) (D : Nat → Prop) (base : Nat) (v : Value) (ls : List T) (hv : a.eval s = v) (hown : OwnT 55 D base w v ls)
    (t : T) (u : Value) (hu : SV (fun b => D b ∧ some b ≠ v.ownBlock) w u t.kids) (hx : a.eval x = .slice (some ⟨w.heap.size, 0, none⟩) 1 1) (hn : ls.length ≤ 1000000) (hbase : base ≤ w.heap.size)
    (hK : ∀ v' w', OwnT 55 D base w' v' (ls ++ [t]) → (w.alloc (.cells (cN t.hd u).toArray 55)).grownBy w' v.ownBlock → K (a.put o.dst v') w') : o.wp Try.prog a (w.alloc (.cells (cN t.hd u).toArray 55)) K Q := by
  obtain ⟨i, z, hi, hz, h1, h2, h3⟩ := info_partsT info55
  have hb : Below w.heap.size w (w.alloc (.cells (cN t.hd u).toArray 55)) := (Below.refl _ _).alloc (Nat.le_refl _) _
  have hO := hown.below hb
  obtain ⟨us, e, ow, p⟩ := hO.ex
  have hnews : ∀ j y, (cN t.hd u)[j]? = some y → (w.alloc (.cells (cN t.hd u).toArray 55)).cell? ((⟨w.heap.size, 0, none⟩ : Addr).add j) = some y := fun j y hj => by
    rw [Addr.add_mid, Nat.zero_add, cell_of_row _ _ j _ 55 (0, 0) (heap_alloc_last w _)]; simpa using hj
  have hsz : w.heap.size < (w.alloc (.cells (cN t.hd u).toArray 55)).heap.size := by simp
  obtain ⟨v', w', hr, q1, q2, q3, q4⟩ := run_append_own_at (P := Try.prog) (w.alloc (.cells (cN t.hd u).toArray 55)) base 53 o.type 55 i z 10 96 Try.underlying53 hi hz h1 h2 h3 (by omega) v ls.length (cT ls us) ow ⟨w.heap.size, 0, none⟩ 1 1 (cN t.hd u) rfl hnews (cN_ok hu.one) (by unfold maxLen; omega) (by omega) (by omega)
  unfold Oper.wp
  simp [execOp, ho, resolve, invoke, builtin, hv, hx, hr, Result.andThen]
  refine hK v' w' ?_ q2
  refine OwnT.app us e p [u] rfl (fun k t' u' a1 a2 => ?_) (by simpa [cT] using q1) q2 q4
  match k, a1, a2 with
  | 0, a1, a2 =>
    have e1 : t = t' := by simpa using a1
    have e2 : u = u' := by simpa using a2
    subst e1 e2
    exact hu.below hb
  | k + 1, a1, a2 => simp at a1
theorem snoc55 {ops : Array Oper} {rest : List Oper} {o : Oper} {a : Act} {w : World} {Q : Exit → Act → World → Prop} (hgd : o.guard = none) (s x : Operand)
    (ho : o.op = .call { callee := .builtin .append, args := #[s, x], argTypes := #[53, 53] }) (D : Nat → Prop) (base : Nat) (v : Value) (ls : List T) (hv : a.eval s = v) (hown : OwnT 55 D base w v ls)
    (t : T) (u : Value) (hu : SV (fun b => D b ∧ some b ≠ v.ownBlock) w u t.kids) (hx : a.eval x = .slice (some ⟨w.heap.size, 0, none⟩) 1 1) (hn : ls.length ≤ 1000000) (hbase : base ≤ w.heap.size)
    (hK : ∀ v' w', OwnT 55 D base w' v' (ls ++ [t]) → (w.alloc (.cells (cN t.hd u).toArray 55)).grownBy w' v.ownBlock → wpList Try.prog ops Q rest (a.put o.dst v') w') : wpList Try.prog ops Q (o :: rest) a (w.alloc (.cells (cN t.hd u).toArray 55)) :=
  wpList_plain hgd fun _ hK' => wp_snoc55 s x ho D base v ls hv hown t u hu hx hn hbase fun v' w' h1 h2 => hK' _ _ (hK v' w' h1 h2)
theorem step_snoc55 {ops : Array Oper} {o : Oper} {a : Act} {w : World} {K : Act → World → Prop} {Q : Exit → Act → World → Prop} {Z : Prop} (hgd : o.guard = none) (s x : Operand)
    (ho : o.op = .call { callee := .builtin .append, args := #[s, x], argTypes := #[53, 53] }) (D : Nat → Prop) (base : Nat) (v : Value) (ls : List T) (hv : a.eval s = v) (hown : OwnT 55 D base w v ls)
    (t : T) (u : Value) (hu : SV (fun b => D b ∧ some b ≠ v.ownBlock) w u t.kids) (hx : a.eval x = .slice (some ⟨w.heap.size, 0, none⟩) 1 1) (hn : ls.length ≤ 1000000) (hbase : base ≤ w.heap.size)
    (hK : ∀ v' w', OwnT 55 D base w' v' (ls ++ [t]) → (w.alloc (.cells (cN t.hd u).toArray 55)).grownBy w' v.ownBlock → K (a.put o.dst v') w') : if Region.wanted o (yielded ops a.tmps) = true then Oper.wp Try.prog o a (w.alloc (.cells (cN t.hd u).toArray 55)) K Q else Z := by
  have hw : Region.wanted o (yielded ops a.tmps) = true := by simp [Region.wanted, hgd]
  rw [if_pos hw]
  exact wp_snoc55 s x ho D base v ls hv hown t u hu hx hn hbase hK
theorem info51 : (Try.prog.info? 51).map (fun i => (i.size, i.zero.map (·.cells.size), i.bytes)) = some (10, some 10, 96) := by kernel_rfl
theorem buildR51 (h : Hd) (u : Value) (w : World) : (Instr.buildSlice 49 1 #[(0, vN h u)]).run Try.prog w = .ok (.slice (some ⟨w.heap.size, 0, none⟩) 1 1) (w.alloc (.cells (cN h u).toArray 51)) := by
  kernel_rfl
theorem wp_build51 {o : Oper} {a : Act} {w : World} {K : Act → World → Prop} {Q : Exit → Act → World → Prop} (x : Operand) (ho : o.op = .buildSlice 49 1 #[(0, x)]) (h : Hd) (u : Value) (hx : a.eval x = vN h u)
    (hK : K (a.put o.dst (.slice (some ⟨w.heap.size, 0, none⟩) 1 1)) (w.alloc (.cells (cN h u).toArray 51))) : o.wp Try.prog a w K Q := by
  have hrun := buildR51 h u w
  unfold Oper.wp execOp
  simp only [ho]
  rw [show (#[(0, x)].map fun (i, x) => (i, a.eval x)) = #[(0, vN h u)] by simp [hx]]
  simp only [Sem.run_bind, hrun, Result.andThen_ok]
  exact hK
theorem build51 {ops : Array Oper} {rest : List Oper} {o : Oper} {a : Act} {w : World} {Q : Exit → Act → World → Prop} (hgd : o.guard = none) (x : Operand) (ho : o.op = .buildSlice 49 1 #[(0, x)]) (h : Hd) (u : Value) (hx : a.eval x = vN h u)
    (hK : wpList Try.prog ops Q rest (a.put o.dst (.slice (some ⟨w.heap.size, 0, none⟩) 1 1)) (w.alloc (.cells (cN h u).toArray 51))) : wpList Try.prog ops Q (o :: rest) a w :=
  wpList_plain hgd fun _ hK' => wp_build51 x ho h u hx (hK' _ _ hK)
theorem step_build51 {ops : Array Oper} {o : Oper} {a : Act} {w : World} {K : Act → World → Prop} {Q : Exit → Act → World → Prop} {Z : Prop} (hgd : o.guard = none) (x : Operand) (ho : o.op = .buildSlice 49 1 #[(0, x)]) (h : Hd) (u : Value) (hx : a.eval x = vN h u)
    (hK : K (a.put o.dst (.slice (some ⟨w.heap.size, 0, none⟩) 1 1)) (w.alloc (.cells (cN h u).toArray 51))) : if Region.wanted o (yielded ops a.tmps) = true then Oper.wp Try.prog o a w K Q else Z := by
  have hw : Region.wanted o (yielded ops a.tmps) = true := by simp [Region.wanted, hgd]
  rw [if_pos hw]
  exact wp_build51 x ho h u hx hK
/-- One node more. -/
theorem wp_snoc51 {o : Oper} {a : Act} {w : World} {K : Act → World → Prop} {Q : Exit → Act → World → Prop} (s x : Operand)
    (ho : o.op = .call { callee := .builtin .append, args := #[s, x], argTypes := #[49, 49] }) (D : Nat → Prop) (base : Nat) (v : Value) (ls : List T) (hv : a.eval s = v) (hown : OwnT 51 D base w v ls)
    (t : T) (u : Value) (hu : SV (fun b => D b ∧ some b ≠ v.ownBlock) w u t.kids) (hx : a.eval x = .slice (some ⟨w.heap.size, 0, none⟩) 1 1) (hn : ls.length ≤ 1000000) (hbase : base ≤ w.heap.size)
    (hK : ∀ v' w', OwnT 51 D base w' v' (ls ++ [t]) → (w.alloc (.cells (cN t.hd u).toArray 51)).grownBy w' v.ownBlock → K (a.put o.dst v') w') : o.wp Try.prog a (w.alloc (.cells (cN t.hd u).toArray 51)) K Q := by
  obtain ⟨i, z, hi, hz, h1, h2, h3⟩ := info_partsT info51
  have hb : Below w.heap.size w (w.alloc (.cells (cN t.hd u).toArray 51)) := (Below.refl _ _).alloc (Nat.le_refl _) _
  have hO := hown.below hb
  obtain ⟨us, e, ow, p⟩ := hO.ex
  have hnews : ∀ j y, (cN t.hd u)[j]? = some y → (w.alloc (.cells (cN t.hd u).toArray 51)).cell? ((⟨w.heap.size, 0, none⟩ : Addr).add j) = some y := fun j y hj => by
    rw [Addr.add_mid, Nat.zero_add, cell_of_row _ _ j _ 51 (0, 0) (heap_alloc_last w _)]; simpa using hj
  have hsz : w.heap.size < (w.alloc (.cells (cN t.hd u).toArray 51)).heap.size := by simp
  obtain ⟨v', w', hr, q1, q2, q3, q4⟩ := run_append_own_at (P := Try.prog) (w.alloc (.cells (cN t.hd u).toArray 51)) base 49 o.type 51 i z 10 96 Try.underlying49 hi hz h1 h2 h3 (by omega) v ls.length (cT ls us) ow ⟨w.heap.size, 0, none⟩ 1 1 (cN t.hd u) rfl hnews (cN_ok hu.one) (by unfold maxLen; omega) (by omega) (by omega)
  unfold Oper.wp
  simp [execOp, ho, resolve, invoke, builtin, hv, hx, hr, Result.andThen]
  refine hK v' w' ?_ q2
  refine OwnT.app us e p [u] rfl (fun k t' u' a1 a2 => ?_) (by simpa [cT] using q1) q2 q4
  match k, a1, a2 with
  | 0, a1, a2 =>
    have e1 : t = t' := by simpa using a1
    have e2 : u = u' := by simpa using a2
    subst e1 e2
    exact hu.below hb
  | k + 1, a1, a2 => simp at a1
theorem snoc51 {ops : Array Oper} {rest : List Oper} {o : Oper} {a : Act} {w : World} {Q : Exit → Act → World → Prop} (hgd : o.guard = none) (s x : Operand)
    (ho : o.op = .call { callee := .builtin .append, args := #[s, x], argTypes := #[49, 49] }) (D : Nat → Prop) (base : Nat) (v : Value) (ls : List T) (hv : a.eval s = v) (hown : OwnT 51 D base w v ls)
    (t : T) (u : Value) (hu : SV (fun b => D b ∧ some b ≠ v.ownBlock) w u t.kids) (hx : a.eval x = .slice (some ⟨w.heap.size, 0, none⟩) 1 1) (hn : ls.length ≤ 1000000) (hbase : base ≤ w.heap.size)
    (hK : ∀ v' w', OwnT 51 D base w' v' (ls ++ [t]) → (w.alloc (.cells (cN t.hd u).toArray 51)).grownBy w' v.ownBlock → wpList Try.prog ops Q rest (a.put o.dst v') w') : wpList Try.prog ops Q (o :: rest) a (w.alloc (.cells (cN t.hd u).toArray 51)) :=
  wpList_plain hgd fun _ hK' => wp_snoc51 s x ho D base v ls hv hown t u hu hx hn hbase fun v' w' h1 h2 => hK' _ _ (hK v' w' h1 h2)
theorem step_snoc51 {ops : Array Oper} {o : Oper} {a : Act} {w : World} {K : Act → World → Prop} {Q : Exit → Act → World → Prop} {Z : Prop} (hgd : o.guard = none) (s x : Operand)
    (ho : o.op = .call { callee := .builtin .append, args := #[s, x], argTypes := #[49, 49] }) (D : Nat → Prop) (base : Nat) (v : Value) (ls : List T) (hv : a.eval s = v) (hown : OwnT 51 D base w v ls)
    (t : T) (u : Value) (hu : SV (fun b => D b ∧ some b ≠ v.ownBlock) w u t.kids) (hx : a.eval x = .slice (some ⟨w.heap.size, 0, none⟩) 1 1) (hn : ls.length ≤ 1000000) (hbase : base ≤ w.heap.size)
    (hK : ∀ v' w', OwnT 51 D base w' v' (ls ++ [t]) → (w.alloc (.cells (cN t.hd u).toArray 51)).grownBy w' v.ownBlock → K (a.put o.dst v') w') : if Region.wanted o (yielded ops a.tmps) = true then Oper.wp Try.prog o a (w.alloc (.cells (cN t.hd u).toArray 51)) K Q else Z := by
  have hw : Region.wanted o (yielded ops a.tmps) = true := by simp [Region.wanted, hgd]
  rw [if_pos hw]
  exact wp_snoc51 s x ho D base v ls hv hown t u hu hx hn hbase hK
end Go.Proofs.Ytndmjndokokmnaa
