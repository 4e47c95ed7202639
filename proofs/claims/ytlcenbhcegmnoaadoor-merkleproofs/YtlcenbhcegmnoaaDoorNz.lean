import Derived.Test.YtlcenbhcegmnoaaDoorNa
namespace Go.Proofs.YtlcenbhcegmnoaaDoor
set_option linter.unusedSimpArgs false
set_option linter.unusedVariables false
open Go.RowKit
set_option maxRecDepth 100000 in
set_option maxHeartbeats 1000000 in
/-- A slice of one hash. -/
theorem buildH32 (a0 a1 a2 a3 a4 a5 a6 a7 a8 a9 a10 a11 a12 a13 a14 a15 a16 a17 a18 a19 a20 a21 a22 a23 a24 a25 a26 a27 a28 a29 a30 a31 : Int) (w : World) : (Instr.buildSlice 44 1 #[(0, .agg (vB [a0, a1, a2, a3, a4, a5, a6, a7, a8, a9, a10, a11, a12, a13, a14, a15, a16, a17, a18, a19, a20, a21, a22, a23, a24, a25, a26, a27, a28, a29, a30, a31]))]).run Tryd.prog w = .ok (.slice (some ⟨w.heap.size, 0, none⟩) 1 1) (w.alloc (.cells (vB [a0, a1, a2, a3, a4, a5, a6, a7, a8, a9, a10, a11, a12, a13, a14, a15, a16, a17, a18, a19, a20, a21, a22, a23, a24, a25, a26, a27, a28, a29, a30, a31]) 24)) := by
  kernel_rfl
theorem buildH (h : List Int) (hl : h.length = 32) (w : World) : (Instr.buildSlice 44 1 #[(0, .agg (vB h))]).run Tryd.prog w = .ok (.slice (some ⟨w.heap.size, 0, none⟩) 1 1) (w.alloc (.cells (vB h) 24)) := by
  match h, hl with
  | [a0, a1, a2, a3, a4, a5, a6, a7, a8, a9, a10, a11, a12, a13, a14, a15, a16, a17, a18, a19, a20, a21, a22, a23, a24, a25, a26, a27, a28, a29, a30, a31], _ => exact buildH32 a0 a1 a2 a3 a4 a5 a6 a7 a8 a9 a10 a11 a12 a13 a14 a15 a16 a17 a18 a19 a20 a21 a22 a23 a24 a25 a26 a27 a28 a29 a30 a31 w
theorem info24 : (Tryd.prog.info? 24).map (fun i => (i.zero, i.size, i.bytes)) = some (some (.agg (vB (zs 32))), 32, 32) := by kernel_rfl
/-- The slice u has the hashes hs, in a row of its own. -/
def HashRow (base : Nat) (hs : List (List Int)) (u : Value) (W : World) : Prop := W.ownsRow base 24 32 u hs.length (vB hs.flatten).toList
theorem HashRow.list {base : Nat} {hs : List (List Int)} {u : Value} {W : World} (h : HashRow base hs u W) (h0 : 0 < W.heap.size) : ListAt W u hs := by
  obtain ⟨hl, h2⟩ := h
  rcases h2 with ⟨rfl, hn0⟩ | ⟨g, cap, cur, rfl, _, hgb, r1, r2, r3, r4⟩
  · have : hs = [] := List.eq_nil_of_length_eq_zero hn0
    subst this
    exact ⟨none, 0, 0, 0, rfl, Nat.le_refl _, by omega, fun h => by simp at h, fun j v hv => by simp [vB] at hv, h0, fun _ => rfl⟩
  · refine ⟨some ⟨g, 0, none⟩, g, 0, cap, rfl, r1, r2, fun _ => rfl, fun j x hx => ?_, (Array.getElem?_eq_some_iff.1 hgb).1, fun h => by cases h⟩
    rw [Nat.zero_add, cell_of_row W g j cur 24 (0, 0) hgb]
    rw [← r4, List.getElem?_take] at hx
    split at hx
    · simpa using hx
    · cases hx
theorem HashRow.nil (base : Nat) (W : World) : HashRow base [] (.slice none 0 0) W := ⟨rfl, Or.inl ⟨rfl, rfl⟩⟩
theorem HashRow.below {base : Nat} {hs : List (List Int)} {u : Value} {W W' : World} (h : HashRow base hs u W) (hb : Below W.heap.size W W') : HashRow base hs u W' :=
  World.ownsRow.kept h (grown_below hb none) (by
    rcases h.2 with ⟨rfl, _⟩ | ⟨g, cap, cur, rfl, _⟩
    · exact .inl rfl
    · exact .inr (by simp [Value.ownBlock]))
theorem cells_of_new {w : World} {h : List Int} : ∀ j u, (vB h).toList[j]? = some u → (w.alloc (.cells (vB h) 24)).cell? ((⟨w.heap.size, 0, none⟩ : Addr).add j) = some u := fun j u hu => by
  rw [Addr.add_mid, Nat.zero_add, cell_of_row _ _ j _ 24 (0, 0) (heap_alloc_new _ _)]
  simpa using hu
/-- A hash more. -/
theorem appendH {ops : Array Oper} {rest : List Oper} {o : Oper} {a : Act} {w : World} {Q : Exit → Act → World → Prop} (hgd : o.guard = none) (s x : Operand)
    (ho : o.op = .call { callee := .builtin .append, args := #[s, x], argTypes := #[44, 44] }) (base : Nat) (v : Value) (hs : List (List Int)) (hv : a.eval s = v) (hown : HashRow base hs v w)
    (h : List Int) (hl : h.length = 32) (hx : a.eval x = .slice (some ⟨w.heap.size, 0, none⟩) 1 1) (hn : hs.length ≤ 1000000000000) (hbase : base ≤ w.heap.size)
    (K : ∀ v' w', HashRow base (hs ++ [h]) v' w' → (w.alloc (.cells (vB h) 24)).grownBy w' v.ownBlock → wpList Tryd.prog ops Q rest (a.put o.dst v') w') : wpList Tryd.prog ops Q (o :: rest) a (w.alloc (.cells (vB h) 24)) := by
  obtain ⟨i, hi, hz0, hz1, hz2⟩ := info_parts info24
  have hh : (vB h).toList.length = 1 * 32 := by rw [Array.length_toList, vB_size, hl]
  refine wpList_append_own_at _ hgd s x 44 ho base 24 i (.agg (vB (zs 32))) 32 32 Tryd.underlying44 hi hz0 hz1 hz2 rfl (by omega) v hs.length (vB hs.flatten).toList hv (own_alloc hown _) ⟨w.heap.size, 0, none⟩ 1 1 (vB h).toList hx hh cells_of_new
    (fun v hv => by simp [vB] at hv; obtain ⟨y, _, rfl⟩ := hv; rfl) (by unfold maxLen; omega) (by omega) (by simp; omega) ?_
  intro v' w' o' g' _ _
  refine K v' w' ?_ g'
  unfold HashRow
  simpa [vB] using o'
end Go.Proofs.YtlcenbhcegmnoaaDoor
namespace Go.Proofs.YtlcenbhcegmnoaaDoor
set_option linter.unusedSimpArgs false
set_option linter.unusedVariables false
open Go.RowKit
theorem buildH_wp {ops : Array Oper} {rest : List Oper} {o : Oper} {a : Act} {w : World} {Q : Exit → Act → World → Prop} (hgd : o.guard = none) (x : Operand) (ho : o.op = .buildSlice 44 1 #[(0, x)]) (h : List Int) (hl : h.length = 32) (hx : a.eval x = .agg (vB h))
    (hK : wpList Tryd.prog ops Q rest (a.put o.dst (.slice (some ⟨w.heap.size, 0, none⟩) 1 1)) (w.alloc (.cells (vB h) 24))) : wpList Tryd.prog ops Q (o :: rest) a w := by
  refine wpList_plain hgd fun K hK' => ?_
  have hrun := buildH h hl w
  unfold Oper.wp execOp
  simp only [ho]
  rw [show (#[(0, x)].map fun (i, x) => (i, a.eval x)) = #[(0, .agg (vB h))] by simp [hx]]
  simp only [Sem.run_bind, hrun, Result.andThen_ok]
  exact hK' _ _ hK
/-- The leaves of a file's chunks. -/
def leavesL (bs : List Int) : List (List Int) := (chunksL bs).map leafH
theorem leavesL_hashes (bs : List Int) : Hashes (leavesL bs) := fun h hh => by
  obtain ⟨l, _, rfl⟩ := List.mem_map.1 hh
  exact ⟨leafH_length l, hashOf_bytes _⟩
theorem chunksL_bytes (bs : List Int) (h : Bytes bs) : ∀ l ∈ chunksL bs, Bytes l := fun l hl x hx => by
  obtain ⟨p, _, rfl⟩ := List.mem_map.1 hl
  exact h x (List.mem_of_mem_drop (List.mem_of_mem_take hx))
theorem take_map_succ (ls : List (List Int)) (k : Nat) (l : List Int) (h : ls[k]? = some l) : (ls.take (k + 1)).map leafH = (ls.take k).map leafH ++ [leafH l] := by
  rw [List.take_add_one, h]; simp
set_option maxRecDepth 100000 in
set_option maxHeartbeats 2000000 in
theorem rleaves_any (v : Value) (bs : List Int) (w : World) (h0 : 0 < w.heap.size) (hp : PartAt w v bs) (hn : bs.length ≤ 1000000000000) (hby : Bytes bs) :
    Calls Tryd.prog 52 #[v] w fun e w' => ∃ v', e = .returned v' ∧ ListAt w' v' (leavesL bs) ∧ Below w.heap.size w w' := by
  have hcb := chunksL_bytes bs hby
  have hcs := chunksL_small bs
  have hcl := chunksL_length bs
  have C : Hid (Calls Tryd.prog 25 #[v] w fun e w' => ∃ v', e = .returned v' ∧ PartsAt w' v' (chunksL bs) ∧ Below w.heap.size w w') := rchunks_any v bs w h0 hp hn
  have hnn : (chunksL bs).length ≤ 100000000000 := by omega
  unfold leavesL
  generalize chunksL bs = ls at *
  have HCB : Hid (∀ l ∈ ls, Bytes l) := hcb
  have HCS : Hid (∀ l ∈ ls, l.length ≤ 32) := hcs
  clear hcb hcs hcl hby
  obtain ⟨av0, _, _, cp0, rfl, _⟩ := hp
  go_enter Tryd.func52, Tryd.ntmps52
  go_wp2_with fail
  refine C.out.mono ?_
  rintro e w2 ⟨v4, rfl, ⟨av, b, o, cp, vs, rfl, hcp, hcp2, hav, hvl, hr, hb, hpp⟩, b2⟩
  have HR : Hid (w2.rangeAt b o vs) := hr
  have HPP : Hid (∀ (i : Nat) (x : Value) (l : List Int), vs[i]? = some x → ls[i]? = some l → PartAt w2 x l) := hpp
  have s2 := b2.size
  clear hr hpp C
  go_wp2_with fail
  go_loopw [3, 10] (fun u i wr => ∃ k : Nat, k ≤ ls.length ∧ i = .int .i64 k ∧ Below w2.heap.size w2 wr ∧ Hid (HashRow w2.heap.size ((ls.take k).map leafH) u wr)) (fun _ i _ => ls.length - (intOf i).toNat)
  case atStart => exact ⟨0, by omega, rfl, Below.refl _ _, HashRow.nil _ _⟩
  case round =>
    obtain ⟨k, hk, rfl, bl, HO⟩ := hrel
    have hbs := bl.size
    by_cases hlt : k < ls.length
    · obtain rfl := hav (by omega)
      obtain ⟨x, hx⟩ : ∃ x, vs[k]? = some x := ⟨vs[k], List.getElem?_eq_getElem (by omega)⟩
      obtain ⟨l, hlk⟩ : ∃ l, ls[k]? = some l := ⟨ls[k], List.getElem?_eq_getElem hlt⟩
      have hpk := (HPP.out k x l hx hlk).below bl
      have hmem := List.mem_of_getElem? hlk
      have hl32 := HCS.out l hmem
      have hlb := HCB.out l hmem
      have TS : Hid ((ls.take (k + 1)).map leafH = (ls.take k).map leafH ++ [leafH l]) := take_map_succ ls k l hlk
      have hc : wr.cell? ⟨b, o + k, none⟩ = some x := by rw [bl.cell (show b < w2.heap.size from hb)]; exact HR.out k x hx
      have C27 : Hid (Calls Tryd.prog 27 #[x] wr fun e w' => e = .returned (.agg (vB (leafH l))) ∧ Below wr.heap.size wr w') := rleaf_any x l wr (by omega) hpk (by omega) hlb
      obtain ⟨H, hH⟩ : ∃ H, H = leafH l := ⟨_, rfl⟩
      have hHl : H.length = 32 := by rw [hH]; exact leafH_length l
      rw [← hH] at TS C27
      obtain ⟨avx, _, _, cpx, hxv, _⟩ := hpk
      subst hxv
      have hkl : ((ls.take k).map leafH).length ≤ 1000000000000 := by simp; omega
      clear hH hlb hmem hx hlk
      go_wp2_with fail
      refine C27.out.mono ?_
      rintro e w5 ⟨rfl, b5⟩
      have bl5 : Below w2.heap.size w2 w5 := bl.trans (b5.mono hbs)
      have HO5 : Hid (HashRow w2.heap.size ((ls.take k).map leafH) u3 w5) := HO.out.below b5
      have hbs5 := bl5.size
      clear hc C27 HO b5
      go_wp2_with (first | (refine buildH_wp rfl _ rfl H hHl (by rfl) ?_) | (at_builtin; refine appendH rfl _ _ rfl w2.heap.size u3 ((ls.take k).map leafH) rfl HO5.out H hHl (by rfl) hkl hbs5 ?_; intro v2 w6 o2 g2))
      have q6 : Below w2.heap.size w2 w6 := (bl5.alloc hbs5 _).grown g2 (by simp; omega) (fun j hj => (own_lt HO5.out j hj).2)
      go_roundw
      case rel => exact ⟨k + 1, by omega, by go_num, q6, by unfold Hid; rw [TS.out]; exact o2⟩
      case measure => simp [intOf]; omega
    · have ek : (ls.take k).map leafH = ls.map leafH := by rw [List.take_of_length_le (by omega)]
      have HO' : Hid (HashRow w2.heap.size (ls.map leafH) u3 wr) := by rw [ek] at HO; exact HO
      clear HO ek
      go_wp2
      go_ret
      exact ⟨_, rfl, HO'.out.list (by omega), b2.trans (bl.mono s2)⟩
set_option maxRecDepth 100000 in
set_option maxHeartbeats 1000000 in
theorem rroot_any (v : Value) (bs : List Int) (w : World) (h0 : 0 < w.heap.size) (hp : PartAt w v bs) (hn : bs.length ≤ 1000000000000) (hby : Bytes bs) :
    Calls Tryd.prog 29 #[v] w fun e w' => e = .returned (.agg (vB (overH (leavesL bs)))) ∧ Below w.heap.size w w' := by
  have hcl : (leavesL bs).length ≤ 1000000000000 := by unfold leavesL; rw [List.length_map, chunksL_length]; omega
  have hHs := leavesL_hashes bs
  have C : Hid (∀ w', Below w.heap.size w w' → Calls Tryd.prog 52 #[v] w' fun e w'' => ∃ v', e = .returned v' ∧ ListAt w'' v' (leavesL bs) ∧ Below w'.heap.size w' w'') := fun w' k => rleaves_any v bs w' (by have := k.size; omega) (hp.below k) hn hby
  obtain ⟨HB, hHB⟩ : ∃ HB, HB = overH (leavesL bs) := ⟨_, rfl⟩
  have hlen : HB.length = 32 := by rw [hHB]; exact (overH_hash _ hHs).1
  have C2 : Hid (∀ w' x, 0 < w'.heap.size → ListAt w' x (leavesL bs) → Calls Tryd.prog 33 #[x] w' fun e w'' => e = .returned (.agg (vB HB)) ∧ Below w'.heap.size w' w'') := fun w' x q hx => by
    rw [hHB]; exact rover_any _ x (leavesL bs) w' (Nat.le_refl _) (by omega) hHs q hx
  rw [← hHB]
  clear hHB hby hHs
  generalize leavesL bs = ls at *
  obtain ⟨av, _, _, cp, rfl, _⟩ := hp
  go_enter Tryd.func29, Tryd.ntmps29
  go_wp2_with fail
  have hN := OneIn.new w
  refine (C.out _ hN.1).mono ?_
  rintro e w2 ⟨x, rfl, px, b2⟩
  have n2 := hN.below b2
  have s2 := n2.lt
  clear hN b2
  go_wp2_with fail
  refine (C2.out _ x (by omega) px).mono ?_
  rintro e w3 ⟨rfl, b3⟩
  obtain ⟨b03, c, hc, h50⟩ := n2.below b3
  clear b3 n2
  go_wp2_with (first | (refine store24 rfl _ _ rfl _ HB rfl rfl hlen 24 c hc h50 ?_))
  exact bodyPost_ret (v := .agg (vB HB)) (results_cell_row (p := 2) (ty := 24) Tryd.results29 _ _ w.heap.size 24 _ (0, 0) _ rfl (setRow_same h50) Tryd.underlying24 rfl (by rw [vB_size, hlen]; kernel_rfl)) rfl ⟨rfl, below_setRow b03 (Nat.le_refl _) _⟩
end Go.Proofs.YtlcenbhcegmnoaaDoor
namespace Go.Proofs.YtlcenbhcegmnoaaDoor
set_option linter.unusedSimpArgs false
set_option linter.unusedVariables false
open Go.RowKit Go.Shelf
attribute [local go_sem] Oper.semAt_some
/-- The slice in the box at base + 1 has the hashes hs. -/
def LeavesIn (base : Nat) (hs : List (List Int)) (W : World) : Prop :=
  ∃ v, Boxed W (base + 1) 44 v ∧ HashRow base hs v W ∧ (∀ k, v.ownBlock = some k → k = base ∨ base + 4 ≤ k)
theorem leavesIn_own {β : Type} (base B : Nat) (f : β → List (List Int)) : OwnFrom B (fun s W => LeavesIn base (f s) W) := by
  rintro s X Y row ⟨v, hv, hr, hb⟩ hg hrow'
  have hrow : ∀ r, row = some r → ∃ o : Obj, X.heap[r]? = some o ∧ o.isCells = false := fun r e => (hrow' r e).2
  refine ⟨v, hv.kept hg (fun e' => ?_), World.ownsRow.kept hr hg ?_, hb⟩
  · obtain ⟨o, ho, hc⟩ := hrow (base + 1) e'.symm
    rw [show X.heap[base + 1]? = _ from hv] at ho; cases ho; cases hc
  · rcases hr.2 with ⟨rfl, _⟩ | ⟨g, cap, cur, rfl, _, hgb, _⟩
    · exact .inl rfl
    · refine .inr fun e' => ?_
      obtain ⟨o, ho, hc⟩ := hrow g (by simpa [Value.ownBlock] using e'.symm)
      rw [hgb] at ho; cases ho; cases hc
theorem leavesIn_step {base : Nat} {hs : List (List Int)} {h : List Int} {W w5 w6 : World} {v v' : Value} (hv : Boxed W (base + 1) 44 v) (hr : HashRow base hs v W) (hb : ∀ k, v.ownBlock = some k → k = base ∨ base + 4 ≤ k) (hs4 : base + 4 ≤ W.heap.size)
    (b5 : Below W.heap.size W w5) (hown : HashRow base (hs ++ [h]) v' w6) (hg : (w5.alloc (.cells (vB h) 24)).grownBy w6 v.ownBlock) (hd : v'.ownBlock = v.ownBlock ∨ v'.ownBlock = some (w5.alloc (.cells (vB h) 24)).heap.size) :
    LeavesIn base (hs ++ [h]) (w6.setCell ⟨base + 1, 0, none⟩ v') ∧ KeepsOthers W (w6.setCell ⟨base + 1, 0, none⟩ v') ∧ Below base W (w6.setCell ⟨base + 1, 0, none⟩ v') ∧ Keep2 (base + 2) W (w6.setCell ⟨base + 1, 0, none⟩ v') ∧ w6.cell? ⟨base + 1, 0, none⟩ = some v ∧ w6.frozen? ⟨base + 1, 0, none⟩ = false := by
  have g5 : W.grownBy w5 none := grown_below b5 none
  have s5 := b5.size
  have hv5 : Boxed w5 (base + 1) 44 v := hv.kept g5 (by simp)
  have hr5 : HashRow base hs v w5 := hr.below b5
  obtain ⟨a1, a2, a3, a4, a5⟩ := hv5.appended (by decide) hr5 (show base ≤ w5.heap.size by omega) (show base ≤ base + 1 by omega) hown hg
  refine ⟨⟨v', a2, a3, fun k hk => ?_⟩, (KeepsOthers.of_grownBy g5 (fun j o e => by cases e)).trans a4, (Below.refl base W).trans ?_, fun k h1 h3 => ?_, a1.cell, a1.frozen⟩
  · rcases hd with hd | hd
    · exact hb k (hd ▸ hk)
    · rw [hd] at hk; injection hk with hk; simp at hk; omega
  · exact ((Below.refl base W).grown g5 (by omega) (fun k e => by cases e)).trans a5
  · rw [(grownBy_setCell' w6 (base + 1) v').block k (Nat.lt_of_lt_of_le (by simp; omega) hg.size) (by intro e; injection e; omega), hg.block k (by simp; omega) ?_, Below.heap_alloc _ _ _ (by omega), g5.block k (by omega) (by simp)]
    intro e
    have := hb k e.symm
    omega
theorem step_build_in {F : Fence} {n : Nat} {ops : Array Oper} {o : Oper} {a : Act} {w : World} {K : Act → World → Prop} {Q : Exit → Act → World → Prop} {E : Prop} (hgd : o.guard = none) (x : Operand) (ho : o.op = .buildSlice 44 1 #[(0, x)]) (h : List Int) (hl : h.length = 32) (hx : a.eval x = .agg (vB h))
    (hK : K (a.put o.dst (.slice (some ⟨w.heap.size, 0, none⟩) 1 1)) (w.alloc (.cells (vB h) 24))) : if Region.wanted o (yielded ops a.tmps) = true then Oper.wpIn F n Tryd.prog o a w K Q else E := by
  have hw : Region.wanted o (yielded ops a.tmps) = true := by simp [Region.wanted, hgd]
  rw [if_pos hw]
  have hrun := buildH h hl w
  unfold Oper.wpIn
  refine ⟨by simp [Oper.about, ho], ?_⟩
  rw [Oper.semAt_plain F _ _ (by rw [ho]; intro c hc'; cases hc')]
  unfold execOp
  simp only [ho]
  rw [show (#[(0, x)].map fun (i, x) => (i, a.eval x)) = #[(0, .agg (vB h))] by simp [hx]]
  simp only [Sem.run_bind, hrun, Result.andThen_ok]
  exact hK
theorem step_append_in {F : Fence} {n : Nat} {ops : Array Oper} {o : Oper} {a : Act} {w : World} {K : Act → World → Prop} {Q : Exit → Act → World → Prop} {E : Prop} (hgd : o.guard = none) (s x : Operand)
    (ho : o.op = .call { callee := .builtin .append, args := #[s, x], argTypes := #[44, 44] }) (base : Nat) (v : Value) (hs : List (List Int)) (hv : a.eval s = v) (hown : HashRow base hs v w)
    (h : List Int) (hl : h.length = 32) (hx : a.eval x = .slice (some ⟨w.heap.size, 0, none⟩) 1 1) (hn : hs.length ≤ 1000000000000) (hbase : base ≤ w.heap.size)
    (hK : ∀ v' w', HashRow base (hs ++ [h]) v' w' → (w.alloc (.cells (vB h) 24)).grownBy w' v.ownBlock → (v'.ownBlock = v.ownBlock ∨ v'.ownBlock = some (w.alloc (.cells (vB h) 24)).heap.size) → K (a.put o.dst v') w') : if Region.wanted o (yielded ops a.tmps) = true then Oper.wpIn F n Tryd.prog o a (w.alloc (.cells (vB h) 24)) K Q else E := by
  have hw : Region.wanted o (yielded ops a.tmps) = true := by simp [Region.wanted, hgd]
  rw [if_pos hw]
  obtain ⟨i, hi, hz0, hz1, hz2⟩ := info_parts info24
  have hh : (vB h).toList.length = 1 * 32 := by rw [Array.length_toList, vB_size, hl]
  obtain ⟨v', w', hr, h2, h3, h4, h5⟩ := run_append_own_at (P := Tryd.prog) (w.alloc (.cells (vB h) 24)) base 44 o.type 24 i (.agg (vB (zs 32))) 32 32 Tryd.underlying44 hi hz0 hz1 hz2 rfl (by omega) v hs.length (vB hs.flatten).toList (own_alloc hown _) ⟨w.heap.size, 0, none⟩ 1 1 (vB h).toList hh cells_of_new
    (fun v hv => by simp [vB] at hv; obtain ⟨y, _, rfl⟩ := hv; rfl) (by unfold maxLen; omega) (by omega) (by simp; omega)
  unfold Oper.wpIn
  refine ⟨by simp [Oper.about, ho, resolve, Target.leads, Sem.run_pure], ?_⟩
  rw [Oper.semAt_plain F _ _ (by rw [ho]; intro c hc'; cases hc')]
  simp [execOp, ho, resolve, invoke, builtin, hv, hx, hr, Result.andThen]
  exact hK v' w' (by unfold HashRow; simpa [vB] using h2) h3 h5
theorem leaves_map (bs : List Int) : (piecesTo bs.length ((bs.length + 31) / 32)).map (fun p => leafH (textOf bs p.1)) = leavesL bs := by
  unfold leavesL chunksL
  simp only [List.map_map, Function.comp_def]
theorem make44 (n : Nat) (h : n ≤ 4398046511104) (w : World) : ∃ cs : Array Value, cs.size = n * 32 ∧ (Instr.makeSlice 44 (.int .i64 0) (.int .i64 n)).run Tryd.prog w = .ok (.slice (some ⟨w.heap.size, 0, none⟩) 0 n) (w.alloc (.cells cs 24)) := by
  obtain ⟨i, hi, hz0, hz1, hz2⟩ := info_parts info24
  have := run_make (P := Tryd.prog) w 44 24 i (.agg (vB (zs 32))) Tryd.underlying44 hi hz0 .i64 .i64 0 n (by omega) (by omega) (by rw [hz2]; omega) (by omega)
  refine ⟨_, size_madeCells (Value.cells (.agg (vB (zs 32)))) (n * 32), ?_⟩
  simpa [hz1] using this
set_option maxRecDepth 100000 in
set_option maxHeartbeats 4000000 in
theorem leaves_any (v : Value) (bs : List Int) (w : World) (hL : Laid w) (hp : PartAt w v bs) (hn : bs.length ≤ 1000000000000) :
    Calls Tryd.prog 51 #[v] w fun e w' => ∃ v', e = .returned v' ∧ ListAt w' v' (leavesL bs) ∧ Below w.heap.size w w' := by
  have h2 := hL.two
  have hmx : Tryd.prog.follows .mixedOrders = true := by kernel_rfl
  obtain ⟨av, b, o, cp, rfl, hcp, hcp2, hav, hr, hb, _⟩ := hp
  obtain ⟨cs, hcsz, hm44⟩ := make44 ((bs.length + 31) / 32) (by omega) w
  have CC : Hid (∀ w' : World, Calls Tryd.prog 49 #[.slice av bs.length cp] w' fun e w'' => e = .returned (.int .i64 ((bs.length + 31) / 32 : Nat)) ∧ w'' = w') := fun w' => count_any av bs.length cp (by omega) w'
  refine (callsIn_wide (n := 3)).1 ?_
  refine callsIn_of_wp_marks Tryd.func51 rfl trivial ?_ rfl
  simp only [Tryd.ntmps51, List.size_toArray, List.length_cons, List.length_nil, Nat.reduceAdd, Nat.reduceSub, Array.replicate_succ, Array.replicate_zero, List.push_toArray, List.append_toArray, List.nil_append, List.cons_append]
  obtain ⟨cnt, hcnt⟩ : ∃ c, c = (bs.length + 31) / 32 := ⟨_, rfl⟩
  rw [← hcnt] at CC hm44 hcsz
  have HC : Hid (cnt = (bs.length + 31) / 32) := hcnt
  clear hcnt
  gi_wp2_with (first | (refine ⟨trivial, ?_⟩; gi_at_call 49; refine (callsIn_wide.2 (CC.out _)).mono ?_; rintro e w' ⟨rfl, hw'⟩; have hw'' := hw'.symm; clear hw'; subst hw'') | (refine ⟨trivial, ?_⟩; gi_at_call 50; refine (chunk_in Fence.wide _ trivial rfl _ _ _ _).mono ?_; rintro e w' ⟨rfl, rfl⟩))
  obtain ⟨W0, hW0⟩ : ∃ W0, ((((w.alloc (Obj.cells cs 24)).alloc (Obj.cells #[Value.slice (some ⟨w.heap.size, 0, none⟩) 0 cnt] 44)).alloc (Obj.cells #[Value.slice av bs.length cp] 22)).alloc (Obj.cells #[Value.int IntKind.i64 32] 3)) = W0 := ⟨_, rfl⟩
  rw [hW0]
  have s0 : W0.heap.size = w.heap.size + 4 := by rw [← hW0]; simp
  have B0 : Below w.heap.size w W0 := by rw [← hW0]; exact ((((Below.refl _ _).alloc (Nat.le_refl _) _).alloc (by simp) _).alloc (by simp; omega) _).alloc (by simp; omega) _
  have x1 : Boxed W0 (w.heap.size + 1) 44 (.slice (some ⟨w.heap.size, 0, none⟩) 0 cnt) := by
    rw [← hW0]; exact (Boxed.alloc (Boxed.alloc (by have := Boxed.new (w.alloc (Obj.cells cs 24)) 44 (.slice (some ⟨w.heap.size, 0, none⟩) 0 cnt); rwa [World.size_alloc] at this) _) _)
  have x2 : Boxed W0 (w.heap.size + 1 + 1) 22 (.slice av bs.length cp) := by
    rw [← hW0]; exact (Boxed.alloc (by have := Boxed.new ((w.alloc (Obj.cells cs 24)).alloc (Obj.cells #[Value.slice (some ⟨w.heap.size, 0, none⟩) 0 cnt] 44)) 22 (.slice av bs.length cp); rwa [World.size_alloc, World.size_alloc] at this) _)
  have x3 : Boxed W0 (w.heap.size + 1 + 1 + 1) 3 (.int .i64 32) := by
    rw [← hW0]; have := Boxed.new (((w.alloc (Obj.cells cs 24)).alloc (Obj.cells #[Value.slice (some ⟨w.heap.size, 0, none⟩) 0 cnt] 44)).alloc (Obj.cells #[Value.slice av bs.length cp] 22)) 3 (.int .i64 32); rwa [World.size_alloc, World.size_alloc, World.size_alloc] at this
  have r0 : W0.heap[w.heap.size]? = some (.cells cs 24) := by
    rw [← hW0, Below.heap_alloc _ _ _ (by simp; omega), Below.heap_alloc _ _ _ (by simp; omega), Below.heap_alloc _ _ _ (by simp)]; exact heap_alloc_new _ _
  have i0 : LeavesIn w.heap.size [] W0 := ⟨_, x1, ⟨rfl, Or.inr ⟨w.heap.size, cnt, _, rfl, Nat.le_refl _, r0, Nat.zero_le _, by have := HC.out; unfold maxLen; omega, by rw [hcsz], by simp [vB]⟩⟩, fun k hk => by simp [Value.ownBlock] at hk; omega⟩
  clear hW0 x1 r0 hm44
  refine wpIn_rangeFunc_ownG (F := Fence.wide) rfl (by omega) (gf := 60) (lb := #[.pointer (some ⟨w.heap.size + 1 + 1, 0, none⟩), .pointer (some ⟨w.heap.size + 1 + 1 + 1, 0, none⟩)]) rfl trivial (enters_of Tryd.func60 (by kernel_rfl) rfl)
    (chunk_stops Fence.wide _ trivial rfl (by omega) (w.heap.size + 1 + 1) b o bs.length cp av hav (by omega) hcp hcp2 W0 (by omega) x2.cell x3.cell) (fun h k => h.trans k) (keep2_b (by omega)) (Below.refl _ _) (fun _ => rfl)
    (fun pre W => LeavesIn w.heap.size (pre.map (fun p => leafH (textOf bs p.1))) W ∧ (Below w.heap.size w W ∧ w.heap.size + 4 ≤ W.heap.size))
    (fun _ _ _ => False)
    (OwnFrom.and (leavesIn_own _ _ _) (OwnFrom.and (ownFrom_below (Nat.le_refl _) (by omega)) (fun s X Y row h hg _ => Nat.le_trans h hg.size)))
    (fun _ _ _ _ _ hs _ _ => hs)
    ⟨i0, B0, by omega⟩
    (fun x => { tmps := #[.slice av bs.length cp, undef, .slice none 0 0, .pointer (some ⟨w.heap.size + 1, 0, none⟩), .slice (some ⟨b, o + x.1.1, none⟩) x.1.2 x.1.2, .slice av bs.length cp, .int .i64 cnt, .slice (some ⟨w.heap.size, 0, none⟩) 0 cnt, .slice av bs.length cp, .func (.func 60) #[] #[.pointer (some ⟨w.heap.size + 1 + 1, 0, none⟩), .pointer (some ⟨w.heap.size + 1 + 1 + 1, 0, none⟩)], .slice (some ⟨b, o + x.1.1, none⟩) x.1.2 x.1.2, undef, undef, undef, undef, undef, undef], defers := [] }) ?assign ?body ?done ?stop
  case assign =>
    intro l x W K hK
    gi_wp2
    exact hK
  case body =>
    rintro l pre x W ⟨⟨v, hv, hrow, hbk⟩, hB, hs4⟩ hlt
    have hx := x.2
    have htl := textOf_length bs x
    have hpx : PartAt W (.slice (some ⟨b, o + x.1.1, none⟩) x.1.2 x.1.2) (textOf bs x.1) := ⟨some ⟨b, o + x.1.1, none⟩, b, o + x.1.1, x.1.2, by rw [htl], by omega, by omega, fun _ => rfl, range_take (range_drop (range_below hr hB hb) x.1.1) x.1.2, Nat.lt_of_lt_of_le hb hB.size, fun h => by cases h⟩
    obtain ⟨H, hH⟩ : ∃ H, H = leafH (textOf bs x.1) := ⟨_, rfl⟩
    have hHl : H.length = 32 := by rw [hH]; exact leafH_length _
    have C26 : Hid (Calls Tryd.prog 26 #[.slice (some ⟨b, o + x.1.1, none⟩) x.1.2 x.1.2] W.drew fun e w' => e = .returned (.agg (vB H)) ∧ Below W.heap.size W w') := by
      unfold Hid
      rw [hH]
      refine (leaf_any _ (textOf bs x.1) W.drew ((hL.below hB h2).drew) hpx.drew (by omega)).mono ?_
      rintro e w5 ⟨rfl, b5⟩
      exact ⟨rfl, ⟨b5.os, b5.tape, b5.output, b5.size, b5.block⟩⟩
    have HM : Hid ((pre ++ [x]).map (fun p : Piece bs.length => leafH (textOf bs p.1)) = pre.map (fun p : Piece bs.length => leafH (textOf bs p.1)) ++ [H]) := by unfold Hid; rw [hH, List.map_append]; rfl
    have hkk : (pre.map (fun p : Piece bs.length => leafH (textOf bs p.1))).length ≤ 1000000000000 := by simp; omega
    have HST : Hid (∀ (w5 w6 : World) (v' : Value), Below W.heap.size W w5 → HashRow w.heap.size (pre.map (fun p : Piece bs.length => leafH (textOf bs p.1)) ++ [H]) v' w6 → (w5.alloc (.cells (vB H) 24)).grownBy w6 v.ownBlock → (v'.ownBlock = v.ownBlock ∨ v'.ownBlock = some (w5.alloc (.cells (vB H) 24)).heap.size) → _) := fun w5 w6 v' k0 k1 k2 k3 => leavesIn_step (h := H) hv hrow hbk hs4 k0 k1 k2 k3
    have HF : Hid (∀ (w6 : World) (v' : Value), (LeavesIn w.heap.size (pre.map (fun p : Piece bs.length => leafH (textOf bs p.1)) ++ [H]) (w6.setCell ⟨w.heap.size + 1, 0, none⟩ v') ∧ KeepsOthers W (w6.setCell ⟨w.heap.size + 1, 0, none⟩ v') ∧ Below w.heap.size W (w6.setCell ⟨w.heap.size + 1, 0, none⟩ v') ∧ Keep2 (w.heap.size + 2) W (w6.setCell ⟨w.heap.size + 1, 0, none⟩ v')) → KeepsFrom W0.heap.size W (w6.setCell ⟨w.heap.size + 1, 0, none⟩ v') ∧ Keep2 (w.heap.size + 1 + 1) W (w6.setCell ⟨w.heap.size + 1, 0, none⟩ v') ∧ LeavesIn w.heap.size ((pre ++ [x]).map (fun p : Piece bs.length => leafH (textOf bs p.1))) (w6.setCell ⟨w.heap.size + 1, 0, none⟩ v') ∧ Below w.heap.size w (w6.setCell ⟨w.heap.size + 1, 0, none⟩ v') ∧ w.heap.size + 4 ≤ (w6.setCell ⟨w.heap.size + 1, 0, none⟩ v').heap.size) := fun w6 v' q => ⟨q.2.1.from _, q.2.2.2, by rw [HM.out]; exact q.1, hB.trans q.2.2.1, Nat.le_trans hs4 q.2.1.size⟩
    have hc0 := hv.cell
    have HV : Hid (∀ w', Below W.heap.size W w' → w'.cell? ⟨w.heap.size + 1, 0, none⟩ = some v) := fun w' q => by rw [q.cell (show w.heap.size + 1 < W.heap.size by omega)]; exact hv.cell
    have HRW : Hid (∀ w', Below W.heap.size W w' → HashRow w.heap.size (pre.map (fun p : Piece bs.length => leafH (textOf bs p.1))) v w') := fun w' q => hrow.below q
    obtain ⟨⟨p, m⟩, hx'⟩ := x
    dsimp only at *
    have hbs := hB.size
    generalize hLs : pre.map (fun p : Piece bs.length => leafH (textOf bs p.1)) = ls at *
    clear hLs hrow hH hpx hr
    gi_wp2
    refine wpIn_region_any hmx ?_
    change wpAnyIn _ _ _ _ _ _ _ _ _ (World.drew _)
    refine wpAnyIn_ready (rs := [0, 1]) (by kernel_rfl) (by simp) ?_
    refine (AllReadyIn.cons (o := { dst := some 11, op := Go.Op.load 44 (Go.Operand.tmp 3), type := 44, pos := "merkle.go:135", after := #[], guard := none }) rfl (fun K hK => ?_) (AllReadyIn.cons (o := { dst := some 12, op := Go.Op.move (Go.Operand.tmp 4), type := 22, pos := "merkle.go:135", after := #[], guard := none }) rfl (fun K hK => ?_) AllReadyIn.nil))
    · go_simp
      refine hK _ _ ?_
      clear hK K
      try simp only [Act.put, List.setIfInBounds_toArray, List.set_cons_zero, List.set_cons_succ]
      refine wpAnyIn_ready (rs := [1]) (by kernel_rfl) (by simp) ?_
      refine (AllReadyIn.cons (o := { dst := some 12, op := Go.Op.move (Go.Operand.tmp 4), type := 22, pos := "merkle.go:135", after := #[], guard := none }) rfl (fun K hK => ?_) AllReadyIn.nil)
      · go_simp
        refine hK _ _ ?_
        clear hK K
        try simp only [Act.put, List.setIfInBounds_toArray, List.set_cons_zero, List.set_cons_succ]
        refine wpAnyIn_ready (rs := [2]) (by kernel_rfl) (by simp) ?_
        refine (AllReadyIn.cons (o := { dst := some 13, op := Go.Op.call { callee := Go.Callee.value (Go.Operand.func 26), args := #[Go.Operand.tmp 12], argTypes := #[22] }, type := 24, pos := "merkle.go:135", after := #[{ on := 1, ground := Go.Ground.data }], guard := none }) rfl (fun K hK => ?_) AllReadyIn.nil)
        · go_simp
          refine ⟨trivial, ?_⟩
          refine (CallsIn.inRound l (callsIn_wide.2 C26.out)).mono ?_
          rintro e w5 ⟨rfl, b5⟩
          refine hK _ _ ?_
          clear hK K
          try simp only [Act.put, List.setIfInBounds_toArray, List.set_cons_zero, List.set_cons_succ]
          refine wpAnyIn_ready (rs := [3]) (by kernel_rfl) (by simp) ?_
          refine (AllReadyIn.cons (o := { dst := some 14, op := Go.Op.buildSlice 44 1 #[(0, Go.Operand.tmp 13)], type := 44, pos := "merkle.go:135", after := #[{ on := 2, ground := Go.Ground.data }], guard := none }) rfl (fun K hK => ?_) AllReadyIn.nil)
          · refine step_build_in rfl _ rfl H hHl (by rfl) ?_
            refine hK _ _ ?_
            clear hK K
            try simp only [Act.put, List.setIfInBounds_toArray, List.set_cons_zero, List.set_cons_succ]
            refine wpAnyIn_ready (rs := [4]) (by kernel_rfl) (by simp) ?_
            refine (AllReadyIn.cons (o := { dst := some 15, op := Go.Op.call { callee := Go.Callee.builtin Go.Builtin.append, args := #[Go.Operand.tmp 11, Go.Operand.tmp 14], argTypes := #[44, 44] }, type := 44, pos := "merkle.go:135", after := #[{ on := 0, ground := Go.Ground.data }, { on := 3, ground := Go.Ground.data }, { on := 2, ground := Go.Ground.chain }], guard := none }) rfl (fun K hK => ?_) AllReadyIn.nil)
            · refine step_append_in rfl _ _ rfl w.heap.size v ls (by rfl) (HRW.out _ b5) H hHl (by rfl) hkk (by have := b5.size; omega) ?_
              intro v' w6 o6 g6 d6
              obtain ⟨r1, r2, r3, r4, r5, r6⟩ := HST.out w5 w6 v' b5 o6 g6 d6
              obtain ⟨g', cap', hv'⟩ := ownsRow_succ (show w6.ownsRow w.heap.size 24 32 v' (ls.length + 1) _ by have := o6; unfold HashRow at this; rw [List.length_append] at this; exact this)
              subst hv'
              refine hK _ _ ?_
              clear hK K o6 g6 d6
              try simp only [Act.put, List.setIfInBounds_toArray, List.set_cons_zero, List.set_cons_succ]
              refine wpAnyIn_ready (rs := [5]) (by kernel_rfl) (by simp) ?_
              refine (AllReadyIn.cons (o := { dst := none, op := Go.Op.store 44 (Go.Operand.tmp 3) (Go.Operand.tmp 15), type := 0, pos := "merkle.go:135", after := #[{ on := 4, ground := Go.Ground.data }, { on := 4, ground := Go.Ground.chain }, { on := 0, ground := Go.Ground.phase }, { on := 1, ground := Go.Ground.phase }, { on := 2, ground := Go.Ground.phase }, { on := 3, ground := Go.Ground.phase }, { on := 4, ground := Go.Ground.phase }], guard := none }) rfl (fun K hK => ?_) AllReadyIn.nil)
              · go_simp
                refine hK _ _ ?_
                clear hK K
                try simp only [Act.put, List.setIfInBounds_toArray, List.set_cons_zero, List.set_cons_succ]
                refine wpAnyIn_done (by kernel_rfl) ?_ _
                exact HF.out w6 _ ⟨r1, r2, r3, r4⟩
    · go_simp
      refine hK _ _ ?_
      clear hK K
      try simp only [Act.put, List.setIfInBounds_toArray, List.set_cons_zero, List.set_cons_succ]
      refine wpAnyIn_ready (rs := [0, 2]) (by kernel_rfl) (by simp) ?_
      refine (AllReadyIn.cons (o := { dst := some 11, op := Go.Op.load 44 (Go.Operand.tmp 3), type := 44, pos := "merkle.go:135", after := #[], guard := none }) rfl (fun K hK => ?_) (AllReadyIn.cons (o := { dst := some 13, op := Go.Op.call { callee := Go.Callee.value (Go.Operand.func 26), args := #[Go.Operand.tmp 12], argTypes := #[22] }, type := 24, pos := "merkle.go:135", after := #[{ on := 1, ground := Go.Ground.data }], guard := none }) rfl (fun K hK => ?_) AllReadyIn.nil))
      · go_simp
        refine hK _ _ ?_
        clear hK K
        try simp only [Act.put, List.setIfInBounds_toArray, List.set_cons_zero, List.set_cons_succ]
        refine wpAnyIn_ready (rs := [2]) (by kernel_rfl) (by simp) ?_
        refine (AllReadyIn.cons (o := { dst := some 13, op := Go.Op.call { callee := Go.Callee.value (Go.Operand.func 26), args := #[Go.Operand.tmp 12], argTypes := #[22] }, type := 24, pos := "merkle.go:135", after := #[{ on := 1, ground := Go.Ground.data }], guard := none }) rfl (fun K hK => ?_) AllReadyIn.nil)
        · go_simp
          refine ⟨trivial, ?_⟩
          refine (CallsIn.inRound l (callsIn_wide.2 C26.out)).mono ?_
          rintro e w5 ⟨rfl, b5⟩
          refine hK _ _ ?_
          clear hK K
          try simp only [Act.put, List.setIfInBounds_toArray, List.set_cons_zero, List.set_cons_succ]
          refine wpAnyIn_ready (rs := [3]) (by kernel_rfl) (by simp) ?_
          refine (AllReadyIn.cons (o := { dst := some 14, op := Go.Op.buildSlice 44 1 #[(0, Go.Operand.tmp 13)], type := 44, pos := "merkle.go:135", after := #[{ on := 2, ground := Go.Ground.data }], guard := none }) rfl (fun K hK => ?_) AllReadyIn.nil)
          · refine step_build_in rfl _ rfl H hHl (by rfl) ?_
            refine hK _ _ ?_
            clear hK K
            try simp only [Act.put, List.setIfInBounds_toArray, List.set_cons_zero, List.set_cons_succ]
            refine wpAnyIn_ready (rs := [4]) (by kernel_rfl) (by simp) ?_
            refine (AllReadyIn.cons (o := { dst := some 15, op := Go.Op.call { callee := Go.Callee.builtin Go.Builtin.append, args := #[Go.Operand.tmp 11, Go.Operand.tmp 14], argTypes := #[44, 44] }, type := 44, pos := "merkle.go:135", after := #[{ on := 0, ground := Go.Ground.data }, { on := 3, ground := Go.Ground.data }, { on := 2, ground := Go.Ground.chain }], guard := none }) rfl (fun K hK => ?_) AllReadyIn.nil)
            · refine step_append_in rfl _ _ rfl w.heap.size v ls (by rfl) (HRW.out _ b5) H hHl (by rfl) hkk (by have := b5.size; omega) ?_
              intro v' w6 o6 g6 d6
              obtain ⟨r1, r2, r3, r4, r5, r6⟩ := HST.out w5 w6 v' b5 o6 g6 d6
              obtain ⟨g', cap', hv'⟩ := ownsRow_succ (show w6.ownsRow w.heap.size 24 32 v' (ls.length + 1) _ by have := o6; unfold HashRow at this; rw [List.length_append] at this; exact this)
              subst hv'
              refine hK _ _ ?_
              clear hK K o6 g6 d6
              try simp only [Act.put, List.setIfInBounds_toArray, List.set_cons_zero, List.set_cons_succ]
              refine wpAnyIn_ready (rs := [5]) (by kernel_rfl) (by simp) ?_
              refine (AllReadyIn.cons (o := { dst := none, op := Go.Op.store 44 (Go.Operand.tmp 3) (Go.Operand.tmp 15), type := 0, pos := "merkle.go:135", after := #[{ on := 4, ground := Go.Ground.data }, { on := 4, ground := Go.Ground.chain }, { on := 0, ground := Go.Ground.phase }, { on := 1, ground := Go.Ground.phase }, { on := 2, ground := Go.Ground.phase }, { on := 3, ground := Go.Ground.phase }, { on := 4, ground := Go.Ground.phase }], guard := none }) rfl (fun K hK => ?_) AllReadyIn.nil)
              · go_simp
                refine hK _ _ ?_
                clear hK K
                try simp only [Act.put, List.setIfInBounds_toArray, List.set_cons_zero, List.set_cons_succ]
                refine wpAnyIn_done (by kernel_rfl) ?_ _
                exact HF.out w6 _ ⟨r1, r2, r3, r4⟩
      · go_simp
        refine ⟨trivial, ?_⟩
        refine (CallsIn.inRound l (callsIn_wide.2 C26.out)).mono ?_
        rintro e w5 ⟨rfl, b5⟩
        refine hK _ _ ?_
        clear hK K
        try simp only [Act.put, List.setIfInBounds_toArray, List.set_cons_zero, List.set_cons_succ]
        refine wpAnyIn_ready (rs := [0, 3]) (by kernel_rfl) (by simp) ?_
        refine (AllReadyIn.cons (o := { dst := some 11, op := Go.Op.load 44 (Go.Operand.tmp 3), type := 44, pos := "merkle.go:135", after := #[], guard := none }) rfl (fun K hK => ?_) (AllReadyIn.cons (o := { dst := some 14, op := Go.Op.buildSlice 44 1 #[(0, Go.Operand.tmp 13)], type := 44, pos := "merkle.go:135", after := #[{ on := 2, ground := Go.Ground.data }], guard := none }) rfl (fun K hK => ?_) AllReadyIn.nil))
        · have hcl := HV.out _ b5
          go_simp
          refine hK _ _ ?_
          clear hK K
          try simp only [Act.put, List.setIfInBounds_toArray, List.set_cons_zero, List.set_cons_succ]
          refine wpAnyIn_ready (rs := [3]) (by kernel_rfl) (by simp) ?_
          refine (AllReadyIn.cons (o := { dst := some 14, op := Go.Op.buildSlice 44 1 #[(0, Go.Operand.tmp 13)], type := 44, pos := "merkle.go:135", after := #[{ on := 2, ground := Go.Ground.data }], guard := none }) rfl (fun K hK => ?_) AllReadyIn.nil)
          · refine step_build_in rfl _ rfl H hHl (by rfl) ?_
            refine hK _ _ ?_
            clear hK K
            try simp only [Act.put, List.setIfInBounds_toArray, List.set_cons_zero, List.set_cons_succ]
            refine wpAnyIn_ready (rs := [4]) (by kernel_rfl) (by simp) ?_
            refine (AllReadyIn.cons (o := { dst := some 15, op := Go.Op.call { callee := Go.Callee.builtin Go.Builtin.append, args := #[Go.Operand.tmp 11, Go.Operand.tmp 14], argTypes := #[44, 44] }, type := 44, pos := "merkle.go:135", after := #[{ on := 0, ground := Go.Ground.data }, { on := 3, ground := Go.Ground.data }, { on := 2, ground := Go.Ground.chain }], guard := none }) rfl (fun K hK => ?_) AllReadyIn.nil)
            · refine step_append_in rfl _ _ rfl w.heap.size v ls (by rfl) (HRW.out _ b5) H hHl (by rfl) hkk (by have := b5.size; omega) ?_
              intro v' w6 o6 g6 d6
              obtain ⟨r1, r2, r3, r4, r5, r6⟩ := HST.out w5 w6 v' b5 o6 g6 d6
              obtain ⟨g', cap', hv'⟩ := ownsRow_succ (show w6.ownsRow w.heap.size 24 32 v' (ls.length + 1) _ by have := o6; unfold HashRow at this; rw [List.length_append] at this; exact this)
              subst hv'
              refine hK _ _ ?_
              clear hK K o6 g6 d6
              try simp only [Act.put, List.setIfInBounds_toArray, List.set_cons_zero, List.set_cons_succ]
              refine wpAnyIn_ready (rs := [5]) (by kernel_rfl) (by simp) ?_
              refine (AllReadyIn.cons (o := { dst := none, op := Go.Op.store 44 (Go.Operand.tmp 3) (Go.Operand.tmp 15), type := 0, pos := "merkle.go:135", after := #[{ on := 4, ground := Go.Ground.data }, { on := 4, ground := Go.Ground.chain }, { on := 0, ground := Go.Ground.phase }, { on := 1, ground := Go.Ground.phase }, { on := 2, ground := Go.Ground.phase }, { on := 3, ground := Go.Ground.phase }, { on := 4, ground := Go.Ground.phase }], guard := none }) rfl (fun K hK => ?_) AllReadyIn.nil)
              · go_simp
                refine hK _ _ ?_
                clear hK K
                try simp only [Act.put, List.setIfInBounds_toArray, List.set_cons_zero, List.set_cons_succ]
                refine wpAnyIn_done (by kernel_rfl) ?_ _
                exact HF.out w6 _ ⟨r1, r2, r3, r4⟩
        · refine step_build_in rfl _ rfl H hHl (by rfl) ?_
          refine hK _ _ ?_
          clear hK K
          try simp only [Act.put, List.setIfInBounds_toArray, List.set_cons_zero, List.set_cons_succ]
          refine wpAnyIn_ready (rs := [0]) (by kernel_rfl) (by simp) ?_
          refine (AllReadyIn.cons (o := { dst := some 11, op := Go.Op.load 44 (Go.Operand.tmp 3), type := 44, pos := "merkle.go:135", after := #[], guard := none }) rfl (fun K hK => ?_) AllReadyIn.nil)
          · have hcl : (w5.alloc (Obj.cells (vB H) 24)).cell? ⟨w.heap.size + 1, 0, none⟩ = some v := HV.out _ (b5.alloc b5.size _)
            go_simp
            refine hK _ _ ?_
            clear hK K
            try simp only [Act.put, List.setIfInBounds_toArray, List.set_cons_zero, List.set_cons_succ]
            refine wpAnyIn_ready (rs := [4]) (by kernel_rfl) (by simp) ?_
            refine (AllReadyIn.cons (o := { dst := some 15, op := Go.Op.call { callee := Go.Callee.builtin Go.Builtin.append, args := #[Go.Operand.tmp 11, Go.Operand.tmp 14], argTypes := #[44, 44] }, type := 44, pos := "merkle.go:135", after := #[{ on := 0, ground := Go.Ground.data }, { on := 3, ground := Go.Ground.data }, { on := 2, ground := Go.Ground.chain }], guard := none }) rfl (fun K hK => ?_) AllReadyIn.nil)
            · refine step_append_in rfl _ _ rfl w.heap.size v ls (by rfl) (HRW.out _ b5) H hHl (by rfl) hkk (by have := b5.size; omega) ?_
              intro v' w6 o6 g6 d6
              obtain ⟨r1, r2, r3, r4, r5, r6⟩ := HST.out w5 w6 v' b5 o6 g6 d6
              obtain ⟨g', cap', hv'⟩ := ownsRow_succ (show w6.ownsRow w.heap.size 24 32 v' (ls.length + 1) _ by have := o6; unfold HashRow at this; rw [List.length_append] at this; exact this)
              subst hv'
              refine hK _ _ ?_
              clear hK K o6 g6 d6
              try simp only [Act.put, List.setIfInBounds_toArray, List.set_cons_zero, List.set_cons_succ]
              refine wpAnyIn_ready (rs := [5]) (by kernel_rfl) (by simp) ?_
              refine (AllReadyIn.cons (o := { dst := none, op := Go.Op.store 44 (Go.Operand.tmp 3) (Go.Operand.tmp 15), type := 0, pos := "merkle.go:135", after := #[{ on := 4, ground := Go.Ground.data }, { on := 4, ground := Go.Ground.chain }, { on := 0, ground := Go.Ground.phase }, { on := 1, ground := Go.Ground.phase }, { on := 2, ground := Go.Ground.phase }, { on := 3, ground := Go.Ground.phase }, { on := 4, ground := Go.Ground.phase }], guard := none }) rfl (fun K hK => ?_) AllReadyIn.nil)
              · go_simp
                refine hK _ _ ?_
                clear hK K
                try simp only [Act.put, List.setIfInBounds_toArray, List.set_cons_zero, List.set_cons_succ]
                refine wpAnyIn_done (by kernel_rfl) ?_ _
                exact HF.out w6 _ ⟨r1, r2, r3, r4⟩
  case done =>
    rintro D ys W hD rfl ⟨⟨v, hv, hrow, hbk⟩, hB, hs4⟩ hK
    have hc := hv.cell
    gi_wp2
    refine ⟨by simp, .inl ⟨_, _, rfl, run_takeDeferred hK, ?_⟩⟩
    have hB' : Below w.heap.size w (W.putObj D (.deferred none)) := hB.trans (belowK_b (w := w) (Nat.le_refl _) W D _ _ (by omega) hK rfl rfl)
    have hrow' : HashRow w.heap.size _ v (W.putObj D (.deferred none)) := ownsRow_putObj hrow (.deferred none) hK rfl
    rw [leaves_map bs] at hrow'
    exact ⟨_, results_tmp rfl _ _ _, v, rfl, hrow'.list (by have := hB'.size; omega), hB'⟩
  case stop =>
    rintro D c pre W _ _ h _
    exact h.elim
end Go.Proofs.YtlcenbhcegmnoaaDoor
