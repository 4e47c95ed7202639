import Derived.Test.YtffhjjgkoapioaaDoorNb
namespace Go.Proofs.YtffhjjgkoapioaaDoor
set_option linter.unusedSimpArgs false
set_option linter.unusedVariables false
open Go.RowKit
set_option maxRecDepth 100000 in
theorem buildH_wp {ops : Array Oper} {rest : List Oper} {o : Oper} {a : Act} {w : World} {Q : Exit → Act → World → Prop} (hgd : o.guard = none) (x : Operand) (ho : o.op = .buildSlice 44 1 #[(0, x)]) (h : List Int) (hl : h.length = 32) (hx : a.eval x = .agg (vB h))
    (hK : wpList Tryd.prog ops Q rest (a.put o.dst (.slice (some ⟨w.heap.size, 0, none⟩) 1 1)) (w.alloc (.cells (vB h) 24))) : wpList Tryd.prog ops Q (o :: rest) a w := by
  refine wpList_plain hgd fun K hK' => ?_
  have hrun := buildH h hl w
  unfold Oper.wp execOp
  simp only [ho]
  rw [show (#[(0, x)].map fun (i, x) => (i, a.eval x)) = #[(0, .agg (vB h))] by simp [hx]]
  simp only [Sem.run_bind, hrun, Result.andThen_ok]
  exact hK' _ _ hK
/-- The leaves of a file's chunks. -/
def leavesL (bs : List Int) : List (List Int) := (chunksL bs).map leafH
set_option maxRecDepth 100000 in
theorem leavesL_hashes (bs : List Int) : Hashes (leavesL bs) := fun h hh => by
  obtain ⟨l, _, rfl⟩ := List.mem_map.1 hh
  exact ⟨leafH_length l, hashOf_bytes _⟩
set_option maxRecDepth 100000 in
theorem chunksL_bytes (bs : List Int) (h : Bytes bs) : ∀ l ∈ chunksL bs, Bytes l := fun l hl x hx => by
  obtain ⟨p, _, rfl⟩ := List.mem_map.1 hl
  exact h x (List.mem_of_mem_drop (List.mem_of_mem_take hx))
set_option maxRecDepth 100000 in
theorem take_map_succ (ls : List (List Int)) (k : Nat) (l : List Int) (h : ls[k]? = some l) : (ls.take (k + 1)).map leafH = (ls.take k).map leafH ++ [leafH l] := by
  rw [List.take_add_one, h]; simp
set_option maxRecDepth 100000 in
set_option maxHeartbeats 2000000 in
theorem rleaves_any (v : Value) (bs : List Int) (w : World) (h0 : 0 < w.heap.size) (hp : PartAt w v bs) (hn : bs.length ≤ 1000000000000) (hby : Bytes bs) :
    Calls Tryd.prog 64 #[v] w fun e w' => ∃ v', e = .returned v' ∧ ListAt w' v' (leavesL bs) ∧ Below w.heap.size w w' := by
  have hcb := chunksL_bytes bs hby
  have hcs := chunksL_small bs
  have hcl := chunksL_length bs
  have C : Hid (Calls Tryd.prog 29 #[v] w fun e w' => ∃ v', e = .returned v' ∧ PartsAt w' v' (chunksL bs) ∧ Below w.heap.size w w') := rchunks_any v bs w h0 hp hn
  have hnn : (chunksL bs).length ≤ 100000000000 := by omega
  unfold leavesL
  generalize chunksL bs = ls at *
  have HCB : Hid (∀ l ∈ ls, Bytes l) := hcb
  have HCS : Hid (∀ l ∈ ls, l.length ≤ 32) := hcs
  clear hcb hcs hcl hby
  obtain ⟨av0, _, _, cp0, rfl, _⟩ := hp
  go_enter Tryd.func64, Tryd.ntmps64
  go_wp2_with fail
  refine C.out.mono ?_
  rintro e w2 ⟨v4, rfl, ⟨av, b, o, cp, vs, rfl, hcp, hcp2, hav, hvl, hr, hb, hpp⟩, b2⟩
  have HR : Hid (w2.rangeAt b o vs) := hr
  have HPP : Hid (∀ (i : Nat) (x : Value) (l : List Int), vs[i]? = some x → ls[i]? = some l → PartAt w2 x l) := hpp
  have s2 := b2.size
  clear hr hpp C
  go_wp2_with fail
  go_loopw [3, 10] (fun u i wr => ∃ k : Nat, k ≤ ls.length ∧ i = .int .i64 k ∧ Below w2.heap.size w2 wr ∧ Hid (HashRow w2.heap.size ((ls.take k).map leafH) u wr)) (fun _ i _ => ls.length - (intOf i).toNat)
  case atStart => exact ⟨0, by omega, rfl, Below.refl _ _, HashRow.nil _ _⟩
  case round =>
    obtain ⟨k, hk, rfl, bl, HO⟩ := hrel
    have hbs := bl.size
    by_cases hlt : k < ls.length
    · obtain rfl := hav (by omega)
      obtain ⟨x, hx⟩ : ∃ x, vs[k]? = some x := ⟨vs[k], List.getElem?_eq_getElem (by omega)⟩
      obtain ⟨l, hlk⟩ : ∃ l, ls[k]? = some l := ⟨ls[k], List.getElem?_eq_getElem hlt⟩
      have hpk := (HPP.out k x l hx hlk).below bl
      have hmem := List.mem_of_getElem? hlk
      have hl32 := HCS.out l hmem
      have hlb := HCB.out l hmem
      have TS : Hid ((ls.take (k + 1)).map leafH = (ls.take k).map leafH ++ [leafH l]) := take_map_succ ls k l hlk
      have hc : wr.cell? ⟨b, o + k, none⟩ = some x := by rw [bl.cell (show b < w2.heap.size from hb)]; exact HR.out k x hx
      have C27 : Hid (Calls Tryd.prog 31 #[x] wr fun e w' => e = .returned (.agg (vB (leafH l))) ∧ Below wr.heap.size wr w') := rleaf_any x l wr (by omega) hpk (by omega) hlb
      obtain ⟨H, hH⟩ : ∃ H, H = leafH l := ⟨_, rfl⟩
      have hHl : H.length = 32 := by rw [hH]; exact leafH_length l
      rw [← hH] at TS C27
      obtain ⟨avx, _, _, cpx, hxv, _⟩ := hpk
      subst hxv
      have hkl : ((ls.take k).map leafH).length ≤ 1000000000000 := by simp; omega
      clear hH hlb hmem hx hlk
      go_wp2_with fail
      refine C27.out.mono ?_
      rintro e w5 ⟨rfl, b5⟩
      have bl5 : Below w2.heap.size w2 w5 := bl.trans (b5.mono hbs)
      have HO5 : Hid (HashRow w2.heap.size ((ls.take k).map leafH) u3 w5) := HO.out.below b5
      have hbs5 := bl5.size
      clear hc C27 HO b5
      go_wp2_with (first | (refine buildH_wp rfl _ rfl H hHl (by rfl) ?_) | (at_builtin; refine appendH rfl _ _ rfl w2.heap.size u3 ((ls.take k).map leafH) rfl HO5.out H hHl (by rfl) hkl hbs5 ?_; intro v2 w6 o2 g2))
      have q6 : Below w2.heap.size w2 w6 := (bl5.alloc hbs5 _).grown g2 (by simp; omega) (fun j hj => (own_lt HO5.out j hj).2)
      go_roundw
      case rel => exact ⟨k + 1, by omega, by go_num, q6, by unfold Hid; rw [TS.out]; exact o2⟩
      case measure => simp [intOf]; omega
    · have ek : (ls.take k).map leafH = ls.map leafH := by rw [List.take_of_length_le (by omega)]
      have HO' : Hid (HashRow w2.heap.size (ls.map leafH) u3 wr) := by rw [ek] at HO; exact HO
      clear HO ek
      go_wp2
      go_ret
      exact ⟨_, rfl, HO'.out.list (by omega), b2.trans (bl.mono s2)⟩
set_option maxRecDepth 100000 in
set_option maxHeartbeats 1000000 in
theorem rroot_any (v : Value) (bs : List Int) (w : World) (h0 : 0 < w.heap.size) (hp : PartAt w v bs) (hn : bs.length ≤ 1000000000000) (hby : Bytes bs) :
    Calls Tryd.prog 33 #[v] w fun e w' => e = .returned (.agg (vB (overH (leavesL bs)))) ∧ Below w.heap.size w w' := by
  have hcl : (leavesL bs).length ≤ 1000000000000 := by unfold leavesL; rw [List.length_map, chunksL_length]; omega
  have hHs := leavesL_hashes bs
  have C : Hid (∀ w', Below w.heap.size w w' → Calls Tryd.prog 64 #[v] w' fun e w'' => ∃ v', e = .returned v' ∧ ListAt w'' v' (leavesL bs) ∧ Below w'.heap.size w' w'') := fun w' k => rleaves_any v bs w' (by have := k.size; omega) (hp.below k) hn hby
  obtain ⟨HB, hHB⟩ : ∃ HB, HB = overH (leavesL bs) := ⟨_, rfl⟩
  have hlen : HB.length = 32 := by rw [hHB]; exact (overH_hash _ hHs).1
  have C2 : Hid (∀ w' x, 0 < w'.heap.size → ListAt w' x (leavesL bs) → Calls Tryd.prog 37 #[x] w' fun e w'' => e = .returned (.agg (vB HB)) ∧ Below w'.heap.size w' w'') := fun w' x q hx => by
    rw [hHB]; exact rover_any _ x (leavesL bs) w' (Nat.le_refl _) (by omega) hHs q hx
  rw [← hHB]
  clear hHB hby hHs
  generalize leavesL bs = ls at *
  obtain ⟨av, _, _, cp, rfl, _⟩ := hp
  go_enter Tryd.func33, Tryd.ntmps33
  go_wp2_with fail
  have hN := OneIn.new w
  refine (C.out _ hN.1).mono ?_
  rintro e w2 ⟨x, rfl, px, b2⟩
  have n2 := hN.below b2
  have s2 := n2.lt
  clear hN b2
  go_wp2_with fail
  refine (C2.out _ x (by omega) px).mono ?_
  rintro e w3 ⟨rfl, b3⟩
  obtain ⟨b03, c, hc, h50⟩ := n2.below b3
  clear b3 n2
  go_wp2_with (first | (refine store24 rfl _ _ rfl _ HB rfl rfl hlen 24 c hc h50 ?_))
  exact bodyPost_ret (v := .agg (vB HB)) (results_cell_row (p := 2) (ty := 24) Tryd.results33 _ _ w.heap.size 24 _ (0, 0) _ rfl (setRow_same h50) Tryd.underlying24 rfl (by rw [vB_size, hlen]; kernel_rfl)) rfl ⟨rfl, below_setRow b03 (Nat.le_refl _) _⟩
end Go.Proofs.YtffhjjgkoapioaaDoor
