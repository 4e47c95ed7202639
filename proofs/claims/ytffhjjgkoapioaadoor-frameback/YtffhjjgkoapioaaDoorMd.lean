import Derived.Test.YtffhjjgkoapioaaDoorMc
namespace Go.Proofs.YtffhjjgkoapioaaDoor
set_option linter.unusedSimpArgs false
set_option linter.unusedVariables false
open Go.RowKit
attribute [local go_sem ↓] Go.wp_at_zero Go.wp_at_succ
/-- All of them are bytes. -/
def Bytes (l : List Int) : Prop := ∀ x ∈ l, 0 ≤ x ∧ x ≤ 255
set_option maxRecDepth 100000 in
theorem Bytes.cons {x : Int} {l : List Int} (h : 0 ≤ x ∧ x ≤ 255) (hl : Bytes l) : Bytes (x :: l) := fun y hy => by
  rcases List.mem_cons.1 hy with rfl | h'
  · exact h
  · exact hl y h'
set_option maxRecDepth 100000 in
theorem Bytes.append {a b : List Int} (ha : Bytes a) (hb : Bytes b) : Bytes (a ++ b) := fun y hy => by
  rcases List.mem_append.1 hy with h | h
  · exact ha y h
  · exact hb y h
set_option maxRecDepth 100000 in
theorem Bytes.set {l : List Int} (h : Bytes l) (i : Nat) {x : Int} (hx : 0 ≤ x ∧ x ≤ 255) : Bytes (l.set i x) := fun y hy => by
  rcases List.mem_or_eq_of_mem_set hy with h' | h'
  · exact h y h'
  · subst h'; exact hx
set_option maxRecDepth 100000 in
theorem outTo_bytes (ws : List Int) (k : Nat) : Bytes (outTo ws k) := by
  induction k with
  | zero => intro x hx; simp [outTo, zs] at hx; omega
  | succ k ih => exact Bytes.set (Bytes.set (Bytes.set (Bytes.set ih _ (by omega)) _ (by omega)) _ (by omega)) _ (by omega)
set_option maxRecDepth 100000 in
theorem hashOf_bytes (l : List Int) : Bytes (hashOf l) := by unfold hashOf outB; exact outTo_bytes _ 8
set_option maxRecDepth 100000 in
set_option maxHeartbeats 1000000 in
theorem rleaf_any (v : Value) (bs : List Int) (w : World) (h0 : 0 < w.heap.size) (hp : PartAt w v bs) (hn : bs.length ≤ 140737488000000) (hby : Bytes bs) :
    Calls Tryd.prog 31 #[v] w fun e w' => e = .returned (.agg (vB (leafH bs))) ∧ Below w.heap.size w w' := by
  obtain ⟨HB, hHB⟩ : ∃ HB, HB = leafH bs := ⟨_, rfl⟩
  have hlen : HB.length = 32 := by rw [hHB]; exact leafH_length _
  have C : Hid (∀ w', 0 < w'.heap.size → PartAt w' v bs → Calls Tryd.prog 19 #[.slice (some ⟨(w'.alloc (Obj.cells #[.int .u8 0] 5)).heap.size, 0, none⟩) 2 2] ((w'.alloc (Obj.cells #[.int .u8 0] 5)).alloc (Obj.cells #[.slice (some ⟨w'.heap.size, 0, none⟩) 1 1, v] 22)) fun e w'' => ∃ v, e = .returned v ∧ PartAt w'' v (0 :: bs) ∧ Below w'.heap.size w' w'') := fun w' h1 h3 => by
    have hbw : Below w'.heap.size w' (w'.alloc (Obj.cells #[.int .u8 0] 5)) := (Below.refl _ _).alloc (Nat.le_refl _) _
    have hp0 : PartAt (w'.alloc (Obj.cells #[.int .u8 0] 5)) (.slice (some ⟨w'.heap.size, 0, none⟩) 1 1) [0] := part_new w' [0] (by simp)
    have hp1 := h3.alloc (Obj.cells #[.int .u8 0] 5)
    generalize w'.alloc (Obj.cells #[.int .u8 0] 5) = w1 at *
    refine (join_two (.slice (some ⟨w'.heap.size, 0, none⟩) 1 1) v [0] bs w1 (Nat.lt_of_lt_of_le h1 hbw.size) hp0 hp1 (by simp; omega)).mono ?_
    rintro e w5 ⟨x, rfl, hx, b5⟩
    exact ⟨x, rfl, by simpa using hx, hbw.trans (b5.mono hbw.size)⟩
  have C2 : Hid (∀ (w' : World) (x : Value), PartAt w' x (0 :: bs) → Calls Tryd.prog 18 #[x] w' fun e w'' => e = .returned (.agg (vB HB)) ∧ Below w'.heap.size w' w'') := fun w' x h3 => by
    rw [hHB]; exact rsum_any x (0 :: bs) w' h3 (by simp; omega) (Bytes.cons (by omega) hby)
  rw [← hHB]
  clear hHB
  have hp0 := hp
  obtain ⟨av, b, o, cp, hv, hrest⟩ := hp
  subst hv
  clear hrest
  go_enter Tryd.func31, Tryd.ntmps31
  go_wp2_with fail
  have b1 : Below w.heap.size w (w.alloc (Obj.cells (vB (zs 32)) 24)) := (Below.refl _ _).alloc (Nat.le_refl _) _
  have f1 : (w.alloc (Obj.cells (vB (zs 32)) 24)).heap[w.heap.size]? = some (.cells (vB (zs 32)) 24) := heap_alloc_new _ _
  have c1 := C.out (w.alloc (Obj.cells (vB (zs 32)) 24)) (by simp) (hp0.alloc _)
  simp only [World.size_alloc] at c1
  refine Calls.mono c1 ?_
  rintro e w5 ⟨x, rfl, p5, b5⟩
  have h50 : w5.heap[w.heap.size]? = some (.cells (vB (zs 32)) 24) := by rw [b5.block _ (by simp)]; exact f1
  have b05 : Below w.heap.size w w5 := b1.trans (b5.mono (by simp))
  have s5 : w.heap.size < w5.heap.size := (Array.getElem?_eq_some_iff.1 h50).1
  clear b5 f1 b1 c1
  go_wp2_with fail
  refine (C2.out _ _ p5).mono ?_
  rintro e w6 ⟨rfl, b6⟩
  have h60 : w6.heap[w.heap.size]? = some (.cells (vB (zs 32)) 24) := by rw [b6.block _ s5]; exact h50
  have b06 : Below w.heap.size w w6 := b05.trans (b6.mono b05.size)
  clear h50 b05 b6
  go_wp2_with (first | (refine store24 rfl _ _ rfl _ HB rfl rfl hlen 24 (zs 32) rfl h60 ?_))
  exact bodyPost_ret (v := .agg (vB HB)) (results_cell_row (p := 2) (ty := 24) Tryd.results31 _ _ w.heap.size 24 _ (0, 0) _ rfl (setRow_same h60) Tryd.underlying24 rfl (by rw [vB_size, hlen]; kernel_rfl)) rfl ⟨rfl, below_setRow b06 (Nat.le_refl _) _⟩
set_option maxRecDepth 100000 in
theorem rnode_call {w W : World} {a b : List Int} (ha : a.length = 32) (hb : b.length = 32) (hN : NodeIn w a b W) :
    Calls Tryd.prog 19 #[.slice (some ⟨W.heap.size + 1, 0, none⟩) 3 3] ((W.alloc (Obj.cells #[Value.int .u8 1] 5)).alloc (Obj.cells #[.slice (some ⟨W.heap.size, 0, none⟩) 1 1, .slice (some ⟨w.heap.size, 0, none⟩) 32 32, .slice (some ⟨w.heap.size + 1, 0, none⟩) 32 32] 22)).drew
      fun e w' => ∃ x, e = .returned x ∧ PartAt w' x (1 :: (a ++ b)) ∧ NodeIn w a b w' := by
  have hs := hN.2.1
  have hp0 : PartAt (W.alloc (Obj.cells #[Value.int .u8 1] 5)) (.slice (some ⟨W.heap.size, 0, none⟩) 1 1) [1] := part_new W [1] (by simp)
  have hp1 : PartAt W (.slice (some ⟨w.heap.size, 0, none⟩) 32 32) a := part_row hN.2.2.1 ha
  have hp2 : PartAt W (.slice (some ⟨w.heap.size + 1, 0, none⟩) 32 32) b := part_row hN.2.2.2.1 hb
  have e : (W.alloc (Obj.cells #[Value.int .u8 1] 5)).heap.size = W.heap.size + 1 := by simp
  rw [← e]
  generalize hW1 : W.alloc (Obj.cells #[Value.int .u8 1] 5) = W1 at *
  have hN1 : NodeIn w a b W1 := by rw [← hW1]; exact hN.alloc _
  have k1 : PartAt W1 (.slice (some ⟨w.heap.size, 0, none⟩) 32 32) a := by rw [← hW1]; exact hp1.alloc _
  have k2 : PartAt W1 (.slice (some ⟨w.heap.size + 1, 0, none⟩) 32 32) b := by rw [← hW1]; exact hp2.alloc _
  have hN2 := (hN1.alloc (Obj.cells #[.slice (some ⟨W.heap.size, 0, none⟩) 1 1, .slice (some ⟨w.heap.size, 0, none⟩) 32 32, .slice (some ⟨w.heap.size + 1, 0, none⟩) 32 32] 22)).drew
  have hz := hN2.2.1
  refine (join_any W1.heap.size 0 3 3 [_, _, _] [[1], a, b] rfl rfl _ (by omega) range_three (by simp) (three_parts (hp0.alloc _).drew (k1.alloc _).drew (k2.alloc _).drew) (by simp; omega) (by omega)).mono ?_
  rintro e w5 ⟨x, rfl, o5, b5⟩
  have hN5 := hN2.below b5
  exact ⟨x, rfl, by simpa using o5.partG (by have := hN5.2.1; omega), hN5⟩
set_option maxRecDepth 100000 in
set_option maxHeartbeats 1000000 in
theorem rnode_any (a b : List Int) (ha : a.length = 32) (hb : b.length = 32) (hba : Bytes a) (hbb : Bytes b) (w : World) :
    Calls Tryd.prog 35 #[.agg (vB a), .agg (vB b)] w fun e w' => e = .returned (.agg (vB (nodeH a b))) ∧ Below w.heap.size w w' := by
  have C : Hid (∀ W : World, NodeIn w a b W → Calls Tryd.prog 19 #[.slice (some ⟨W.heap.size + 1, 0, none⟩) 3 3] ((W.alloc (Obj.cells #[Value.int .u8 1] 5)).alloc (Obj.cells #[.slice (some ⟨W.heap.size, 0, none⟩) 1 1, .slice (some ⟨w.heap.size, 0, none⟩) 32 32, .slice (some ⟨w.heap.size + 1, 0, none⟩) 32 32] 22)).drew
      fun e w' => ∃ x, e = .returned x ∧ PartAt w' x (1 :: (a ++ b)) ∧ NodeIn w a b w') := fun W hN => rnode_call ha hb hN
  obtain ⟨HB, hHB⟩ : ∃ HB, HB = nodeH a b := ⟨_, rfl⟩
  have hlen : HB.length = 32 := by rw [hHB]; exact nodeH_length a b
  have C2 : Hid (∀ (w' : World) (x : Value), PartAt w' x (1 :: (a ++ b)) → NodeIn w a b w' → Calls Tryd.prog 18 #[x] w' fun e w'' => e = .returned (.agg (vB HB)) ∧ NodeIn w a b w'') := fun w' x h3 hN => by
    rw [hHB]; refine (rsum_any x (1 :: (a ++ b)) w' h3 (by simp; omega) (Bytes.cons (by omega) (hba.append hbb))).mono ?_
    rintro e w5 ⟨rfl, b5⟩
    exact ⟨rfl, hN.below b5⟩
  rw [← hHB]
  clear hHB hba hbb
  have hcl : (List.map (Value.int .u8) HB).length = 32 := by simpa using hlen
  have hi : (Tryd.prog.info? 24).map (·.size) = some (List.map (Value.int .u8) HB).length := by rw [hcl]; kernel_rfl
  have h1c : ∀ v ∈ List.map (Value.int .u8) HB, v.oneCell' = true := by intro v hv; simp at hv; obtain ⟨x, _, rfl⟩ := hv; rfl
  go_enter Tryd.func35, Tryd.ntmps35
  go_wp2_with fail
  obtain ⟨W, hW⟩ : ∃ W, (((w.alloc (Obj.cells (vB a) 24)).alloc (Obj.cells (vB b) 24)).alloc (Obj.cells (vB (zs 32)) 24)) = W := ⟨_, rfl⟩
  have hN : NodeIn w a b W := by
    rw [← hW]
    exact ⟨(((Below.refl _ _).alloc (Nat.le_refl _) _).alloc (by simp) _).alloc (by simp; omega) _, by simp, alloc3_at0 _ _ _ _, alloc3_at1 _ _ _ _, zs 32, rfl, alloc3_at2 _ _ _ _⟩
  change Code.wp _ _ _ _ (((w.alloc (Obj.cells (vB a) 24)).alloc (Obj.cells (vB b) 24)).alloc (Obj.cells (vB (zs 32)) 24))
  rw [hW]
  clear hW
  go_region_held3 (fun w' => NodeIn w a b w' ∧ w'.there (w.heap.size + 1 + 1) 0 32) (first | exact NodeIn.st (NodeIn.drew (by assumption)) | exact NodeIn.st (NodeIn.drew (And.left ‹_›)) | exact NodeIn.st (NodeIn.store (And.left ‹_›) HB hlen) | exact NodeIn.st (NodeIn.alloc (And.left ‹_›) _) | exact NodeIn.st (by assumption)) (first | (go_at_call 19; refine (C.out W hN).mono ?_; rintro e w4 ⟨x4, rfl, p4, n4⟩) | (go_at_call 18; refine (C2.out w4 x4 p4 n4).mono ?_; rintro e w5 ⟨rfl, n5⟩))
  obtain ⟨h51, _, _, _, c, hc, h55⟩ := n5
  have h6 : (w5.setCells (w.heap.size + 1 + 1) 0 (List.map (Value.int .u8) HB)).heap[w.heap.size + 1 + 1]? = some (.cells (vB HB) 24) := setCells_whole h55 (by omega)
  have b6 : Below w.heap.size w (w5.setCells (w.heap.size + 1 + 1) 0 (List.map (Value.int .u8) HB)) := below_setCells h51 (by omega) _
  clear h55
  generalize w5.setCells (w.heap.size + 1 + 1) 0 (List.map (Value.int .u8) HB) = w6 at *
  go_wp2
  exact bodyPost_ret (v := .agg (vB HB)) (results_cell_row (p := 4) (ty := 24) Tryd.results35 _ _ (w.heap.size + 1 + 1) 24 _ (0, 0) _ rfl h6 Tryd.underlying24 rfl (by rw [vB_size, hlen]; kernel_rfl)) rfl ⟨rfl, b6⟩
end Go.Proofs.YtffhjjgkoapioaaDoor
