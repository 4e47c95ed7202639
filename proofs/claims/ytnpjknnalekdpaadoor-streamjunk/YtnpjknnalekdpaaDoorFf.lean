import Derived.Test.YtnpjknnalekdpaaDoorFe
namespace Go.Proofs.YtnpjknnalekdpaaDoor
set_option linter.unusedSimpArgs false
set_option linter.unusedVariables false
open Go.RowKit
/-- The first six bytes; what isn't there is the least that may stand there. -/
def begOf (bs : List Int) : List Int := bs.take 6 ++ ([114, 100, 1, 1, 0, 0] : List Int).drop (bs.take 6).length
theorem begOf_length (bs : List Int) : (begOf bs).length = 6 := by unfold begOf; simp; omega
theorem begOf_bytes (bs : List Int) (h : Bytes bs) : Bytes (begOf bs) := fun x hx => by
  unfold begOf at hx
  rcases List.mem_append.1 hx with hx | hx
  · exact h x (List.mem_of_mem_take hx)
  · have := List.mem_of_mem_drop hx
    simp at this
    omega
def beginsB (bs : List Int) : Bool := decide (gi (begOf bs) 0 = 114 ∧ gi (begOf bs) 1 = 100 ∧ gi (begOf bs) 2 = 1 ∧ gi (begOf bs) 3 ≠ 0 ∧ gi (begOf bs) 4 * 256 + gi (begOf bs) 5 ≤ 1000)
theorem six (l : List Int) (h : l.length = 6) : l = [gi l 0, gi l 1, gi l 2, gi l 3, gi l 4, gi l 5] := by
  match l, h with
  | [a, b, c, d, e, f], _ => rfl
theorem copy6 (W : World) (B : Nat) (v : Value) (bs : List Int) (hp : PartAt W v bs) (hg : W.heap[B]? = some (.cells (vB [114, 100, 1, 1, 0, 0]) 111)) :
    ∃ n : Int, (Builtin.copy_ #[22, 22] 3 #[.slice (some ⟨B, 0, none⟩) 6 6, v]).run Tryd.prog W = .ok (.int .i64 n) (W.setRow B (vB (begOf bs))) := by
  obtain ⟨av, b, o, cp, rfl, q1, q2, q3, q4, q5, q6⟩ := hp
  rcases Nat.eq_zero_or_pos bs.length with h0 | h0
  · have hb : bs = [] := List.eq_nil_of_length_eq_zero h0
    subst hb
    refine ⟨0, ?_⟩
    have e0 : vB (begOf []) = vB [114, 100, 1, 1, 0, 0] := rfl
    rw [e0, setRow_self W B _ 111 (0, 0) hg]
    cases av with
    | none => obtain rfl := q6 rfl; exact run_copy_nil Tryd.prog W 22 22 3 5 ⟨B, 0, none⟩ 6 6 Tryd.underlying22 (by rw [size5d]; rfl)
    | some a =>
      have := run_copy_row Tryd.prog W 22 22 3 5 B 0 6 6 a 0 cp (vB [114, 100, 1, 1, 0, 0]) 111 [] Tryd.underlying22 size5d hg rfl (fun j u hu => by simp at hu) (by simp) (fun u hu => by simp at hu)
      rw [List.length_nil] at this ⊢
      rw [this]
      have e : (List.take 0 (vB [114, 100, 1, 1, 0, 0]).toList ++ [] ++ List.drop (0 + 0) (vB [114, 100, 1, 1, 0, 0]).toList).toArray = vB [114, 100, 1, 1, 0, 0] := by simp
      rw [e, setRow_self W B _ 111 (0, 0) hg]
      rfl
  · obtain rfl := q3 h0
    have hl : (vB (bs.take 6)).toList.length = (bs.take 6).length := by rw [Array.length_toList, vB_size]
    refine ⟨((bs.take 6).length : Nat), ?_⟩
    rw [run_copy_row Tryd.prog W 22 22 3 5 B 0 6 6 ⟨b, o, none⟩ bs.length cp (vB [114, 100, 1, 1, 0, 0]) 111 (vB (bs.take 6)).toList Tryd.underlying22 size5d hg (by rw [hl, List.length_take]; exact Nat.min_comm _ _)
      (fun j u hu => by
        rw [Addr.add_mid]
        exact q4 j u (by rw [Array.getElem?_toList] at hu ⊢; simp [vB, List.getElem?_take] at hu ⊢; exact hu.2))
      (by rw [hl, vB_size]; simp; omega) (fun u hu => by unfold vB at hu; rw [List.toList_toArray] at hu; obtain ⟨y, _, rfl⟩ := List.mem_map.1 hu; rfl)]
    rw [hl, List.take_zero, List.nil_append]
    have e : ((vB (bs.take 6)).toList ++ List.drop (0 + (bs.take 6).length) (vB [114, 100, 1, 1, 0, 0]).toList).toArray = vB (begOf bs) := by
      unfold begOf
      simp [vB, List.map_drop]
    rw [e]
    rfl
theorem str_neF (a b : List Int) (ha : Bytes a) (hb : Bytes b) (h : a ≠ b) : ((strOfNums a).toList == (strOfNums b).toList) = false := by
  rw [beq_eq_false_iff_ne]
  intro e
  apply h
  rw [Lib.strOfNums_toList, Lib.strOfNums_toList] at e
  unfold Lib.bytesOf at e
  have hl : a.length = b.length := by have := congrArg List.length e; simpa using this
  apply List.ext_getElem hl
  intro i h1 h2
  have e2 := congrArg (fun l => l[i]?) e
  simp [h1, h2] at e2
  have x1 := ha a[i] (List.getElem_mem h1)
  have x2 := hb b[i] (List.getElem_mem h2)
  have e3 := congrArg UInt8.toNat e2
  rw [UInt8.toNat_ofNat', UInt8.toNat_ofNat'] at e3
  omega
section
variable {ops : Array Oper} {rest : List Oper} {o : Oper} {a : Act} {w : World} {Q : Exit → Act → World → Prop}
end
set_option maxHeartbeats 1000000 in
set_option maxRecDepth 100000 in
theorem begins_any (v : Value) (bs : List Int) (w : World) (hp : PartAt w v bs) (hb : Bytes bs) : Calls Tryd.prog 35 #[v] w fun e w' => e = .returned (.bool (beginsB bs)) ∧ Below w.heap.size w w' := by
  have hx := six (begOf bs) (begOf_length bs)
  have hby := begOf_bytes bs hb
  have EB : Hid (beginsB bs = decide (gi (begOf bs) 0 = 114 ∧ gi (begOf bs) 1 = 100 ∧ gi (begOf bs) 2 = 1 ∧ gi (begOf bs) 3 ≠ 0 ∧ gi (begOf bs) 4 * 256 + gi (begOf bs) 5 ≤ 1000)) := rfl
  have hcp0 := copy6 (w.alloc (Obj.cells (vB [114, 100, 1, 1, 0, 0]) 111)).drew w.heap.size v bs (hp.below ((Below.refl _ _).alloc (Nat.le_refl _) _).drew) (heap_alloc_new w _)
  rw [hx] at hby hcp0
  generalize gi (begOf bs) 0 = x0 at *
  generalize gi (begOf bs) 1 = x1 at *
  generalize gi (begOf bs) 2 = x2 at *
  generalize gi (begOf bs) 3 = x3 at *
  generalize gi (begOf bs) 4 = x4 at *
  generalize gi (begOf bs) 5 = x5 at *
  obtain ⟨nn, hcp⟩ := hcp0
  obtain ⟨W2, hW2⟩ : ∃ W, W = (w.alloc (Obj.cells (vB [114, 100, 1, 1, 0, 0]) 111)).drew := ⟨_, rfl⟩
  have b2 : Below w.heap.size w W2 := by rw [hW2]; exact ((Below.refl _ _).alloc (Nat.le_refl _) _).drew
  have k2 : W2.heap[w.heap.size]? = some (.cells (vB [114, 100, 1, 1, 0, 0]) 111) := by rw [hW2]; exact heap_alloc_new w _
  rw [← hW2] at hcp
  have b3 : Below w.heap.size w (W2.setRow w.heap.size (vB [x0, x1, x2, x3, x4, x5])) := below_setRow b2 (Nat.le_refl _) _
  have k3 : (W2.setRow w.heap.size (vB [x0, x1, x2, x3, x4, x5])).heap[w.heap.size]? = some (.cells (vB [x0, x1, x2, x3, x4, x5]) 111) := setRow_same k2
  have LB : Hid (Calls Tryd.prog 66 #[.slice (some ⟨w.heap.size, 3, none⟩) 3 3] (W2.setRow w.heap.size (vB [x0, x1, x2, x3, x4, x5])) fun e w' => e = .returned (.tuple #[.int .u8 x3, .int .i64 (x4 * 256 + x5)]) ∧ Below w.heap.size w w' ∧ (convert 22 9 (.slice (some ⟨w.heap.size, 0, none⟩) 3 6)).run Tryd.prog w' = .ok (.string (strOfNums [x0, x1, x2])) w') := by
    refine (label_any _ x3 x4 x5 _ ⟨some ⟨w.heap.size, 3, none⟩, w.heap.size, 3, 3, rfl, by simp, by omega, fun _ => rfl, fun j u hu => ?_, (Array.getElem?_eq_some_iff.1 k3).1, fun h => by cases h⟩ (fun y hy => hby y (by simp at hy ⊢; omega))).mono fun e w' ⟨r1, r2⟩ => ⟨r1, b3.trans (r2.mono b3.size), ?_⟩
    · have := range_of_block k3 (3 + j) u (by simpa [vB, Nat.add_comm] using hu)
      rw [Nat.zero_add] at this
      exact this
    · refine run_conv (bs := [x0, x1, x2]) ⟨some ⟨w.heap.size, 0, none⟩, w.heap.size, 0, 6, rfl, by simp, by omega, fun _ => rfl, fun j u hu => ?_, Nat.lt_of_lt_of_le (Array.getElem?_eq_some_iff.1 k3).1 r2.size, fun h => by cases h⟩
      have hj : j < 3 := by have := (List.getElem?_eq_some_iff.1 hu).1; simpa [vB] using this
      rw [r2.cell (show w.heap.size < _ from (Array.getElem?_eq_some_iff.1 k3).1)]
      refine range_of_block k3 j u ?_
      have : (vB [x0, x1, x2, x3, x4, x5]).toList = (vB [x0, x1, x2]).toList ++ (vB [x3, x4, x5]).toList := rfl
      rw [this, List.getElem?_append_left (by simpa [vB] using hj)]; exact hu
  have hm0 := hby x0 (by simp)
  have hm1 := hby x1 (by simp)
  have hm2 := hby x2 (by simp)
  have HB3 : Hid (Bytes [x0, x1, x2]) := fun y hy => hby y (by simp at hy ⊢; omega)
  obtain ⟨M, hM⟩ : ∃ M : Nat, x4 * 256 + x5 = (M : Int) := ⟨(x4 * 256 + x5).toNat, by have := hby x4 (by simp); have := hby x5 (by simp); omega⟩
  rw [hM] at LB EB
  have HW2 : Hid (W2 = (w.alloc (Obj.cells (vB [114, 100, 1, 1, 0, 0]) 111)).drew) := hW2
  clear hby hx hM hp hb b3 k3 hW2 k2 b2
  go_enter Tryd.func35, Tryd.ntmps35
  go_wp2_with fail
  go_region
  refine (?_ : Exit.then _ _ Exit.normal _ ((w.alloc (Obj.cells (vB [114, 100, 1, 1, 0, 0]) 111)).drew))
  rw [← HW2.out]
  go_wp2_with fail
  generalize W2.setRow w.heap.size (vB [x0, x1, x2, x3, x4, x5]) = W3 at *
  refine LB.out.mono ?_
  rintro e w4 ⟨rfl, b4, hcv⟩
  clear LB hcp
  by_cases hmk : [x0, x1, x2] = ([114, 100, 1] : List Int)
  · have e0 : x0 = 114 := by injection hmk
    have e1 : x1 = 100 := by injection hmk with _ h; injection h
    have e2 : x2 = 1 := by injection hmk with _ h; injection h with _ h; injection h
    subst e0 e1 e2
    rw [show strOfNums [114, 100, 1] = ⟨#[114, 100, 1]⟩ from rfl] at hcv
    by_cases h3 : x3 = 0
    · subst h3
      go_wp2
      go_ret
      exact ⟨by rw [EB.out]; simp, b4⟩
    · have h3' : (x3 != 0) = true := by simpa using h3
      go_wp2
      go_ret
      exact ⟨by rw [EB.out]; simp [h3], b4⟩
  · have hne : ((strOfNums [x0, x1, x2]).toList == (⟨#[114, 100, 1]⟩ : ByteArray).toList) = false := str_neF [x0, x1, x2] [114, 100, 1] HB3.out (fun y hy => by simp at hy; omega) hmk
    have hd : decide (x0 = 114 ∧ x1 = 100 ∧ x2 = 1 ∧ x3 ≠ 0 ∧ (M : Int) ≤ 1000) = false := decide_eq_false (fun h => hmk (by rw [h.1, h.2.1, h.2.2.1]))
    have HD : Hid (beginsB bs = false) := by unfold Hid; rw [EB.out]; exact hd
    have hne1 : ((strOfNums [x0, x1, x2]).toList == ([114, 100, 1] : List UInt8)) = false := by
      have e : (⟨#[114, 100, 1]⟩ : ByteArray).toList = [114, 100, 1] := by decide +kernel
      rw [e] at hne; exact hne
    have hne2 : ¬ (strOfNums [x0, x1, x2]).toList = ([114, 100, 1] : List UInt8) := beq_eq_false_iff_ne.1 hne1
    generalize strOfNums [x0, x1, x2] = SS at *
    clear hd EB hne
    go_wp2
    go_ret
    exact ⟨by rw [HD.out]; rfl, b4⟩
end Go.Proofs.YtnpjknnalekdpaaDoor
