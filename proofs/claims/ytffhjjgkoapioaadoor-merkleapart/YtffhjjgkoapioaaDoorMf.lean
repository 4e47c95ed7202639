import Derived.Test.YtffhjjgkoapioaaDoorSpeh
namespace Go.Proofs.YtffhjjgkoapioaaDoor
set_option linter.unusedSimpArgs false
set_option linter.unusedVariables false
open Go.RowKit
attribute [local go_sem ↓] Go.wp_at_zero Go.wp_at_succ
set_option maxRecDepth 100000 in
set_option maxHeartbeats 1000000 in
theorem rover_zero (av : Option Addr) (cp : Nat) (w : World) (hL : 0 < w.heap.size) (hcp : cp ≤ 9223372036854775807) :
    Calls Tryd.prog 37 #[.slice av 0 cp] w fun e w' => e = .returned (.agg (vB (hashOf [2]))) ∧ Below w.heap.size w w' := by
  obtain ⟨HB, hHB⟩ : ∃ HB, HB = hashOf [2] := ⟨_, rfl⟩
  have hlen : HB.length = 32 := by rw [hHB]; exact hashOf_length _
  have C : Hid (∀ w' : World, 0 < w'.heap.size → Calls Tryd.prog 18 #[.slice (some ⟨w'.heap.size, 0, none⟩) 1 1] (w'.alloc (Obj.cells #[.int .u8 2] 5)) fun e w'' => e = .returned (.agg (vB HB)) ∧ Below w'.heap.size w' w'') := fun w' h1 => by
    have hbw : Below w'.heap.size w' (w'.alloc (Obj.cells #[.int .u8 2] 5)) := (Below.refl _ _).alloc (Nat.le_refl _) _
    have hp0 : PartAt (w'.alloc (Obj.cells #[.int .u8 2] 5)) (.slice (some ⟨w'.heap.size, 0, none⟩) 1 1) [2] := part_new w' [2] (by simp)
    rw [hHB]
    refine (rsum_any _ [2] _ hp0 (by simp) (by simp)).mono ?_
    rintro e w5 ⟨rfl, b5⟩
    exact ⟨rfl, hbw.trans (b5.mono hbw.size)⟩
  rw [← hHB]
  clear hHB
  go_enter Tryd.func37, Tryd.ntmps37
  go_wp2_with fail
  have hN := OneIn.new w
  have f1 : (w.alloc (Obj.cells (vB (zs 32)) 24)).heap[w.heap.size]? = some (.cells (vB (zs 32)) 24) := heap_alloc_new _ _
  have c1 := C.out (w.alloc (Obj.cells (vB (zs 32)) 24)) (by simp)
  simp only [World.size_alloc] at c1
  refine Calls.mono c1 ?_
  rintro e w5 ⟨rfl, b5⟩
  have h50 : w5.heap[w.heap.size]? = some (.cells (vB (zs 32)) 24) := by rw [b5.block _ (by simp)]; exact f1
  have b05 : Below w.heap.size w w5 := (hN.below (by simpa using b5)).1
  clear b5 f1 hN c1
  go_wp2_with (first | (refine store24 rfl _ _ rfl _ HB rfl rfl hlen 24 (zs 32) rfl h50 ?_))
  exact bodyPost_ret (v := .agg (vB HB)) (results_cell_row (p := 2) (ty := 24) Tryd.results37 _ _ w.heap.size 24 _ (0, 0) _ rfl (setRow_same h50) Tryd.underlying24 rfl (by rw [vB_size, hlen]; kernel_rfl)) rfl ⟨rfl, below_setRow b05 (Nat.le_refl _) _⟩
set_option maxRecDepth 100000 in
set_option maxHeartbeats 1000000 in
theorem rover_one (b o cp : Nat) (x : List Int) (w : World) (hx : x.length = 32) (hr : w.rangeAt b o (vB x).toList) (hcp : cp ≤ 9223372036854775807) :
    Calls Tryd.prog 37 #[.slice (some ⟨b, o, none⟩) 1 cp] w fun e w' => e = .returned (.agg (vB x)) ∧ Below w.heap.size w w' := by
  have hb : b < w.heap.size := by
    have h0 := hr 0 (.int .u8 (gi x 0)) (by have := vB_at x 0 (by omega); simpa using this)
    exact block_lt_of_cell h0
  have hN := OneIn.new w
  have hr1 : (w.alloc (Obj.cells (vB (zs 32)) 24)).rangeAt b o (vB x).toList := range_below hr hN.1 hb
  have h50 : (w.alloc (Obj.cells (vB (zs 32)) 24)).heap[w.heap.size]? = some (.cells (vB (zs 32)) 24) := heap_alloc_new _ _
  have HR : Hid ((w.alloc (Obj.cells (vB (zs 32)) 24)).rangeAt b o (vB x).toList) := hr1
  have H5 : Hid ((w.alloc (Obj.cells (vB (zs 32)) 24)).heap[w.heap.size]? = some (.cells (vB (zs 32)) 24)) := h50
  clear hr1 h50 hr
  go_enter Tryd.func37, Tryd.ntmps37
  go_wp2_with (first | (refine wpList_load_mid rfl 24 _ rfl b o rfl (vB x).toList _ HR.out Tryd.underlying24 rfl (by rw [Array.length_toList, vB_size, hx]; kernel_rfl) ?_) | (refine store24 rfl _ _ rfl _ x rfl rfl hx 24 (zs 32) rfl H5.out ?_))
  exact bodyPost_ret (v := .agg (vB x)) (results_cell_row (p := 2) (ty := 24) Tryd.results37 _ _ w.heap.size 24 _ (0, 0) _ rfl (setRow_same H5.out) Tryd.underlying24 rfl (by rw [vB_size, hx]; kernel_rfl)) rfl ⟨rfl, below_setRow hN.1 (Nat.le_refl _) _⟩

set_option maxRecDepth 100000 in
set_option maxHeartbeats 2000000 in
theorem rover_any (m : Nat) : ∀ (v : Value) (hs : List (List Int)) (w : World), hs.length ≤ m → hs.length ≤ 1000000000000 → Hashes hs → 0 < w.heap.size → ListAt w v hs →
    Calls Tryd.prog 37 #[v] w fun e w' => e = .returned (.agg (vB (overH hs))) ∧ Below w.heap.size w w' := by
  induction m with
  | zero =>
    intro v hs w hm hmax hH hL hp
    have hp0 := hp
    obtain ⟨av, b, o, cp, rfl, hcp, hcp2, hav, hr, hb, _⟩ := hp
    have hn0 : hs.length = 0 := by omega
    have hov := overH_nil hs hn0
    rw [hn0, hov]
    exact rover_zero av cp w hL (by omega)
  | succ m ih =>
    intro v hs w hm hmax hH hL hp
    have hp0 := hp
    obtain ⟨av, b, o, cp, rfl, hcp, hcp2, hav, hr, hb, _⟩ := hp
    by_cases hn0 : hs.length = 0
    · have hov := overH_nil hs hn0
      rw [hn0, hov]
      exact rover_zero av cp w hL (by omega)
    · obtain rfl := hav (by omega)
      by_cases hn1 : hs.length = 1
      · have hov := overH_one hs hn1
        rw [hn1, hov]
        cases hs with
        | nil => simp at hn1
        | cons x l =>
          have hl : l = [] := by simpa using hn1
          subst hl
          have hx := hH x (by simp)
          exact rover_one b o cp x w hx.1 (by simpa using hr) (by omega)
      · have h2n : 2 ≤ hs.length := by omega
        have hov := overH_more hs h2n
        have hk1 := halfN_pos hs.length
        have hk2 := halfN_lt hs.length h2n
        have C0 : Hid (∀ w' : World, Calls Tryd.prog 66 #[.int .i64 hs.length] w' fun e w'' => e = .returned (.int .i64 (halfN hs.length)) ∧ w'' = w') := fun w' => half_any hs.length h2n (by omega) w'
        obtain ⟨L, hLq⟩ : ∃ L, L = overH (hs.take (halfN hs.length)) := ⟨_, rfl⟩
        obtain ⟨R, hRq⟩ : ∃ R, R = overH (hs.drop (halfN hs.length)) := ⟨_, rfl⟩
        have hLh : L.length = 32 ∧ Bytes L := by rw [hLq]; exact overH_hash _ (hH.take _)
        have hRh : R.length = 32 ∧ Bytes R := by rw [hRq]; exact overH_hash _ (hH.drop _)
        rw [hov, ← hLq, ← hRq]
        have C1 : Hid (∀ w', OneIn w w' → Calls Tryd.prog 37 #[.slice (some ⟨b, o, none⟩) (halfN hs.length) cp] w' fun e w'' => e = .returned (.agg (vB L)) ∧ OneIn w w'') := fun w' h1 => by
          have hp1 := ListAt.take rfl (range_below hr h1.1 hb) hH (Nat.lt_of_lt_of_le hb h1.1.size) hcp2 hcp (halfN hs.length) (by omega)
          refine (ih _ (hs.take (halfN hs.length)) w' (by simp; omega) (by simp; omega) (hH.take _) (Nat.lt_of_lt_of_le hL h1.1.size) hp1).mono ?_
          rintro e w5 ⟨rfl, b5⟩
          exact ⟨by rw [hLq], h1.below b5⟩
        have C2 : Hid (∀ w', OneIn w w' → Calls Tryd.prog 37 #[.slice (some ⟨b, o + halfN hs.length * 32, none⟩) (hs.length - halfN hs.length) (cp - halfN hs.length)] w' fun e w'' => e = .returned (.agg (vB R)) ∧ OneIn w w'') := fun w' h1 => by
          have hp1 := ListAt.drop rfl (range_below hr h1.1 hb) hH (Nat.lt_of_lt_of_le hb h1.1.size) hcp2 hcp (halfN hs.length) (by omega)
          refine (ih _ (hs.drop (halfN hs.length)) w' (by simp; omega) (by simp; omega) (hH.drop _) (Nat.lt_of_lt_of_le hL h1.1.size) hp1).mono ?_
          rintro e w5 ⟨rfl, b5⟩
          exact ⟨by rw [hRq], h1.below b5⟩
        obtain ⟨HB, hHB⟩ : ∃ HB, HB = nodeH L R := ⟨_, rfl⟩
        have hlen : HB.length = 32 := by rw [hHB]; exact nodeH_length _ _
        have C3 : Hid (∀ w', OneIn w w' → Calls Tryd.prog 35 #[.agg (vB L), .agg (vB R)] w' fun e w'' => e = .returned (.agg (vB HB)) ∧ OneIn w w'') := fun w' h1 => by
          refine (rnode_any L R hLh.1 hRh.1 hLh.2 hRh.2 w').mono ?_
          rintro e w5 ⟨rfl, b5⟩
          exact ⟨by rw [hHB], h1.below b5⟩
        rw [← hHB]
        have hcl : (List.map (Value.int .u8) HB).length = 32 := by simpa using hlen
        have hi : (Tryd.prog.info? 24).map (·.size) = some (List.map (Value.int .u8) HB).length := by rw [hcl]; kernel_rfl
        have h1c : ∀ v ∈ List.map (Value.int .u8) HB, v.oneCell' = true := by intro v hv; simp at hv; obtain ⟨x, _, rfl⟩ := hv; rfl
        clear hHB hov hLq hRq hLh hRh ih hH hr hp0
        generalize hs.length = n at *
        generalize halfN n = k at *
        have i1 : (0 : Int) ≤ (k : Int) := by omega
        have i2 : (k : Int) ≤ (n : Int) := by omega
        have i3 : (k : Int) ≤ (cp : Int) := by omega
        have i4 : (n : Int) ≤ (cp : Int) := by omega
        have hn0' : ¬ (n : Int) = 0 := by omega
        have hn1' : ¬ (n : Int) = 1 := by omega
        go_enter Tryd.func37, Tryd.ntmps37
        go_wp2_with (first | (go_at_call 66; refine (C0.out _).mono ?_; rintro e w' ⟨rfl, hw'⟩; have hw'' := hw'.symm; clear hw'; subst hw''))
        have hN := OneIn.new w
        obtain ⟨W, hW⟩ : ∃ W, w.alloc (Obj.cells (vB (zs 32)) 24) = W := ⟨_, rfl⟩
        change Code.wp _ _ _ _ (w.alloc (Obj.cells (vB (zs 32)) 24))
        rw [hW] at hN ⊢
        clear hW
        go_region_held3 (fun w' => OneIn w w' ∧ w'.there w.heap.size 0 32) (first | exact OneIn.st (OneIn.drew (by assumption)) | exact OneIn.st (OneIn.drew (And.left ‹_›)) | exact OneIn.st (OneIn.store (And.left ‹_›) HB hlen) | exact OneIn.st (by assumption)) (first | (go_at_call_of 37 (Value.slice (some ⟨b, o, none⟩) k cp); refine (C1.out _ (And.left ‹_›)).mono ?_; rintro e w4 ⟨rfl, n4⟩) | (go_at_call 37; refine (C2.out _ (And.left ‹_›)).mono ?_; rintro e w5 ⟨rfl, n5⟩) | (go_at_call 35; refine (C3.out _ (And.left ‹_›)).mono ?_; rintro e w6 ⟨rfl, n6⟩))
        obtain ⟨h51, c, hc, h55⟩ := n6
        have h6 : (w6.setCells w.heap.size 0 (List.map (Value.int .u8) HB)).heap[w.heap.size]? = some (.cells (vB HB) 24) := setCells_whole h55 (by omega)
        have b6 : Below w.heap.size w (w6.setCells w.heap.size 0 (List.map (Value.int .u8) HB)) := below_setCells h51 (Nat.le_refl _) _
        clear h55
        generalize w6.setCells w.heap.size 0 (List.map (Value.int .u8) HB) = w7 at *
        go_wp2
        exact bodyPost_ret (v := .agg (vB HB)) (results_cell_row (p := 2) (ty := 24) Tryd.results37 _ _ w.heap.size 24 _ (0, 0) _ rfl h6 Tryd.underlying24 rfl (by rw [vB_size, hlen]; kernel_rfl)) rfl ⟨rfl, b6⟩
end Go.Proofs.YtffhjjgkoapioaaDoor
