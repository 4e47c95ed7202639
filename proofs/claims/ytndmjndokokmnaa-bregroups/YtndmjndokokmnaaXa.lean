import Derived.Test.YtndmjndokokmnaaSha
import Derived.Test.YtndmjndokokmnaaWd
namespace Go.Proofs.Ytndmjndokokmnaa
set_option linter.unusedSimpArgs false
set_option linter.unusedVariables false
open Go.RowKit
/-- A reader's box: what it has not gone past yet. -/
def RB (w : World) (g : Nat) (l : List UInt8) : Prop := ∃ s : ByteArray, w.cell? ⟨g, 0, none⟩ = some (.string s) ∧ s.data.toList = l ∧ w.frozen? ⟨g, 0, none⟩ = false ∧ g < w.heap.size
theorem pre_has (p l : List UInt8) : Lib.hasPrefix l p = pre p l := rfl
theorem grown_trans {w w1 w2 : World} {o : Option Nat} (h : w.grownBy w1 o) (k : w1.grownBy w2 o) : w.grownBy w2 o := by
  obtain ⟨h1, h2, h3, h4, h5⟩ := h
  obtain ⟨k1, k2, k3, k4, k5⟩ := k
  exact ⟨k1.trans h1, k2.trans h2, k3.trans h3, Nat.le_trans h4 k4, fun i hi e => (k5 i (by omega) e).trans (h5 i hi e)⟩
theorem grown_cell (w : World) (g : Nat) (o : Nat) (x : Value) : w.grownBy (w.setCell ⟨g, o, none⟩ x) (some g) :=
  ⟨rfl, rfl, rfl, by simp [World.setCell], fun k hk e => Below.heap_setCell _ _ _ _ (fun q => e (by rw [q]))⟩
theorem grown_refl7 (w : World) (o : Option Nat) : w.grownBy w o := ⟨rfl, rfl, rfl, Nat.le_refl _, fun _ _ _ => rfl⟩
theorem grown_below {w w' : World} (h : Below w.heap.size w w') (o : Option Nat) : w.grownBy w' o := ⟨h.os, h.tape, h.output, h.size, fun k hk _ => h.block k hk⟩
set_option maxHeartbeats 1000000 in
set_option maxRecDepth 100000 in
theorem begins_any (g : Nat) (s p : ByteArray) (w : World) (hc : w.cell? ⟨g, 0, none⟩ = some (.string s)) :
    Calls Try.prog 96 #[.pointer (some ⟨g, 0, none⟩), .string p] w fun e w' => e = .returned (.bool (pre p.data.toList s.data.toList)) ∧ w = w' := by
  go_enter Try.func96, Try.ntmps96
  go_wp2_with fail
  refine (Try.strings_HasPrefix s p w).mono ?_
  rintro e w' ⟨rfl, rfl⟩
  go_wp2
  go_ret
  exact ⟨rfl, rfl⟩
theorem RB.set {w : World} {g : Nat} {l : List UInt8} (h : RB w g l) (t : ByteArray) : RB (w.setCell ⟨g, 0, none⟩ (.string t)) g t.data.toList := by
  obtain ⟨s, hc, rfl, hf, hg⟩ := h
  refine ⟨t, ?_, rfl, ?_, by simpa [World.setCell] using hg⟩
  · have := hc; go_simp
  · have := hf; go_simp
theorem mk_list (t : List UInt8) : (⟨t.toArray⟩ : ByteArray).data.toList = t := by simp
set_option maxHeartbeats 1000000 in
set_option maxRecDepth 100000 in
theorem skip_any (g : Nat) (l : List UInt8) (p : ByteArray) (w : World) (h : RB w g l) :
    Calls Try.prog 77 #[.pointer (some ⟨g, 0, none⟩), .string p] w fun e w' => e = .returned (.bool (pre p.data.toList l)) ∧ RB w' g (if pre p.data.toList l then l.drop p.data.toList.length else l) ∧ w.grownBy w' (some g) := by
  have HR : Hid (RB w g l) := h
  obtain ⟨s, hc, rfl, hf, hg⟩ := h
  have ht : (if pre p.data.toList s.data.toList then s.data.toList.drop p.data.toList.length else s.data.toList) = (⟨(Lib.trimPrefix s.data.toList p.data.toList).toArray⟩ : ByteArray).data.toList := by rw [mk_list]; rfl
  rw [ht]
  have CT : Hid (∀ w, Calls Try.prog 97 #[.string s, .string p] w fun e w' => e = .returned (.string ⟨(Lib.trimPrefix s.data.toList p.data.toList).toArray⟩) ∧ w' = w) := fun w => Try.strings_TrimPrefix s p w
  clear ht
  generalize (⟨(Lib.trimPrefix s.data.toList p.data.toList).toArray⟩ : ByteArray) = t at *
  go_enter Try.func77, Try.ntmps77
  go_wp2_with fail
  refine (begins_any g s p w hc).mono ?_
  rintro e w' ⟨rfl, rfl⟩
  go_wp2_with fail
  refine (CT.out w).mono ?_
  rintro e w' ⟨rfl, hw⟩
  rw [hw]
  clear hw
  go_wp2
  go_ret
  exact ⟨rfl, HR.out.set t, grown_cell w g 0 _⟩
/-- What byteAhead, and what is like it, hand back. -/
def ByteO (o : Option (UInt8 × List UInt8)) (w : World) (g : Nat) (e : Ending) (w' : World) : Prop :=
  ∃ (c : UInt8) (ok : Bool) (l' : List UInt8), e = .returned (.tuple #[.int .u8 (c.toNat : Int), .bool ok]) ∧ RB w' g l' ∧ w.grownBy w' (some g) ∧ o.isSome = ok ∧ (ok = true → o = some (c, l'))
theorem isEmpty_toList (s : ByteArray) : s.toList.isEmpty = s.data.toList.isEmpty := by rw [Lib.toList_data]
theorem byte0 (s : ByteArray) (c : UInt8) (t : List UInt8) (h : s.data.toList = c :: t) : 0 < s.size ∧ ∀ q, s[0]'q = c ∧ (s.extract 1 s.size).data.toList = t := by
  have hz : s.size = t.length + 1 := by rw [Lib.size_eq, h]; rfl
  refine ⟨by omega, fun q => ⟨?_, ?_⟩⟩
  · have e : s[0]'q = s.data.toList[0]'(by rw [h]; simp) := by simp [ByteArray.getElem_eq_getElem_data]
    rw [e]; simp [h]
  · rw [Lib.extract_data, h, hz]; simp
set_option maxHeartbeats 1000000 in
set_option maxRecDepth 100000 in
theorem byteAhead_any (g : Nat) (l : List UInt8) (p : ByteArray) (w : World) (h : RB w g l) :
    Calls Try.prog 98 #[.pointer (some ⟨g, 0, none⟩), .string p] w (ByteO (byteA p.data.toList l) w g) := by
  have HR : Hid (RB w g l) := h
  obtain ⟨s, hc, hs, hf, hg⟩ := h
  cases l with
  | nil =>
    have he : s.toList.isEmpty = true := by rw [isEmpty_toList, hs]; rfl
    go_enter Try.func98, Try.ntmps98
    go_wp2
    go_ret2
    exact ⟨0, false, [], rfl, HR.out, grown_refl7 _ _, rfl, fun q => by cases q⟩
  | cons c t =>
    obtain ⟨h0, h1⟩ := byte0 s c t hs
    have he : s.toList.isEmpty = false := by rw [isEmpty_toList, hs]; rfl
    have hc0 : (s[0]'h0).toNat = c.toNat := by rw [(h1 h0).1]
    have hx := (h1 h0).2
    have hcl := c.toNat_lt
    by_cases h10 : c = 10
    · have hv : ((s[0]'h0).toNat : Int) = 10 := by rw [hc0, h10]; rfl
      have HO : Hid (byteA p.data.toList (c :: t) = none) := by show (if c = 10 then none else if pre p.data.toList t then some (c, t.drop p.data.toList.length) else none) = none; rw [if_pos h10]
      rw [HO.out]
      clear h1 hc0 hx h10 hs
      go_enter Try.func98, Try.ntmps98
      go_wp2
      go_ret2
      exact ⟨0, false, c :: t, rfl, HR.out, grown_refl7 _ _, rfl, fun q => by cases q⟩
    · have hv : (((s[0]'h0).toNat : Int) == 10) = false := by
        rw [hc0, beq_eq_false_iff_ne]; intro q; exact h10 (UInt8.toNat_inj.1 (by show c.toNat = 10; omega))
      have HV : Hid ((s[0]'h0).toNat = c.toNat) := hc0
      have HO : Hid (byteA p.data.toList (c :: t) = if pre p.data.toList t then some (c, t.drop p.data.toList.length) else none) := by show (if c = 10 then none else if pre p.data.toList t then some (c, t.drop p.data.toList.length) else none) = _; rw [if_neg h10]
      have HX : Hid (RB (w.setCell ⟨g, 0, none⟩ (.string (s.extract 1 s.size))) g t) := by have := HR.out.set (s.extract 1 s.size); rw [hx] at this; exact this
      have h1s : (1 : Int) ≤ s.size := by omega
      rw [HO.out]
      have CS : ∀ w, RB w g t → Calls Try.prog 77 #[.pointer (some ⟨g, 0, none⟩), .string p] w fun e w' => e = .returned (.bool (pre p.data.toList t)) ∧ RB w' g (if pre p.data.toList t then t.drop p.data.toList.length else t) ∧ w.grownBy w' (some g) := fun w h => skip_any g t p w h
      have CS : Hid (∀ w, RB w g t → Calls Try.prog 77 #[.pointer (some ⟨g, 0, none⟩), .string p] w fun e w' => e = .returned (.bool (pre p.data.toList t)) ∧ RB w' g (if pre p.data.toList t then t.drop p.data.toList.length else t) ∧ w.grownBy w' (some g)) := CS
      clear h1 hc0 hx h10 hs hcl HO
      generalize pre p.data.toList t = b at *
      cases b
      · have CS : Hid (∀ w, RB w g t → Calls Try.prog 77 #[.pointer (some ⟨g, 0, none⟩), .string p] w fun e w' => e = .returned (.bool false) ∧ RB w' g t ∧ w.grownBy w' (some g)) := CS
        go_enter Try.func98, Try.ntmps98
        go_wp2_with fail
        refine (CS.out _ HX.out).mono ?_
        rintro e w' ⟨rfl, hr, hgr⟩
        have HRR : Hid (RB w' g t) := hr
        have HG : Hid (w.grownBy w' (some g)) := grown_trans (grown_cell w g 0 _) hgr
        clear hr hgr
        go_wp2
        go_ret2
        exact ⟨c, false, t, by rw [← HV.out]; rfl, HRR.out, HG.out, rfl, fun q => by cases q⟩
      · have CS : Hid (∀ w, RB w g t → Calls Try.prog 77 #[.pointer (some ⟨g, 0, none⟩), .string p] w fun e w' => e = .returned (.bool true) ∧ RB w' g (t.drop p.data.toList.length) ∧ w.grownBy w' (some g)) := CS
        go_enter Try.func98, Try.ntmps98
        go_wp2_with fail
        refine (CS.out _ HX.out).mono ?_
        rintro e w' ⟨rfl, hr, hgr⟩
        have HRR : Hid (RB w' g (t.drop p.data.toList.length)) := hr
        have HG : Hid (w.grownBy w' (some g)) := grown_trans (grown_cell w g 0 _) hgr
        clear hr hgr
        go_wp2
        go_ret2
        exact ⟨c, true, t.drop p.data.toList.length, by rw [← HV.out]; rfl, HRR.out, HG.out, rfl, fun q => rfl⟩
end Go.Proofs.Ytndmjndokokmnaa
