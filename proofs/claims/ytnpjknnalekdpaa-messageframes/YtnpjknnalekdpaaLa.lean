import Derived.Test.YtnpjknnalekdpaaJy
import Derived.Test.YtnpjknnalekdpaaHx
namespace Go.Proofs.Ytnpjknnalekdpaa
set_option linter.unusedSimpArgs false
set_option linter.unusedVariables false
open Go.RowKit
-- the reference's reading, plain
def hdM (t : Int) (b : List Int) : Msg := ⟨t, gi b 0, gi b 1, valB ((b.drop 2).take 4), 0, ⟨#[]⟩, false, false, zs 32, false, 0, zs 32, zs 32, false⟩
def candR (t : Int) (b : List Int) : Msg :=
  if t = 1 ∧ 46 ≤ b.length then { hdM t b with base := valB ((b.drop 6).take 4), s := strOfNums (b.drop 46), quiet := gi b 10 == 1, ext := gi b 11 == 1, hash := (b.drop 12).take 32 }
  else if t = 2 ∧ b.length = 71 then { hdM t b with yes := true, vh := (b.drop 7).take 32, vr := (b.drop 39).take 32 }
  else if t = 2 ∧ b.length = 8 then { hdM t b with code := gi b 7 }
  else if (t = 3 ∨ t = 6) ∧ b.length = 7 then { hdM t b with commit := gi b 6 == 1 }
  else hdM t b
theorem candR_kind (t : Int) (b : List Int) : (candR t b).kind = t := by
  unfold candR
  split
  · rfl
  split
  · rfl
  split
  · rfl
  split <;> rfl
theorem four4 (l : List Int) (h : l.length = 4) : ∃ a b c d, l = [a, b, c, d] := by
  match l, h with
  | [a, b, c, d], _ => exact ⟨a, b, c, d, rfl⟩
theorem two_of (l : List Int) (h : l.length = 2) : ∃ a b, l = [a, b] := by
  match l, h with
  | [a, b], _ => exact ⟨a, b, rfl⟩
theorem tb_is (b : Bool) : (tb b == 1) = b := by cases b <;> rfl
theorem cand_complete (m : Msg) (hm : m.Ok) (hf : formB m = true) : candR m.kind (bodyB m) = m ∧ 6 ≤ (bodyB m).length := by
  obtain ⟨f1, f2, f3, f4, f5, f6, eo, ei⟩ := form_all hf
  have vi := valB_numB 4 m.id (by omega) (by omega) (by omega)
  obtain ⟨x0, x1, x2, x3, hx⟩ := four4 (numB m.id 4) (numB_length _ _)
  have hb : bodyB m = m.frm :: m.to :: x0 :: x1 :: x2 :: x3 :: ownB m := by unfold bodyB; rw [hx]; rfl
  rw [hx] at vi
  have hl : (bodyB m).length = 6 + (ownB m).length := by rw [hb]; simp; omega
  refine ⟨?_, by omega⟩
  have hh : hdM m.kind (bodyB m) = own0 m := by
    unfold hdM own0; rw [hb]
    have e : ((m.frm :: m.to :: x0 :: x1 :: x2 :: x3 :: ownB m).drop 2).take 4 = [x0, x1, x2, x3] := rfl
    rw [e, vi]; rfl
  suffices hs : ∀ M, ofKind m = M → candR m.kind (bodyB m) = M by
    have := hs _ rfl; rw [← eo] at this; exact this
  intro M hM
  subst hM
  unfold candR ofKind
  rw [hh]
  unfold inB at ei
  by_cases k1 : m.kind = 1
  · rw [if_pos k1] at ei
    have ei := of_decide_eq_true ei
    have ob : ownB m = numB m.base 4 ++ ([tb m.quiet] ++ ([tb m.ext] ++ (m.hash ++ (numB m.s.size 2 ++ nB m.s)))) := by unfold ownB; rw [if_pos k1]
    have vb := valB_numB 4 m.base (by omega) hm.b.1 (by have := ei.1; omega)
    obtain ⟨y0, y1, y2, y3, hy⟩ := four4 (numB m.base 4) (numB_length _ _)
    obtain ⟨z0, z1, hz⟩ := two_of (numB m.s.size 2) (numB_length _ _)
    rw [hy] at vb
    rw [hy, hz] at ob
    have l46 : 46 ≤ (bodyB m).length := by rw [hl, ob]; simp [hm.h, nB_length]; omega
    rw [if_pos ⟨k1, l46⟩, if_pos k1]
    rw [ob] at hb
    have hb2 : bodyB m = m.frm :: m.to :: x0 :: x1 :: x2 :: x3 :: y0 :: y1 :: y2 :: y3 :: tb m.quiet :: tb m.ext :: (m.hash ++ (z0 :: z1 :: nB m.s)) := by rw [hb]; simp
    rw [hb2]
    have e1 : ((m.frm :: m.to :: x0 :: x1 :: x2 :: x3 :: y0 :: y1 :: y2 :: y3 :: tb m.quiet :: tb m.ext :: (m.hash ++ (z0 :: z1 :: nB m.s))).drop 6).take 4 = [y0, y1, y2, y3] := rfl
    have e2 : ((m.frm :: m.to :: x0 :: x1 :: x2 :: x3 :: y0 :: y1 :: y2 :: y3 :: tb m.quiet :: tb m.ext :: (m.hash ++ (z0 :: z1 :: nB m.s))).drop 12).take 32 = m.hash := by
      show (m.hash ++ (z0 :: z1 :: nB m.s)).take 32 = m.hash
      exact List.take_left' hm.h
    have e3 : (m.frm :: m.to :: x0 :: x1 :: x2 :: x3 :: y0 :: y1 :: y2 :: y3 :: tb m.quiet :: tb m.ext :: (m.hash ++ (z0 :: z1 :: nB m.s))).drop 46 = nB m.s := by
      show (m.hash ++ (z0 :: z1 :: nB m.s)).drop 34 = nB m.s
      rw [show 34 = m.hash.length + 2 by rw [hm.h], List.drop_append]
      simp
    have e4 : gi (m.frm :: m.to :: x0 :: x1 :: x2 :: x3 :: y0 :: y1 :: y2 :: y3 :: tb m.quiet :: tb m.ext :: (m.hash ++ (z0 :: z1 :: nB m.s))) 10 = tb m.quiet := rfl
    have e5 : gi (m.frm :: m.to :: x0 :: x1 :: x2 :: x3 :: y0 :: y1 :: y2 :: y3 :: tb m.quiet :: tb m.ext :: (m.hash ++ (z0 :: z1 :: nB m.s))) 11 = tb m.ext := rfl
    rw [e1, e2, e3, e4, e5, vb, str_nB, tb_is, tb_is]
  rw [if_neg (fun h => k1 h.1), if_neg k1]
  rw [if_neg k1] at ei
  by_cases k2 : m.kind = 2
  · rw [if_pos k2] at ei ⊢
    cases hy : m.yes with
    | true =>
      have ob : ownB m = 1 :: (m.vh ++ m.vr) := by unfold ownB; rw [if_neg k1, if_pos k2, if_pos hy]; rfl
      have l71 : (bodyB m).length = 71 := by rw [hl, ob]; simp [hm.v, hm.r]
      rw [if_pos ⟨k2, l71⟩, if_pos rfl]
      rw [ob] at hb
      rw [hb]
      have e1 : ((m.frm :: m.to :: x0 :: x1 :: x2 :: x3 :: 1 :: (m.vh ++ m.vr)).drop 7).take 32 = m.vh := by
        show (m.vh ++ m.vr).take 32 = m.vh
        exact List.take_left' hm.v
      have e2 : ((m.frm :: m.to :: x0 :: x1 :: x2 :: x3 :: 1 :: (m.vh ++ m.vr)).drop 39).take 32 = m.vr := by
        show ((m.vh ++ m.vr).drop 32).take 32 = m.vr
        rw [List.drop_left' hm.v, List.take_of_length_le (by rw [hm.r]; omega)]
      rw [e1, e2]
    | false =>
      have ob : ownB m = [0, m.code] := by unfold ownB; rw [if_neg k1, if_pos k2, if_neg (by rw [hy]; simp)]; rfl
      have l8 : (bodyB m).length = 8 := by rw [hl, ob]; rfl
      rw [if_neg (by rw [l8]; omega), if_pos ⟨k2, l8⟩, if_neg (by simp)]
      rw [ob] at hb
      rw [hb]; rfl
  · rw [if_neg (fun h => k2 h.1), if_neg (fun h => k2 h.1), if_neg k2]
    by_cases k3 : m.kind = 3 ∨ m.kind = 6
    · have ob : ownB m = [tb m.commit] := by unfold ownB; rw [if_neg k1, if_neg k2, if_pos k3]
      have l7 : (bodyB m).length = 7 := by rw [hl, ob]; rfl
      rw [if_pos ⟨k3, l7⟩, if_pos k3]
      rw [ob] at hb
      rw [hb]
      have e1 : gi (m.frm :: m.to :: x0 :: x1 :: x2 :: x3 :: [tb m.commit]) 6 = tb m.commit := rfl
      rw [e1, tb_is]
    · rw [if_neg (fun h => k3 h.1), if_neg k3]
theorem gi_b (b : List Int) (hb : Bytes b) (i : Nat) : 0 ≤ gi b i ∧ gi b i ≤ 255 := by
  unfold gi
  rw [List.getD_eq_getElem?_getD]
  by_cases h : i < b.length
  · rw [List.getElem?_eq_getElem h]; exact hb _ (List.getElem_mem _)
  · rw [List.getElem?_eq_none (by omega)]; simp
theorem val4 (b : List Int) (hb : Bytes b) (o : Nat) : 0 ≤ valB ((b.drop o).take 4) ∧ valB ((b.drop o).take 4) ≤ 4294967296 := by
  have hl : ((b.drop o).take 4).length ≤ 4 := by simp; omega
  have := valB_bound ((b.drop o).take 4).length ((b.drop o).take 4) rfl (by omega) (fun x hx => hb x (List.drop_subset _ _ (List.take_subset _ _ hx)))
  have := pow_mono _ _ hl
  omega
theorem sub_bytes (b : List Int) (hb : Bytes b) (o n : Nat) : Bytes ((b.drop o).take n) := fun x hx => hb x (List.drop_subset _ _ (List.take_subset _ _ hx))
theorem hdM_ok (t : Int) (ht : 0 ≤ t ∧ t ≤ 255) (b : List Int) (hb : Bytes b) : (hdM t b).Ok := by
  have g0 := gi_b b hb 0
  have g1 := gi_b b hb 1
  have v := val4 b hb 2
  exact ⟨by (show -9223372036854775808 ≤ t ∧ t ≤ 9223372036854775807); omega, by (show -9223372036854775808 ≤ gi b 0 ∧ gi b 0 ≤ 9223372036854775807); omega, by (show -9223372036854775808 ≤ gi b 1 ∧ gi b 1 ≤ 9223372036854775807); omega, by (show 0 ≤ valB ((b.drop 2).take 4) ∧ valB ((b.drop 2).take 4) ≤ 18446744073709551615); omega, msg0_ok.b, msg0_ok.c, msg0_ok.s, msg0_ok.h, msg0_ok.v, msg0_ok.r, msg0_ok.hb, msg0_ok.vb, msg0_ok.rb⟩
theorem candR_ok (t : Int) (ht : 0 ≤ t ∧ t ≤ 255) (b : List Int) (hb : Bytes b) (hl : b.length ≤ 1000000) : (candR t b).Ok := by
  have hh := hdM_ok t ht b hb
  unfold candR
  split
  · rename_i h
    have v := val4 b hb 6
    exact ⟨hh.k, hh.f, hh.t, hh.i, by (show 0 ≤ valB ((b.drop 6).take 4) ∧ valB ((b.drop 6).take 4) ≤ 18446744073709551615); omega, hh.c, by (show (strOfNums (b.drop 46)).size ≤ 9223372036854775807); rw [strOfNums_size]; simp; omega, by (show ((b.drop 12).take 32).length = 32); simp; omega, hh.v, hh.r, sub_bytes b hb _ _, hh.vb, hh.rb⟩
  split
  · rename_i h
    exact ⟨hh.k, hh.f, hh.t, hh.i, hh.b, hh.c, hh.s, hh.h, by (show ((b.drop 7).take 32).length = 32); simp; omega, by (show ((b.drop 39).take 32).length = 32); simp; omega, hh.hb, sub_bytes b hb _ _, sub_bytes b hb _ _⟩
  split
  · have g7 := gi_b b hb 7
    exact ⟨hh.k, hh.f, hh.t, hh.i, hh.b, by (show -9223372036854775808 ≤ gi b 7 ∧ gi b 7 ≤ 9223372036854775807); omega, hh.s, hh.h, hh.v, hh.r, hh.hb, hh.vb, hh.rb⟩
  split
  · exact ⟨hh.k, hh.f, hh.t, hh.i, hh.b, hh.c, hh.s, hh.h, hh.v, hh.r, hh.hb, hh.vb, hh.rb⟩
  · exact hh
/-- What OfFrame answers. -/
def rofM (t : Int) (b : List Int) : Msg := if t ≤ 6 ∧ 6 ≤ b.length then (if formB (candR t b) = true ∧ bodyB (candR t b) = b then candR t b else msg0) else msg0
def rofC (t : Int) (b : List Int) : Int := if t ≤ 6 ∧ 6 ≤ b.length then (if formB (candR t b) = true ∧ bodyB (candR t b) = b then 0 else 2) else 2
theorem ofM_ok (t : Int) (ht : 0 ≤ t ∧ t ≤ 255) (l : List Int) (hb : Bytes l) (h : ofS t l = some [] ∧ formB (ofM t l) = true) : (ofM t l).Ok := by
  have := ofR_ok t ht l hb
  unfold ofR at this
  rw [if_pos h] at this
  exact this
/-- The program and the reference read alike. -/
theorem rof_eq (t : Int) (ht : 0 ≤ t ∧ t ≤ 255) (b : List Int) (hb : Bytes b) (hl : b.length ≤ 1000000) : rofM t b = ofR t b ∧ rofC t b = ofC t b := by
  by_cases h : ofS t b = some [] ∧ formB (ofM t b) = true
  · have hok := ofM_ok t ht b hb h
    have hk : (ofM t b).kind = t := (rownM_head (headS b) (headM t b)).1
    have hs := of_sound t b hb h.1
    have q := cand_complete (ofM t b) hok h.2
    rw [hk, hs] at q
    have f1 := (form_all h.2).1
    rw [hk] at f1
    unfold rofM rofC ofR ofC
    have hA : t ≤ 6 ∧ 6 ≤ b.length := ⟨f1.2, q.2⟩
    have hB : formB (candR t b) = true ∧ bodyB (candR t b) = b := by rw [q.1]; exact ⟨h.2, hs⟩
    refine ⟨?_, ?_⟩
    · rw [if_pos hA, if_pos h, if_pos hB, q.1]
    · rw [if_pos hA, if_pos h, if_pos hB]
  · have e : ofR t b = msg0 ∧ ofC t b = 2 := by unfold ofR ofC; rw [if_neg h, if_neg h]; exact ⟨rfl, rfl⟩
    rw [e.1, e.2]
    unfold rofM rofC
    by_cases h1 : t ≤ 6 ∧ 6 ≤ b.length
    · rw [if_pos h1, if_pos h1]
      by_cases h2 : formB (candR t b) = true ∧ bodyB (candR t b) = b
      · exfalso
        have q := of_complete (candR t b) (candR_ok t ht b hb hl) h2.1
        rw [candR_kind, h2.2] at q
        exact h ⟨q.1, by rw [q.2]; exact h2.1⟩
      · rw [if_neg h2, if_neg h2]; exact ⟨rfl, rfl⟩
    · rw [if_neg h1, if_neg h1]; exact ⟨rfl, rfl⟩
end Go.Proofs.Ytnpjknnalekdpaa
