import Derived.Test.YtjkccnfmmkhapaaQb
namespace Go.Proofs.Ytjkccnfmmkhapaa
set_option linter.unusedSimpArgs false
set_option linter.unusedVariables false
open Go.RowKit
theorem wpAnyH_mono {P : Program} {ops : Array Oper} {Q : Exit → Act → World → Prop} {md : Region.Mode} {S S' : World → Prop} (hSS : ∀ w, S' w → S w) : ∀ (fuel : Nat) (listed : Array Bool) (a : Act) (w : World), wpAnyH P md ops Q S' fuel listed a w → wpAnyH P md ops Q S fuel listed a w
  | 0, _, _, _, h => h
  | fuel + 1, _, _, _, h => ⟨h.1, fun i hi => wpOp_mono (fun a' w' h' => ⟨hSS w' h'.1, wpAnyH_mono hSS fuel _ a' w' h'.2⟩) (h.2 i hi)⟩
/-- The condition grows behind a call. -/
theorem wpAnyH_grow {P : Program} {ops : Array Oper} {Q : Exit → Act → World → Prop} {md : Region.Mode} {S S' : World → Prop} (hSS : ∀ w, S' w → S w) {fuel : Nat} {listed : Array Bool} {a : Act} {w : World} (hS : S' w) (h : S' w → wpAnyH P md ops Q S' fuel listed a w) : wpAnyH P md ops Q S fuel listed a w :=
  wpAnyH_mono hSS fuel listed a w (h hS)
theorem forIn_seek {β : Type} {P : Program} (w : World) (f : Nat → β → Sem (ForInStep β)) (g : Nat → Bool) (b c : β) : ∀ (n s : Nat), (∀ j, s ≤ j ∧ j < s + n → g j = true → (f j b).run P w = .ok (.yield b) w) → (∀ j, s ≤ j ∧ j < s + n → g j = false → (f j b).run P w = .ok (.done c) w) → (forIn (List.range' s n) b f).run P w = .ok (if (List.range' s n).all g = true then b else c) w
  | 0, s, _, _ => by simp
  | n + 1, s, h1, h2 => by
    rw [List.range'_succ, List.forIn_cons, Sem.run_bind]
    cases hg : g s with
    | true =>
      rw [h1 s ⟨by omega, by omega⟩ hg]
      simp only [Result.andThen_ok]
      rw [forIn_seek w f g b c n (s + 1) (fun j hj => h1 j ⟨by omega, by omega⟩) (fun j hj => h2 j ⟨by omega, by omega⟩), List.all_cons, hg, Bool.true_and]
    | false =>
      rw [h2 s ⟨by omega, by omega⟩ hg]
      simp [hg]
theorem all_same (a b : List Int) (ha : a.length = 32) (hb : b.length = 32) : (List.range' 0 32).all (fun j => decide (gi a j = gi b j)) = decide (a = b) := by
  rw [Bool.eq_iff_iff, List.all_eq_true]
  simp only [decide_eq_true_eq]
  constructor
  · intro h
    apply List.ext_getElem (by omega)
    intro i h1 h2
    have := h i (by simp; omega)
    simpa [gi, h1, h2] using this
  · rintro rfl j _; rfl
theorem eq32_any (d : Nat) (l m : List Int) (hl : l.length = 32) (hm : m.length = 32) (w : World) : (Op.equalIn (d + 2) 32 (.agg (vB l)) (.agg (vB m))).run Try.prog w = .ok (decide (l = m)) w := by
  have hs : (Try.prog.info? 5).map (·.size) = some 1 := by kernel_rfl
  have hagg : (isAgg 5).run Try.prog w = .ok false w := by
    unfold isAgg; rw [Sem.run_bind, run_underlying Try.underlying5 w]; rfl
  cases hi : Try.prog.info? 5 with
  | none => simp [hi] at hs
  | some i =>
    have hz : i.size = 1 := by simpa [hi] using hs
    have hpart : ∀ (l : List Int), l.length = 32 → ∀ j, j < 32 → (part 5 (vB l) j).run Try.prog w = .ok (.int .u8 (gi l j)) w := fun l hl j hj => by
      have hq := vB_at l j (by omega)
      simp [part, hagg, hq]
    unfold Op.equalIn
    simp only [Sem.run_bind, run_underlying Try.underlying32, Result.andThen_ok]
    have hso : (sizeOf 5).run Try.prog w = .ok 1 w := by simp [sizeOf, typeInfo, hi, hz]
    simp only [hso, Result.andThen_ok, Std.Legacy.Range.forIn_eq_forIn_range']
    rw [show ([:32] : Std.Legacy.Range).size = 32 from rfl, forIn_seek _ _ (fun j => decide (gi l j = gi m j)) (none, ()) (some false, ()) 32 0]
    · rw [all_same l m hl hm]
      by_cases h : l = m <;> simp [h]
    · intro j hj hg
      have hp := hpart l hl j (by omega)
      have hp2 := hpart m hm j (by omega)
      have he : (Op.equalIn (d + 1) 5 (.int .u8 (gi l j)) (.int .u8 (gi m j))).run Try.prog w = .ok true w := by
        rw [run_equalIn_int w d 5 .u8 .u8 _ _ Try.underlying5]
        have := of_decide_eq_true hg
        simp [this]
      simp [Sem.run_bind, hp, hp2, he]
    · intro j hj hg
      have hp := hpart l hl j (by omega)
      have hp2 := hpart m hm j (by omega)
      have he : (Op.equalIn (d + 1) 5 (.int .u8 (gi l j)) (.int .u8 (gi m j))).run Try.prog w = .ok false w := by
        rw [run_equalIn_int w d 5 .u8 .u8 _ _ Try.underlying5]
        have := of_decide_eq_false hg
        simp [this]
      simp [Sem.run_bind, hp, hp2, he]

theorem below_drewN {B : Nat} {a w : World} (h : Below B a w) (n : Nat) : Below B a (w.drewN n) := ⟨h.os, h.tape, h.output, h.size, h.block⟩
theorem mid_h {w : World} {g off : Nat} {x : It} (h : w.rangeAt g off (itC x).toList) : w.rangeAt g (off + 5) (List.map (Value.int .u8) x.h) := fun j v hv => by
  have hj : j < x.h.length := by have := (List.getElem?_eq_some_iff.1 hv).1; simpa using this
  rw [Nat.add_assoc, it_cell h (itC_h x j hj)]
  rw [← vB_toList, Array.getElem?_toList, vB_at x.h j hj] at hv
  exact hv
theorem str_eqb (a b : ByteArray) : (a.toList == b.toList) = decide (a = b) := by
  have hi : a.toList = b.toList ↔ a = b := ⟨fun h => by
    have h2 : strOfNums (nB a) = strOfNums (nB b) := by
      have e1 := Lib.strOfNums_toList (nB a)
      have e2 := Lib.strOfNums_toList (nB b)
      rw [str_nB] at e1 e2
      rw [e1, e2] at h
      unfold strOfNums
      unfold Lib.bytesOf at h
      rw [h]
    rwa [str_nB, str_nB] at h2, fun h => by rw [h]⟩
  by_cases h : a = b
  · subst h; simp
  · have : a.toList ≠ b.toList := fun e => h (hi.1 e)
    simp [h, this]
theorem quiet_load32 {C : World → Prop} {K : Act → Prop} {a : Act} {o : Oper} (x : Operand) (ho : o.op = .load 32 x) (b off : Nat) (hx : a.eval x = .pointer (some ⟨b, off, none⟩)) (cs : List Value) (hc : ∀ w, C w → w.rangeAt b off cs)
    (hi : (Try.prog.info? 32).map (·.size) = some cs.length) (hk : K (a.put o.dst (.agg cs.toArray))) : o.quiet Try.prog a C K :=
  ⟨_, fun w hw => by
    have h : (execOp a.eval o).run Try.prog w = .ok (.value (.agg cs.toArray)) w := by
      unfold execOp
      simp only [ho, hx, Instr.loadAt, Instr.sureAddr, Sem.run_bind, Sem.run_pure, Result.andThen_ok, run_loadVar_mid w b off 32 cs _ (hc w hw) Try.underlying32 rfl hi]
    unfold Oper.quietAt; rw [h]; exact ⟨rfl, rfl⟩, hk⟩
end Go.Proofs.Ytjkccnfmmkhapaa
