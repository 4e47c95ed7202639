/-
  What is proved: a range of two bytes that are no signs of the brackets' own has just the bytes from the first one to the second one, the other way round it is none (the law BracketRange returns true). Conditions: none but those of the given statement.
-/
import Derived.Test.YtnhbjjjoocpedaaBase
import Derived.Test.YtnhbjjjoocpedaaYd
namespace Go.Proofs.Ytnhbjjjoocpedaa.bracketRange
set_option linter.unusedSimpArgs false
set_option linter.unusedVariables false
open Go.ChangeShapes Go.WideShapes Go.ChangeAt Go.RowKit
open Go.ChangeMaps (open_string shut_string)

set_option maxRecDepth 100000 in
theorem contract (H : Type) (enc : TypeId × Value → H) (W : World) (base : Nat) (args : Array Value) (ds gs : List (DataW H)) (before : List MemPlace)
    (hval : ∀ (j : Nat) t v, Try.f8.params[j]? = some t → args[j]? = some v → Value.okWide Try.prog W .any base t v)
    (hW : DataW.Whole enc Try.prog Try.f8.params.toList Rows.bracketRangeSpec.vars false W args.toList ds gs before)
    (hsz : (DataW.weightsEach Try.prog (Try.f8.params.toList ++ (OpenSpec.ofChange Rows.bracketRangeSpec).bare.plain.varTypes Try.prog) (ds ++ gs)).all (· ≤ reachBytes) = true)
    (hSh : W.ShapedOpen Try.prog) :
    Calls Try.prog 8 args W fun e W' => ∃ v, e = .returned v ∧ Rows.bracketRangeSpec.post enc Try.prog Try.f8 false true false false W args v W' := by
  have hW' := hW
  obtain ⟨p, q, hA0, hV, rfl, hfz, hnd⟩ := hW
  have hA : DataW.TrodAll enc Try.prog W 0 (fun _ => true) true Try.f8.params.toList args.toList ds p := hA0
  rw [Try.params8] at hA hval hsz
  obtain ⟨v0, vs0, d0, ds0, p0, q0, hargs, rfl, rfl, h0, r0⟩ := trodAll_cons hA
  obtain ⟨v1, vs1, d1, ds1, p1, q1, rfl, rfl, rfl, h1, r1⟩ := trodAll_cons r0
  obtain ⟨rfl, rfl, rfl⟩ := trodAll_nil r1
  obtain rfl : args = #[v0, v1] := by cases args; simp_all
  obtain ⟨rfl, rfl⟩ := trodVars_none hV
  have hM : MaxL W := maxL_of hSh
  obtain ⟨c0, hv0, hd0, hq0, wc0⟩ := open_int Try.underlying5 (hval 0 5 v0 rfl rfl) h0
  subst hv0 hd0 hq0
  obtain ⟨k0, hk0, hl0⟩ : ∃ k : Nat, c0 = k ∧ k < 256 := ⟨c0.toNat, by have := bounds_u8 wc0; omega, by have := bounds_u8 wc0; omega⟩
  subst hk0
  obtain ⟨c1, hv1, hd1, hq1, wc1⟩ := open_int Try.underlying5 (hval 1 5 v1 rfl rfl) h1
  subst hv1 hd1 hq1
  obtain ⟨k1, hk1, hl1⟩ : ∃ k : Nat, c1 = k ∧ k < 256 := ⟨c1.toNat, by have := bounds_u8 wc1; omega, by have := bounds_u8 wc1; omega⟩
  subst hk1
  clear hA0
  refine (range_walk k0 k1 hl0 hl1 W hM).mono fun e W' ⟨he, bel⟩ => ?_
  subst he
  exact ⟨_, rfl, _, _, _, [], _, [], hW', trodAll_mk1 (shut_bool Try.underlying4 _), (trodAll_cons_mk (shut_int Try.underlying5 wc0) (trodAll_cons_mk (shut_int Try.underlying5 wc1) trodAll_mk0)), rfl, bel.frame _, fun h => by cases h⟩

set_option maxRecDepth 100000 in
theorem laid_met (os : Os) : laidMet Try.prog Rows.bracketRangeRow.laid (World.memory (World.forCall (World.holding Try.prog os ⟨#[], #[], []⟩) (fun _ _ => 0) ⟨#[], #[Value.int .u8 0, Value.int .u8 0], []⟩)) :=
  laidMet_of_run' 8 (by kernel_rfl) (by kernel_rfl)
set_option maxRecDepth 100000 in
theorem reads (os : Os) {H : Type} (enc : TypeId × Value → H) : ∃ places, DataW.whole enc Try.prog (World.memory (World.forCall (World.holding Try.prog os ⟨#[], #[], []⟩) (fun _ _ => 0) ⟨#[], #[Value.int .u8 0, Value.int .u8 0], []⟩)) Try.f8.params.toList Rows.bracketRangeSpec.vars false #[Value.int .u8 0, Value.int .u8 0].toList 8 = some ([.lit (.int .u8 0), .lit (.int .u8 0)], [], places) :=
  ⟨[], by kernel_rfl⟩

set_option maxRecDepth 100000 in
theorem lifted (os : Os) (started : os.Started) (H : Type) (enc : TypeId × Value → H) (F : Stop.Interp) :
    ReturnsInHanded {} Try.checked os 8 .any ((OpenSpec.ofChange Rows.bracketRangeSpec).preRow enc Try.prog Try.f8 Rows.bracketRangeRow.domain false Rows.bracketRangeRow.laid) (((OpenSpec.ofChange Rows.bracketRangeSpec).at F).post enc Try.prog Try.f8 false true false false) := by
  obtain ⟨places, hx⟩ := reads os enc
  refine returnsInHanded_of_row (C := Try.checked) (s := OpenSpec.ofChange Rows.bracketRangeSpec) own started (by kernel_rfl) Try.func8
    (witness_row_at (enc := enc) (C := Try.checked) false (World.holding Try.prog os ⟨#[], #[], []⟩) #[Value.int .u8 0, Value.int .u8 0] rfl (by kernel_rfl) (by kernel_rfl) (by kernel_rfl)
      (OpenSpec.preRow_of_cond 8 hx (by kernel_rfl) (fun k hk => by cases hk) (by kernel_rfl) (laid_met os))) ?_
  intro W base args ds gs before hval hW _ _ hsz hL hSh _
  exact contract H enc W base args ds gs before hval hW hsz hSh

set_option maxRecDepth 100000 in
theorem said : Rows.BracketRangeSaid :=
  OpenClaim.holds_of_cond 8 Try.f8 rfl rfl rfl rfl rfl rfl rfl ⟨rfl, rfl, rfl, rfl, rfl⟩ rfl rfl rfl rfl rfl (by kernel_rfl) Try.func8 (by kernel_rfl)
    (of_decide_eq_true (by kernel_rfl)) (by unfold Func.isWrapper; first | (rw [if_pos (by decide +kernel)]; kernel_rfl) | (rw [if_neg (by decide +kernel)]; exact ⟨rfl, rfl⟩))
    (fun os started H enc _ F => by rw [OpenClaim.pre_eq_preRow]; exact lifted os started H enc F)
end Go.Proofs.Ytnhbjjjoocpedaa.bracketRange
namespace Go.Proofs.Ytnhbjjjoocpedaa
set_option maxRecDepth 100000 in
theorem bracketRange_holds : Rows.BracketRangeSaid := bracketRange.said
end Go.Proofs.Ytnhbjjjoocpedaa
