import Derived.Test.YtjhnnblilfddpaaDoorKk
namespace Go.Proofs.YtjhnnblilfddpaaDoor
set_option linter.unusedSimpArgs false
set_option linter.unusedVariables false
open Go.RowKit
def stepB (n b : Int) : Int := bits .or .u64 (IntKind.u64.wrap (n * 256)) b
def valB (l : List Int) : Int := l.foldl stepB 0
set_option maxRecDepth 100000 in
theorem valB_snoc (l : List Int) (b : Int) : valB (l ++ [b]) = stepB (valB l) b := by simp [valB]
def rnumSt (st : Option (List Int)) (k : Int) : Option (List Int) := if sizeB k then takeSt st k.toNat else none
def rnumV (st : Option (List Int)) (k : Int) : Int := if sizeB k then valB (takeV st k.toNat) else 0
set_option maxRecDepth 100000 in
theorem grown_bytesWorld (w : World) (e : TypeId) (s : ByteArray) (row : Option Nat) : w.grownBy (Lib.bytesWorld w e s) row :=
  ⟨rfl, rfl, rfl, by rw [Lib.bytesWorld_size]; omega, fun k hk _ => Lib.bytesWorld_at_old w e s k hk⟩
set_option maxRecDepth 100000 in
theorem below_bytesWorld (w : World) (e : TypeId) (s : ByteArray) : Below w.heap.size w (Lib.bytesWorld w e s) :=
  ⟨rfl, rfl, rfl, by rw [Lib.bytesWorld_size]; omega, fun k hk => Lib.bytesWorld_at_old w e s k hk⟩
set_option maxRecDepth 100000 in
theorem bytesWorld_gi (w : World) (l : List Int) (hb : Bytes l) (j : Nat) (hj : j < l.length) : (Lib.bytesWorld w 5 (strOfNums l)).cell? ⟨w.heap.size, j, none⟩ = some (.int .u8 (gi l j)) := by
  rw [Lib.bytesWorld_cell w 5 _ j (by rw [strOfNums_size]; exact hj)]
  congr 2
  rw [strOfNums_data]
  have := hb l[j] (List.getElem_mem hj)
  unfold gi
  simp [hj]
  omega
set_option maxRecDepth 100000 in
theorem takeV_bytes {w : World} {p : Value} {st : Option (List Int)} (h : RHnd w p st) (k : Nat) : Bytes (takeV st k) := fun x hx => by
  rcases h with ⟨_, rfl⟩ | ⟨g, _, h⟩
  · simp [takeV] at hx
  · cases st with
    | none => simp [takeV] at hx
    | some l =>
      unfold takeV at hx; simp only at hx; split at hx
      · exact h.2.1 x (List.mem_of_mem_take hx)
      · simp at hx
set_option maxRecDepth 100000 in
theorem takeV_length (st : Option (List Int)) (k : Nat) : (takeV st k).length ≤ k := by
  unfold takeV
  split
  · split
    · simp; omega
    · simp
  · simp
set_option maxHeartbeats 1000000 in
set_option maxRecDepth 100000 in
theorem rnumber_h (p : Value) (st : Option (List Int)) (k : Int) (w : World) (h : RHnd w p st) : Calls Tryd.prog 76 #[p, .int .i64 k] w (Rread w p (rnumSt st k) (.int .u64 (rnumV st k))) := by
  cases hs : sizeB k with
  | false =>
    have G : Hid (∀ W : World, Calls Tryd.prog 69 #[.int .i64 k] W fun e w' => e = .returned (.bool false) ∧ w' = W) := fun W => isSize_false k hs W
    have F : Hid (Calls Tryd.prog 83 #[p] w (Rread w p none (.tuple #[]))) := rFail_h p st w h
    have e1 : Hid (rnumSt st k = none) := by unfold Hid rnumSt; rw [hs]; rfl
    have e2 : Hid (rnumV st k = 0) := by unfold Hid rnumV; rw [hs]; rfl
    clear h hs
    go_enter Tryd.func76, Tryd.ntmps76
    go_wp2_with (first | (go_at_call 69; refine (G.out _).mono ?_; rintro e w' ⟨rfl, h'⟩; have h'' := h'.symm; clear h'; subst h'') | (go_at_call 83; refine F.out.mono ?_; rintro e w2 ⟨rfl, h2, g2⟩))
    go_ret
    rw [e1.out, e2.out]
    exact ⟨rfl, h2, g2⟩
  | true =>
    obtain ⟨m, rfl, hm⟩ := sizeB_cases hs
    have G : Hid (∀ W : World, Calls Tryd.prog 69 #[.int .i64 m] W fun e w' => e = .returned (.bool true) ∧ w' = W) := fun W => by rw [← hs]; exact isSize_any m W
    have F : Hid (Calls Tryd.prog 84 #[p, .int .i64 m] w (Rread w p (takeSt st m) (.string (strOfNums (takeV st m))))) := take_h p st m (by omega) w h
    have e1 : Hid (rnumSt st m = takeSt st m) := by unfold Hid rnumSt; rw [hs]; rfl
    have e2 : Hid (rnumV st m = valB (takeV st m)) := by unfold Hid rnumV; rw [hs]; rfl
    have hbv := takeV_bytes h m
    have hlv := takeV_length st m
    generalize takeV st m = V at *
    clear h hs
    have hz := strOfNums_size V
    have hcv := fun W : World => Lib.run_convert_string_bytes (P := Tryd.prog) W 9 22 5 (strOfNums V) Tryd.underlying9 Tryd.underlying22 Tryd.underlying5
    have CELL : Hid (∀ W : World, ∀ j, j < V.length → (Lib.bytesWorld W 5 (strOfNums V)).cell? ⟨W.heap.size, j, none⟩ = some (.int .u8 (gi V j))) := fun W j hj => bytesWorld_gi W V hbv j hj
    have HBV : Hid (Bytes V) := hbv
    clear hbv
    go_enter Tryd.func76, Tryd.ntmps76
    go_wp2_with (first | (go_at_call 69; refine (G.out _).mono ?_; rintro e w' ⟨rfl, h'⟩; have h'' := h'.symm; clear h'; subst h'') | (go_at_call 84; refine F.out.mono ?_; rintro e w2 ⟨rfl, h2, g2⟩))
    have H2 : Hid (RHnd w2 p (takeSt st m)) := h2
    clear h2
    go_loop [18, 5] (fun i n => ∃ j : Nat, j ≤ V.length ∧ i = .int .i64 j ∧ n = .int .u64 (valB (V.take j))) (fun i _ => V.length - (intOf i).toNat)
    case atStart => exact ⟨0, by omega, rfl, rfl⟩
    case round =>
      obtain ⟨j, hj, rfl, rfl⟩ := hrel
      by_cases hlt : j < V.length
      · have hc := CELL.out w2 j hlt
        have hji : (j : Int) < (V.length : Int) := by omega
        have HS : Hid (stepB (valB (V.take j)) (gi V j) = valB (V.take (j + 1))) := by
          unfold Hid
          rw [← valB_snoc, List.take_add_one]
          congr 2
          unfold gi; simp [hlt]
        have hbj := HBV.out (gi V j) (by unfold gi; simp [hlt])
        have hgm : gi V j % 18446744073709551616 = gi V j := by omega
        generalize valB (V.take j) = N at *
        generalize gi V j = X at *
        go_wp2
        exact ⟨⟨j + 1, by omega, by go_num, by rw [← HS.out]; rfl⟩, by simp [intOf]; omega⟩
      · have ej : j = V.length := by omega
        subst ej
        rw [List.take_length]
        have B2 : Hid (Below w2.heap.size w2 (Lib.bytesWorld w2 5 (strOfNums V))) := below_bytesWorld _ _ _
        go_wp2
        go_ret
        rw [e1.out, e2.out]
        exact ⟨rfl, H2.out.below B2.out, grown_trans g2 (grown_below B2.out _)⟩
def rtruthSt (st : Option (List Int)) : Option (List Int) := if 1 < rnumV st 1 then none else rnumSt st 1
def rtruthV (st : Option (List Int)) : Bool := rnumV st 1 == 1
end Go.Proofs.YtjhnnblilfddpaaDoor
