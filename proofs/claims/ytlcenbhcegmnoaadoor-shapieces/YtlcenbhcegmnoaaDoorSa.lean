import Derived.Test.YtlcenbhcegmnoaaDoorWo
namespace Go.Proofs.YtlcenbhcegmnoaaDoor
set_option linter.unusedSimpArgs false
set_option linter.unusedVariables false
open Go.RowKit
set_option maxHeartbeats 400000 in
theorem new_any (w : World) : Calls Tryd.prog 18 #[] w fun e w' => e = .returned (.pointer (some ⟨w.heap.size, 0, none⟩)) ∧ w' = w.alloc (.cells (hObj (zs 8) (zs 64) 0) 37) := by
  have hz := zero38
  go_enter Tryd.func18, Tryd.ntmps18
  go_wp2
  go_ret
  exact ⟨rfl, rfl⟩
set_option maxHeartbeats 400000 in
theorem reset_any (hb : Nat) (ws bl : List Int) (n : Nat) (hws : ws.length = 8) (hbl : bl.length = 64) (w : World) (hh : w.heap[hb]? = some (.cells (hObj ws bl n) 37)) :
    Calls Tryd.prog 22 #[.pointer (some ⟨hb, 0, none⟩)] w fun e w' => e = .returned (.tuple #[]) ∧ w' = w.setRow hb (hObj (zs 8) (zs 64) 0) := by
  have hz := zero38
  go_enter Tryd.func22, Tryd.ntmps22
  go_wp2_with (first | (refine store38 rfl _ _ rfl hb (zs 8) (zs 64) 0 rfl rfl rfl rfl (hObj ws bl n) (hObj_size _ _ _ hws hbl) hh ?_))
  go_end0
  exact ⟨rfl, rfl⟩
set_option maxHeartbeats 400000 in
theorem len_any (hb : Nat) (ws bl : List Int) (n : Nat) (hws : ws.length = 8) (hbl : bl.length = 64) (w : World) (hh : w.heap[hb]? = some (.cells (hObj ws bl n) 37)) :
    Calls Tryd.prog 21 #[.pointer (some ⟨hb, 0, none⟩)] w fun e w' => e = .returned (.int .i64 n) ∧ w' = w := by
  have hcn := row_cell hh (hObj_n ws _ n hws hbl)
  clear hh
  go_enter Tryd.func21, Tryd.ntmps21
  go_wp2
  go_ret
  exact ⟨rfl, rfl⟩
end Go.Proofs.YtlcenbhcegmnoaaDoor
