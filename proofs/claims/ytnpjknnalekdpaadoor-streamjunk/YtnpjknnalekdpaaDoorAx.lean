import Derived.WalkKit
import Derived.Test.YtnpjknnalekdpaaDoorRows
import Derived.WalkSpells
import Derived.WalkLawsBesides
import Derived.BigRegion
import Derived.Deep.MidRow
import Derived.Deep.WholeRow
import Derived.Deep.Light
import Derived.KernelRfl
import Derived.BigQuiet
import Derived.Deep.QuietTactic
import Derived.Deep.OwnRows
import Derived.Deep.RegionHeld3
import Derived.Laws.CopyOwn
/- The hash as a plain Lean function on lists of integers, in the model's own arithmetic. -/
namespace Go.Proofs.YtnpjknnalekdpaaDoor
set_option linter.unusedSimpArgs false
set_option linter.unusedVariables false
open Go
/-- The element at a place. -/
def gi (l : List Int) (i : Nat) : Int := l.getD i 0
theorem gi_append (a b : List Int) (i : Nat) (h : i < a.length) : gi (a ++ b) i = gi a i := by
  simp [gi, List.getElem?_append, h]
/-- x turned right by n. -/
def rotr (n : Nat) (x : Int) : Int := bits .or .u32 (x * 2 ^ (32 - n) % 4294967296) (x / 2 ^ n)
def rotBy (k : Int) : Int := bits .and .u64 (IntKind.u64.wrap k) 31
def rotl (k x : Int) : Int := rotr (32 - (rotBy k).toNat) x
def rotOk (k : Int) : Bool := decide (1 ≤ rotBy k ∧ rotBy k ≤ 31)
def bxor (a b : Int) : Int := bits .xor .u32 a b
def band (a b : Int) : Int := bits .and .u32 a b
def bor (a b : Int) : Int := bits .or .u32 a b
def add32 (a b : Int) : Int := (a + b) % 4294967296
def kWords : List Int := [1116352408, 1899447441, 3049323471, 3921009573, 961987163, 1508970993, 2453635748, 2870763221, 3624381080, 310598401, 607225278, 1426881987, 1925078388, 2162078206, 2614888103, 3248222580, 3835390401, 4022224774, 264347078, 604807628, 770255983, 1249150122, 1555081692, 1996064986, 2554220882, 2821834349, 2952996808, 3210313671, 3336571891, 3584528711, 113926993, 338241895, 666307205, 773529912, 1294757372, 1396182291, 1695183700, 1986661051, 2177026350, 2456956037, 2730485921, 2820302411, 3259730800, 3345764771, 3516065817, 3600352804, 4094571909, 275423344, 430227734, 506948616, 659060556, 883997877, 958139571, 1322822218, 1537002063, 1747873779, 1955562222, 2024104815, 2227730452, 2361852424, 2428436474, 2756734187, 3204031479, 3329325298]
def hWords : List Int := [1779033703, 3144134277, 1013904242, 2773480762, 1359893119, 2600822924, 528734635, 1541459225]
/-- A row of bytes, of words, as cells. -/
def vB (l : List Int) : Array Value := (l.map (Value.int .u8)).toArray
def vW (l : List Int) : Array Value := (l.map (Value.int .u32)).toArray
theorem vB_size (l : List Int) : (vB l).size = l.length := by simp [vB]
theorem vW_size (l : List Int) : (vW l).size = l.length := by simp [vW]
theorem vB_at (l : List Int) (i : Nat) (h : i < l.length) : (vB l)[i]? = some (.int .u8 (gi l i)) := by
  simp [vB, gi, h]
theorem vW_at (l : List Int) (i : Nat) (h : i < l.length) : (vW l)[i]? = some (.int .u32 (gi l i)) := by
  simp [vW, gi, h]
theorem vW_set (l : List Int) (i : Nat) (x : Int) : (vW l).setIfInBounds i (.int .u32 x) = vW (l.set i x) := by
  simp [vW, List.map_set]
theorem vB_set (l : List Int) (i : Nat) (x : Int) : (vB l).setIfInBounds i (.int .u8 x) = vB (l.set i x) := by
  simp [vB, List.map_set]
def zs (n : Nat) : List Int := List.replicate n 0
theorem zs_length (n : Nat) : (zs n).length = n := by simp [zs]
theorem set_snoc (A : List Int) (n : Nat) (x : Int) : (A ++ zs (n + 1)).set A.length x = (A ++ [x]) ++ zs n := by
  simp [zs, List.replicate_succ]
/-- A block's k-th word. -/
def word4 (a b c d : Int) : Int := bor (bor (bor (a % 4294967296 * 16777216 % 4294967296) (b % 4294967296 * 65536 % 4294967296)) (c % 4294967296 * 256 % 4294967296)) (d % 4294967296)
def wordAt (bl : List Int) (k : Nat) : Int := word4 (gi bl (4 * k)) (gi bl (4 * k + 1)) (gi bl (4 * k + 2)) (gi bl (4 * k + 3))
def words16 (bl : List Int) : Nat → List Int
  | 0 => []
  | k + 1 => words16 bl k ++ [wordAt bl k]
theorem words16_length (bl : List Int) (k : Nat) : (words16 bl k).length = k := by
  induction k with
  | zero => rfl
  | succ k ih => simp [words16, ih]
def mixNear (x : Int) : Int := bxor (bxor (rotl (-17) x) (rotl (-19) x)) (x / 1024)
def mixFar (x : Int) : Int := bxor (bxor (rotl (-7) x) (rotl (-18) x)) (x / 8)
def nextW (l : List Int) (i : Nat) : Int := (mixNear (gi l (i - 2)) + gi l (i - 7) + mixFar (gi l (i - 15)) + gi l (i - 16)) % 4294967296
/-- The schedule's first 16 + k words. -/
def schedTo (bl : List Int) : Nat → List Int
  | 0 => words16 bl 16
  | k + 1 => schedTo bl k ++ [nextW (schedTo bl k) (16 + k)]
theorem schedTo_length (bl : List Int) (k : Nat) : (schedTo bl k).length = 16 + k := by
  induction k with
  | zero => exact words16_length bl 16
  | succ k ih => simp [schedTo, ih]; omega
def sched (bl : List Int) : List Int := schedTo bl 48
theorem sched_length (bl : List Int) : (sched bl).length = 64 := schedTo_length bl 48
/-- The eight words of a round. -/
structure St where
  a : Int
  b : Int
  c : Int
  d : Int
  e : Int
  f : Int
  g : Int
  h : Int
def mixE (x : Int) : Int := bxor (bxor (rotl (-6) x) (rotl (-11) x)) (rotl (-25) x)
def mixA (x : Int) : Int := bxor (bxor (rotl (-2) x) (rotl (-13) x)) (rotl (-22) x)
def choice (e f g : Int) : Int := bxor (band e f) (band (bxor IntKind.u32.max e) g)
def major (a b c : Int) : Int := bxor (bxor (band a b) (band a c)) (band b c)
def firstS (k w : Int) (s : St) : Int := (s.h + mixE s.e + choice s.e s.f s.g + k + w) % 4294967296
def secondS (s : St) : Int := (mixA s.a + major s.a s.b s.c) % 4294967296
def roundS (k w : Int) (s : St) : St := ⟨add32 (firstS k w s) (secondS s), s.a, s.b, s.c, add32 s.d (firstS k w s), s.e, s.f, s.g⟩
def stAt (wl : List Int) (s : St) : Nat → St
  | 0 => s
  | i + 1 => roundS (gi kWords i) (gi wl i) (stAt wl s i)
def stOf (ws : List Int) : St := ⟨gi ws 0, gi ws 1, gi ws 2, gi ws 3, gi ws 4, gi ws 5, gi ws 6, gi ws 7⟩
def turned (ws : List Int) (t : St) : List Int :=
  [add32 (gi ws 0) t.a, add32 (gi ws 1) t.b, add32 (gi ws 2) t.c, add32 (gi ws 3) t.d, add32 (gi ws 4) t.e, add32 (gi ws 5) t.f, add32 (gi ws 6) t.g, add32 (gi ws 7) t.h]
/-- What the words become by one block. -/
def comp (ws bl : List Int) : List Int := turned ws (stAt (sched bl) (stOf ws) 64)
theorem comp_length (ws bl : List Int) : (comp ws bl).length = 8 := rfl
end Go.Proofs.YtnpjknnalekdpaaDoor
namespace Go.Proofs.YtnpjknnalekdpaaDoor
set_option linter.unusedSimpArgs false
set_option linter.unusedVariables false
open Go.RowKit
set_option maxHeartbeats 400000 in
theorem rot_any (x k : Int) (w : World) (hk : rotOk k = true) :
    Calls Tryd.prog 80 #[.int .u32 x, .int .i64 k] w fun e w' => e = .returned (.int .u32 (rotl k x)) ∧ w' = w := by
  have hk' := of_decide_eq_true hk
  obtain ⟨s, hs⟩ : ∃ s : Nat, rotBy k = 32 - (s : Int) := ⟨(32 - rotBy k).toNat, by omega⟩
  have a1 : 0 ≤ 32 - (s : Int) := by omega
  have a2 : 32 - (s : Int) ≤ 31 := by omega
  have hf : rotl k x = bits BinOp.or IntKind.u32 (x * 2 ^ (32 - s) % 4294967296) (x / 2 ^ (32 - (32 - s))) := by
    unfold rotl rotr; rw [show 32 - (rotBy k).toNat = s by omega, show 32 - (32 - s) = s by omega]
  have HF : Hid (rotl k x = bits BinOp.or IntKind.u32 (x * 2 ^ (32 - s) % 4294967296) (x / 2 ^ (32 - (32 - s)))) := hf
  have hb : bits BinOp.and IntKind.u64 (IntKind.u64.wrap k) 31 = 32 - (s : Int) := hs
  clear hf hk' hk hs
  go_enter Tryd.func80, Tryd.ntmps80
  go_wp2
  go_ret
  exact ⟨by rw [HF.out]; rfl, rfl⟩

theorem row_cell {w : World} {g j : Nat} {cs : Array Value} {t : TypeId} {v : Value} (hg : w.heap[g]? = some (.cells cs t)) (h : cs[j]? = some v) : w.cell? ⟨g, j, none⟩ = some v := by
  rw [cell_of_row w g j cs t (0, 0) hg, h]
theorem alloc3_at2 (w : World) (A B C : Obj) : (((w.alloc A).alloc B).alloc C).heap[w.heap.size + 1 + 1]? = some C := by
  have h := heap_alloc_new ((w.alloc A).alloc B) C
  have e : ((w.alloc A).alloc B).heap.size = w.heap.size + 1 + 1 := by simp
  rwa [e] at h
theorem alloc3_at1 (w : World) (A B C : Obj) : (((w.alloc A).alloc B).alloc C).heap[w.heap.size + 1]? = some B := by
  rw [Below.heap_alloc _ _ _ (by simp)]
  exact heap_alloc2_new w A B
theorem alloc3_at0 (w : World) (A B C : Obj) : (((w.alloc A).alloc B).alloc C).heap[w.heap.size]? = some A := by
  rw [Below.heap_alloc _ _ _ (by simp; omega)]
  exact heap_alloc2_old w A B
theorem vW_all (l : List Int) : (vW l).all (·.oneCell') = true := by
  apply all_oneCell_toArray; intro v hv; simp at hv; obtain ⟨x, _, rfl⟩ := hv; rfl
theorem vB_all (l : List Int) : (vB l).all (·.oneCell') = true := by
  apply all_oneCell_toArray; intro v hv; simp at hv; obtain ⟨x, _, rfl⟩ := hv; rfl
section
variable {ops : Array Oper} {rest : List Oper} {o : Oper} {a : Act} {w : World} {Q : Exit → Act → World → Prop}
/-- A whole row of words (type 92: 64 of them; 34: 8) or bytes (24: 32; 35: 64) out of its own block. -/
theorem load44 (hgd : o.guard = none) (x : Operand) (ho : o.op = .load 92 x) (g : Nat) (hx : a.eval x = .pointer (some ⟨g, 0, none⟩)) (l : List Int) (hl : l.length = 64) (t : TypeId) (hg : w.heap[g]? = some (.cells (vW l) t))
    (h : wpList Tryd.prog ops Q rest (a.put o.dst (.agg (vW l))) w) : wpList Tryd.prog ops Q (o :: rest) a w :=
  wpList_load_row hgd 92 x ho g hx t _ (0, 0) _ hg Tryd.underlying92 rfl (by rw [vW_size, hl]; kernel_rfl) h
theorem load35 (hgd : o.guard = none) (x : Operand) (ho : o.op = .load 34 x) (g : Nat) (hx : a.eval x = .pointer (some ⟨g, 0, none⟩)) (l : List Int) (hl : l.length = 8) (t : TypeId) (hg : w.heap[g]? = some (.cells (vW l) t))
    (h : wpList Tryd.prog ops Q rest (a.put o.dst (.agg (vW l))) w) : wpList Tryd.prog ops Q (o :: rest) a w :=
  wpList_load_row hgd 34 x ho g hx t _ (0, 0) _ hg Tryd.underlying34 rfl (by rw [vW_size, hl]; kernel_rfl) h
theorem load24 (hgd : o.guard = none) (x : Operand) (ho : o.op = .load 24 x) (g : Nat) (hx : a.eval x = .pointer (some ⟨g, 0, none⟩)) (l : List Int) (hl : l.length = 32) (t : TypeId) (hg : w.heap[g]? = some (.cells (vB l) t))
    (h : wpList Tryd.prog ops Q rest (a.put o.dst (.agg (vB l))) w) : wpList Tryd.prog ops Q (o :: rest) a w :=
  wpList_load_row hgd 24 x ho g hx t _ (0, 0) _ hg Tryd.underlying24 rfl (by rw [vB_size, hl]; kernel_rfl) h
theorem load36 (hgd : o.guard = none) (x : Operand) (ho : o.op = .load 35 x) (g : Nat) (hx : a.eval x = .pointer (some ⟨g, 0, none⟩)) (l : List Int) (hl : l.length = 64) (t : TypeId) (hg : w.heap[g]? = some (.cells (vB l) t))
    (h : wpList Tryd.prog ops Q rest (a.put o.dst (.agg (vB l))) w) : wpList Tryd.prog ops Q (o :: rest) a w :=
  wpList_load_row hgd 35 x ho g hx t _ (0, 0) _ hg Tryd.underlying35 rfl (by rw [vB_size, hl]; kernel_rfl) h
theorem store44 (hgd : o.guard = none) (x y : Operand) (ho : o.op = .store 92 x y) (g : Nat) (l : List Int) (hx : a.eval x = .pointer (some ⟨g, 0, none⟩)) (hy : a.eval y = .agg (vW l)) (hl : l.length = 64) (t : TypeId) (old : List Int) (hold : old.length = 64) (hg : w.heap[g]? = some (.cells (vW old) t))
    (h : wpList Tryd.prog ops Q rest (a.put o.dst undef) (w.setRow g (vW l))) : wpList Tryd.prog ops Q (o :: rest) a w :=
  wpList_store_row hgd 92 x y ho g _ hx hy t _ hg (by rw [vW_size, hl]; kernel_rfl) (by rw [vW_size, vW_size, hl, hold]) (vW_all l) h
theorem store35 (hgd : o.guard = none) (x y : Operand) (ho : o.op = .store 34 x y) (g : Nat) (l : List Int) (hx : a.eval x = .pointer (some ⟨g, 0, none⟩)) (hy : a.eval y = .agg (vW l)) (hl : l.length = 8) (t : TypeId) (old : List Int) (hold : old.length = 8) (hg : w.heap[g]? = some (.cells (vW old) t))
    (h : wpList Tryd.prog ops Q rest (a.put o.dst undef) (w.setRow g (vW l))) : wpList Tryd.prog ops Q (o :: rest) a w :=
  wpList_store_row hgd 34 x y ho g _ hx hy t _ hg (by rw [vW_size, hl]; kernel_rfl) (by rw [vW_size, vW_size, hl, hold]) (vW_all l) h
theorem store24 (hgd : o.guard = none) (x y : Operand) (ho : o.op = .store 24 x y) (g : Nat) (l : List Int) (hx : a.eval x = .pointer (some ⟨g, 0, none⟩)) (hy : a.eval y = .agg (vB l)) (hl : l.length = 32) (t : TypeId) (old : List Int) (hold : old.length = 32) (hg : w.heap[g]? = some (.cells (vB old) t))
    (h : wpList Tryd.prog ops Q rest (a.put o.dst undef) (w.setRow g (vB l))) : wpList Tryd.prog ops Q (o :: rest) a w :=
  wpList_store_row hgd 24 x y ho g _ hx hy t _ hg (by rw [vB_size, hl]; kernel_rfl) (by rw [vB_size, vB_size, hl, hold]) (vB_all l) h
end
theorem setRow_same {w : World} {g : Nat} {cs cs' : Array Value} {t : TypeId} (hg : w.heap[g]? = some (.cells cs t)) : (w.setRow g cs').heap[g]? = some (.cells cs' t) := setRow_heap w g cs cs' t (0, 0) hg
theorem setRow_far (w : World) (g k : Nat) (cs : Array Value) (h : k ≠ g) : (w.setRow g cs).heap[k]? = w.heap[k]? := setRow_other w g k cs h
theorem below_setRow {B : Nat} {a w : World} (h : Below B a w) {g : Nat} (hp : B ≤ g) (cs : Array Value) : Below B a (w.setRow g cs) :=
  h.trans ⟨rfl, rfl, rfl, by simp, fun k hk => setRow_far _ _ _ _ (by omega)⟩
end Go.Proofs.YtnpjknnalekdpaaDoor
namespace Go.Proofs.YtnpjknnalekdpaaDoor
set_option linter.unusedSimpArgs false
set_option linter.unusedVariables false
open Go.RowKit
set_option maxHeartbeats 2000000 in
theorem sched_any (bl : List Int) (hb : bl.length = 64) (w : World) :
    Calls Tryd.prog 79 #[.agg (vB bl)] w fun e w' => e = .returned (.agg (vW (sched bl))) ∧ Below w.heap.size w w' := by
  have hsz := vB_size bl
  go_enter Tryd.func79, Tryd.ntmps79
  go_wp2
  go_loopw [10] (fun i wr => ∃ k : Nat, k ≤ 16 ∧ i = .int .i64 k ∧ Below w.heap.size w wr ∧ wr.heap.size = w.heap.size + 3 ∧ wr.heap[w.heap.size]? = some (.cells (vB bl) 35) ∧ wr.heap[w.heap.size + 1]? = some (.cells (vW (zs 64)) 92) ∧ wr.heap[w.heap.size + 1 + 1]? = some (.cells (vW (words16 bl k ++ zs (64 - k))) 92)) (fun i _ => 16 - (intOf i).toNat)
  case atStart =>
    exact ⟨0, by omega, rfl, (((Below.refl _ _).alloc (Nat.le_refl _) _).alloc (by simp) _).alloc (by simp; omega) _, by simp, alloc3_at0 _ _ _ _, alloc3_at1 _ _ _ _, alloc3_at2 _ _ _ _⟩
  case round =>
    obtain ⟨k, hk, rfl, hbl, hsize, hb0, hb1, hb2⟩ := hrel
    by_cases hlt : k < 16
    · have hc0 : wr.cell? ⟨w.heap.size, 4 * k, none⟩ = some (.int .u8 (gi bl (4 * k))) := row_cell hb0 (vB_at _ _ (by omega))
      have hc1 : wr.cell? ⟨w.heap.size, 4 * k + 1, none⟩ = some (.int .u8 (gi bl (4 * k + 1))) := row_cell hb0 (vB_at _ _ (by omega))
      have hc2 : wr.cell? ⟨w.heap.size, 4 * k + 2, none⟩ = some (.int .u8 (gi bl (4 * k + 2))) := row_cell hb0 (vB_at _ _ (by omega))
      have hc3 : wr.cell? ⟨w.heap.size, 4 * k + 3, none⟩ = some (.int .u8 (gi bl (4 * k + 3))) := row_cell hb0 (vB_at _ _ (by omega))
      have hcw : wr.cell? ⟨w.heap.size + 1 + 1, k, none⟩ = some (.int .u32 (gi (words16 bl k ++ zs (64 - k)) k)) := row_cell hb2 (vW_at _ _ (by simp [words16_length, zs_length]; omega))
      have hfw : wr.frozen? ⟨w.heap.size + 1 + 1, k, none⟩ = false := frozen_of_row _ _ _ _ _ hb2
      go_wp2
      go_region
      go_wp2
      go_roundw
      case rel =>
        refine ⟨k + 1, by omega, by go_num, (hbl.setCell (by show w.heap.size ≤ w.heap.size + 1 + 1; omega) _).drew, by simpa using hsize, ?_, ?_, ?_⟩
        · rw [heap_drew, heap_setCell_other _ _ _ _ (by simp; omega)]; exact hb0
        · rw [heap_drew, heap_setCell_other _ _ _ _ (by simp)]; exact hb1
        · rw [heap_drew, heap_setCell_same _ _ _ _ _ _ hb2]
          have e := set_snoc (words16 bl k) (64 - (k + 1)) (wordAt bl k)
          rw [words16_length, show 64 - (k + 1) + 1 = 64 - k by omega] at e
          rw [vW_set]
          exact congrArg (fun l => some (Obj.cells (vW l) 92 (0, 0))) e
      case measure => simp [intOf]; omega
    · have e16 : k = 16 := by omega
      have hb2' : wr.heap[w.heap.size + 1 + 1]? = some (.cells (vW (schedTo bl (16 - 16) ++ zs (64 - 16))) 92) := by rw [hb2, e16]; rfl
      clear e16 hb0 hb2
      go_wp2
      go_loopw [5] (fun i wq => ∃ n : Nat, 16 ≤ n ∧ n ≤ 64 ∧ i = .int .i64 n ∧ Below w.heap.size w wq ∧ wq.heap.size = w.heap.size + 3 ∧ wq.heap[w.heap.size + 1]? = some (.cells (vW (zs 64)) 92) ∧ wq.heap[w.heap.size + 1 + 1]? = some (.cells (vW (schedTo bl (n - 16) ++ zs (64 - n))) 92)) (fun i _ => 64 - (intOf i).toNat)
      case atStart => exact ⟨16, by omega, by omega, rfl, hbl, hsize, hb1, hb2'⟩
      case round =>
        clear hb1 hb2' hbl hsize hk hlt
        obtain ⟨n, hn16, hn, rfl, hbl, hsize, hb1, hb2⟩ := hrel
        have hn64 : (schedTo bl (n - 16) ++ zs (64 - n)).length = 64 := by simp [schedTo_length, zs_length]; omega
        have hnl := schedTo_length bl (n - 16)
        by_cases hlt : n < 64
        · have hc : ∀ j, j < n → wr.cell? ⟨w.heap.size + 1 + 1, j, none⟩ = some (.int .u32 (gi (schedTo bl (n - 16)) j)) := fun j hj => by
            rw [row_cell hb2 (vW_at _ _ (by omega))]; rw [gi_append _ _ _ (by omega)]
          have hc2 := hc (n - 2) (by omega)
          have hc15 := hc (n - 15) (by omega)
          have hc7 := hc (n - 7) (by omega)
          have hc16 := hc (n - 16) (by omega)
          have hcn := row_cell hb2 (vW_at _ n (by omega))
          have hfw : wr.frozen? ⟨w.heap.size + 1 + 1, n, none⟩ = false := frozen_of_row _ _ _ _ _ hb2
          clear hc
          go_wp2
          go_quiet (fail)
          go_wp2_with (first | (go_at_call 80; refine (rot_any _ _ _ ?hk).mono ?_; (case hk => decide +kernel); rintro e w' ⟨rfl, rfl⟩))
          go_region
          go_wp2
          go_roundw
          case rel =>
            refine ⟨n + 1, by omega, by omega, by go_num, Below.setCell (below_drewN hbl _) (by show w.heap.size ≤ w.heap.size + 1 + 1; omega) _, by simpa using hsize, ?_, ?_⟩
            · rw [heap_setCell_other _ _ _ _ (by simp)]; exact hb1
            · rw [heap_setCell_same _ _ _ _ _ _ (show (wr.drewN (nq + 1)).heap[w.heap.size + 1 + 1]? = _ from hb2)]
              have e := set_snoc (schedTo bl (n - 16)) (64 - (n + 1)) (nextW (schedTo bl (n - 16)) n)
              rw [hnl, show 64 - (n + 1) + 1 = 64 - n by omega, show 16 + (n - 16) = n by omega] at e
              rw [vW_set]
              rw [show n + 1 - 16 = (n - 16) + 1 by omega]
              show _ = some (Obj.cells (vW ((schedTo bl (n - 16) ++ [nextW (schedTo bl (n - 16)) (16 + (n - 16))]) ++ zs (64 - (n + 1)))) 92 (0, 0))
              rw [show 16 + (n - 16) = n by omega]
              exact congrArg (fun l => some (Obj.cells (vW l) 92 (0, 0))) e
          case measure => simp [intOf]; omega
        · have e64 : n = 64 := by omega
          have hb2' : wr.heap[w.heap.size + 1 + 1]? = some (.cells (vW (sched bl)) 92) := by rw [hb2, e64]; simp [zs, sched]
          clear e64 hb2
          go_wp2_with (first | (refine load44 rfl _ rfl _ rfl (sched bl) (sched_length bl) 92 hb2' ?_) | (refine store44 rfl _ _ rfl _ (sched bl) rfl rfl (sched_length bl) 92 (zs 64) (zs_length 64) hb1 ?_))
          exact bodyPost_ret (v := .agg (vW (sched bl))) (results_cell_row (p := 2) (ty := 92) Tryd.results79 _ _ (w.heap.size + 1) 92 _ (0, 0) _ rfl (setRow_same hb1) Tryd.underlying92 rfl (by rw [vW_size, sched_length]; kernel_rfl)) rfl ⟨rfl, below_setRow hbl (by omega) _⟩
end Go.Proofs.YtnpjknnalekdpaaDoor
namespace Go.Proofs.YtnpjknnalekdpaaDoor
set_option linter.unusedSimpArgs false
set_option linter.unusedVariables false
open Go.RowKit
/-- The two package-level tables lie as the text lays them. -/
structure Laid (w : World) : Prop where
  start : ∀ i, i < 8 → w.cell? ⟨0, i, none⟩ = some (.int .u32 (gi hWords i))
  round : ∀ i, i < 64 → w.cell? ⟨1, i, none⟩ = some (.int .u32 (gi kWords i))
theorem Laid.two {w : World} (h : Laid w) : 2 ≤ w.heap.size := by
  have := block_lt_of_cell (h.round 0 (by omega)); exact this
theorem Laid.below {w w' : World} (h : Laid w) {B : Nat} (hb : Below B w w') (hB : 2 ≤ B) : Laid w' :=
  ⟨fun i hi => by rw [hb.cell (show (0 : Nat) < B by omega)]; exact h.start i hi, fun i hi => by rw [hb.cell (show (1 : Nat) < B by omega)]; exact h.round i hi⟩
set_option maxRecDepth 100000 in
set_option maxHeartbeats 2000000 in
theorem turn_any (ws bl : List Int) (hw : ws.length = 8) (hb : bl.length = 64) (w : World) (hL : Laid w) :
    Calls Tryd.prog 58 #[.agg (vW ws), .agg (vB bl)] w fun e w' => e = .returned (.agg (vW (comp ws bl))) ∧ Below w.heap.size w w' := by
  have hsz := vB_size bl
  have hsw := vW_size ws
  go_enter Tryd.func58, Tryd.ntmps58
  go_wp2_with (first | (refine load36 rfl _ rfl _ rfl bl hb 35 (alloc3_at1 _ _ _ _) ?_))
  have hbw : Below w.heap.size w (((w.alloc (Obj.cells (vW ws) 34)).alloc (Obj.cells (vB bl) 35)).alloc (Obj.cells (vW (zs 8)) 34)) := (((Below.refl _ _).alloc (Nat.le_refl _) _).alloc (by simp) _).alloc (by simp; omega) _
  have hw0 := alloc3_at0 w (Obj.cells (vW ws) 34) (Obj.cells (vB bl) 35) (Obj.cells (vW (zs 8)) 34)
  have hw2 := alloc3_at2 w (Obj.cells (vW ws) 34) (Obj.cells (vB bl) 35) (Obj.cells (vW (zs 8)) 34)
  have hws : (((w.alloc (Obj.cells (vW ws) 34)).alloc (Obj.cells (vB bl) 35)).alloc (Obj.cells (vW (zs 8)) 34)).heap.size = w.heap.size + 3 := by simp
  refine (sched_any bl hb _).mono ?_
  rintro e w1 ⟨rfl, hb1⟩
  replace hb1 : Below (((w.alloc (Obj.cells (vW ws) 34)).alloc (Obj.cells (vB bl) 35)).alloc (Obj.cells (vW (zs 8)) 34)).heap.size (((w.alloc (Obj.cells (vW ws) 34)).alloc (Obj.cells (vB bl) 35)).alloc (Obj.cells (vW (zs 8)) 34)) w1 := hb1
  have f0 : w1.heap[w.heap.size]? = some (Obj.cells (vW ws) 34) := by rw [hb1.block _ (by omega)]; exact hw0
  have f2 : w1.heap[w.heap.size + 1 + 1]? = some (Obj.cells (vW (zs 8)) 34) := by rw [hb1.block _ (by omega)]; exact hw2
  have fs : w.heap.size + 3 ≤ w1.heap.size := by have := hb1.size; omega
  have fb : Below w.heap.size w w1 := hbw.trans (hb1.mono (by omega))
  clear hb1 hws hw2 hw0 hbw
  go_wp2_with (first | (refine store44 rfl _ _ rfl _ (sched bl) rfl rfl (sched_length bl) 92 (zs 64) (zs_length 64) (heap_alloc_new _ _) ?_))
  rw [World.setRow_alloc_new]
  have g0 : (w1.alloc (Obj.cells (vW (sched bl)) 92)).heap[w.heap.size]? = some (Obj.cells (vW ws) 34) := by rw [Below.heap_alloc _ _ _ (by omega)]; exact f0
  have g2 : (w1.alloc (Obj.cells (vW (sched bl)) 92)).heap[w.heap.size + 1 + 1]? = some (Obj.cells (vW (zs 8)) 34) := by rw [Below.heap_alloc _ _ _ (by omega)]; exact f2
  have gS : (w1.alloc (Obj.cells (vW (sched bl)) 92)).heap[w1.heap.size]? = some (Obj.cells (vW (sched bl)) 92) := heap_alloc_new _ _
  have gb : Below w.heap.size w (w1.alloc (Obj.cells (vW (sched bl)) 92)) := fb.alloc (by omega) _
  generalize w1.alloc (Obj.cells (vW (sched bl)) 92) = w2 at *
  generalize w1.heap.size = p at *
  have gL : Laid w2 := hL.below gb hL.two
  clear f0 f2 fb w1
  have hL2 := hL.two
  have c0 := row_cell g0 (vW_at ws 0 (by omega))
  have c1 := row_cell g0 (vW_at ws 1 (by omega))
  have c2 := row_cell g0 (vW_at ws 2 (by omega))
  have c3 := row_cell g0 (vW_at ws 3 (by omega))
  have c4 := row_cell g0 (vW_at ws 4 (by omega))
  have c5 := row_cell g0 (vW_at ws 5 (by omega))
  have c6 := row_cell g0 (vW_at ws 6 (by omega))
  have c7 := row_cell g0 (vW_at ws 7 (by omega))
  go_quiet (fail)
  go_wp2
  go_quiet (fail)
  go_wp2
  go_loopw [6, 7, 8, 9, 10, 11, 12, 13, 39] (fun va vb vc vd ve vf vg vh i wr => ∃ k nq : Nat, k ≤ 64 ∧ i = .int .i64 k ∧ wr = w2.drewN nq ∧ va = .int .u32 (stAt (sched bl) (stOf ws) k).a ∧ vb = .int .u32 (stAt (sched bl) (stOf ws) k).b ∧ vc = .int .u32 (stAt (sched bl) (stOf ws) k).c ∧ vd = .int .u32 (stAt (sched bl) (stOf ws) k).d ∧ ve = .int .u32 (stAt (sched bl) (stOf ws) k).e ∧ vf = .int .u32 (stAt (sched bl) (stOf ws) k).f ∧ vg = .int .u32 (stAt (sched bl) (stOf ws) k).g ∧ vh = .int .u32 (stAt (sched bl) (stOf ws) k).h) (fun _ _ _ _ _ _ _ _ i _ => 64 - (intOf i).toNat)
  case atStart => exact ⟨0, _, by omega, rfl, World.drewN_drewN _ _ _, rfl, rfl, rfl, rfl, rfl, rfl, rfl, rfl⟩
  case round =>
    obtain ⟨k, nr, hk, rfl, rfl, rfl, rfl, rfl, rfl, rfl, rfl, rfl, rfl⟩ := hrel
    generalize hst : stAt (sched bl) (stOf ws) k = s
    by_cases hlt : k < 64
    · have hk1 := gL.round k hlt
      have hs1 := row_cell gS (vW_at (sched bl) k (by rw [sched_length]; exact hlt))
      have HST : Hid (stAt (sched bl) (stOf ws) k = s) := hst
      clear hst
      go_wp2_with (first | (go_at_call 80; refine (rot_any _ _ _ ?hk).mono ?_; (case hk => decide +kernel); rintro e w' ⟨rfl, rfl⟩))
      go_quiet (fail)
      go_wp2_with (first | (go_at_call 80; refine (rot_any _ _ _ ?hk).mono ?_; (case hk => decide +kernel); rintro e w' ⟨rfl, rfl⟩))
      go_roundw
      case rel =>
        have e : stAt (sched bl) (stOf ws) (k + 1) = roundS (gi kWords k) (gi (sched bl) k) s := by rw [← HST.out]; rfl
        refine ⟨k + 1, nr + nq, by omega, by go_num, rfl, ?_⟩
        rw [e]
        exact ⟨rfl, rfl, rfl, rfl, rfl, rfl, rfl, rfl⟩
      case measure => simp [intOf]; omega
    · have ek : k = 64 := by omega
      have HST : Hid (comp ws bl = turned ws s) := by unfold Hid comp; rw [← hst, ek]
      clear hst ek
      go_wp2_with (first | (refine store35 rfl _ _ rfl _ (turned ws s) rfl rfl rfl 34 (zs 8) rfl (show (w2.drewN nr).heap[w.heap.size + 1 + 1]? = _ from g2) ?_))
      exact bodyPost_ret (v := .agg (vW (turned ws s))) (results_cell_row (p := 4) (ty := 34) Tryd.results58 _ _ (w.heap.size + 1 + 1) 34 _ (0, 0) _ rfl (setRow_same (show (w2.drewN nr).heap[w.heap.size + 1 + 1]? = _ from g2)) Tryd.underlying34 rfl (by rw [vW_size]; kernel_rfl)) rfl ⟨by rw [HST.out], below_setRow (below_drewN gb _) (by omega) _⟩
end Go.Proofs.YtnpjknnalekdpaaDoor
namespace Go.Proofs.YtnpjknnalekdpaaDoor
set_option linter.unusedSimpArgs false
set_option linter.unusedVariables false
open Go.RowKit
theorem index35 (ws : List Int) (hw : ws.length = 8) (k : Nat) (hk : k < 8) (w : World) : (Instr.index 34 (.agg (vW ws)) (.int .i64 k)).run Tryd.prog w = .ok (.int .u32 (gi ws k)) w := by
  have hs : (Tryd.prog.info? 33).map (·.size) = some 1 := by kernel_rfl
  have hq := vW_at ws k (by omega)
  have hagg : (isAgg 33).run Tryd.prog w = .ok false w := by
    unfold isAgg; rw [Sem.run_bind, run_underlying Tryd.underlying33 w]; rfl
  cases hi : Tryd.prog.info? 33 with
  | none => simp [hi] at hs
  | some i =>
    have hz : i.size = 1 := by simpa [hi] using hs
    have h8 : 0 ≤ (k : Int) ∧ (k : Int) < ((8 : Nat) : Int) := by omega
    simp [Instr.index, asIntOf, Sem.run_bind, run_underlying Tryd.underlying34 w, part, hagg, sizeOf, typeInfo, hi, hz, hq, hk]
theorem madeB (n : Nat) : madeCells #[.int .u8 0] n = vB (zs n) := by
  apply Array.ext_getElem?
  intro i
  simp [madeCells, vB, zs, List.getElem?_replicate]
  by_cases h : i < n
  · simp [h, Nat.mod_one]
  · simp [h]
theorem makeB (n : Nat) (h : n ≤ 281474976710656) (w : World) : (Instr.makeSlice 22 (.int .i64 n) (.int .i64 n)).run Tryd.prog w = .ok (.slice (some ⟨w.heap.size, 0, none⟩) n n) (w.alloc (.cells (vB (zs n)) 5)) := by
  rw [← madeB]
  exact run_make_row' 22 5 (.int .u8 0) 1 Tryd.underlying22 (by kernel_rfl) rfl .i64 .i64 n (by omega) (by omega) w
end Go.Proofs.YtnpjknnalekdpaaDoor
namespace Go.Proofs.YtnpjknnalekdpaaDoor
set_option linter.unusedSimpArgs false
set_option linter.unusedVariables false
open Go.RowKit
/-- How long the padding behind n bytes is. -/
def padLen (n : Nat) : Nat := 9 + (64 - (n + 9) % 64) % 64
def padTo (n : Nat) : Nat → List Int
  | 0 => (zs (padLen n)).set 0 128
  | k + 1 => (padTo n k).set (padLen n - 1 - k) ((n : Int) * 8 / 2 ^ (8 * k) % 256)
theorem padTo_length (n k : Nat) : (padTo n k).length = padLen n := by
  induction k with
  | zero => simp [padTo, zs_length]
  | succ k ih => simp [padTo, ih]
def padL (n : Nat) : List Int := padTo n 8
set_option maxRecDepth 100000 in
set_option maxHeartbeats 1000000 in
theorem pad_any (n : Nat) (hn : n ≤ 1152921504606846976) (w : World) :
    Calls Tryd.prog 59 #[.int .i64 n] w fun e w' => ∃ g, e = .returned (.slice (some ⟨g, 0, none⟩) (padLen n) (padLen n)) ∧ w.heap.size ≤ g ∧ w'.heap[g]? = some (.cells (vB (padL n)) 5) ∧ Below w.heap.size w w' := by
  have h1 : (1 : Int) + -(((n : Int) + 1 + 8) % 64) % 64 + 8 = ((padLen n : Nat) : Int) := by unfold padLen; omega
  have h2 : 9 ≤ padLen n ∧ padLen n ≤ 72 := by unfold padLen; omega
  obtain ⟨h2, h3⟩ := h2
  have hmk := makeB (padLen n) (by omega)
  have hpl := padTo_length n
  generalize hm : padLen n = m at *
  have HM : Hid (padLen n = m) := hm
  clear hm
  have hz0 := vB_at (zs m) 0 (by rw [zs_length]; omega)
  go_enter Tryd.func59, Tryd.ntmps59
  go_wp2
  go_loopw [24] (fun i wr => ∃ k : Nat, k ≤ 8 ∧ i = .int .i64 k ∧ Below w.heap.size w wr ∧ wr.heap.size = w.heap.size + 1 ∧ wr.heap[w.heap.size]? = some (.cells (vB (padTo n k)) 5)) (fun i _ => 8 - (intOf i).toNat)
  case atStart =>
    refine ⟨0, by omega, rfl, (Below.refl _ _).alloc (Nat.le_refl _) _, by simp, ?_⟩
    rw [heap_alloc_new]
    rw [vB_set]; unfold padTo; rw [HM.out]
  case round =>
    obtain ⟨k, hk, rfl, hbl, hsize, hb0⟩ := hrel
    by_cases hlt : k < 8
    · have hc := row_cell hb0 (vB_at (padTo n k) (m - 1 - k) (by rw [hpl]; omega))
      have hfw : wr.frozen? ⟨w.heap.size, m - 1 - k, none⟩ = false := frozen_of_row _ _ _ _ _ hb0
      go_wp2
      go_roundw
      case rel =>
        refine ⟨k + 1, by omega, by go_num, hbl.setCell (by show w.heap.size ≤ w.heap.size; omega) _, by simpa using hsize, ?_⟩
        rw [heap_setCell_same _ _ _ _ _ _ hb0, vB_set]
        show _ = some (Obj.cells (vB ((padTo n k).set (padLen n - 1 - k) ((n : Int) * 8 / 2 ^ (8 * k) % 256))) 5 (0, 0))
        rw [HM.out]
      case measure => simp [intOf]; omega
    · have ek : k = 8 := by omega
      have hb0' : wr.heap[w.heap.size]? = some (.cells (vB (padL n)) 5) := by rw [hb0, ek]; rfl
      clear ek hb0
      go_wp2
      go_ret
      exact ⟨w.heap.size, rfl, Nat.le_refl _, hb0', hbl⟩
end Go.Proofs.YtnpjknnalekdpaaDoor
namespace Go.Proofs.YtnpjknnalekdpaaDoor
set_option linter.unusedSimpArgs false
set_option linter.unusedVariables false
open Go.RowKit
theorem setB {w : World} {g i : Nat} {l : List Int} {x : Int} {t : TypeId} (hg : w.heap[g]? = some (.cells (vB l) t)) : (w.setCell ⟨g, i, none⟩ (.int .u8 x)).heap[g]? = some (.cells (vB (l.set i x)) t) := by
  rw [heap_setCell_same _ _ _ _ _ _ hg, vB_set]
def outTo (ws : List Int) : Nat → List Int
  | 0 => zs 32
  | k + 1 => ((((outTo ws k).set (4 * k) (gi ws k / 16777216 % 256)).set (4 * k + 1) (gi ws k / 65536 % 256)).set (4 * k + 2) (gi ws k / 256 % 256)).set (4 * k + 3) (gi ws k % 256)
theorem outTo_length (ws : List Int) (k : Nat) : (outTo ws k).length = 32 := by
  induction k with
  | zero => rfl
  | succ k ih => simp [outTo, ih]
def outB (ws : List Int) : List Int := outTo ws 8
set_option maxRecDepth 100000 in
set_option maxHeartbeats 1000000 in
theorem bytes_any (ws : List Int) (hw : ws.length = 8) (w : World) :
    Calls Tryd.prog 60 #[.agg (vW ws)] w fun e w' => e = .returned (.agg (vB (outB ws))) ∧ Below w.heap.size w w' := by
  have hsw := vW_size ws
  go_enter Tryd.func60, Tryd.ntmps60
  go_wp2_with (first | (refine load35 rfl _ rfl _ rfl ws hw 34 (alloc3_at0 _ _ _ _) ?_))
  go_loopw [7] (fun i wr => ∃ k : Nat, k ≤ 8 ∧ i = .int .i64 k ∧ Below w.heap.size w wr ∧ wr.heap.size = w.heap.size + 3 ∧ wr.heap[w.heap.size + 1]? = some (.cells (vB (zs 32)) 24) ∧ wr.heap[w.heap.size + 1 + 1]? = some (.cells (vB (outTo ws k)) 24)) (fun i _ => 8 - (intOf i).toNat)
  case atStart =>
    exact ⟨0, by omega, rfl, (((Below.refl _ _).alloc (Nat.le_refl _) _).alloc (by simp) _).alloc (by simp; omega) _, by simp, alloc3_at1 _ _ _ _, alloc3_at2 _ _ _ _⟩
  case round =>
    obtain ⟨k, hk, rfl, hbl, hsize, hb1, hb2⟩ := hrel
    by_cases hlt : k < 8
    · have hix := index35 ws hw k hlt
      have hl := outTo_length ws k
      have c0 := row_cell hb2 (vB_at (outTo ws k) (4 * k) (by omega))
      have c1 := row_cell hb2 (vB_at (outTo ws k) (4 * k + 1) (by omega))
      have c2 := row_cell hb2 (vB_at (outTo ws k) (4 * k + 2) (by omega))
      have c3 := row_cell hb2 (vB_at (outTo ws k) (4 * k + 3) (by omega))
      have hfw : ∀ j, wr.frozen? ⟨w.heap.size + 1 + 1, j, none⟩ = false := fun j => frozen_of_row _ _ _ _ _ hb2
      go_wp2
      go_roundw
      case rel =>
        have hB : w.heap.size ≤ w.heap.size + 1 + 1 := by omega
        refine ⟨k + 1, by omega, by go_num, (((hbl.setCell hB _).setCell hB _).setCell hB _).setCell hB _, by simpa using hsize, ?_, setB (setB (setB (setB hb2)))⟩
        rw [heap_setCell_other _ _ _ _ (by simp), heap_setCell_other _ _ _ _ (by simp), heap_setCell_other _ _ _ _ (by simp), heap_setCell_other _ _ _ _ (by simp)]
        exact hb1
      case measure => simp [intOf]; omega
    · have ek : k = 8 := by omega
      have hb2' : wr.heap[w.heap.size + 1 + 1]? = some (.cells (vB (outB ws)) 24) := by rw [hb2, ek]; rfl
      clear ek hb2
      go_wp2_with (first | (refine load24 rfl _ rfl _ rfl (outB ws) (outTo_length ws 8) 24 hb2' ?_) | (refine store24 rfl _ _ rfl _ (outB ws) rfl rfl (outTo_length ws 8) 24 (zs 32) rfl hb1 ?_))
      exact bodyPost_ret (v := .agg (vB (outB ws))) (results_cell_row (p := 2) (ty := 24) Tryd.results60 _ _ (w.heap.size + 1) 24 _ (0, 0) _ rfl (setRow_same hb1) Tryd.underlying24 rfl (by rw [vB_size, outB, outTo_length]; kernel_rfl)) rfl ⟨rfl, below_setRow hbl (by omega) _⟩
end Go.Proofs.YtnpjknnalekdpaaDoor
/- What a Hash holds behind the bytes that it took: plain lists. -/
namespace Go.Proofs.YtnpjknnalekdpaaDoor
set_option linter.unusedSimpArgs false
set_option linter.unusedVariables false
open Go
def blockAt (all : List Int) (k : Nat) : List Int := (all.drop (64 * k)).take 64
def wordsTo (all : List Int) : Nat → List Int
  | 0 => hWords
  | k + 1 => comp (wordsTo all k) (blockAt all k)
def wordsOf (all : List Int) : List Int := wordsTo all (all.length / 64)
def remB (all : List Int) : List Int := all.drop (64 * (all.length / 64)) ++ zs (64 - all.length % 64)
theorem wordsTo_length (all : List Int) (k : Nat) : (wordsTo all k).length = 8 := by cases k <;> rfl
theorem wordsOf_length (all : List Int) : (wordsOf all).length = 8 := wordsTo_length _ _
theorem remB_length (all : List Int) : (remB all).length = 64 := by simp [remB, zs_length]; omega
theorem blockAt_append (A x : List Int) (k : Nat) (h : 64 * k + 64 ≤ A.length) : blockAt (A ++ x) k = blockAt A k := by
  unfold blockAt
  rw [List.drop_append_of_le_length (by omega), List.take_append_of_le_length (by simp; omega)]
theorem wordsTo_append (A x : List Int) (k : Nat) (h : 64 * k ≤ A.length) : wordsTo (A ++ x) k = wordsTo A k := by
  induction k with
  | zero => rfl
  | succ k ih => simp only [wordsTo]; rw [ih (by omega), blockAt_append _ _ _ (by omega)]
/-- The block behind x was taken into what there is. -/
def putAt (bl : List Int) (r : Nat) (x : List Int) : List Int := bl.take r ++ x ++ bl.drop (r + x.length)
theorem putAt_length (bl : List Int) (r : Nat) (x : List Int) (h : r + x.length ≤ bl.length) : (putAt bl r x).length = bl.length := by
  simp [putAt]; omega
theorem rem_put (A x : List Int) (h : A.length % 64 + x.length ≤ 64) : putAt (remB A) (A.length % 64) x = A.drop (64 * (A.length / 64)) ++ x ++ zs (64 - (A.length % 64 + x.length)) := by
  unfold putAt remB
  have hl : (A.drop (64 * (A.length / 64))).length = A.length % 64 := by simp; omega
  rw [List.take_left' hl]
  congr 1
  rw [List.drop_append, hl, List.drop_eq_nil_of_le (by omega)]
  rw [List.nil_append]
  unfold zs
  rw [List.drop_replicate]
  rw [show 64 - A.length % 64 - (A.length % 64 + x.length - A.length % 64) = 64 - (A.length % 64 + x.length) by omega]
theorem rem_step (A x : List Int) (h : A.length % 64 + x.length < 64) : remB (A ++ x) = putAt (remB A) (A.length % 64) x := by
  rw [rem_put A x (by omega)]
  unfold remB
  have e1 : (A ++ x).length / 64 = A.length / 64 := by simp; omega
  have e2 : (A ++ x).length % 64 = A.length % 64 + x.length := by simp; omega
  rw [e1, e2, List.drop_append_of_le_length (by omega)]
theorem words_step (A x : List Int) (h : A.length % 64 + x.length < 64) : wordsOf (A ++ x) = wordsOf A := by
  unfold wordsOf
  have e1 : (A ++ x).length / 64 = A.length / 64 := by simp; omega
  rw [e1, wordsTo_append _ _ _ (by omega)]
theorem rem_full (A x : List Int) (h : A.length % 64 + x.length = 64) : remB (A ++ x) = zs 64 := by
  unfold remB
  have e1 : (A ++ x).length / 64 = A.length / 64 + 1 := by simp; omega
  have e2 : (A ++ x).length % 64 = 0 := by simp; omega
  rw [e1, e2, List.drop_eq_nil_of_le (by simp; omega)]; rfl
theorem words_full (A x : List Int) (h : A.length % 64 + x.length = 64) : wordsOf (A ++ x) = comp (wordsOf A) (putAt (remB A) (A.length % 64) x) := by
  rw [rem_put A x (by omega), h]
  unfold wordsOf
  have e1 : (A ++ x).length / 64 = A.length / 64 + 1 := by simp; omega
  rw [e1]
  show comp _ _ = _
  rw [wordsTo_append _ _ _ (by omega)]
  congr 1
  unfold blockAt
  rw [List.drop_append_of_le_length (by omega)]
  rw [List.take_of_length_le (by simp; omega)]
  simp [zs]
end Go.Proofs.YtnpjknnalekdpaaDoor
namespace Go.Proofs.YtnpjknnalekdpaaDoor
set_option linter.unusedSimpArgs false
set_option linter.unusedVariables false
open Go.RowKit
/-- A Hash's cells: eight words, a block, the length. -/
def hObj (ws bl : List Int) (n : Nat) : Array Value := vW ws ++ vB bl ++ #[.int .i64 n]
theorem hObj_size (ws bl : List Int) (n : Nat) (hw : ws.length = 8) (hb : bl.length = 64) : (hObj ws bl n).size = 73 := by
  simp [hObj, vW_size, vB_size, hw, hb]
theorem hObj_w (ws bl : List Int) (n : Nat) (hw : ws.length = 8) (j : Nat) (hj : j < 8) : (hObj ws bl n)[j]? = some (.int .u32 (gi ws j)) := by
  rw [← vW_at ws j (by omega)]; unfold hObj
  rw [Array.append_assoc, Array.getElem?_append_left (by rw [vW_size]; omega)]
theorem hObj_b (ws bl : List Int) (n : Nat) (hw : ws.length = 8) (hb : bl.length = 64) (j : Nat) (hj : j < 64) : (hObj ws bl n)[8 + j]? = some (.int .u8 (gi bl j)) := by
  rw [← vB_at bl j (by omega)]; unfold hObj
  rw [Array.append_assoc, Array.getElem?_append_right (by rw [vW_size]; omega), Array.getElem?_append_left (by rw [vW_size, vB_size]; omega), vW_size, hw, show 8 + j - 8 = j by omega]
theorem hObj_n (ws bl : List Int) (n : Nat) (hw : ws.length = 8) (hb : bl.length = 64) : (hObj ws bl n)[72]? = some (.int .i64 n) := by
  unfold hObj
  rw [Array.getElem?_append_right (by simp [vW_size, vB_size]; omega)]
  simp [vW_size, vB_size, hw, hb]
theorem setCells_block (g : Nat) (t : TypeId) : ∀ (vs : List Value) (o : Nat) (w : World) (cs : Array Value), w.heap[g]? = some (.cells cs t) → o + vs.length ≤ cs.size →
    (w.setCells g o vs).heap[g]? = some (.cells (cs.toList.take o ++ vs ++ cs.toList.drop (o + vs.length)).toArray t)
  | [], o, w, cs, hg, _ => by simpa [World.setCells] using hg
  | v :: r, o, w, cs, hg, hl => by
    have hl' : o + (r.length + 1) ≤ cs.size := by simpa using hl
    have h1 := heap_setCell_same w g o cs t v hg
    have ih := setCells_block g t r (o + 1) (w.setCell ⟨g, o, none⟩ v) _ h1 (by simp; omega)
    rw [World.setCells, ih]
    have e := list_seg_step cs.toList o v r (by simpa using hl')
    congr 3
    simpa [Array.toList_setIfInBounds] using e
theorem setCells_far (g : Nat) : ∀ (vs : List Value) (o : Nat) (w : World) (k : Nat), k ≠ g → (w.setCells g o vs).heap[k]? = w.heap[k]?
  | [], _, _, _, _ => rfl
  | v :: r, o, w, k, h => by rw [World.setCells, setCells_far g r (o + 1) _ k h, heap_setCell_other _ _ _ _ h]
theorem setCells_size (g : Nat) : ∀ (vs : List Value) (o : Nat) (w : World), (w.setCells g o vs).heap.size = w.heap.size
  | [], _, _ => rfl
  | v :: r, o, w => by rw [World.setCells, setCells_size g r (o + 1)]; simp [World.setCell]
theorem setCells_os (g : Nat) : ∀ (vs : List Value) (o : Nat) (w : World), (w.setCells g o vs).os = w.os ∧ (w.setCells g o vs).tape = w.tape ∧ (w.setCells g o vs).output = w.output
  | [], _, _ => ⟨rfl, rfl, rfl⟩
  | v :: r, o, w => by rw [World.setCells]; exact setCells_os g r (o + 1) _
theorem grown_setCells (w : World) (g o : Nat) (vs : List Value) : w.grownBy (w.setCells g o vs) (some g) :=
  ⟨(setCells_os g vs o w).1, (setCells_os g vs o w).2.1, (setCells_os g vs o w).2.2, by rw [setCells_size]; exact Nat.le_refl _, fun k _ h => setCells_far g vs o w k (fun e => h (by rw [e]))⟩
theorem grown_setCell (w : World) (g o : Nat) (v : Value) : w.grownBy (w.setCell ⟨g, o, none⟩ v) (some g) := grown_setCells w g o [v]
theorem grown_trans {a b c : World} {row : Option Nat} (h : a.grownBy b row) (k : b.grownBy c row) : a.grownBy c row :=
  ⟨k.os.trans h.os, k.tape.trans h.tape, k.output.trans h.output, Nat.le_trans h.size k.size, fun i hi hr => (k.block i (Nat.lt_of_lt_of_le hi h.size) hr).trans (h.block i hi hr)⟩
theorem grown_below {a b : World} (h : Below a.heap.size a b) (row : Option Nat) : a.grownBy b row := ⟨h.os, h.tape, h.output, h.size, fun k hk _ => h.block k hk⟩
theorem grown_drewN {a b : World} {row : Option Nat} (h : a.grownBy b row) (n : Nat) : a.grownBy (b.drewN n) row := ⟨h.os, h.tape, h.output, h.size, h.block⟩
theorem grown_laid {a b : World} {g : Nat} (hL : Laid a) (h : a.grownBy b (some g)) (h2 : 2 ≤ g) : Laid b :=
  ⟨fun i hi => by rw [World.cell?_of_block (w := a) (h.block 0 (by have := hL.two; omega) (by simp; omega))]; exact hL.start i hi,
   fun i hi => by rw [World.cell?_of_block (w := a) (h.block 1 (by have := hL.two; omega) (by simp; omega))]; exact hL.round i hi⟩
theorem hObj_list (ws bl : List Int) (n : Nat) : (hObj ws bl n).toList = ws.map (Value.int .u32) ++ (bl.map (Value.int .u8) ++ [.int .i64 n]) := by
  simp [hObj, vW, vB]
theorem hObj_of_list (ws bl : List Int) (n : Nat) : (ws.map (Value.int .u32) ++ (bl.map (Value.int .u8) ++ [Value.int .i64 n])).toArray = hObj ws bl n := by
  rw [← hObj_list]
section
variable {w : World} {hb : Nat} {ws bl : List Int} {n : Nat}
theorem setWords (hh : w.heap[hb]? = some (.cells (hObj ws bl n) 37)) (hws : ws.length = 8) (ws' : List Int) (h' : ws'.length = 8) : (w.setCells hb 0 (vW ws').toList).heap[hb]? = some (.cells (hObj ws' bl n) 37) := by
  rw [setCells_block hb 37 _ 0 w _ hh (by simp [hObj, vW_size, h', hws]), hObj_list, ← hObj_of_list ws' bl n]
  congr 3
  simp [vW, h', hws]
theorem setBlock (hh : w.heap[hb]? = some (.cells (hObj ws bl n) 37)) (hws : ws.length = 8) (hbl : bl.length = 64) (bl' : List Int) (h' : bl'.length = 64) : (w.setCells hb 8 (vB bl').toList).heap[hb]? = some (.cells (hObj ws bl' n) 37) := by
  rw [setCells_block hb 37 _ 8 w _ hh (by simp [hObj, vW_size, vB_size, h', hws, hbl]), hObj_list, ← hObj_of_list ws bl' n]
  congr 3
  simp [vB, h', hws, hbl, List.take_append, List.drop_append]
theorem setPart (hh : w.heap[hb]? = some (.cells (hObj ws bl n) 37)) (hws : ws.length = 8) (hbl : bl.length = 64) (r : Nat) (x : List Int) (h' : r + x.length ≤ 64) : (w.setCells hb (8 + r) (vB x).toList).heap[hb]? = some (.cells (hObj ws (putAt bl r x) n) 37) := by
  rw [setCells_block hb 37 _ (8 + r) w _ hh (by simp [hObj, vW_size, vB_size, hws, hbl]; omega), hObj_list, ← hObj_of_list ws (putAt bl r x) n]
  congr 3
  have lw : (ws.map (Value.int .u32)).length = 8 := by simp [hws]
  have lb : (bl.map (Value.int .u8)).length = 64 := by simp [hbl]
  have lx : (vB x).toList = x.map (Value.int .u8) := by simp [vB]
  have lxl : (x.map (Value.int .u8)).length = x.length := by simp
  rw [lx, lxl, List.take_append, List.drop_append, lw, List.take_of_length_le (by omega), List.drop_eq_nil_of_le (by omega), List.take_append, List.drop_append, lb,
    show 8 + r - 8 = r by omega, show 8 + r + x.length - 8 = r + x.length by omega, show r - 64 = 0 by omega, show r + x.length - 64 = 0 by omega]
  simp [putAt, List.map_take, List.map_drop]
theorem setLen (hh : w.heap[hb]? = some (.cells (hObj ws bl n) 37)) (hws : ws.length = 8) (hbl : bl.length = 64) (m : Nat) : (w.setCell ⟨hb, 72, none⟩ (.int .i64 m)).heap[hb]? = some (.cells (hObj ws bl m) 37) := by
  rw [show w.setCell ⟨hb, 72, none⟩ (.int .i64 m) = w.setCells hb 72 [.int .i64 m] from rfl]
  rw [setCells_block hb 37 _ 72 w _ hh (by simp [hObj, vW_size, vB_size, hws, hbl]), hObj_list, ← hObj_of_list ws bl m]
  congr 3
  have lw : (ws.map (Value.int .u32)).length = 8 := by simp [hws]
  have lb : (bl.map (Value.int .u8)).length = 64 := by simp [hbl]
  rw [List.take_append, List.drop_append, lw, List.take_of_length_le (by omega), List.drop_eq_nil_of_le (by simp; omega), List.take_append, List.drop_append, lb, List.take_of_length_le (by omega), show List.drop (72 + [Value.int IntKind.i64 (m : Int)].length - 8) (List.map (Value.int IntKind.u8) bl) = [] from List.drop_eq_nil_of_le (by simp; omega)]
  simp
end
end Go.Proofs.YtnpjknnalekdpaaDoor
