import Derived.WalkKit
import Derived.Test.YtnpjknnalekdpaaRows
import Derived.WalkSpells
import Derived.WalkLawsBesides
import Derived.BigRegion
import Derived.Deep.MidRow
import Derived.Deep.WholeRow
import Derived.Deep.Light
import Derived.KernelRfl
import Derived.BigQuiet
import Derived.Deep.QuietTactic
import Derived.Deep.OwnRows
import Derived.Deep.RegionHeld3
import Derived.Laws.CopyOwn
/- The hash as a plain Lean function on lists of integers, in the model's own arithmetic. -/
namespace Go.Proofs.Ytnpjknnalekdpaa
set_option linter.unusedSimpArgs false
set_option linter.unusedVariables false
open Go
/-- The element at a place. -/
def gi (l : List Int) (i : Nat) : Int := l.getD i 0
theorem gi_append (a b : List Int) (i : Nat) (h : i < a.length) : gi (a ++ b) i = gi a i := by
  simp [gi, List.getElem?_append, h]
/-- x turned right by n. -/
def rotr (n : Nat) (x : Int) : Int := bits .or .u32 (x * 2 ^ (32 - n) % 4294967296) (x / 2 ^ n)
def rotBy (k : Int) : Int := bits .and .u64 (IntKind.u64.wrap k) 31
def rotl (k x : Int) : Int := rotr (32 - (rotBy k).toNat) x
def bxor (a b : Int) : Int := bits .xor .u32 a b
def band (a b : Int) : Int := bits .and .u32 a b
def bor (a b : Int) : Int := bits .or .u32 a b
def add32 (a b : Int) : Int := (a + b) % 4294967296
def kWords : List Int := [1116352408, 1899447441, 3049323471, 3921009573, 961987163, 1508970993, 2453635748, 2870763221, 3624381080, 310598401, 607225278, 1426881987, 1925078388, 2162078206, 2614888103, 3248222580, 3835390401, 4022224774, 264347078, 604807628, 770255983, 1249150122, 1555081692, 1996064986, 2554220882, 2821834349, 2952996808, 3210313671, 3336571891, 3584528711, 113926993, 338241895, 666307205, 773529912, 1294757372, 1396182291, 1695183700, 1986661051, 2177026350, 2456956037, 2730485921, 2820302411, 3259730800, 3345764771, 3516065817, 3600352804, 4094571909, 275423344, 430227734, 506948616, 659060556, 883997877, 958139571, 1322822218, 1537002063, 1747873779, 1955562222, 2024104815, 2227730452, 2361852424, 2428436474, 2756734187, 3204031479, 3329325298]
def hWords : List Int := [1779033703, 3144134277, 1013904242, 2773480762, 1359893119, 2600822924, 528734635, 1541459225]
/-- A row of bytes, of words, as cells. -/
def vB (l : List Int) : Array Value := (l.map (Value.int .u8)).toArray
def vW (l : List Int) : Array Value := (l.map (Value.int .u32)).toArray
theorem vB_size (l : List Int) : (vB l).size = l.length := by simp [vB]
theorem vW_size (l : List Int) : (vW l).size = l.length := by simp [vW]
theorem vB_at (l : List Int) (i : Nat) (h : i < l.length) : (vB l)[i]? = some (.int .u8 (gi l i)) := by
  simp [vB, gi, h]
theorem vW_at (l : List Int) (i : Nat) (h : i < l.length) : (vW l)[i]? = some (.int .u32 (gi l i)) := by
  simp [vW, gi, h]
theorem vW_set (l : List Int) (i : Nat) (x : Int) : (vW l).setIfInBounds i (.int .u32 x) = vW (l.set i x) := by
  simp [vW, List.map_set]
theorem vB_set (l : List Int) (i : Nat) (x : Int) : (vB l).setIfInBounds i (.int .u8 x) = vB (l.set i x) := by
  simp [vB, List.map_set]
def zs (n : Nat) : List Int := List.replicate n 0
theorem zs_length (n : Nat) : (zs n).length = n := by simp [zs]
theorem set_snoc (A : List Int) (n : Nat) (x : Int) : (A ++ zs (n + 1)).set A.length x = (A ++ [x]) ++ zs n := by
  simp [zs, List.replicate_succ]
/-- A block's k-th word. -/
def word4 (a b c d : Int) : Int := bor (bor (bor (a % 4294967296 * 16777216 % 4294967296) (b % 4294967296 * 65536 % 4294967296)) (c % 4294967296 * 256 % 4294967296)) (d % 4294967296)
def wordAt (bl : List Int) (k : Nat) : Int := word4 (gi bl (4 * k)) (gi bl (4 * k + 1)) (gi bl (4 * k + 2)) (gi bl (4 * k + 3))
def words16 (bl : List Int) : Nat → List Int
  | 0 => []
  | k + 1 => words16 bl k ++ [wordAt bl k]
theorem words16_length (bl : List Int) (k : Nat) : (words16 bl k).length = k := by
  induction k with
  | zero => rfl
  | succ k ih => simp [words16, ih]
def mixNear (x : Int) : Int := bxor (bxor (rotl (-17) x) (rotl (-19) x)) (x / 1024)
def mixFar (x : Int) : Int := bxor (bxor (rotl (-7) x) (rotl (-18) x)) (x / 8)
def nextW (l : List Int) (i : Nat) : Int := (mixNear (gi l (i - 2)) + gi l (i - 7) + mixFar (gi l (i - 15)) + gi l (i - 16)) % 4294967296
/-- The schedule's first 16 + k words. -/
def schedTo (bl : List Int) : Nat → List Int
  | 0 => words16 bl 16
  | k + 1 => schedTo bl k ++ [nextW (schedTo bl k) (16 + k)]
theorem schedTo_length (bl : List Int) (k : Nat) : (schedTo bl k).length = 16 + k := by
  induction k with
  | zero => exact words16_length bl 16
  | succ k ih => simp [schedTo, ih]; omega
def sched (bl : List Int) : List Int := schedTo bl 48
theorem sched_length (bl : List Int) : (sched bl).length = 64 := schedTo_length bl 48
/-- The eight words of a round. -/
structure St where
  a : Int
  b : Int
  c : Int
  d : Int
  e : Int
  f : Int
  g : Int
  h : Int
def mixE (x : Int) : Int := bxor (bxor (rotl (-6) x) (rotl (-11) x)) (rotl (-25) x)
def mixA (x : Int) : Int := bxor (bxor (rotl (-2) x) (rotl (-13) x)) (rotl (-22) x)
def choice (e f g : Int) : Int := bxor (band e f) (band (bxor IntKind.u32.max e) g)
def major (a b c : Int) : Int := bxor (bxor (band a b) (band a c)) (band b c)
def firstS (k w : Int) (s : St) : Int := (s.h + mixE s.e + choice s.e s.f s.g + k + w) % 4294967296
def secondS (s : St) : Int := (mixA s.a + major s.a s.b s.c) % 4294967296
def roundS (k w : Int) (s : St) : St := ⟨add32 (firstS k w s) (secondS s), s.a, s.b, s.c, add32 s.d (firstS k w s), s.e, s.f, s.g⟩
def stAt (wl : List Int) (s : St) : Nat → St
  | 0 => s
  | i + 1 => roundS (gi kWords i) (gi wl i) (stAt wl s i)
def stOf (ws : List Int) : St := ⟨gi ws 0, gi ws 1, gi ws 2, gi ws 3, gi ws 4, gi ws 5, gi ws 6, gi ws 7⟩
def turned (ws : List Int) (t : St) : List Int :=
  [add32 (gi ws 0) t.a, add32 (gi ws 1) t.b, add32 (gi ws 2) t.c, add32 (gi ws 3) t.d, add32 (gi ws 4) t.e, add32 (gi ws 5) t.f, add32 (gi ws 6) t.g, add32 (gi ws 7) t.h]
/-- What the words become by one block. -/
def comp (ws bl : List Int) : List Int := turned ws (stAt (sched bl) (stOf ws) 64)
end Go.Proofs.Ytnpjknnalekdpaa
namespace Go.Proofs.Ytnpjknnalekdpaa
set_option linter.unusedSimpArgs false
set_option linter.unusedVariables false
open Go.RowKit
theorem row_cell {w : World} {g j : Nat} {cs : Array Value} {t : TypeId} {v : Value} (hg : w.heap[g]? = some (.cells cs t)) (h : cs[j]? = some v) : w.cell? ⟨g, j, none⟩ = some v := by
  rw [cell_of_row w g j cs t (0, 0) hg, h]
theorem vW_all (l : List Int) : (vW l).all (·.oneCell') = true := by
  apply all_oneCell_toArray; intro v hv; simp at hv; obtain ⟨x, _, rfl⟩ := hv; rfl
theorem vB_all (l : List Int) : (vB l).all (·.oneCell') = true := by
  apply all_oneCell_toArray; intro v hv; simp at hv; obtain ⟨x, _, rfl⟩ := hv; rfl
section
variable {ops : Array Oper} {rest : List Oper} {o : Oper} {a : Act} {w : World} {Q : Exit → Act → World → Prop}
theorem load35 (hgd : o.guard = none) (x : Operand) (ho : o.op = .load 72 x) (g : Nat) (hx : a.eval x = .pointer (some ⟨g, 0, none⟩)) (l : List Int) (hl : l.length = 8) (t : TypeId) (hg : w.heap[g]? = some (.cells (vW l) t))
    (h : wpList Try.prog ops Q rest (a.put o.dst (.agg (vW l))) w) : wpList Try.prog ops Q (o :: rest) a w :=
  wpList_load_row hgd 72 x ho g hx t _ (0, 0) _ hg Try.underlying72 rfl (by rw [vW_size, hl]; kernel_rfl) h
theorem load24 (hgd : o.guard = none) (x : Operand) (ho : o.op = .load 27 x) (g : Nat) (hx : a.eval x = .pointer (some ⟨g, 0, none⟩)) (l : List Int) (hl : l.length = 32) (t : TypeId) (hg : w.heap[g]? = some (.cells (vB l) t))
    (h : wpList Try.prog ops Q rest (a.put o.dst (.agg (vB l))) w) : wpList Try.prog ops Q (o :: rest) a w :=
  wpList_load_row hgd 27 x ho g hx t _ (0, 0) _ hg Try.underlying27 rfl (by rw [vB_size, hl]; kernel_rfl) h
theorem store44 (hgd : o.guard = none) (x y : Operand) (ho : o.op = .store 73 x y) (g : Nat) (l : List Int) (hx : a.eval x = .pointer (some ⟨g, 0, none⟩)) (hy : a.eval y = .agg (vW l)) (hl : l.length = 64) (t : TypeId) (old : List Int) (hold : old.length = 64) (hg : w.heap[g]? = some (.cells (vW old) t))
    (h : wpList Try.prog ops Q rest (a.put o.dst undef) (w.setRow g (vW l))) : wpList Try.prog ops Q (o :: rest) a w :=
  wpList_store_row hgd 73 x y ho g _ hx hy t _ hg (by rw [vW_size, hl]; kernel_rfl) (by rw [vW_size, vW_size, hl, hold]) (vW_all l) h
theorem store35 (hgd : o.guard = none) (x y : Operand) (ho : o.op = .store 72 x y) (g : Nat) (l : List Int) (hx : a.eval x = .pointer (some ⟨g, 0, none⟩)) (hy : a.eval y = .agg (vW l)) (hl : l.length = 8) (t : TypeId) (old : List Int) (hold : old.length = 8) (hg : w.heap[g]? = some (.cells (vW old) t))
    (h : wpList Try.prog ops Q rest (a.put o.dst undef) (w.setRow g (vW l))) : wpList Try.prog ops Q (o :: rest) a w :=
  wpList_store_row hgd 72 x y ho g _ hx hy t _ hg (by rw [vW_size, hl]; kernel_rfl) (by rw [vW_size, vW_size, hl, hold]) (vW_all l) h
theorem store24 (hgd : o.guard = none) (x y : Operand) (ho : o.op = .store 27 x y) (g : Nat) (l : List Int) (hx : a.eval x = .pointer (some ⟨g, 0, none⟩)) (hy : a.eval y = .agg (vB l)) (hl : l.length = 32) (t : TypeId) (old : List Int) (hold : old.length = 32) (hg : w.heap[g]? = some (.cells (vB old) t))
    (h : wpList Try.prog ops Q rest (a.put o.dst undef) (w.setRow g (vB l))) : wpList Try.prog ops Q (o :: rest) a w :=
  wpList_store_row hgd 27 x y ho g _ hx hy t _ hg (by rw [vB_size, hl]; kernel_rfl) (by rw [vB_size, vB_size, hl, hold]) (vB_all l) h
end
theorem setRow_same {w : World} {g : Nat} {cs cs' : Array Value} {t : TypeId} (hg : w.heap[g]? = some (.cells cs t)) : (w.setRow g cs').heap[g]? = some (.cells cs' t) := setRow_heap w g cs cs' t (0, 0) hg
theorem setRow_far (w : World) (g k : Nat) (cs : Array Value) (h : k ≠ g) : (w.setRow g cs).heap[k]? = w.heap[k]? := setRow_other w g k cs h
theorem below_setRow {B : Nat} {a w : World} (h : Below B a w) {g : Nat} (hp : B ≤ g) (cs : Array Value) : Below B a (w.setRow g cs) :=
  h.trans ⟨rfl, rfl, rfl, by simp, fun k hk => setRow_far _ _ _ _ (by omega)⟩
end Go.Proofs.Ytnpjknnalekdpaa
namespace Go.Proofs.Ytnpjknnalekdpaa
set_option linter.unusedSimpArgs false
set_option linter.unusedVariables false
open Go.RowKit
end Go.Proofs.Ytnpjknnalekdpaa
namespace Go.Proofs.Ytnpjknnalekdpaa
set_option linter.unusedSimpArgs false
set_option linter.unusedVariables false
open Go.RowKit
/-- The two package-level tables lie as the text lays them. -/
structure Laid (w : World) : Prop where
  start : ∀ i, i < 8 → w.cell? ⟨0, i, none⟩ = some (.int .u32 (gi hWords i))
  round : ∀ i, i < 64 → w.cell? ⟨1, i, none⟩ = some (.int .u32 (gi kWords i))
theorem Laid.two {w : World} (h : Laid w) : 2 ≤ w.heap.size := by
  have := block_lt_of_cell (h.round 0 (by omega)); exact this
theorem Laid.below {w w' : World} (h : Laid w) {B : Nat} (hb : Below B w w') (hB : 2 ≤ B) : Laid w' :=
  ⟨fun i hi => by rw [hb.cell (show (0 : Nat) < B by omega)]; exact h.start i hi, fun i hi => by rw [hb.cell (show (1 : Nat) < B by omega)]; exact h.round i hi⟩
end Go.Proofs.Ytnpjknnalekdpaa
namespace Go.Proofs.Ytnpjknnalekdpaa
set_option linter.unusedSimpArgs false
set_option linter.unusedVariables false
open Go.RowKit
theorem madeB (n : Nat) : madeCells #[.int .u8 0] n = vB (zs n) := by
  apply Array.ext_getElem?
  intro i
  simp [madeCells, vB, zs, List.getElem?_replicate]
  by_cases h : i < n
  · simp [h, Nat.mod_one]
  · simp [h]
theorem makeB (n : Nat) (h : n ≤ 281474976710656) (w : World) : (Instr.makeSlice 22 (.int .i64 n) (.int .i64 n)).run Try.prog w = .ok (.slice (some ⟨w.heap.size, 0, none⟩) n n) (w.alloc (.cells (vB (zs n)) 5)) := by
  rw [← madeB]
  exact run_make_row' 22 5 (.int .u8 0) 1 Try.underlying22 (by kernel_rfl) rfl .i64 .i64 n (by omega) (by omega) w
end Go.Proofs.Ytnpjknnalekdpaa
namespace Go.Proofs.Ytnpjknnalekdpaa
set_option linter.unusedSimpArgs false
set_option linter.unusedVariables false
open Go.RowKit
/-- How long the padding behind n bytes is. -/
def padLen (n : Nat) : Nat := 9 + (64 - (n + 9) % 64) % 64
def padTo (n : Nat) : Nat → List Int
  | 0 => (zs (padLen n)).set 0 128
  | k + 1 => (padTo n k).set (padLen n - 1 - k) ((n : Int) * 8 / 2 ^ (8 * k) % 256)
theorem padTo_length (n k : Nat) : (padTo n k).length = padLen n := by
  induction k with
  | zero => simp [padTo, zs_length]
  | succ k ih => simp [padTo, ih]
def padL (n : Nat) : List Int := padTo n 8
end Go.Proofs.Ytnpjknnalekdpaa
namespace Go.Proofs.Ytnpjknnalekdpaa
set_option linter.unusedSimpArgs false
set_option linter.unusedVariables false
open Go.RowKit
theorem setB {w : World} {g i : Nat} {l : List Int} {x : Int} {t : TypeId} (hg : w.heap[g]? = some (.cells (vB l) t)) : (w.setCell ⟨g, i, none⟩ (.int .u8 x)).heap[g]? = some (.cells (vB (l.set i x)) t) := by
  rw [heap_setCell_same _ _ _ _ _ _ hg, vB_set]
def outTo (ws : List Int) : Nat → List Int
  | 0 => zs 32
  | k + 1 => ((((outTo ws k).set (4 * k) (gi ws k / 16777216 % 256)).set (4 * k + 1) (gi ws k / 65536 % 256)).set (4 * k + 2) (gi ws k / 256 % 256)).set (4 * k + 3) (gi ws k % 256)
theorem outTo_length (ws : List Int) (k : Nat) : (outTo ws k).length = 32 := by
  induction k with
  | zero => rfl
  | succ k ih => simp [outTo, ih]
def outB (ws : List Int) : List Int := outTo ws 8
end Go.Proofs.Ytnpjknnalekdpaa
/- What a Hash holds behind the bytes that it took: plain lists. -/
namespace Go.Proofs.Ytnpjknnalekdpaa
set_option linter.unusedSimpArgs false
set_option linter.unusedVariables false
open Go
def blockAt (all : List Int) (k : Nat) : List Int := (all.drop (64 * k)).take 64
def wordsTo (all : List Int) : Nat → List Int
  | 0 => hWords
  | k + 1 => comp (wordsTo all k) (blockAt all k)
def wordsOf (all : List Int) : List Int := wordsTo all (all.length / 64)
theorem wordsTo_length (all : List Int) (k : Nat) : (wordsTo all k).length = 8 := by cases k <;> rfl
theorem wordsOf_length (all : List Int) : (wordsOf all).length = 8 := wordsTo_length _ _
end Go.Proofs.Ytnpjknnalekdpaa
namespace Go.Proofs.Ytnpjknnalekdpaa
set_option linter.unusedSimpArgs false
set_option linter.unusedVariables false
open Go.RowKit
theorem setCells_block (g : Nat) (t : TypeId) : ∀ (vs : List Value) (o : Nat) (w : World) (cs : Array Value), w.heap[g]? = some (.cells cs t) → o + vs.length ≤ cs.size →
    (w.setCells g o vs).heap[g]? = some (.cells (cs.toList.take o ++ vs ++ cs.toList.drop (o + vs.length)).toArray t)
  | [], o, w, cs, hg, _ => by simpa [World.setCells] using hg
  | v :: r, o, w, cs, hg, hl => by
    have hl' : o + (r.length + 1) ≤ cs.size := by simpa using hl
    have h1 := heap_setCell_same w g o cs t v hg
    have ih := setCells_block g t r (o + 1) (w.setCell ⟨g, o, none⟩ v) _ h1 (by simp; omega)
    rw [World.setCells, ih]
    have e := list_seg_step cs.toList o v r (by simpa using hl')
    congr 3
    simpa [Array.toList_setIfInBounds] using e
theorem setCells_far (g : Nat) : ∀ (vs : List Value) (o : Nat) (w : World) (k : Nat), k ≠ g → (w.setCells g o vs).heap[k]? = w.heap[k]?
  | [], _, _, _, _ => rfl
  | v :: r, o, w, k, h => by rw [World.setCells, setCells_far g r (o + 1) _ k h, heap_setCell_other _ _ _ _ h]
theorem setCells_size (g : Nat) : ∀ (vs : List Value) (o : Nat) (w : World), (w.setCells g o vs).heap.size = w.heap.size
  | [], _, _ => rfl
  | v :: r, o, w => by rw [World.setCells, setCells_size g r (o + 1)]; simp [World.setCell]
theorem setCells_os (g : Nat) : ∀ (vs : List Value) (o : Nat) (w : World), (w.setCells g o vs).os = w.os ∧ (w.setCells g o vs).tape = w.tape ∧ (w.setCells g o vs).output = w.output
  | [], _, _ => ⟨rfl, rfl, rfl⟩
  | v :: r, o, w => by rw [World.setCells]; exact setCells_os g r (o + 1) _
theorem grown_setCells (w : World) (g o : Nat) (vs : List Value) : w.grownBy (w.setCells g o vs) (some g) :=
  ⟨(setCells_os g vs o w).1, (setCells_os g vs o w).2.1, (setCells_os g vs o w).2.2, by rw [setCells_size]; exact Nat.le_refl _, fun k _ h => setCells_far g vs o w k (fun e => h (by rw [e]))⟩
theorem grown_setCell (w : World) (g o : Nat) (v : Value) : w.grownBy (w.setCell ⟨g, o, none⟩ v) (some g) := grown_setCells w g o [v]
theorem grown_trans {a b c : World} {row : Option Nat} (h : a.grownBy b row) (k : b.grownBy c row) : a.grownBy c row :=
  ⟨k.os.trans h.os, k.tape.trans h.tape, k.output.trans h.output, Nat.le_trans h.size k.size, fun i hi hr => (k.block i (Nat.lt_of_lt_of_le hi h.size) hr).trans (h.block i hi hr)⟩
theorem grown_below {a b : World} (h : Below a.heap.size a b) (row : Option Nat) : a.grownBy b row := ⟨h.os, h.tape, h.output, h.size, fun k hk _ => h.block k hk⟩
theorem grown_drewN {a b : World} {row : Option Nat} (h : a.grownBy b row) (n : Nat) : a.grownBy (b.drewN n) row := ⟨h.os, h.tape, h.output, h.size, h.block⟩
section
variable {w : World} {hb : Nat} {ws bl : List Int} {n : Nat}
end
end Go.Proofs.Ytnpjknnalekdpaa
