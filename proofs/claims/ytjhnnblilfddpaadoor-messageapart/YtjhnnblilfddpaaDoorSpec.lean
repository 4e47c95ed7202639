/- The hash as a plain Lean function on lists of integers, in the model's own arithmetic. -/
import Derived.WalkKit
namespace Go.Proofs.YtjhnnblilfddpaaDoor
set_option linter.unusedSimpArgs false
set_option linter.unusedVariables false
open Go
/-- The element at a place. -/
def gi (l : List Int) (i : Nat) : Int := l.getD i 0
theorem gi_append (a b : List Int) (i : Nat) (h : i < a.length) : gi (a ++ b) i = gi a i := by
  simp [gi, List.getElem?_append, h]
/-- x turned right by n. -/
def rotr (n : Nat) (x : Int) : Int := bits .or .u32 (x * 2 ^ (32 - n) % 4294967296) (x / 2 ^ n)
def rotBy (k : Int) : Int := bits .and .u64 (IntKind.u64.wrap k) 31
def rotl (k x : Int) : Int := rotr (32 - (rotBy k).toNat) x
def rotOk (k : Int) : Bool := decide (1 ≤ rotBy k ∧ rotBy k ≤ 31)
def bxor (a b : Int) : Int := bits .xor .u32 a b
def band (a b : Int) : Int := bits .and .u32 a b
def bor (a b : Int) : Int := bits .or .u32 a b
def add32 (a b : Int) : Int := (a + b) % 4294967296
def kWords : List Int := [1116352408, 1899447441, 3049323471, 3921009573, 961987163, 1508970993, 2453635748, 2870763221, 3624381080, 310598401, 607225278, 1426881987, 1925078388, 2162078206, 2614888103, 3248222580, 3835390401, 4022224774, 264347078, 604807628, 770255983, 1249150122, 1555081692, 1996064986, 2554220882, 2821834349, 2952996808, 3210313671, 3336571891, 3584528711, 113926993, 338241895, 666307205, 773529912, 1294757372, 1396182291, 1695183700, 1986661051, 2177026350, 2456956037, 2730485921, 2820302411, 3259730800, 3345764771, 3516065817, 3600352804, 4094571909, 275423344, 430227734, 506948616, 659060556, 883997877, 958139571, 1322822218, 1537002063, 1747873779, 1955562222, 2024104815, 2227730452, 2361852424, 2428436474, 2756734187, 3204031479, 3329325298]
def hWords : List Int := [1779033703, 3144134277, 1013904242, 2773480762, 1359893119, 2600822924, 528734635, 1541459225]
/-- A row of bytes, of words, as cells. -/
def vB (l : List Int) : Array Value := (l.map (Value.int .u8)).toArray
def vW (l : List Int) : Array Value := (l.map (Value.int .u32)).toArray
theorem vB_size (l : List Int) : (vB l).size = l.length := by simp [vB]
theorem vW_size (l : List Int) : (vW l).size = l.length := by simp [vW]
theorem vB_at (l : List Int) (i : Nat) (h : i < l.length) : (vB l)[i]? = some (.int .u8 (gi l i)) := by
  simp [vB, gi, h]
theorem vW_at (l : List Int) (i : Nat) (h : i < l.length) : (vW l)[i]? = some (.int .u32 (gi l i)) := by
  simp [vW, gi, h]
theorem vW_set (l : List Int) (i : Nat) (x : Int) : (vW l).setIfInBounds i (.int .u32 x) = vW (l.set i x) := by
  simp [vW, List.map_set]
theorem vB_set (l : List Int) (i : Nat) (x : Int) : (vB l).setIfInBounds i (.int .u8 x) = vB (l.set i x) := by
  simp [vB, List.map_set]
def zs (n : Nat) : List Int := List.replicate n 0
theorem zs_length (n : Nat) : (zs n).length = n := by simp [zs]
theorem set_snoc (A : List Int) (n : Nat) (x : Int) : (A ++ zs (n + 1)).set A.length x = (A ++ [x]) ++ zs n := by
  simp [zs, List.replicate_succ]
/-- A block's k-th word. -/
def word4 (a b c d : Int) : Int := bor (bor (bor (a % 4294967296 * 16777216 % 4294967296) (b % 4294967296 * 65536 % 4294967296)) (c % 4294967296 * 256 % 4294967296)) (d % 4294967296)
def wordAt (bl : List Int) (k : Nat) : Int := word4 (gi bl (4 * k)) (gi bl (4 * k + 1)) (gi bl (4 * k + 2)) (gi bl (4 * k + 3))
def words16 (bl : List Int) : Nat → List Int
  | 0 => []
  | k + 1 => words16 bl k ++ [wordAt bl k]
theorem words16_length (bl : List Int) (k : Nat) : (words16 bl k).length = k := by
  induction k with
  | zero => rfl
  | succ k ih => simp [words16, ih]
def mixNear (x : Int) : Int := bxor (bxor (rotl (-17) x) (rotl (-19) x)) (x / 1024)
def mixFar (x : Int) : Int := bxor (bxor (rotl (-7) x) (rotl (-18) x)) (x / 8)
def nextW (l : List Int) (i : Nat) : Int := (mixNear (gi l (i - 2)) + gi l (i - 7) + mixFar (gi l (i - 15)) + gi l (i - 16)) % 4294967296
/-- The schedule's first 16 + k words. -/
def schedTo (bl : List Int) : Nat → List Int
  | 0 => words16 bl 16
  | k + 1 => schedTo bl k ++ [nextW (schedTo bl k) (16 + k)]
theorem schedTo_length (bl : List Int) (k : Nat) : (schedTo bl k).length = 16 + k := by
  induction k with
  | zero => exact words16_length bl 16
  | succ k ih => simp [schedTo, ih]; omega
def sched (bl : List Int) : List Int := schedTo bl 48
theorem sched_length (bl : List Int) : (sched bl).length = 64 := schedTo_length bl 48
/-- The eight words of a round. -/
structure St where
  a : Int
  b : Int
  c : Int
  d : Int
  e : Int
  f : Int
  g : Int
  h : Int
def mixE (x : Int) : Int := bxor (bxor (rotl (-6) x) (rotl (-11) x)) (rotl (-25) x)
def mixA (x : Int) : Int := bxor (bxor (rotl (-2) x) (rotl (-13) x)) (rotl (-22) x)
def choice (e f g : Int) : Int := bxor (band e f) (band (bxor IntKind.u32.max e) g)
def major (a b c : Int) : Int := bxor (bxor (band a b) (band a c)) (band b c)
def firstS (k w : Int) (s : St) : Int := (s.h + mixE s.e + choice s.e s.f s.g + k + w) % 4294967296
def secondS (s : St) : Int := (mixA s.a + major s.a s.b s.c) % 4294967296
def roundS (k w : Int) (s : St) : St := ⟨add32 (firstS k w s) (secondS s), s.a, s.b, s.c, add32 s.d (firstS k w s), s.e, s.f, s.g⟩
def stAt (wl : List Int) (s : St) : Nat → St
  | 0 => s
  | i + 1 => roundS (gi kWords i) (gi wl i) (stAt wl s i)
def stOf (ws : List Int) : St := ⟨gi ws 0, gi ws 1, gi ws 2, gi ws 3, gi ws 4, gi ws 5, gi ws 6, gi ws 7⟩
def turned (ws : List Int) (t : St) : List Int :=
  [add32 (gi ws 0) t.a, add32 (gi ws 1) t.b, add32 (gi ws 2) t.c, add32 (gi ws 3) t.d, add32 (gi ws 4) t.e, add32 (gi ws 5) t.f, add32 (gi ws 6) t.g, add32 (gi ws 7) t.h]
/-- What the words become by one block. -/
def comp (ws bl : List Int) : List Int := turned ws (stAt (sched bl) (stOf ws) 64)
theorem comp_length (ws bl : List Int) : (comp ws bl).length = 8 := rfl
end Go.Proofs.YtjhnnblilfddpaaDoor
