/- Plain mathematics of digests: words of 32 bits, a block's words, its rounds, what is processed. Nothing of the program. -/
import Derived.Test.YtpbogdfgomfpjaaDoorMath
import Derived.Deep.QuietTactic
namespace Go.Proofs.YtpbogdfgomfpjaaDoor
open Go.RowKit

/-- A word as the number that a cell holds. -/
def wz (x : UInt32) : Int := (x.toNat : Int)
theorem wz_range (x : UInt32) : 0 ≤ wz x ∧ wz x ≤ 4294967295 := by
  unfold wz
  have := x.toNat_lt
  omega
theorem wz_mod (x : UInt32) : wz x % 4294967296 = wz x := by
  have := wz_range x
  omega
theorem wz_add (x y : UInt32) : IntKind.u32.wrap (wz x + wz y) = wz (x + y) := by
  unfold wz
  rw [IntKind.wrap_u32', UInt32.toNat_add]
  omega
theorem wz_add' (x y : UInt32) : (wz x + wz y) % 4294967296 = wz (x + y) := by rw [← wz_add, IntKind.wrap_u32']
theorem wz_xor (x y : UInt32) : bits .xor .u32 (wz x) (wz y) = wz (x ^^^ y) := by
  unfold wz
  rw [u32_xor_nat _ _ x.toNat_lt y.toNat_lt, UInt32.toNat_xor]
theorem wz_and (x y : UInt32) : bits .and .u32 (wz x) (wz y) = wz (x &&& y) := by
  unfold wz
  rw [u32_and_nat _ _ x.toNat_lt y.toNat_lt, UInt32.toNat_and]
theorem wz_or (x y : UInt32) : bits .or .u32 (wz x) (wz y) = wz (x ||| y) := by
  unfold wz
  rw [u32_or_nat _ _ x.toNat_lt y.toNat_lt, UInt32.toNat_or]
theorem wz_not (x : UInt32) : 4294967295 - wz x = wz (~~~ x) := by
  unfold wz
  have h : (~~~ x).toNat = 4294967295 - x.toNat := by simp
  rw [h]
  have := x.toNat_lt
  omega
theorem wz_andNot (x y : UInt32) : bits .andNot .u32 (wz x) (wz y) = wz (x &&& ~~~ y) := by
  unfold wz
  rw [u32_andNot_nat _ _ x.toNat_lt y.toNat_lt, UInt32.toNat_and]
  have h : (~~~ y).toNat = 4294967295 - y.toNat := by simp
  rw [h]
theorem wz_shr (x : UInt32) (k : Nat) (hk : k < 32) : wz x / 2 ^ k = wz (x >>> UInt32.ofNat k) := by
  unfold wz
  rw [UInt32.toNat_shiftRight, Nat.shiftRight_eq_div_pow]
  have : (UInt32.ofNat k).toNat % 32 = k := by simp; omega
  rw [this, Int.natCast_ediv, Int.natCast_pow]
  rfl
theorem wz_shl (x : UInt32) (k : Nat) (hk : k < 32) : IntKind.u32.wrap (wz x * 2 ^ k) = wz (x <<< UInt32.ofNat k) := by
  unfold wz
  rw [IntKind.wrap_u32', UInt32.toNat_shiftLeft, Nat.shiftLeft_eq]
  have : (UInt32.ofNat k).toNat % 32 = k := by simp; omega
  rw [this, Int.natCast_emod, Int.natCast_mul, Int.natCast_pow]
  rfl
theorem wz_shl' (x : UInt32) (k : Nat) (hk : k < 32) : wz x * 2 ^ k % 4294967296 = wz (x <<< UInt32.ofNat k) := by rw [← wz_shl x k hk, IntKind.wrap_u32']
theorem wz_inj {x y : UInt32} (h : wz x = wz y) : x = y := by
  unfold wz at h
  exact UInt32.toNat_inj.1 (by omega)
/-- A number below 2^32 is some word's. -/
theorem wz_of {z : Int} (h0 : 0 ≤ z) (h1 : z ≤ 4294967295) : z = wz (UInt32.ofNat z.toNat) := by
  unfold wz
  have : (UInt32.ofNat z.toNat).toNat = z.toNat := by simp; omega
  rw [this]
  omega

def rotr (x : UInt32) (k : Nat) : UInt32 := x >>> UInt32.ofNat k ||| x <<< UInt32.ofNat (32 - k)
theorem wz_rotr (x : UInt32) (k : Nat) (h0 : 0 < k) (hk : k < 32) : bits .or .u32 (wz x / 2 ^ k) (wz x * 2 ^ (32 - k) % 4294967296) = wz (rotr x k) := by
  rw [wz_shr x k hk, wz_shl' x (32 - k) (by omega), wz_or]
  rfl
def sg0 (x : UInt32) : UInt32 := rotr x 7 ^^^ rotr x 18 ^^^ x >>> 3
def sg1 (x : UInt32) : UInt32 := rotr x 17 ^^^ rotr x 19 ^^^ x >>> 10
def bg0 (x : UInt32) : UInt32 := rotr x 2 ^^^ rotr x 13 ^^^ rotr x 22
def bg1 (x : UInt32) : UInt32 := rotr x 6 ^^^ rotr x 11 ^^^ rotr x 25
def chz (e f g : UInt32) : UInt32 := e &&& f ^^^ ~~~ e &&& g
def maj (a b c : UInt32) : UInt32 := a &&& b ^^^ a &&& c ^^^ b &&& c

def shaK : List UInt32 := [1116352408, 1899447441, 3049323471, 3921009573, 961987163, 1508970993, 2453635748, 2870763221, 3624381080, 310598401, 607225278, 1426881987, 1925078388, 2162078206, 2614888103, 3248222580, 3835390401, 4022224774, 264347078, 604807628, 770255983, 1249150122, 1555081692, 1996064986, 2554220882, 2821834349, 2952996808, 3210313671, 3336571891, 3584528711, 113926993, 338241895, 666307205, 773529912, 1294757372, 1396182291, 1695183700, 1986661051, 2177026350, 2456956037, 2730485921, 2820302411, 3259730800, 3345764771, 3516065817, 3600352804, 4094571909, 275423344, 430227734, 506948616, 659060556, 883997877, 958139571, 1322822218, 1537002063, 1747873779, 1955562222, 2024104815, 2227730452, 2361852424, 2428436474, 2756734187, 3204031479, 3329325298]

theorem wz_sum4 (a b c d : UInt32) : (wz a + wz b + wz c + wz d) % 4294967296 = wz (a + b + c + d) := by
  have h1 := wz_add' a b
  have h2 := wz_add' (a + b) c
  have h3 := wz_add' (a + b + c) d
  omega
theorem wz_sg0 (x : UInt32) : bits .xor .u32 (bits .xor .u32 (wz (rotr x 7)) (wz (rotr x 18))) (wz x / 8) = wz (sg0 x) := by
  have := wz_shr x 3 (by omega)
  rw [show (8 : Int) = 2 ^ 3 from rfl, this, wz_xor, wz_xor]
  rfl
theorem wz_sg1 (x : UInt32) : bits .xor .u32 (bits .xor .u32 (wz (rotr x 17)) (wz (rotr x 19))) (wz x / 1024) = wz (sg1 x) := by
  have := wz_shr x 10 (by omega)
  rw [show (1024 : Int) = 2 ^ 10 from rfl, this, wz_xor, wz_xor]
  rfl
/-- Four bytes as a word, the first the greatest. -/
def wordB (b : List UInt8) (i : Nat) : UInt32 := UInt32.ofNat (16777216 * (b.getD (4 * i) 0).toNat + 65536 * (b.getD (4 * i + 1) 0).toNat + 256 * (b.getD (4 * i + 2) 0).toNat + (b.getD (4 * i + 3) 0).toNat)
theorem wordB_or {b : List UInt8} {k B0 B1 B2 B3 : Nat} (e0 : B0 = (b.getD (4 * k) 0).toNat) (e1 : B1 = (b.getD (4 * k + 1) 0).toNat) (e2 : B2 = (b.getD (4 * k + 2) 0).toNat) (e3 : B3 = (b.getD (4 * k + 3) 0).toNat) :
    bits .or .u32 (bits .or .u32 (bits .or .u32 ((B0 : Int) * 16777216) ((B1 : Int) * 65536)) ((B2 : Int) * 256)) (B3 : Int) = wz (wordB b k) := by
  have h0 := (b.getD (4 * k) 0).toNat_lt
  have h1 := (b.getD (4 * k + 1) 0).toNat_lt
  have h2 := (b.getD (4 * k + 2) 0).toNat_lt
  have h3 := (b.getD (4 * k + 3) 0).toNat_lt
  unfold wordB
  rw [← e0] at h0 ⊢
  rw [← e1] at h1 ⊢
  rw [← e2] at h2 ⊢
  rw [← e3] at h3 ⊢
  rw [show (B0 : Int) * 16777216 = ((16777216 * B0 : Nat) : Int) by omega, show (B1 : Int) * 65536 = ((65536 * B1 : Nat) : Int) by omega, show (B2 : Int) * 256 = ((256 * B2 : Nat) : Int) by omega]
  rw [u32_or_nat _ _ (by omega) (by omega), nat_join 24 (16777216 * B0) (65536 * B1) (by omega) (by omega)]
  rw [u32_or_nat _ _ (by omega) (by omega), nat_join 16 _ (256 * B2) (by omega) (by omega)]
  rw [u32_or_nat _ _ (by omega) (by omega), nat_join 8 _ B3 (by omega) (by omega)]
  unfold wz
  have e : (UInt32.ofNat (16777216 * B0 + 65536 * B1 + 256 * B2 + B3)).toNat = 16777216 * B0 + 65536 * B1 + 256 * B2 + B3 := by simp; omega
  rw [e]
/-- The words of a block. -/
def shaW (b : List UInt8) (i : Nat) : UInt32 := if i < 16 then wordB b i else shaW b (i - 16) + sg0 (shaW b (i - 15)) + shaW b (i - 7) + sg1 (shaW b (i - 2))
decreasing_by all_goals omega
theorem shaW_first {b : List UInt8} {i : Nat} (h : i < 16) : shaW b i = wordB b i := by rw [shaW, if_pos h]
theorem shaW_next {b : List UInt8} {i : Nat} (h : 16 ≤ i) : shaW b i = shaW b (i - 16) + sg0 (shaW b (i - 15)) + shaW b (i - 7) + sg1 (shaW b (i - 2)) := by rw [shaW, if_neg (by omega)]

theorem wz_bg0 (x : UInt32) : bits .xor .u32 (bits .xor .u32 (wz (rotr x 2)) (wz (rotr x 13))) (wz (rotr x 22)) = wz (bg0 x) := by rw [wz_xor, wz_xor]; rfl
theorem wz_bg1 (x : UInt32) : bits .xor .u32 (bits .xor .u32 (wz (rotr x 6)) (wz (rotr x 11))) (wz (rotr x 25)) = wz (bg1 x) := by rw [wz_xor, wz_xor]; rfl
theorem wz_maj (a b c : UInt32) : bits .xor .u32 (bits .xor .u32 (bits .and .u32 (wz a) (wz b)) (bits .and .u32 (wz a) (wz c))) (bits .and .u32 (wz b) (wz c)) = wz (maj a b c) := by rw [wz_and, wz_and, wz_and, wz_xor, wz_xor]; rfl
theorem xor_ones32 (a : Nat) (h : a < 4294967296) : 4294967295 ^^^ a = 4294967295 - a := by
  have e := congrArg BitVec.toNat (BitVec.xor_allOnes (x := BitVec.ofNat 32 a))
  rw [BitVec.toNat_xor, BitVec.toNat_not, BitVec.toNat_ofNat, BitVec.toNat_allOnes] at e
  simp only [Nat.reducePow, Nat.reduceSub] at e
  rw [Nat.mod_eq_of_lt h] at e
  rw [Nat.xor_comm]
  exact e
theorem wz_compl (x : UInt32) : bits .xor .u32 (if IntKind.u32.signed = true then -1 else IntKind.u32.max) (wz x) = wz (~~~ x) := by
  have e : (if IntKind.u32.signed = true then -1 else IntKind.u32.max) = ((4294967295 : Nat) : Int) := by decide
  rw [e, ← wz_not]
  unfold wz
  rw [u32_xor_nat _ _ (by omega) x.toNat_lt, xor_ones32 _ x.toNat_lt]
  have := x.toNat_lt
  omega
theorem wz_chz (e f g : UInt32) : bits .xor .u32 (bits .and .u32 (wz e) (wz f)) (bits .and .u32 (bits .xor .u32 (if IntKind.u32.signed = true then -1 else IntKind.u32.max) (wz e)) (wz g)) = wz (chz e f g) := by
  rw [wz_compl, wz_and, wz_and, wz_xor]
  rfl
theorem wz_sum5 (a b c d e : UInt32) : ((wz a + wz b + wz c + wz d) % 4294967296 + wz e) % 4294967296 = wz (a + b + c + d + e) := by
  rw [wz_sum4, wz_add']
structure Sha where
  a : UInt32
  b : UInt32
  c : UInt32
  d : UInt32
  e : UInt32
  f : UInt32
  g : UInt32
  h : UInt32
def Sha.words (s : Sha) : List UInt32 := [s.a, s.b, s.c, s.d, s.e, s.f, s.g, s.h]
def shaT1 (s : Sha) (k w : UInt32) : UInt32 := s.h + bg1 s.e + chz s.e s.f s.g + k + w
def shaT2 (s : Sha) : UInt32 := bg0 s.a + maj s.a s.b s.c
def shaStep (s : Sha) (k w : UInt32) : Sha := ⟨shaT1 s k w + shaT2 s, s.a, s.b, s.c, s.d + shaT1 s k w, s.e, s.f, s.g⟩
/-- The state behind so many rounds of a block. -/
def shaRun (b : List UInt8) (s : Sha) : Nat → Sha
  | 0 => s
  | i + 1 => shaStep (shaRun b s i) (shaK.getD i 0) (shaW b i)
theorem shaRun_next (b : List UInt8) (s : Sha) (i : Nat) : shaRun b s (i + 1) = shaStep (shaRun b s i) (shaK.getD i 0) (shaW b i) := rfl
def Sha.add (s t : Sha) : Sha := ⟨s.a + t.a, s.b + t.b, s.c + t.c, s.d + t.d, s.e + t.e, s.f + t.f, s.g + t.g, s.h + t.h⟩
def shaBlock (s : Sha) (b : List UInt8) : Sha := s.add (shaRun b s 64)
def shaInit : Sha := ⟨1779033703, 3144134277, 1013904242, 2773480762, 1359893119, 2600822924, 528734635, 1541459225⟩
/-- The state behind so many blocks. -/
def shaMany (l : List UInt8) : Nat → Sha
  | 0 => shaInit
  | k + 1 => shaBlock (shaMany l k) ((l.drop (64 * k)).take 64)
/-- How many zero bytes there are. -/
def padZ (n : Nat) : Nat := (119 - n % 64) % 64
/-- The eight bytes of a number, the greatest first. -/
def eightL (n : Nat) : List UInt8 := [UInt8.ofNat (n / 2 ^ 56 % 256), UInt8.ofNat (n / 2 ^ 48 % 256), UInt8.ofNat (n / 2 ^ 40 % 256), UInt8.ofNat (n / 2 ^ 32 % 256), UInt8.ofNat (n / 2 ^ 24 % 256), UInt8.ofNat (n / 2 ^ 16 % 256), UInt8.ofNat (n / 2 ^ 8 % 256), UInt8.ofNat (n % 256)]
def padded (s : ByteArray) : List UInt8 := s.data.toList ++ [128] ++ List.replicate (padZ s.size) 0 ++ eightL (8 * s.size)
theorem padZ_ok (n : Nat) : (n + 1 + padZ n) % 64 = 56 ∧ padZ n < 64 := by unfold padZ; omega
theorem padZ_first {n k : Nat} (hk : k ≤ padZ n) (h : (n + 1 + k) % 64 = 56) : k = padZ n := by unfold padZ at *; omega
theorem padded_len (s : ByteArray) : (padded s).length = s.size + 1 + padZ s.size + 8 := by
  unfold padded
  simp [eightL]
  omega
def wordL (x : UInt32) : List UInt8 := [UInt8.ofNat (x.toNat / 16777216), UInt8.ofNat (x.toNat / 65536 % 256), UInt8.ofNat (x.toNat / 256 % 256), UInt8.ofNat (x.toNat % 256)]
/-- The digest's bytes. -/
def shaL (s : ByteArray) : List UInt8 := (shaMany (padded s) ((padded s).length / 64)).words.flatMap wordL
theorem shaL_len (s : ByteArray) : (shaL s).length = 32 := by simp [shaL, Sha.words, wordL]
/-- The first n cells are the words of a block. -/
def Words (cs : List Value) (n : Nat) (b : List UInt8) : Prop := cs.length = 64 ∧ ∀ j, j < n → cs[j]? = some (.int .u32 (wz (shaW b j)))
theorem Words.put {cs : List Value} {n : Nat} {b : List UInt8} (h : Words cs n b) (hn : n < 64) {z : Int} (hz : z = wz (shaW b n)) : Words (cs.set n (.int .u32 z)) (n + 1) b := by
  subst hz
  refine ⟨by simpa using h.1, fun j hj => ?_⟩
  by_cases e : n = j
  · subst e
    rw [List.getElem?_set_self (by rw [h.1]; exact hn)]
  · rw [List.getElem?_set_ne e]
    exact h.2 j (by omega)
theorem lt_cell {w : World} {b i : Nat} {v : Value} (h : w.cell? ⟨b, i, none⟩ = some v) : b < w.heap.size := by
  rcases Nat.lt_or_ge b w.heap.size with h1 | h1
  · exact h1
  · simp [World.cell?, Array.getElem?_eq_none h1] at h
theorem key_at {k : Nat} (h : k < 64) : (shaK.map fun x => Value.int .u32 (wz x))[k]? = some (.int .u32 (wz (shaK.getD k 0))) := by
  have hl : k < shaK.length := h
  rw [List.getElem?_map, List.getElem?_eq_getElem hl, List.getD_eq_getElem?_getD, List.getElem?_eq_getElem hl]
  rfl
theorem below_drewNS {B : Nat} {a w : World} (h : Below B a w) (n : Nat) : Below B a (w.drewN n) := ⟨h.os, h.tape, h.output, h.size, h.block⟩
end Go.Proofs.YtpbogdfgomfpjaaDoor
