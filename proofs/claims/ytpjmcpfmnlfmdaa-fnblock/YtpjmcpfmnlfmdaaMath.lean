/- Plain mathematics of the Bytes layer: zigzag numbers, their bytes in groups of seven bits, bytes as cells. Nothing of the program. -/
import Derived.WalkKit
import Derived.ProofKit
import Derived.OpenShut
import Derived.Lib.Hide
import Derived.Laws.IdiomStrings
import Derived.Laws.BitsAllLaws
namespace Go.Proofs.Ytpjmcpfmnlfmdaa
set_option linter.unusedSimpArgs false
set_option linter.unusedVariables false
open Go.RowKit

theorem ret_bool {a b : Bool} (h : a = b) : Ending.returned (.bool a) = .returned (.bool b) := by rw [h]
theorem ret_int {k : IntKind} {a b : Int} (h : a = b) : Ending.returned (.int k a) = .returned (.int k b) := by rw [h]
theorem ret_str {a b : ByteArray} (h : a = b) : Ending.returned (.string a) = .returned (.string b) := by rw [h]

/-- A byte as the cell that holds it. -/
def byteV (b : UInt8) : Value := .int .u8 (b.toNat : Int)
/-- The string of a list of bytes. -/
def strOf (l : List UInt8) : ByteArray := ⟨l.toArray⟩
theorem strOf_toList (s : ByteArray) : strOf s.data.toList = s := rfl
theorem strOf_size (l : List UInt8) : (strOf l).size = l.length := by simp [strOf, ByteArray.size]
theorem strOf_data (l : List UInt8) : (strOf l).data.toList = l := by simp [strOf]

theorem byteV_ofNat {n : Nat} {z : Int} (h : n < 256) (hz : z = (n : Int)) : Value.int .u8 z = byteV (UInt8.ofNat n) := by
  subst hz
  unfold byteV
  have : (UInt8.ofNat n).toNat = n := by simp; omega
  rw [this]

/-- The number whose groups PutNum writes. -/
def zig (n : Int) : Nat := if 0 ≤ n then (2 * n).toNat else (-2 * n - 1).toNat
/-- The groups of seven bits of a number, the least first. -/
def vint (u : Nat) : List UInt8 := if u < 128 then [UInt8.ofNat u] else UInt8.ofNat (u % 128 + 128) :: vint (u / 128)
decreasing_by omega

theorem vint_small {u : Nat} (h : u < 128) : vint u = [UInt8.ofNat u] := by rw [vint, if_pos h]
theorem vint_big {u : Nat} (h : 128 ≤ u) : vint u = UInt8.ofNat (u % 128 + 128) :: vint (u / 128) := by rw [vint, if_neg (by omega)]
theorem vint_pos (u : Nat) : 1 ≤ (vint u).length := by
  by_cases h : u < 128
  · rw [vint_small h]; simp
  · rw [vint_big (by omega)]; simp
theorem vint_len : ∀ (k u : Nat), u < 128 ^ (k + 1) → (vint u).length ≤ k + 1
  | 0, u, h => by rw [vint_small (by simpa using h)]; simp
  | k + 1, u, h => by
    by_cases hu : u < 128
    · rw [vint_small hu]; simp
    · rw [vint_big (by omega)]
      have := vint_len k (u / 128) (by
        rw [Nat.div_lt_iff_lt_mul (by omega)]
        rw [Nat.pow_succ] at h
        exact h)
      simp; omega
theorem vint_ten {u : Nat} (h : u < 18446744073709551616) : (vint u).length ≤ 10 := vint_len 9 u (by omega)
theorem zig_lt {n : Int} (h1 : -9223372036854775808 ≤ n) (h2 : n ≤ 9223372036854775807) : zig n < 18446744073709551616 := by
  unfold zig; split <;> omega

theorem xor_ones (a : Nat) (h : a < 18446744073709551616) : a ^^^ 18446744073709551615 = 18446744073709551615 - a := by
  have e := congrArg BitVec.toNat (BitVec.xor_allOnes (x := BitVec.ofNat 64 a))
  rw [BitVec.toNat_xor, BitVec.toNat_not, BitVec.toNat_ofNat, BitVec.toNat_allOnes] at e
  simp only [Nat.reducePow, Nat.reduceSub] at e
  rwa [Nat.mod_eq_of_lt h] at e
theorem wrap_u64 (n : Int) : IntKind.u64.wrap n = n % 18446744073709551616 := by simp [IntKind.wrap, IntKind.bits, IntKind.signed]
theorem zig_xor_pos {n : Int} (h : 0 ≤ n) (h2 : n ≤ 9223372036854775807) : bits BinOp.xor IntKind.u64 (n * 2) (n / 9223372036854775808) = ↑(zig n) := by
  have e : n / 9223372036854775808 = 0 := by omega
  rw [e, u64_xor _ _ (by omega) (by omega) (by omega) (by omega)]
  unfold zig
  rw [if_pos h, show (0 : Int).toNat = 0 from rfl, Nat.xor_zero, Int.mul_comm]
theorem zig_xor_neg {n : Int} (h1 : -9223372036854775808 ≤ n) (h : n < 0) :
    bits BinOp.xor IntKind.u64 (IntKind.u64.wrap (IntKind.u64.wrap n * 2)) (IntKind.u64.wrap (n / 9223372036854775808)) = ↑(zig n) := by
  have e : n / 9223372036854775808 = -1 := by omega
  have e1 : IntKind.u64.wrap (IntKind.u64.wrap n * 2) = 2 * n + 18446744073709551616 := by rw [wrap_u64, wrap_u64]; omega
  have e2 : IntKind.u64.wrap (-1) = 18446744073709551615 := by rw [wrap_u64]; omega
  rw [e, e1, e2, u64_xor _ _ (by omega) (by omega) (by omega) (by omega)]
  rw [show (18446744073709551615 : Int).toNat = 18446744073709551615 from rfl, xor_ones _ (by omega)]
  unfold zig
  rw [if_neg (by omega)]
  omega

theorem low_or (m : Nat) (h : m < 18446744073709551616) : bits BinOp.or IntKind.u8 (bits BinOp.and IntKind.u64 (m : Int) 127 % 256) 128 = ((m % 128 + 128 : Nat) : Int) := by
  rw [u64_and _ _ (by omega) (by omega) (by omega) (by omega), Int.toNat_natCast, show (127 : Int).toNat = 127 from rfl, nat_mask7]
  rw [u8_or _ _ (by omega) (by omega) (by omega) (by omega)]
  rw [show ((((m % 128 : Nat) : Int)) % 256).toNat = m % 128 by omega, show (128 : Int).toNat = 128 from rfl, Nat.or_comm, nat_join 7 128 (m % 128) (by decide) (by omega), Nat.add_comm]
/-- What PutNum answers. -/
def putL (n : Int) : List UInt8 := vint (zig n)

/-- string(b) where b owns the bytes l. -/
theorem run_string_own {P : Program} (w : World) (src dst e base : Nat) (v : Value) (n : Nat) (l : List UInt8) (hown : w.ownsRow base e 1 v n (l.map byteV))
    (hs : P.underlying src = some (.slice e)) (he : P.underlying e = some (.int .u8)) (hd : P.underlying dst = some .string) :
    (convert src dst v).run P w = .ok (.string (strOf l)) w := by
  have hl : n = l.length := by have := hown.1; simp at this; omega
  subst hl
  rcases hown.2 with ⟨rfl, h0⟩ | ⟨g, cap, cur, rfl, _, _, _, _, _, _⟩
  · have : l = [] := List.eq_nil_of_length_eq_zero h0
    subst this
    rw [run_convert_bytes_string w src dst e none 0 0 hs he hd]
    simp [Conv.bytesToString, strOf]
    rfl
  · exact run_convert_bytes_back w src dst e ⟨g, 0, none⟩ cap l hs he hd (fun j hj => hown.cells (g := g) rfl j _ (by simp [byteV, List.getElem?_eq_getElem hj]))

theorem one_new (w : World) (x : Value) (e : TypeId) : ∀ (j : Nat) (u : Value), [x][j]? = some u → (w.alloc (.cells #[x] e)).cell? ((⟨w.heap.size, 0, none⟩ : Addr).add j) = some u := by
  intro j u hj
  match j, hj with
  | 0, hj => simp at hj; subst hj; simp [Addr.add]
theorem one_cell (k : IntKind) (x : Int) : ∀ u : Value, u ∈ [Value.int k x] → u.oneCell' = true := by intro u hu; simp at hu; subst hu; rfl
theorem own_base {w : World} {B e size n : Nat} {v : Value} {xs : List Value} (h : w.ownsRow B e size v n xs) : ∀ k, v.ownBlock = some k → B ≤ k := by
  intro k hk
  rcases h.2 with ⟨rfl, _⟩ | ⟨g, cap, cur, rfl, hb, _⟩
  · simp [Value.ownBlock] at hk
  · simp [Value.ownBlock] at hk; omega
/-- One byte more behind what is owned. -/
theorem byte_step {w wr w1 : World} {B e : Nat} {v v' : Value} {acc : List UInt8} {x : Value} {b : UInt8} {o : Obj} (hown : wr.ownsRow B e 1 v acc.length (acc.map byteV)) (hbel : Below B w wr) (hB : B ≤ wr.heap.size)
    (hown' : w1.ownsRow B e 1 v' (acc.length + 1) (acc.map byteV ++ [x])) (hg : (wr.alloc o).grownBy w1 v.ownBlock) (hx : x = byteV b) :
    w1.ownsRow B e 1 v' (acc ++ [b]).length ((acc ++ [b]).map byteV) ∧ Below B w w1 := by
  subst hx
  refine ⟨by simpa using hown', (hbel.alloc hB o).grown hg (by simp; omega) (own_base hown)⟩

/-- Block b is just these cells, none of them frozen. -/
def Arr (w : World) (b t : Nat) (cs : List Value) : Prop := w.heap[b]? = some (.cells cs.toArray t (0, 0))
theorem Arr.cell {w : World} {b t : Nat} {cs : List Value} (h : Arr w b t cs) (i : Nat) : w.cell? ⟨b, i, none⟩ = cs[i]? := by
  unfold Arr at h
  have := cell_of_row w b i cs.toArray t (0, 0) h
  simpa using this
theorem Arr.free {w : World} {b t : Nat} {cs : List Value} (h : Arr w b t cs) (i : Nat) : w.frozen? ⟨b, i, none⟩ = false := by
  unfold Arr at h
  simp [World.frozen?, h]
theorem Arr.put {w : World} {b t : Nat} {cs : List Value} (h : Arr w b t cs) (i : Nat) (u : Value) : Arr (w.setCell ⟨b, i, none⟩ u) b t (cs.set i u) := by
  unfold Arr at h ⊢
  simp [World.setCell, Array.getElem?_modify, h]
theorem Arr.fresh (w : World) (t : Nat) (cs : List Value) : Arr (w.alloc (.cells cs.toArray t)) w.heap.size t cs := heap_alloc_new w _
/-- The bytes l stand at the head of the block. -/
def Heads (cs : List Value) (l : List UInt8) : Prop := cs.take l.length = l.map byteV
theorem Heads.push {cs : List Value} {l : List UInt8} (h : Heads cs l) (hl : l.length < cs.length) {x : Value} {b : UInt8} (hx : x = byteV b) : Heads (cs.set l.length x) (l ++ [b]) := by
  unfold Heads at h ⊢
  subst hx
  rw [List.length_append, List.length_singleton, List.take_succ_eq_append_getElem (by simpa using hl)]
  simp [List.take_set_of_le, h]
theorem Heads.at {cs : List Value} {l : List UInt8} (h : Heads cs l) {j : Nat} (hj : j < l.length) : cs[j]? = some (.int .u8 (l[j].toNat : Int)) := by
  have e : (cs.take l.length)[j]? = (l.map byteV)[j]? := by rw [h]
  rw [List.getElem?_take_of_lt hj] at e
  rw [e]
  simp [byteV, List.getElem?_eq_getElem hj]
/-- string(a[:n]) where the array's first cells are the bytes l. -/
theorem run_string_arr {P : Program} (w : World) (src dst e b t cap n : Nat) (cs : List Value) (l : List UInt8) (hA : Arr w b t cs) (hh : Heads cs l) (hn : n = l.length)
    (hs : P.underlying src = some (.slice e)) (he : P.underlying e = some (.int .u8)) (hd : P.underlying dst = some .string) :
    (convert src dst (.slice (some ⟨b, 0, none⟩) n cap)).run P w = .ok (.string (strOf l)) w := by
  subst hn
  refine run_convert_bytes_back w src dst e ⟨b, 0, none⟩ cap l hs he hd (fun j hj => ?_)
  have : (⟨b, 0, none⟩ : Addr).add j = ⟨b, j, none⟩ := by unfold Addr.add; split <;> simp_all
  rw [this, hA.cell]
  exact hh.at hj
/-- A block of three cells that was laid ahead of a call stands behind it. -/
theorem three_kept {w w1 : World} {a b c : Value} {t : Nat} (h : Below (w.alloc (.cells #[a, b, c] t)).heap.size (w.alloc (.cells #[a, b, c] t)) w1) :
    (w1.cell? ⟨w.heap.size, 0, none⟩ = some a ∧ w1.cell? ⟨w.heap.size, 1, none⟩ = some b ∧ w1.cell? ⟨w.heap.size, 2, none⟩ = some c) ∧
    (w1.frozen? ⟨w.heap.size, 0, none⟩ = false ∧ w1.frozen? ⟨w.heap.size, 1, none⟩ = false ∧ w1.frozen? ⟨w.heap.size, 2, none⟩ = false) ∧ w.heap.size < w1.heap.size := by
  have hA : Arr w1 w.heap.size t [a, b, c] := (h.block w.heap.size (by simp)).trans (Arr.fresh w t [a, b, c])
  have := h.size
  refine ⟨⟨hA.cell 0, hA.cell 1, hA.cell 2⟩, ⟨hA.free 0, hA.free 1, hA.free 2⟩, ?_⟩
  simp at this
  omega

def textOut (t : ByteArray) (at_ code : Int) : Value := .agg #[.string t, .int .i64 at_, .int .i64 code]
theorem cell_on {w1 w2 : World} {B : Nat} {o : Obj} (h : Below (w1.alloc o).heap.size (w1.alloc o) w2) (hz : B < w1.heap.size) (i : Nat) : w2.cell? ⟨B, i, none⟩ = w1.cell? ⟨B, i, none⟩ :=
  (h.cell (p := ⟨B, i, none⟩) (by simp; omega)).trans (World.cell?_alloc_lt w1 o ⟨B, i, none⟩ hz)
theorem frozen_on {w1 w2 : World} {B : Nat} {o : Obj} (h : Below (w1.alloc o).heap.size (w1.alloc o) w2) (hz : B < w1.heap.size) (i : Nat) : w2.frozen? ⟨B, i, none⟩ = w1.frozen? ⟨B, i, none⟩ :=
  (h.frozen (p := ⟨B, i, none⟩) (by simp; omega)).trans (World.frozen?_of_block (w := w1) (Below.heap_alloc w1 o B hz))
theorem extract_le (s : ByteArray) (a b n : Nat) (h : s.size ≤ n) : (s.extract a b).size ≤ n := by rw [ByteArray.size_extract]; omega

theorem below_one {w w1 : World} {o : Obj} (h : Below (w.alloc o).heap.size (w.alloc o) w1) : Below w.heap.size w w1 :=
  ((Below.refl _ _).alloc (Nat.le_refl _) o).trans (h.mono (by simp))
/-- Three stores into a block that is not below B. -/
theorem below_three {B g : Nat} {w w1 : World} (h : Below B w w1) (hg : B ≤ g) (x y z : Value) : Below B w (((w1.setCell ⟨g, 0, none⟩ x).setCell ⟨g, 1, none⟩ y).setCell ⟨g, 2, none⟩ z) :=
  ((h.setCell (p := ⟨g, 0, none⟩) hg x).setCell (p := ⟨g, 1, none⟩) hg y).setCell (p := ⟨g, 2, none⟩) hg z
end Go.Proofs.Ytpjmcpfmnlfmdaa
