/- Several parts in one text: Math, JidBytes, JidParts, JidRight, JidSpec, JoinWalks, JidText, JidCells, JidReadMath, OwnBytes, JidLow, JidRead, JidReadI, JidReadS, NameWalks, StHand, StSmall, JidReadMore, StAddr. -/
import Derived.WalkKit
import Derived.ProofKit
import Derived.OpenShut
import Derived.Lib.Hide
import Derived.Laws.IdiomStrings
import Derived.Laws.BitsAllLaws
import Derived.Test.YtafdjjdmcnlddaaGreatChecked
import Derived.Test.YtafdjjdmcnlddaaGreatShelf
import Derived.Lib.IndexMore
import Derived.Deep.QuietTactic
import Derived.BigQuiet
import Derived.RegionTactic
import Derived.IntWalk
import Derived.Deep.DeepFit
import Derived.Lib.BufferWrite
import Derived.Laws.CopyOwn
import Derived.Lib.SmallJoins
import Derived.Deep.RegionHeld3
import Derived.Lib.IndexBytes
import Derived.Lib.IndexLaws
import Derived.ArgAppend
import Derived.Deep.MidRow
import Derived.Lib.OthersKept
import Derived.Laws.RangeAny
namespace Go.Proofs.YtafdjjdmcnlddaaGreat
set_option linter.unusedSimpArgs false
set_option linter.unusedVariables false
open Go.RowKit

theorem ret_bool {a b : Bool} (h : a = b) : Ending.returned (.bool a) = .returned (.bool b) := by rw [h]
theorem ret_int {k : IntKind} {a b : Int} (h : a = b) : Ending.returned (.int k a) = .returned (.int k b) := by rw [h]
theorem ret_str {a b : ByteArray} (h : a = b) : Ending.returned (.string a) = .returned (.string b) := by rw [h]

/-- A byte as the cell that holds it. -/
def byteV (b : UInt8) : Value := .int .u8 (b.toNat : Int)
/-- The string of a list of bytes. -/
def strOf (l : List UInt8) : ByteArray := ⟨l.toArray⟩
theorem strOf_size (l : List UInt8) : (strOf l).size = l.length := by simp [strOf, ByteArray.size]
theorem strOf_data (l : List UInt8) : (strOf l).data.toList = l := by simp [strOf]

theorem byteV_ofNat {n : Nat} {z : Int} (h : n < 256) (hz : z = (n : Int)) : Value.int .u8 z = byteV (UInt8.ofNat n) := by
  subst hz
  unfold byteV
  have : (UInt8.ofNat n).toNat = n := by simp; omega
  rw [this]

theorem wrap_u64 (n : Int) : IntKind.u64.wrap n = n % 18446744073709551616 := by simp [IntKind.wrap, IntKind.bits, IntKind.signed]
/-- string(b) where b owns the bytes l. -/
theorem run_string_own {P : Program} (w : World) (src dst e base : Nat) (v : Value) (n : Nat) (l : List UInt8) (hown : w.ownsRow base e 1 v n (l.map byteV))
    (hs : P.underlying src = some (.slice e)) (he : P.underlying e = some (.int .u8)) (hd : P.underlying dst = some .string) :
    (convert src dst v).run P w = .ok (.string (strOf l)) w := by
  have hl : n = l.length := by have := hown.1; simp at this; omega
  subst hl
  rcases hown.2 with ⟨rfl, h0⟩ | ⟨g, cap, cur, rfl, _, _, _, _, _, _⟩
  · have : l = [] := List.eq_nil_of_length_eq_zero h0
    subst this
    rw [run_convert_bytes_string w src dst e none 0 0 hs he hd]
    simp [Conv.bytesToString, strOf]
    rfl
  · exact run_convert_bytes_back w src dst e ⟨g, 0, none⟩ cap l hs he hd (fun j hj => hown.cells (g := g) rfl j _ (by simp [byteV, List.getElem?_eq_getElem hj]))

theorem own_base {w : World} {B e size n : Nat} {v : Value} {xs : List Value} (h : w.ownsRow B e size v n xs) : ∀ k, v.ownBlock = some k → B ≤ k := by
  intro k hk
  rcases h.2 with ⟨rfl, _⟩ | ⟨g, cap, cur, rfl, hb, _⟩
  · simp [Value.ownBlock] at hk
  · simp [Value.ownBlock] at hk; omega
/-- Block b is just these cells, none of them frozen. -/
def Arr (w : World) (b t : Nat) (cs : List Value) : Prop := w.heap[b]? = some (.cells cs.toArray t (0, 0))
theorem Arr.cell {w : World} {b t : Nat} {cs : List Value} (h : Arr w b t cs) (i : Nat) : w.cell? ⟨b, i, none⟩ = cs[i]? := by
  unfold Arr at h
  have := cell_of_row w b i cs.toArray t (0, 0) h
  simpa using this
theorem Arr.free {w : World} {b t : Nat} {cs : List Value} (h : Arr w b t cs) (i : Nat) : w.frozen? ⟨b, i, none⟩ = false := by
  unfold Arr at h
  simp [World.frozen?, h]
theorem Arr.put {w : World} {b t : Nat} {cs : List Value} (h : Arr w b t cs) (i : Nat) (u : Value) : Arr (w.setCell ⟨b, i, none⟩ u) b t (cs.set i u) := by
  unfold Arr at h ⊢
  simp [World.setCell, Array.getElem?_modify, h]
theorem Arr.fresh (w : World) (t : Nat) (cs : List Value) : Arr (w.alloc (.cells cs.toArray t)) w.heap.size t cs := heap_alloc_new w _
/-- The bytes l stand at the head of the block. -/
def Heads (cs : List Value) (l : List UInt8) : Prop := cs.take l.length = l.map byteV
theorem Heads.at {cs : List Value} {l : List UInt8} (h : Heads cs l) {j : Nat} (hj : j < l.length) : cs[j]? = some (.int .u8 (l[j].toNat : Int)) := by
  have e : (cs.take l.length)[j]? = (l.map byteV)[j]? := by rw [h]
  rw [List.getElem?_take_of_lt hj] at e
  rw [e]
  simp [byteV, List.getElem?_eq_getElem hj]
/-- string(a[:n]) where the array's first cells are the bytes l. -/
theorem run_string_arr {P : Program} (w : World) (src dst e b t cap n : Nat) (cs : List Value) (l : List UInt8) (hA : Arr w b t cs) (hh : Heads cs l) (hn : n = l.length)
    (hs : P.underlying src = some (.slice e)) (he : P.underlying e = some (.int .u8)) (hd : P.underlying dst = some .string) :
    (convert src dst (.slice (some ⟨b, 0, none⟩) n cap)).run P w = .ok (.string (strOf l)) w := by
  subst hn
  refine run_convert_bytes_back w src dst e ⟨b, 0, none⟩ cap l hs he hd (fun j hj => ?_)
  have : (⟨b, 0, none⟩ : Addr).add j = ⟨b, j, none⟩ := by unfold Addr.add; split <;> simp_all
  rw [this, hA.cell]
  exact hh.at hj
/-- A block of three cells that was laid ahead of a call stands behind it. -/
theorem three_kept {w w1 : World} {a b c : Value} {t : Nat} (h : Below (w.alloc (.cells #[a, b, c] t)).heap.size (w.alloc (.cells #[a, b, c] t)) w1) :
    (w1.cell? ⟨w.heap.size, 0, none⟩ = some a ∧ w1.cell? ⟨w.heap.size, 1, none⟩ = some b ∧ w1.cell? ⟨w.heap.size, 2, none⟩ = some c) ∧
    (w1.frozen? ⟨w.heap.size, 0, none⟩ = false ∧ w1.frozen? ⟨w.heap.size, 1, none⟩ = false ∧ w1.frozen? ⟨w.heap.size, 2, none⟩ = false) ∧ w.heap.size < w1.heap.size := by
  have hA : Arr w1 w.heap.size t [a, b, c] := (h.block w.heap.size (by simp)).trans (Arr.fresh w t [a, b, c])
  have := h.size
  refine ⟨⟨hA.cell 0, hA.cell 1, hA.cell 2⟩, ⟨hA.free 0, hA.free 1, hA.free 2⟩, ?_⟩
  simp at this
  omega

theorem below_one {w w1 : World} {o : Obj} (h : Below (w.alloc o).heap.size (w.alloc o) w1) : Below w.heap.size w w1 :=
  ((Below.refl _ _).alloc (Nat.le_refl _) o).trans (h.mono (by simp))
/-- Three stores into a block that is not below B. -/
theorem below_three {B g : Nat} {w w1 : World} (h : Below B w w1) (hg : B ≤ g) (x y z : Value) : Below B w (((w1.setCell ⟨g, 0, none⟩ x).setCell ⟨g, 1, none⟩ y).setCell ⟨g, 2, none⟩ z) :=
  ((h.setCell (p := ⟨g, 0, none⟩) hg x).setCell (p := ⟨g, 1, none⟩) hg y).setCell (p := ⟨g, 2, none⟩) hg z
end Go.Proofs.YtafdjjdmcnlddaaGreat

namespace Go.Proofs.YtafdjjdmcnlddaaGreat
set_option linter.unusedSimpArgs false
set_option linter.unusedVariables false
open Go.RowKit

def letC (c : Nat) : Bool := decide (97 ≤ c ∧ c ≤ 122)
def digC (c : Nat) : Bool := decide (48 ≤ c ∧ c ≤ 57)
def sepC (c : Nat) : Bool := decide (c = 46 ∨ c = 45)
def domC (c : Nat) : Bool := letC c || digC c || sepC c
def locC (c : Nat) : Bool := domC c || decide (c = 95)
def resC (c : Nat) : Bool := decide (33 ≤ c ∧ c ≤ 126 ∧ c ≠ 47 ∧ c ≠ 60 ∧ c ≠ 62 ∧ c ≠ 38 ∧ c ≠ 39 ∧ c ≠ 34)

/-- A call that answers a bool and leaves the world alone. -/
def SaysB (b : Bool) (w : World) (e : Ending) (w' : World) : Prop := e = .returned (.bool b) ∧ w = w'

theorem impl_letter (c : Nat) (w : World) : Calls Tryz.prog 106 #[.int .u8 (c : Int)] w (SaysB (letC c) w) := by
  by_cases h1 : 97 ≤ (c : Int) <;> by_cases h2 : (c : Int) ≤ 122 <;>
    (go_enter Tryz.func106, Tryz.ntmps106
     go_wp2
     go_ret
     refine ⟨ret_bool ?_, rfl⟩
     unfold letC
     simp
     omega)
theorem impl_digit (c : Nat) (w : World) : Calls Tryz.prog 107 #[.int .u8 (c : Int)] w (SaysB (digC c) w) := by
  by_cases h1 : 48 ≤ (c : Int) <;> by_cases h2 : (c : Int) ≤ 57 <;>
    (go_enter Tryz.func107, Tryz.ntmps107
     go_wp2
     go_ret
     refine ⟨ret_bool ?_, rfl⟩
     unfold digC
     simp
     omega)
theorem impl_sep (c : Nat) (w : World) : Calls Tryz.prog 126 #[.int .u8 (c : Int)] w (SaysB (sepC c) w) := by
  by_cases h1 : (c : Int) = 46 <;> by_cases h2 : (c : Int) = 45 <;>
    (go_enter Tryz.func126, Tryz.ntmps126
     go_wp2
     go_ret
     refine ⟨ret_bool ?_, rfl⟩
     unfold sepC
     rw [Bool.eq_iff_iff]
     simp
     omega)
set_option maxHeartbeats 1000000 in
theorem impl_domb (c : Nat) (w : World) : Calls Tryz.prog 125 #[.int .u8 (c : Int)] w (SaysB (domC c) w) := by
  obtain ⟨b1, h1⟩ : ∃ b, letC c = b := ⟨_, rfl⟩
  obtain ⟨b2, h2⟩ : ∃ b, digC c = b := ⟨_, rfl⟩
  obtain ⟨b3, h3⟩ : ∃ b, sepC c = b := ⟨_, rfl⟩
  have i1 := fun w => impl_letter c w
  have i2 := fun w => impl_digit c w
  have i3 := fun w => impl_sep c w
  rw [h1] at i1
  rw [h2] at i2
  rw [h3] at i3
  unfold domC
  rw [h1, h2, h3]
  clear h1 h2 h3
  cases b1 <;> cases b2 <;>
    (go_enter Tryz.func125, Tryz.ntmps125
     go_wp2_with (first
       | (go_at_call 106; refine (i1 _).mono ?_; rintro e w' ⟨rfl, rfl⟩)
       | (go_at_call 107; refine (i2 _).mono ?_; rintro e w' ⟨rfl, rfl⟩)
       | (go_at_call 126; refine (i3 _).mono ?_; rintro e w' ⟨rfl, rfl⟩))
     go_ret
     exact ⟨ret_bool (by simp), rfl⟩)
set_option maxHeartbeats 1000000 in
theorem impl_locb (c : Nat) (w : World) : Calls Tryz.prog 117 #[.int .u8 (c : Int)] w (SaysB (locC c) w) := by
  obtain ⟨b1, h1⟩ : ∃ b, domC c = b := ⟨_, rfl⟩
  have i1 := fun w => impl_domb c w
  rw [h1] at i1
  unfold locC
  rw [h1]
  clear h1
  cases b1 <;>
    (go_enter Tryz.func117, Tryz.ntmps117
     go_wp2_with (first | (go_at_call 125; refine (i1 _).mono ?_; rintro e w' ⟨rfl, rfl⟩))
     go_ret
     refine ⟨ret_bool ?_, rfl⟩
     rw [Bool.eq_iff_iff]
     simp
     try omega)
set_option maxRecDepth 100000 in
theorem mark_idx (c : Nat) (hc : c ≤ 255) : Lib.indexByte [47, 60, 62, 38, 39, 34] ((c : Int).toNat.toUInt8) < 0 ↔ (c ≠ 47 ∧ c ≠ 60 ∧ c ≠ 62 ∧ c ≠ 38 ∧ c ≠ 39 ∧ c ≠ 34) := by
  have h : ∀ x : Fin 256, (Lib.indexByte [47, 60, 62, 38, 39, 34] ((x.val : Int).toNat.toUInt8) < 0 ↔ (x.val ≠ 47 ∧ x.val ≠ 60 ∧ x.val ≠ 62 ∧ x.val ≠ 38 ∧ x.val ≠ 39 ∧ x.val ≠ 34)) := by decide +kernel
  exact h ⟨c, by omega⟩
set_option maxHeartbeats 1000000 in
theorem impl_resb (c : Nat) (hc : c ≤ 255) (w : World) : Calls Tryz.prog 119 #[.int .u8 (c : Int)] w (SaysB (resC c) w) := by
  have hm := mark_idx c hc
  obtain ⟨z, hz⟩ : ∃ z, Lib.indexByte [47, 60, 62, 38, 39, 34] ((c : Int).toNat.toUInt8) = z := ⟨_, rfl⟩
  have i1 := fun w => Tryz.strings_IndexByte ⟨#[47, 60, 62, 38, 39, 34]⟩ (c : Int) w
  rw [show (⟨#[47, 60, 62, 38, 39, 34]⟩ : ByteArray).data.toList = [47, 60, 62, 38, 39, 34] from rfl, hz] at i1
  rw [hz] at hm
  clear hz
  unfold resC
  by_cases h1 : 33 ≤ (c : Int) <;> by_cases h2 : (c : Int) ≤ 126 <;>
    (go_enter Tryz.func119, Tryz.ntmps119
     go_wp2_with (go_at_call 128; refine (i1 _).mono ?_; rintro e w' ⟨rfl, rfl⟩)
     go_ret
     refine ⟨ret_bool ?_, rfl⟩
     rw [Bool.eq_iff_iff]
     simp
     omega)
end Go.Proofs.YtafdjjdmcnlddaaGreat

namespace Go.Proofs.YtafdjjdmcnlddaaGreat
set_option linter.unusedSimpArgs false
set_option linter.unusedVariables false
open Go.RowKit

def allC (ok : Nat → Bool) (s : ByteArray) : Bool := s.data.toList.all (fun c => ok c.toNat)
def partB (ok : Nat → Bool) (s : ByteArray) : Bool := decide (s.size ≤ 30) && allC ok s
theorem allC_iff (ok : Nat → Bool) (s : ByteArray) : allC ok s = true ↔ ∀ j (h : j < s.size), ok s[j].toNat = true := by
  unfold allC
  rw [List.all_eq_true]
  constructor
  · intro h j hj
    exact h s[j] (by rw [show s[j] = s.data[j] from rfl]; simp)
  · intro h x hx
    obtain ⟨j, hj, rfl⟩ := List.getElem_of_mem hx
    have hj' : j < s.size := by rw [Array.length_toList] at hj; exact hj
    rw [Array.getElem_toList]
    exact h j hj'
def Upto (ok : Nat → Bool) (s : ByteArray) (k : Nat) : Prop := ∀ j (h : j < s.size), j < k → ok s[j].toNat = true
theorem upto_zero (ok : Nat → Bool) (s : ByteArray) : Upto ok s 0 := fun _ _ h => absurd h (Nat.not_lt_zero _)
theorem upto_succ {ok : Nat → Bool} {s : ByteArray} {k : Nat} (h : Upto ok s k) (hk : k < s.size) (h1 : ok s[k].toNat = true) : Upto ok s (k + 1) := by
  intro j hj hlt
  by_cases e : j = k
  · subst e; exact h1
  · exact h j hj (by omega)
theorem upto_all {ok : Nat → Bool} {s : ByteArray} {k : Nat} (h : Upto ok s k) (hk : ¬ k < s.size) : allC ok s = true := (allC_iff ok s).2 fun j hj => h j hj (by omega)
theorem all_no {ok : Nat → Bool} {s : ByteArray} {k : Nat} (hk : k < s.size) (h1 : ok s[k].toNat = false) : allC ok s = false := by
  rw [Bool.eq_false_iff]
  intro h
  have := (allC_iff ok s).1 h k hk
  rw [h1] at this
  cases this
theorem byte_le (x : UInt8) : x.toNat ≤ 255 := by have := x.toNat_lt; omega

set_option maxHeartbeats 1000000 in
theorem impl_part_loc (s : ByteArray) (w : World) (hs : s.size ≤ maxLen) : Calls Tryz.prog 116 #[.string s, .func (.func 117) #[] #[]] w (SaysB (partB locC s) w) := by
  unfold maxLen at hs
  unfold partB
  by_cases h30 : 30 < s.size
  · rw [show decide (s.size ≤ 30) = false by simp; omega]
    go_enter Tryz.func116, Tryz.ntmps116
    go_wp2
    go_ret
    exact ⟨rfl, rfl⟩
  · rw [show decide (s.size ≤ 30) = true by simp; omega, Bool.true_and]
    go_enter Tryz.func116, Tryz.ntmps116
    go_wp2
    go_loop [5] (fun i => ∃ k : Nat, k ≤ s.size ∧ i = .int .i64 k ∧ Upto locC s k) (fun i => s.size - (intOf i).toNat)
    case atStart => exact ⟨0, Nat.zero_le _, rfl, upto_zero _ _⟩
    case round =>
      obtain ⟨k, hk, rfl, hall⟩ := hrel
      have HA := Lib.hid hall
      clear hall
      by_cases hlt : k < s.size
      · have hc := fun w => impl_locb s[k].toNat w
        obtain ⟨b, hb⟩ : ∃ b, locC s[k].toNat = b := ⟨_, rfl⟩
        rw [hb] at hc
        have HB := Lib.hid hb
        clear hb
        cases b
        · go_wp2_with (first | (go_at_call 117; refine (hc _).mono ?_; rintro e w' ⟨rfl, rfl⟩))
          go_ret
          exact ⟨ret_bool (all_no hlt HB.out).symm, rfl⟩
        · go_wp2_with (first | (go_at_call 117; refine (hc _).mono ?_; rintro e w' ⟨rfl, rfl⟩))
          go_round
          case rel => exact ⟨k + 1, by omega, by go_num, upto_succ HA.out hlt HB.out⟩
          case measure => simp [intOf]; omega
      · go_wp2
        go_ret
        exact ⟨ret_bool (upto_all HA.out hlt).symm, rfl⟩
set_option maxHeartbeats 1000000 in
theorem impl_part_dom (s : ByteArray) (w : World) (hs : s.size ≤ maxLen) : Calls Tryz.prog 116 #[.string s, .func (.func 125) #[] #[]] w (SaysB (partB domC s) w) := by
  unfold maxLen at hs
  unfold partB
  by_cases h30 : 30 < s.size
  · rw [show decide (s.size ≤ 30) = false by simp; omega]
    go_enter Tryz.func116, Tryz.ntmps116
    go_wp2
    go_ret
    exact ⟨rfl, rfl⟩
  · rw [show decide (s.size ≤ 30) = true by simp; omega, Bool.true_and]
    go_enter Tryz.func116, Tryz.ntmps116
    go_wp2
    go_loop [5] (fun i => ∃ k : Nat, k ≤ s.size ∧ i = .int .i64 k ∧ Upto domC s k) (fun i => s.size - (intOf i).toNat)
    case atStart => exact ⟨0, Nat.zero_le _, rfl, upto_zero _ _⟩
    case round =>
      obtain ⟨k, hk, rfl, hall⟩ := hrel
      have HA := Lib.hid hall
      clear hall
      by_cases hlt : k < s.size
      · have hc := fun w => impl_domb s[k].toNat w
        obtain ⟨b, hb⟩ : ∃ b, domC s[k].toNat = b := ⟨_, rfl⟩
        rw [hb] at hc
        have HB := Lib.hid hb
        clear hb
        cases b
        · go_wp2_with (first | (go_at_call 125; refine (hc _).mono ?_; rintro e w' ⟨rfl, rfl⟩))
          go_ret
          exact ⟨ret_bool (all_no hlt HB.out).symm, rfl⟩
        · go_wp2_with (first | (go_at_call 125; refine (hc _).mono ?_; rintro e w' ⟨rfl, rfl⟩))
          go_round
          case rel => exact ⟨k + 1, by omega, by go_num, upto_succ HA.out hlt HB.out⟩
          case measure => simp [intOf]; omega
      · go_wp2
        go_ret
        exact ⟨ret_bool (upto_all HA.out hlt).symm, rfl⟩
set_option maxHeartbeats 1000000 in
theorem impl_part_res (s : ByteArray) (w : World) (hs : s.size ≤ maxLen) : Calls Tryz.prog 116 #[.string s, .func (.func 119) #[] #[]] w (SaysB (partB resC s) w) := by
  unfold maxLen at hs
  unfold partB
  by_cases h30 : 30 < s.size
  · rw [show decide (s.size ≤ 30) = false by simp; omega]
    go_enter Tryz.func116, Tryz.ntmps116
    go_wp2
    go_ret
    exact ⟨rfl, rfl⟩
  · rw [show decide (s.size ≤ 30) = true by simp; omega, Bool.true_and]
    go_enter Tryz.func116, Tryz.ntmps116
    go_wp2
    go_loop [5] (fun i => ∃ k : Nat, k ≤ s.size ∧ i = .int .i64 k ∧ Upto resC s k) (fun i => s.size - (intOf i).toNat)
    case atStart => exact ⟨0, Nat.zero_le _, rfl, upto_zero _ _⟩
    case round =>
      obtain ⟨k, hk, rfl, hall⟩ := hrel
      have HA := Lib.hid hall
      clear hall
      by_cases hlt : k < s.size
      · have hc := fun w => impl_resb s[k].toNat (byte_le _) w
        obtain ⟨b, hb⟩ : ∃ b, resC s[k].toNat = b := ⟨_, rfl⟩
        rw [hb] at hc
        have HB := Lib.hid hb
        clear hb
        cases b
        · go_wp2_with (first | (go_at_call 119; refine (hc _).mono ?_; rintro e w' ⟨rfl, rfl⟩))
          go_ret
          exact ⟨ret_bool (all_no hlt HB.out).symm, rfl⟩
        · go_wp2_with (first | (go_at_call 119; refine (hc _).mono ?_; rintro e w' ⟨rfl, rfl⟩))
          go_round
          case rel => exact ⟨k + 1, by omega, by go_num, upto_succ HA.out hlt HB.out⟩
          case measure => simp [intOf]; omega
      · go_wp2
        go_ret
        exact ⟨ret_bool (upto_all HA.out hlt).symm, rfl⟩

/-! the domain -/
theorem occ_index : ∀ (i : Nat) (l sub : List UInt8), i ≤ l.length → Lib.occAt l sub i = true → 0 ≤ Lib.index l sub
  | 0, l, sub, _, h => by
    cases l with
    | nil => unfold Lib.occAt at h; unfold Lib.index; cases sub with
      | nil => simp
      | cons c t => simp at h
    | cons b l => unfold Lib.occAt at h; unfold Lib.index; simp only [List.drop_zero] at h; rw [if_pos h]; exact Int.le_refl _
  | i + 1, [], sub, h, _ => by simp at h
  | i + 1, b :: l, sub, hi, h => by
    have ih := occ_index i l sub (by simpa using hi) (by unfold Lib.occAt at h ⊢; simpa using h)
    unfold Lib.index
    split
    · exact Int.le_refl _
    · rw [if_neg (by simp; omega)]
      omega
theorem dots_at (s : ByteArray) (k : Nat) (h : k + 1 < s.size) : Lib.occAt s.data.toList [46, 46] k = true ↔ (s[k].toNat = 46 ∧ s[k + 1].toNat = 46) := by
  have hl : s.data.toList.length = s.size := Array.length_toList
  unfold Lib.occAt
  rw [List.drop_eq_getElem_cons (by omega), List.drop_eq_getElem_cons (by omega)]
  rw [show s.data.toList[k]'(by omega) = s[k] by rw [Array.getElem_toList]; rfl, show s.data.toList[k + 1]'(by omega) = s[k + 1] by rw [Array.getElem_toList]; rfl]
  simp only [List.isPrefixOf, Bool.and_eq_true, beq_iff_eq, and_true]
  constructor
  · rintro ⟨h1, h2⟩
    rw [← h1, ← h2]
    exact ⟨rfl, rfl⟩
  · rintro ⟨h1, h2⟩
    exact ⟨(UInt8.toNat_inj.1 h1).symm, (UInt8.toNat_inj.1 h2).symm⟩
def NoDots (s : ByteArray) (k : Nat) : Prop := ∀ j (h : j + 1 < s.size), j + 1 < k → ¬ (s[j].toNat = 46 ∧ s[j + 1].toNat = 46)
theorem dots_iff (s : ByteArray) : Lib.contains s.data.toList [46, 46] = false ↔ NoDots s s.size := by
  have hl : s.data.toList.length = s.size := Array.length_toList
  unfold Lib.contains
  rw [decide_eq_false_iff_not]
  constructor
  · intro h j hj _ hd
    exact h (occ_index j _ _ (by omega) ((dots_at s j hj).2 hd))
  · intro h h0
    have hn : Lib.index s.data.toList [46, 46] = -1 := Lib.index_none fun j hj => by
      rw [Bool.eq_false_iff]
      intro ho
      rcases Lib.occAt_room ho with hr | hr
      · have hj2 : j + 1 < s.size := by
          have : j + 2 ≤ s.size := by simpa using hr
          omega
        exact h j hj2 hj2 ((dots_at s j hj2).1 ho)
      · cases hr
    omega
def domP (s : ByteArray) : Prop := 0 < s.size ∧ partB domC s = true ∧ (∀ h : 0 < s.size, sepC s[0].toNat = false ∧ sepC s[s.size - 1].toNat = false) ∧ Lib.contains s.data.toList [46, 46] = false
open Classical in
noncomputable def domB (s : ByteArray) : Bool := decide (domP s)
theorem domB_true {s : ByteArray} (h : domP s) : domB s = true := by unfold domB; simpa using h
theorem domB_false {s : ByteArray} (h : ¬ domP s) : domB s = false := by unfold domB; simpa using h
theorem domB_iff {s : ByteArray} : domB s = true ↔ domP s := by unfold domB; simp
theorem size_zero {s : ByteArray} (h : s.size = 0) : s = ByteArray.empty := by
  obtain ⟨⟨l⟩⟩ := s
  have : l.length = 0 := h
  rw [List.eq_nil_of_length_eq_zero this]
  rfl

def MaxL (w : World) : Prop := ∃ m, w.cell? ⟨0, 0, none⟩ = some (.int .i64 m)
theorem MaxL.pos {w : World} (h : MaxL w) : 0 < w.heap.size := by
  obtain ⟨m, hm⟩ := h
  rcases Nat.lt_or_ge 0 w.heap.size with h1 | h1
  · exact h1
  · simp [World.cell?, Array.getElem?_eq_none h1] at hm
theorem MaxL.below {w w' : World} {B : Nat} (h : MaxL w) (hb : Below B w w') (hB : 0 < B) : MaxL w' := by
  obtain ⟨m, hm⟩ := h
  exact ⟨m, (hb.cell (p := ⟨0, 0, none⟩) hB).trans hm⟩
end Go.Proofs.YtafdjjdmcnlddaaGreat

namespace Go.Proofs.YtafdjjdmcnlddaaGreat
set_option linter.unusedSimpArgs false
set_option linter.unusedVariables false
open Go.RowKit

theorem ne_nil {s : ByteArray} (h : 0 < s.size) : s.toList ≠ [] := by
  rw [ByteArray.toList_eq]
  intro e
  have h1 : s.data.toList.length = 0 := by rw [e]; rfl
  have h2 : s.data.toList.length = s.size := Array.length_toList
  omega
theorem not_empty {s : ByteArray} (h : 0 < s.size) : s.toList.isEmpty = false := by
  rw [Bool.eq_false_iff]
  intro e
  exact ne_nil h (List.isEmpty_iff.1 e)

set_option maxHeartbeats 2000000 in
theorem impl_domain (s : ByteArray) (w : World) (hs : s.size ≤ maxLen) (hm : MaxL w) : Calls Tryz.prog 118 #[.string s] w fun e w' => e = .returned (.bool (domB s)) ∧ ∃ n, w' = w.drewN n := by
  obtain ⟨m, hm⟩ := hm
  by_cases h0 : s.size = 0
  · have hf : domB s = false := domB_false fun h => by have := h.1; omega
    rw [hf]
    obtain rfl := size_zero h0
    clear hf h0
    go_enter Tryz.func118, Tryz.ntmps118
    go_wp2
    go_ret
    exact ⟨rfl, 0, rfl⟩
  · have h1 : 0 < s.size := by omega
    have hne := ne_nil h1
    have hem := not_empty h1
    have hp := fun w => impl_part_dom s w hs
    unfold maxLen at hs
    obtain ⟨n, hn⟩ : ∃ n, n = s.size - 1 := ⟨_, rfl⟩
    have hz : (s.size : Int) - 1 = (n : Int) := by omega
    have hl : n < s.size := by omega
    have HN := Lib.hid hn
    clear hn
    obtain ⟨b1, hb1⟩ : ∃ b, partB domC s = b := ⟨_, rfl⟩
    rw [hb1] at hp
    have HB1 := Lib.hid hb1
    clear hb1
    cases b1
    · go_enter Tryz.func118, Tryz.ntmps118
      go_wp2_with (first | (go_at_call 116; refine (hp _).mono ?_; rintro e w' ⟨rfl, rfl⟩))
      go_ret
      exact ⟨ret_bool (domB_false fun h => by have := h.2.1; rw [HB1.out] at this; cases this).symm, 0, rfl⟩
    · go_enter Tryz.func118, Tryz.ntmps118
      go_wp2_with (first | (go_at_call 116; refine (hp _).mono ?_; rintro e w' ⟨rfl, rfl⟩))
      go_quiet (fail)
      have hc := Tryz.strings_Contains s ⟨#[46, 46]⟩ m (w.drewN nq) (by have := HB1.out; unfold partB at this; simp at this; omega) hm
      rw [show (⟨#[46, 46]⟩ : ByteArray).data.toList = [46, 46] from rfl] at hc
      obtain ⟨b4, hb4⟩ : ∃ b, Lib.contains s.data.toList [46, 46] = b := ⟨_, rfl⟩
      rw [hb4] at hc
      have hs0 := fun w => impl_sep s[0].toNat w
      have hs1 := fun w => impl_sep s[n].toNat w
      obtain ⟨b2, hb2⟩ : ∃ b, sepC s[0].toNat = b := ⟨_, rfl⟩
      obtain ⟨b3, hb3⟩ : ∃ b, sepC s[n].toNat = b := ⟨_, rfl⟩
      have hfin : domB s = (!b2 && !b3 && !b4) := by
        have hn := HN.out
        subst hn
        rw [Bool.eq_iff_iff, domB_iff]
        unfold domP
        rw [HB1.out, hb4]
        constructor
        · rintro ⟨_, _, h3, h4⟩
          have := h3 h1
          rw [hb2, hb3] at this
          rw [this.1, this.2, h4]
          rfl
        · intro h
          simp at h
          exact ⟨h1, rfl, fun _ => ⟨by rw [hb2]; exact h.1.1, by rw [hb3]; exact h.1.2⟩, h.2⟩
      have H2 := Lib.hid hb2
      have H3 := Lib.hid hb3
      have HF := Lib.hid hfin
      clear hfin hb2 hb3 hb4
      cases b2 <;> cases b3 <;>
        (go_wp2_with (first
           | (go_at_call 126; refine (impl_sep _ _).mono ?_; rintro e w' ⟨rfl, rfl⟩; first | rw [H2.out] | rw [H3.out])
           | (go_at_call 127; refine hc.mono ?_; rintro e w' ⟨rfl, rfl⟩))
         go_ret
         exact ⟨ret_bool (by rw [HF.out]; simp), nq, rfl⟩)

theorem below_drewN {B : Nat} {a w : World} (h : Below B a w) (n : Nat) : Below B a (w.drewN n) := ⟨h.os, h.tape, h.output, h.size, h.block⟩
def jidB' : Bool → Bool → Bool → Bool := fun a b c => a && b && c
/-- Is this address valid? -/
noncomputable def jidB (l d r : ByteArray) : Bool := jidB' (partB locC l) (domB d) (partB resC r)
set_option maxHeartbeats 1000000 in
theorem impl_right (l d r : ByteArray) (w : World) (hl : l.size ≤ maxLen) (hd : d.size ≤ maxLen) (hr : r.size ≤ maxLen) (hm : MaxL w) :
    Calls Tryz.prog 97 #[.agg #[.string l, .string d, .string r]] w fun e w' => e = .returned (.bool (jidB l d r)) ∧ Below w.heap.size w w' := by
  obtain ⟨b1, h1⟩ : ∃ b, partB locC l = b := ⟨_, rfl⟩
  obtain ⟨b2, h2⟩ : ∃ b, domB d = b := ⟨_, rfl⟩
  obtain ⟨b3, h3⟩ : ∃ b, partB resC r = b := ⟨_, rfl⟩
  have i1 := fun w => impl_part_loc l w hl
  have i2 := fun w => impl_domain d w hd
  have i3 := fun w => impl_part_res r w hr
  rw [h1] at i1
  rw [h2] at i2
  rw [h3] at i3
  unfold jidB jidB'
  rw [h1, h2, h3]
  clear h1 h2 h3
  have HM := Lib.hid hm
  have hm1 : ∀ o, MaxL (w.alloc o) := fun o => hm.below ((Below.refl w.heap.size w).alloc (Nat.le_refl _) o) hm.pos
  have HM1 := Lib.hid hm1
  clear hm1 hm
  cases b1 <;> cases b2 <;>
    (go_enter Tryz.func97, Tryz.ntmps97
     go_wp2_with (first
       | (go_at_call 118; refine (i2 _ (HM1.out _)).mono ?_; rintro e w' ⟨rfl, n, rfl⟩)
       | (go_at_call 116; go_fit (i1 _); rintro e w' ⟨rfl, rfl⟩)
       | (go_at_call 116; go_fit (i3 _); rintro e w' ⟨rfl, rfl⟩))
     go_ret
     first
       | exact ⟨ret_bool (by simp), (Below.refl _ _).alloc (Nat.le_refl _) _⟩
       | exact ⟨ret_bool (by simp), below_drewN ((Below.refl _ _).alloc (Nat.le_refl _) _) _⟩)
end Go.Proofs.YtafdjjdmcnlddaaGreat

namespace Go.Proofs.YtafdjjdmcnlddaaGreat
set_option linter.unusedSimpArgs false
set_option linter.unusedVariables false
open Go.RowKit

def plainB (c : Nat) (others : ByteArray) : Bool := letC c || digC c || !allC (fun x => decide (x ≠ c)) others
theorem plain_yes {c : Nat} {o : ByteArray} (h : 97 ≤ (c : Int) ∧ (c : Int) ≤ 122 ∨ 48 ≤ (c : Int) ∧ (c : Int) ≤ 57) : plainB c o = true := by
  have : (letC c || digC c) = true := by
    unfold letC digC
    simp
    omega
  unfold plainB
  rw [this]
  rfl
theorem plain_no {c : Nat} {o : ByteArray} (h : (c : Int) < 48 ∨ 57 < (c : Int) ∧ (c : Int) < 97 ∨ 122 < (c : Int)) : plainB c o = !allC (fun x => decide (x ≠ c)) o := by
  have : (letC c || digC c) = false := by
    unfold letC digC
    rw [Bool.eq_false_iff]
    intro h
    simp at h
    omega
  unfold plainB
  rw [this]
  rfl
set_option maxHeartbeats 2000000 in
theorem spec_plain (c : Nat) (o : ByteArray) (w : World) (ho : o.size ≤ 1000) : Calls Tryz.prog 123 #[.int .u8 (c : Int), .string o] w (SaysB (plainB c o) w) := by
  obtain ⟨v, hv⟩ : ∃ v, plainB c o = v := ⟨_, rfl⟩
  rw [hv]
  have HV := Lib.hid hv
  clear hv
  have h5 : 97 ≤ (c : Int) ∧ (c : Int) ≤ 122 ∨ 48 ≤ (c : Int) ∧ (c : Int) ≤ 57 ∨ (c : Int) < 48 ∨ 57 < (c : Int) ∧ (c : Int) < 97 ∨ 122 < (c : Int) := by omega
  rcases h5 with h | h | h
  · obtain rfl : v = true := HV.out.symm.trans (plain_yes (.inl h))
    obtain ⟨h1, h2⟩ := h
    go_enter Tryz.func123, Tryz.ntmps123
    go_wp2
    go_ret
    exact ⟨rfl, rfl⟩
  · obtain rfl : v = true := HV.out.symm.trans (plain_yes (.inr h))
    obtain ⟨h1, h2⟩ := h
    go_enter Tryz.func123, Tryz.ntmps123
    go_wp2
    go_ret
    exact ⟨rfl, rfl⟩
  · have HV := Lib.hid (HV.out.symm.trans (plain_no h))
    rcases h with h | ⟨h, h'⟩ | h <;>
      (go_enter Tryz.func123, Tryz.ntmps123
       go_wp2
       go_loop [5] (fun i => ∃ k : Nat, k ≤ o.size ∧ i = .int .i64 k ∧ Upto (fun x => decide (x ≠ c)) o k) (fun i => o.size - (intOf i).toNat)
       case atStart => exact ⟨0, Nat.zero_le _, rfl, upto_zero _ _⟩
       case round =>
         obtain ⟨k, hk, rfl, hall⟩ := hrel
         have HA := Lib.hid hall
         clear hall
         by_cases hlt : k < o.size
         · by_cases heq : (o[k].toNat : Int) = (c : Int)
           · have HE : Hid (decide (o[k].toNat ≠ c) = false) := Lib.hid (by simp; omega)
             go_wp2
             go_ret
             refine ⟨ret_bool ?_, rfl⟩
             rw [HV.out, all_no hlt HE.out]
             rfl
           · have HE : Hid (decide (o[k].toNat ≠ c) = true) := Lib.hid (by simp; omega)
             go_wp2
             go_round
             case rel => exact ⟨k + 1, by omega, by go_num, upto_succ HA.out hlt HE.out⟩
             case measure => simp [intOf]; omega
         · go_wp2
           go_ret
           refine ⟨ret_bool ?_, rfl⟩
           rw [HV.out, upto_all HA.out hlt]
           rfl)
theorem plain_loc (c : Nat) : plainB c ⟨#[46, 95, 45]⟩ = locC c := by
  unfold plainB locC domC sepC allC
  cases letC c <;> cases digC c <;> (rw [Bool.eq_iff_iff]; simp; try omega)
theorem plain_dom (c : Nat) : plainB c ⟨#[46, 45]⟩ = domC c := by
  unfold plainB domC sepC allC
  cases letC c <;> cases digC c <;> (rw [Bool.eq_iff_iff]; simp; try omega)
set_option maxHeartbeats 1000000 in
theorem spec_local (s : ByteArray) (w : World) (hs : s.size ≤ maxLen) : Calls Tryz.prog 111 #[.string s] w (SaysB (partB locC s) w) := by
  unfold maxLen at hs
  go_enter Tryz.func111, Tryz.ntmps111
  go_wp2
  go_loop [3] (fun i => ∃ k : Nat, k ≤ s.size ∧ i = .int .i64 k ∧ Upto locC s k) (fun i => s.size - (intOf i).toNat)
  case atStart => exact ⟨0, Nat.zero_le _, rfl, upto_zero _ _⟩
  case round =>
    obtain ⟨k, hk, rfl, hall⟩ := hrel
    have HA := Lib.hid hall
    clear hall
    by_cases hlt : k < s.size
    · have hc := fun w => spec_plain s[k].toNat ⟨#[46, 95, 45]⟩ w (by decide)
      rw [plain_loc] at hc
      obtain ⟨b, hb⟩ : ∃ b, locC s[k].toNat = b := ⟨_, rfl⟩
      rw [hb] at hc
      have HB := Lib.hid hb
      clear hb
      cases b
      · go_wp2_with (first | (go_at_call 123; refine (hc _).mono ?_; rintro e w' ⟨rfl, rfl⟩))
        go_ret
        exact ⟨ret_bool (by unfold partB; rw [all_no hlt HB.out, Bool.and_false]), rfl⟩
      · go_wp2_with (first | (go_at_call 123; refine (hc _).mono ?_; rintro e w' ⟨rfl, rfl⟩))
        go_round
        case rel => exact ⟨k + 1, by omega, by go_num, upto_succ HA.out hlt HB.out⟩
        case measure => simp [intOf]; omega
    · go_wp2
      go_ret
      exact ⟨ret_bool (by unfold partB; rw [upto_all HA.out hlt, Bool.and_true]; simp; omega), rfl⟩
set_option maxHeartbeats 4000000 in
theorem spec_resource (s : ByteArray) (w : World) (hs : s.size ≤ maxLen) : Calls Tryz.prog 109 #[.string s] w (SaysB (partB resC s) w) := by
  unfold maxLen at hs
  go_enter Tryz.func109, Tryz.ntmps109
  go_wp2
  go_loop [3] (fun i => ∃ k : Nat, k ≤ s.size ∧ i = .int .i64 k ∧ Upto resC s k) (fun i => s.size - (intOf i).toNat)
  case atStart => exact ⟨0, Nat.zero_le _, rfl, upto_zero _ _⟩
  case round =>
    obtain ⟨k, hk, rfl, hall⟩ := hrel
    have HA := Lib.hid hall
    clear hall
    by_cases hlt : k < s.size
    · go_wp2
      all_goals first
        | (go_ret
           refine ⟨ret_bool ?_, rfl⟩
           unfold partB
           rw [all_no hlt (by clear HA; (try simp only [beq_iff_eq, beq_eq_false_iff_ne] at *); unfold resC; simp; omega), Bool.and_false])
        | (go_round
           case rel => exact ⟨k + 1, by omega, by go_num, upto_succ HA.out hlt (by clear HA; (try simp only [beq_iff_eq, beq_eq_false_iff_ne] at *); unfold resC; simp; omega)⟩
           case measure => simp [intOf]; omega)
    · go_wp2
      go_ret
      exact ⟨ret_bool (by unfold partB; rw [upto_all HA.out hlt, Bool.and_true]; simp; omega), rfl⟩
theorem noDots_zero (s : ByteArray) : NoDots s 0 := fun _ _ h => absurd h (Nat.not_lt_zero _)
theorem noDots_succ {s : ByteArray} {k : Nat} (h : NoDots s k) (h1 : ∀ j (hj : j + 1 < s.size), j + 1 = k → ¬ (s[j].toNat = 46 ∧ s[j + 1].toNat = 46)) : NoDots s (k + 1) := by
  intro j hj hlt
  by_cases e : j + 1 = k
  · exact h1 j hj e
  · exact h j hj (by omega)
set_option maxHeartbeats 4000000 in
theorem spec_domain (s : ByteArray) (w : World) (hs : s.size ≤ maxLen) : Calls Tryz.prog 112 #[.string s] w (SaysB (domB s) w) := by
  unfold maxLen at hs
  by_cases h0 : s.size = 0
  · have HF : Hid (domB s = false) := Lib.hid (domB_false fun h => by have := h.1; omega)
    go_enter Tryz.func112, Tryz.ntmps112
    go_wp2
    go_ret
    exact ⟨ret_bool HF.out.symm, rfl⟩
  · by_cases h30 : 30 < s.size
    · have HF : Hid (domB s = false) := Lib.hid (domB_false fun h => by have := h.2.1; unfold partB at this; simp at this; omega)
      go_enter Tryz.func112, Tryz.ntmps112
      go_wp2
      go_ret
      exact ⟨ret_bool HF.out.symm, rfl⟩
    · have h1 : 0 < s.size := by omega
      have hle : s.size ≤ 30 := by omega
      clear h0 h30
      obtain ⟨n, hn⟩ : ∃ n, n = s.size - 1 := ⟨_, rfl⟩
      have hz : (s.size : Int) - 1 = (n : Int) := by omega
      have hl : n < s.size := by omega
      have HN := Lib.hid hn
      clear hn
      obtain ⟨b2, hb2⟩ : ∃ b, (sepC s[0].toNat || sepC s[n].toNat) = b := ⟨_, rfl⟩
      have HB2 := Lib.hid hb2
      clear hb2
      have hsep : b2 = true → domB s = false := fun h => domB_false fun hd => by
        have := hd.2.2.1 h1
        have hn := HN.out
        subst hn
        have e := HB2.out
        rw [this.1, this.2, h] at e
        cases e
      have HS := Lib.hid hsep
      clear hsep
      go_enter Tryz.func112, Tryz.ntmps112
      go_wp2
      all_goals first
        | (go_ret
           refine ⟨ret_bool (HS.out ?_).symm, rfl⟩
           have e := HB2.out
           clear HS HB2 HN
           (try simp only [beq_iff_eq, beq_eq_false_iff_ne] at *)
           rw [← e]
           unfold sepC
           simp
           omega)
        | skip
      rename_i e1 e2 e3 e4 _ _
      have HSF : Hid (sepC s[0].toNat = false ∧ sepC s[n].toNat = false) := Lib.hid (by
        clear HS HB2 HN
        (try simp only [beq_iff_eq, beq_eq_false_iff_ne] at *)
        unfold sepC
        simp
        omega)
      clear e1 e2 e3 e4 HS HB2
      go_loop [4] (fun i => ∃ k : Nat, k ≤ s.size ∧ i = .int .i64 k ∧ Upto domC s k ∧ NoDots s k) (fun i => s.size - (intOf i).toNat)
      case atStart => exact ⟨0, Nat.zero_le _, rfl, upto_zero _ _, noDots_zero _⟩
      case round =>
        obtain ⟨k, hk, rfl, hall, hdots⟩ := hrel
        have HA := Lib.hid hall
        have HD := Lib.hid hdots
        clear hall hdots
        by_cases hlt : k < s.size
        · have hc := fun w => spec_plain s[k].toNat ⟨#[46, 45]⟩ w (by decide)
          rw [plain_dom] at hc
          obtain ⟨b, hb⟩ : ∃ b, domC s[k].toNat = b := ⟨_, rfl⟩
          rw [hb] at hc
          have HB := Lib.hid hb
          clear hb
          cases b
          · go_wp2_with (first | (go_at_call 123; refine (hc _).mono ?_; rintro e w' ⟨rfl, rfl⟩))
            go_ret
            exact ⟨ret_bool (domB_false fun h => by have := h.2.1; unfold partB at this; rw [all_no hlt HB.out, Bool.and_false] at this; cases this).symm, rfl⟩
          · by_cases hk0 : k = 0
            · subst hk0
              go_wp2_with (first | (go_at_call 123; refine (hc _).mono ?_; rintro e w' ⟨rfl, rfl⟩))
              go_round
              case rel => exact ⟨0 + 1, by omega, by go_num, upto_succ HA.out hlt HB.out, noDots_succ HD.out (fun j hj e => by omega)⟩
              case measure => simp [intOf]; omega
            · obtain ⟨q, rfl⟩ : ∃ q, k = q + 1 := ⟨k - 1, by omega⟩
              have hq : q < s.size := by omega
              have hqz : ((q + 1 : Nat) : Int) - 1 = (q : Int) := by omega
              go_wp2_with (first | (go_at_call 123; refine (hc _).mono ?_; rintro e w' ⟨rfl, rfl⟩))
              · rename_i e1 e2
                have hd : s[q].toNat = 46 ∧ s[q + 1].toNat = 46 := by rw [beq_iff_eq] at e2; omega
                go_ret
                exact ⟨ret_bool (domB_false fun h => (dots_iff s).1 h.2.2.2 q hlt hlt hd).symm, rfl⟩
              · rename_i e1 e2
                have hd : ¬ (s[q].toNat = 46) := by rw [beq_eq_false_iff_ne] at e2; omega
                go_round
                case rel => exact ⟨q + 1 + 1, by omega, by go_num, upto_succ HA.out hlt HB.out, noDots_succ HD.out (fun j hj e => by
                  obtain rfl : j = q := by omega
                  exact fun h => hd h.1)⟩
                case measure => simp [intOf]; omega
              · rename_i e1
                have hd : ¬ (s[q + 1].toNat = 46) := by omega
                go_round
                case rel => exact ⟨q + 1 + 1, by omega, by go_num, upto_succ HA.out hlt HB.out, noDots_succ HD.out (fun j hj e => by
                  obtain rfl : j = q := by omega
                  exact fun h => hd h.2)⟩
                case measure => simp [intOf]; omega
        · go_wp2
          go_ret
          refine ⟨ret_bool (domB_true ⟨h1, ?_, fun _ => ?_, (dots_iff s).2 ?_⟩).symm, rfl⟩
          · unfold partB
            rw [upto_all HA.out hlt]
            simp
            omega
          · have hn := HN.out
            subst hn
            exact HSF.out
          · have := HD.out
            rw [show k = s.size by omega] at this
            exact this
set_option maxHeartbeats 1000000 in
theorem spec_right (l d r : ByteArray) (w : World) (hl : l.size ≤ maxLen) (hd : d.size ≤ maxLen) (hr : r.size ≤ maxLen) :
    Calls Tryz.prog 90 #[.agg #[.string l, .string d, .string r]] w fun e w' => e = .returned (.bool (jidB l d r)) ∧ Below w.heap.size w w' := by
  obtain ⟨b1, h1⟩ : ∃ b, partB locC l = b := ⟨_, rfl⟩
  obtain ⟨b2, h2⟩ : ∃ b, domB d = b := ⟨_, rfl⟩
  obtain ⟨b3, h3⟩ : ∃ b, partB resC r = b := ⟨_, rfl⟩
  have i1 := fun w => spec_local l w hl
  have i2 := fun w => spec_domain d w hd
  have i3 := fun w => spec_resource r w hr
  rw [h1] at i1
  rw [h2] at i2
  rw [h3] at i3
  unfold jidB jidB'
  rw [h1, h2, h3]
  clear h1 h2 h3
  cases b1 <;> cases b2 <;>
    (go_enter Tryz.func90, Tryz.ntmps90
     go_wp2_with (first
       | (go_at_call 111; go_fit (i1 _); rintro e w' ⟨rfl, rfl⟩)
       | (go_at_call 112; go_fit (i2 _); rintro e w' ⟨rfl, rfl⟩)
       | (go_at_call 109; go_fit (i3 _); rintro e w' ⟨rfl, rfl⟩))
     go_ret
     exact ⟨ret_bool (by simp), (Below.refl _ _).alloc (Nat.le_refl _) _⟩)
end Go.Proofs.YtafdjjdmcnlddaaGreat

namespace Go.Proofs.YtafdjjdmcnlddaaGreat
set_option linter.unusedSimpArgs false
set_option linter.unusedVariables false
open Go.RowKit

/-- The bytes of some strings, one behind the other. -/
def flat (ss : List ByteArray) : List UInt8 := ss.flatMap (·.data.toList)
theorem flat_succ (ss : List ByteArray) (k : Nat) (h : k < ss.length) : flat (ss.take (k + 1)) = flat (ss.take k) ++ ss[k].data.toList := by
  unfold flat
  rw [List.take_succ_eq_append_getElem h, List.flatMap_append]
  simp only [List.flatMap_cons, List.flatMap_nil, List.append_nil]
theorem flat_take_le (ss : List ByteArray) (k : Nat) : (flat (ss.take k)).length ≤ (flat ss).length := by
  have e : flat ss = flat (ss.take k) ++ flat (ss.drop k) := by
    unfold flat
    rw [← List.flatMap_append, List.take_append_drop]
  rw [e]; simp
theorem size_data (s : ByteArray) : s.data.toList.length = s.size := by rw [Array.length_toList]; rfl
theorem info_u8j : (Tryz.prog.info? 5).map (fun i => (i.zero, i.size, i.bytes)) = some (some (.int .u8 0), 1, 1) := by kernel_rfl
theorem size_u8j : (Tryz.prog.info? 5).map (·.size) = some 1 := by kernel_rfl

theorem Heads.more {cs : List Value} {l m : List UInt8} (h : Heads cs l) : Heads (cs.take l.length ++ m.map byteV ++ cs.drop (l.length + m.length)) (l ++ m) := by
  unfold Heads at h ⊢
  rw [h, ← List.map_append]
  rw [show (l ++ m).length = ((l ++ m).map byteV).length by simp]
  exact List.take_left

theorem Arr.row {w : World} {b t : Nat} {cs : List Value} (h : Arr w b t cs) (l : List Value) : Arr (w.setRow b l.toArray) b t l := setRow_heap w b _ _ t _ h

/-- copy(buf[at:], s) where s fits. -/
theorem copy_part (w : World) (ty g at_ n : Nat) (cs : List Value) (s : ByteArray) (hA : Arr w g 5 cs) (hn : cs.length = n) (hfit : at_ + s.size ≤ n) :
    (Builtin.copy_ #[22, 9] ty #[.slice (some ⟨g, at_, none⟩) (n - at_) (n - at_), .string s]).run Tryz.prog w =
      .ok (.int .i64 (s.size : Int)) (w.setRow g (cs.take at_ ++ s.data.toList.map byteV ++ cs.drop (at_ + s.size)).toArray) := by
  have h := Lib.run_copy_row_string (P := Tryz.prog) w 22 9 ty 5 g at_ (n - at_) (n - at_) s cs.toArray 5 Tryz.underlying22 size_u8j hA (by omega) (by simpa using by omega)
  have e : Lib.byteCells s.data.toList = s.data.toList.map byteV := rfl
  rw [e] at h
  exact h
theorem copy_none (w : World) (ty : Nat) (d : Option Addr) (l c : Nat) (s : ByteArray) (h0 : s.size = 0) :
    (Builtin.copy_ #[22, 9] ty #[.slice d l c, .string s]).run Tryz.prog w = .ok (.int .i64 0) w :=
  Lib.run_copy_empty_string (P := Tryz.prog) w 22 9 ty 5 d l c s Tryz.underlying22 (by rw [size_u8j]; rfl) h0

set_option maxRecDepth 100000 in
set_option maxHeartbeats 800000 in
theorem impl_joined (b c : Nat) (ss : List ByteArray) (w : World) (hb : b < w.heap.size) (hc : ∀ j (h : j < ss.length), w.cell? ⟨b, j, none⟩ = some (.string ss[j])) (hlen : ss.length ≤ 1000000)
    (htot : (flat ss).length ≤ 1099511627776) :
    Calls Tryz.prog 45 #[.slice (some ⟨b, 0, none⟩) ss.length c] w fun e w' => e = .returned (.string (strOf (flat ss))) ∧ Below w.heap.size w w' := by
  obtain ⟨i0, hi, hz0, hz1, hz2⟩ := info_parts info_u8j
  have HC := Lib.hid hc
  clear hc
  go_enter Tryz.func45, Tryz.ntmps45
  go_wp2
  go_loop [3, 12] (fun s i => ∃ k : Nat, k ≤ ss.length ∧ i = .int .i64 k ∧ s = .int .i64 ((flat (ss.take k)).length : Int)) (fun _ i => ss.length - (intOf i).toNat)
  case atStart => exact ⟨0, Nat.zero_le _, rfl, rfl⟩
  case round =>
    obtain ⟨k, hk, rfl, rfl⟩ := hrel
    by_cases hlt : k < ss.length
    · have hcell := HC.out k hlt
      have hs := flat_succ ss k hlt
      have hle := flat_take_le ss (k + 1)
      have hle2 : (flat (ss.take k)).length + ss[k].size ≤ (flat ss).length := by rw [hs, List.length_append, size_data] at hle; exact hle
      have HS := Lib.hid hs
      clear hs hle
      go_wp2
      go_round
      case rel => exact ⟨k + 1, by omega, by go_num, by rw [HS.out, List.length_append, size_data]; go_num⟩
      case measure => simp [intOf]; omega
    · have hk' : k = ss.length := by omega
      subst hk'
      clear hlt hk
      rw [List.take_length]
      obtain ⟨n, hn⟩ : ∃ n, n = (flat ss).length := ⟨_, rfl⟩
      rw [← hn] at htot ⊢
      have HN := Lib.hid hn
      clear hn
      have hmk : ∀ u : World, (Instr.makeSlice 22 (.int .i64 (n : Int)) (.int .i64 (n : Int))).run Tryz.prog u =
          .ok (.slice (some ⟨u.heap.size, 0, none⟩) n n) (u.alloc (.cells (madeCells #[.int .u8 0] n) 5)) := fun u => by
        have h := run_make (P := Tryz.prog) u 22 5 i0 (.int .u8 0) Tryz.underlying22 hi hz0 .i64 .i64 (n : Int) (n : Int) (by omega) (Int.le_refl _) (by rw [hz2]; omega) (by omega)
        simpa [hz1, Value.cells] using h
      go_wp2
      have hsize : w.heap.size < (w.alloc (.cells (madeCells #[.int .u8 0] n) 5)).heap.size := by simp
      have hA0 : Arr (w.alloc (.cells (madeCells #[.int .u8 0] n) 5)) w.heap.size 5 (madeCells #[.int .u8 0] n).toList := heap_alloc_new w _
      go_loopw [7, 25] (fun s i wr => ∃ (k : Nat) (cs : List Value), k ≤ ss.length ∧ i = .int .i64 k ∧ s = .int .i64 ((flat (ss.take k)).length : Int) ∧ Arr wr w.heap.size 5 cs ∧ cs.length = n ∧ Heads cs (flat (ss.take k)) ∧ Below w.heap.size w wr) (fun _ i _ => ss.length - (intOf i).toNat)
      case atStart => exact ⟨0, _, Nat.zero_le _, rfl, rfl, hA0, by simp [size_madeCells], rfl, (Below.refl _ _).alloc (Nat.le_refl _) _⟩
      case round =>
        clear hA0 hsize hmk
        obtain ⟨k, cs, hk, rfl, rfl, hA, hcs, hH, hbel⟩ := hrel
        by_cases hlt : k < ss.length
        · have hcell := (hbel.cell (p := ⟨b, k, none⟩) hb).trans (HC.out k hlt)
          have hs := flat_succ ss k hlt
          have hle := flat_take_le ss (k + 1)
          rw [hs, List.length_append, size_data, ← HN.out] at hle
          have HS := Lib.hid hs
          have HA := Lib.hid hA
          have HH := Lib.hid hH
          have HCS := Lib.hid hcs
          clear hs hA hH hcs
          obtain ⟨m, hm⟩ : ∃ m, m = (flat (ss.take k)).length := ⟨_, rfl⟩
          rw [← hm] at hle ⊢
          have HM := Lib.hid hm
          clear hm
          by_cases h0 : ss[k].size = 0
          · have hcp := fun ty d l c => copy_none wr ty d l c ss[k] h0
            have H0 := Lib.hid h0
            clear h0
            have HF : Hid (flat (ss.take (k + 1)) = flat (ss.take k)) := Lib.hid (by
              rw [HS.out, List.eq_nil_of_length_eq_zero ((size_data _).trans H0.out), List.append_nil])
            go_wp2
            go_roundw
            case rel => exact ⟨k + 1, cs, by omega, by go_num, by rw [HF.out, ← HM.out], HA.out, HCS.out, by rw [HF.out]; exact HH.out, hbel⟩
            case measure => simp [intOf]; omega
          · have hcp := fun ty => copy_part wr ty w.heap.size m n cs ss[k] HA.out HCS.out (by omega)
            have hmn : m < n := by omega
            go_wp2
            go_roundw
            case rel =>
              have hR := HH.out.more (m := ss[k].data.toList)
              rw [← HS.out, ← HM.out, size_data, List.append_assoc] at hR
              refine ⟨k + 1, _, by omega, by go_num, by rw [HS.out, List.length_append, size_data, ← HM.out]; go_num, Arr.row HA.out _, ?_, hR, below_setRow hbel (Nat.le_refl _) _⟩
              have := HCS.out
              simp [size_data]
              omega
            case measure => simp [intOf]; omega
        · have hk' : k = ss.length := by omega
          subst hk'
          rw [List.take_length] at hH
          have hcv := run_string_arr (P := Tryz.prog) wr 22 9 5 _ _ n n _ _ hA hH HN.out Tryz.underlying22 Tryz.underlying5 Tryz.underlying9
          clear hA hH hcs
          go_wp2
          go_ret
          exact ⟨rfl, hbel⟩
theorem flat_one (a : ByteArray) : flat [a] = a.data.toList := by simp [flat]
theorem joined_one (a : ByteArray) : strOf (flat [a]) = a := by rw [flat_one]; rfl
end Go.Proofs.YtafdjjdmcnlddaaGreat

namespace Go.Proofs.YtafdjjdmcnlddaaGreat
set_option linter.unusedSimpArgs false
set_option linter.unusedVariables false
open Go.RowKit

def atS : ByteArray := ⟨#[64]⟩
def slS : ByteArray := ⟨#[47]⟩
def markOf (m x : ByteArray) : ByteArray := if x.size = 0 then ByteArray.empty else m
/-- The text of an address. -/
def jidT (l d r : ByteArray) : ByteArray := strOf (flat [l, markOf atS l, d, markOf slS r, r])
theorem flat_five (a b c d e : ByteArray) : flat [a, b, c, d, e] = a.data.toList ++ (b.data.toList ++ (c.data.toList ++ (d.data.toList ++ e.data.toList))) := by simp [flat]
theorem mark_none {m x : ByteArray} (h : x.size = 0) : markOf m x = ByteArray.empty := by unfold markOf; rw [if_pos h]
theorem mark_some {m x : ByteArray} (h : 0 < x.size) : markOf m x = m := by unfold markOf; rw [if_neg (by omega)]
theorem empty_list : ByteArray.empty.data.toList = [] := rfl
theorem empty_of {s : ByteArray} (h : s.size = 0) : s.toList = [] ∧ s.toList.isEmpty = true := by
  rw [size_zero h]
  exact ⟨by rw [ByteArray.toList_eq]; rfl, by rw [ByteArray.toList_eq]; rfl⟩
theorem five_cells (w : World) (a b c d e : ByteArray) (t : Nat) : ∀ j (h : j < [a, b, c, d, e].length), (w.alloc (.cells #[.string a, .string b, .string c, .string d, .string e] t)).cell? ⟨w.heap.size, j, none⟩ = some (.string [a, b, c, d, e][j]) := by
  intro j h
  rw [(Arr.fresh w t [.string a, .string b, .string c, .string d, .string e]).cell]
  match j, h with
  | 0, _ => rfl
  | 1, _ => rfl
  | 2, _ => rfl
  | 3, _ => rfl
  | 4, _ => rfl
theorem flat_five_le {l m d n r : ByteArray} (h1 : l.size ≤ 2000000) (h2 : m.size ≤ 1) (h3 : d.size ≤ 2000000) (h4 : n.size ≤ 1) (h5 : r.size ≤ 2000000) : (flat [l, m, d, n, r]).length ≤ 1099511627776 := by
  rw [flat_five]
  simp only [List.length_append, size_data]
  omega
theorem mark_le (m x : ByteArray) (h : m.size ≤ 1) : (markOf m x).size ≤ 1 := by
  unfold markOf
  split
  · exact Nat.zero_le _
  · exact h

set_option maxHeartbeats 2000000 in
theorem impl_addr (l d r : ByteArray) (w : World) (hl : l.size ≤ 2000000) (hd : d.size ≤ 2000000) (hr : r.size ≤ 2000000) :
    Calls Tryz.prog 98 #[.agg #[.string l, .string d, .string r]] w fun e w' => e = .returned (.string (jidT l d r)) ∧ Below w.heap.size w w' := by
  have hj : Calls Tryz.prog 45 #[.slice (some ⟨w.heap.size + 1, 0, none⟩) 5 5] ((w.alloc (.cells #[.string l, .string d, .string r] 49)).alloc (.cells #[.string l, .string (markOf atS l), .string d, .string (markOf slS r), .string r] 9))
      fun e w' => e = .returned (.string (strOf (flat [l, markOf atS l, d, markOf slS r, r]))) ∧ Below ((w.alloc (.cells #[.string l, .string d, .string r] 49)).alloc (.cells #[.string l, .string (markOf atS l), .string d, .string (markOf slS r), .string r] 9)).heap.size ((w.alloc (.cells #[.string l, .string d, .string r] 49)).alloc (.cells #[.string l, .string (markOf atS l), .string d, .string (markOf slS r), .string r] 9)) w' := by
    have h := impl_joined (w.alloc (.cells #[.string l, .string d, .string r] 49)).heap.size 5 [l, markOf atS l, d, markOf slS r, r] ((w.alloc (.cells #[.string l, .string d, .string r] 49)).alloc (.cells #[.string l, .string (markOf atS l), .string d, .string (markOf slS r), .string r] 9)) (by simp)
      (five_cells _ _ _ _ _ _ _) (by simp) (flat_five_le hl (mark_le _ _ (by decide)) hd (mark_le _ _ (by decide)) hr)
    simpa using h
  have hfold : strOf (flat [l, markOf atS l, d, markOf slS r, r]) = jidT l d r := rfl
  rw [hfold] at hj
  obtain ⟨v, hv⟩ : ∃ v, v = jidT l d r := ⟨_, rfl⟩
  rw [← hv] at hj ⊢
  clear hv hfold
  rcases Nat.eq_zero_or_pos l.size with h1 | h1 <;> rcases Nat.eq_zero_or_pos r.size with h2 | h2
  · rw [mark_none h1, mark_none h2] at hj
    obtain ⟨n1, e1⟩ := empty_of h1
    obtain ⟨n2, e2⟩ := empty_of h2
    go_enter Tryz.func98, Tryz.ntmps98
    go_wp2_with (go_at_call 45; go_fit hj; rintro e w1 ⟨rfl, hb⟩)
    go_ret
    exact ⟨rfl, (((Below.refl _ _).alloc (Nat.le_refl _) _).alloc (by simp) _).trans (hb.mono (by simp; omega))⟩
  · rw [mark_none h1, mark_some h2] at hj
    obtain ⟨n1, e1⟩ := empty_of h1
    have n2 := ne_nil h2
    have e2 := not_empty h2
    go_enter Tryz.func98, Tryz.ntmps98
    go_wp2_with (go_at_call 45; go_fit hj; rintro e w1 ⟨rfl, hb⟩)
    go_ret
    exact ⟨rfl, (((Below.refl _ _).alloc (Nat.le_refl _) _).alloc (by simp) _).trans (hb.mono (by simp; omega))⟩
  · rw [mark_some h1, mark_none h2] at hj
    have n1 := ne_nil h1
    have e1 := not_empty h1
    obtain ⟨n2, e2⟩ := empty_of h2
    go_enter Tryz.func98, Tryz.ntmps98
    go_wp2_with (go_at_call 45; go_fit hj; rintro e w1 ⟨rfl, hb⟩)
    go_ret
    exact ⟨rfl, (((Below.refl _ _).alloc (Nat.le_refl _) _).alloc (by simp) _).trans (hb.mono (by simp; omega))⟩
  · rw [mark_some h1, mark_some h2] at hj
    have n1 := ne_nil h1
    have e1 := not_empty h1
    have n2 := ne_nil h2
    have e2 := not_empty h2
    go_enter Tryz.func98, Tryz.ntmps98
    go_wp2_with (go_at_call 45; go_fit hj; rintro e w1 ⟨rfl, hb⟩)
    go_ret
    exact ⟨rfl, (((Below.refl _ _).alloc (Nat.le_refl _) _).alloc (by simp) _).trans (hb.mono (by simp; omega))⟩

set_option maxHeartbeats 2000000 in
theorem spec_addr (l d r : ByteArray) (w : World) (hl : l.size ≤ 2000000) (hd : d.size ≤ 2000000) (hr : r.size ≤ 2000000) :
    Calls Tryz.prog 102 #[.agg #[.string l, .string d, .string r]] w fun e w' => e = .returned (.string (jidT l d r)) ∧ Below w.heap.size w w' := by
  obtain ⟨v, hv⟩ : ∃ v, v = jidT l d r := ⟨_, rfl⟩
  rw [← hv]
  have HV := Lib.hid hv
  clear hv
  rcases Nat.eq_zero_or_pos l.size with h1 | h1 <;> rcases Nat.eq_zero_or_pos r.size with h2 | h2
  · have hv' := HV.out
    unfold jidT at hv'
    rw [mark_none h1, mark_none h2] at hv'
    have HV := Lib.hid hv'
    clear hv'
    obtain ⟨n1, e1⟩ := empty_of h1
    obtain ⟨n2, e2⟩ := empty_of h2
    go_enter Tryz.func102, Tryz.ntmps102
    go_wp2
    go_ret
    refine ⟨ret_str (WideShapes.bytes_inj ?_), (Below.refl _ _).alloc (Nat.le_refl _) _⟩
    rw [HV.out, strOf_data, flat_five]
    have z1 : l.data.toList = [] := List.eq_nil_of_length_eq_zero ((size_data l).trans h1)
    have z2 : r.data.toList = [] := List.eq_nil_of_length_eq_zero ((size_data r).trans h2)
    simp [z1, z2, empty_list, atS, slS, Joins.data_append]
  · have hv' := HV.out
    unfold jidT at hv'
    rw [mark_none h1, mark_some h2] at hv'
    have HV := Lib.hid hv'
    clear hv'
    obtain ⟨n1, e1⟩ := empty_of h1
    have n2 := ne_nil h2
    have e2 := not_empty h2
    go_enter Tryz.func102, Tryz.ntmps102
    go_wp2
    go_ret
    refine ⟨ret_str (WideShapes.bytes_inj ?_), (Below.refl _ _).alloc (Nat.le_refl _) _⟩
    rw [HV.out, strOf_data, flat_five]
    have z1 : l.data.toList = [] := List.eq_nil_of_length_eq_zero ((size_data l).trans h1)
    simp [z1, empty_list, atS, slS, Joins.data_append]
  · have hv' := HV.out
    unfold jidT at hv'
    rw [mark_some h1, mark_none h2] at hv'
    have HV := Lib.hid hv'
    clear hv'
    have n1 := ne_nil h1
    have e1 := not_empty h1
    obtain ⟨n2, e2⟩ := empty_of h2
    go_enter Tryz.func102, Tryz.ntmps102
    go_wp2
    go_ret
    refine ⟨ret_str (WideShapes.bytes_inj ?_), (Below.refl _ _).alloc (Nat.le_refl _) _⟩
    rw [HV.out, strOf_data, flat_five]
    have z2 : r.data.toList = [] := List.eq_nil_of_length_eq_zero ((size_data r).trans h2)
    simp [z2, empty_list, atS, slS, Joins.data_append]
  · have hv' := HV.out
    unfold jidT at hv'
    rw [mark_some h1, mark_some h2] at hv'
    have HV := Lib.hid hv'
    clear hv'
    have n1 := ne_nil h1
    have e1 := not_empty h1
    have n2 := ne_nil h2
    have e2 := not_empty h2
    go_enter Tryz.func102, Tryz.ntmps102
    go_wp2
    go_ret
    refine ⟨ret_str (WideShapes.bytes_inj ?_), (Below.refl _ _).alloc (Nat.le_refl _) _⟩
    rw [HV.out, strOf_data, flat_five]
    simp [empty_list, atS, slS, Joins.data_append]

theorem right_le {l d r : ByteArray} (h : jidB l d r = true) : l.size ≤ 30 ∧ d.size ≤ 30 ∧ r.size ≤ 30 := by
  unfold jidB jidB' at h
  simp only [Bool.and_eq_true] at h
  obtain ⟨⟨h1, h2⟩, h3⟩ := h
  have h2' := (domB_iff.1 h2).2.1
  unfold partB at h1 h2' h3
  simp at h1 h2' h3
  exact ⟨h1.1, h2'.1, h3.1⟩
/-- What JidText answers. -/
noncomputable def jidTextS (l d r : ByteArray) : ByteArray := if jidB l d r = true then jidT l d r else ByteArray.empty
theorem jidTextS_yes {l d r : ByteArray} (h : jidB l d r = true) : jidTextS l d r = jidT l d r := by unfold jidTextS; rw [if_pos h]
theorem jidTextS_no {l d r : ByteArray} (h : jidB l d r = false) : jidTextS l d r = ByteArray.empty := by unfold jidTextS; rw [if_neg (by rw [h]; exact Bool.false_ne_true)]
set_option maxHeartbeats 1000000 in
theorem impl_text (l d r : ByteArray) (w : World) (hl : l.size ≤ maxLen) (hd : d.size ≤ maxLen) (hr : r.size ≤ maxLen) (hm : MaxL w) :
    Calls Tryz.prog 108 #[.agg #[.string l, .string d, .string r]] w fun e w' => e = .returned (.string (jidTextS l d r)) ∧ Below w.heap.size w w' := by
  have hm1 : MaxL (w.alloc (.cells #[.string l, .string d, .string r] 49)) := hm.below ((Below.refl w.heap.size w).alloc (Nat.le_refl _) _) hm.pos
  have i1 := impl_right l d r (w.alloc (.cells #[.string l, .string d, .string r] 49)) hl hd hr hm1
  obtain ⟨b, hb⟩ : ∃ b, jidB l d r = b := ⟨_, rfl⟩
  rw [hb] at i1
  cases b
  · rw [jidTextS_no hb]
    clear hb
    go_enter Tryz.func108, Tryz.ntmps108
    go_wp2_with (go_at_call 97; go_fit i1; rintro e w1 ⟨rfl, hb1⟩)
    go_ret
    exact ⟨rfl, below_one hb1⟩
  · rw [jidTextS_yes hb]
    obtain ⟨k1, k2, k3⟩ := right_le hb
    have i2 := fun w => impl_addr l d r w (by omega) (by omega) (by omega)
    clear hb
    obtain ⟨v, hv⟩ : ∃ v, v = jidT l d r := ⟨_, rfl⟩
    rw [← hv] at i2 ⊢
    clear hv
    go_enter Tryz.func108, Tryz.ntmps108
    go_wp2_with (first
      | (go_at_call 97; go_fit i1; rintro e w1 ⟨rfl, hb1⟩; obtain ⟨⟨c0, c1, c2⟩, _, _⟩ := three_kept hb1)
      | (go_at_call 98; go_fit (i2 _); rintro e w2 ⟨rfl, hb2⟩))
    go_ret
    exact ⟨rfl, below_one (hb1.trans (hb2.mono hb1.size))⟩
end Go.Proofs.YtafdjjdmcnlddaaGreat

namespace Go.Proofs.YtafdjjdmcnlddaaGreat
set_option linter.unusedSimpArgs false
set_option linter.unusedVariables false
open Go.RowKit

theorem size_drew (w : World) : w.drew.heap.size = w.heap.size := rfl
theorem one_at (w : World) (s : ByteArray) (t : Nat) : (w.alloc (.cells #[.string s] t)).cell? ⟨w.heap.size, 0, none⟩ = some (.string s) := (Arr.fresh w t [.string s]).cell 0
theorem lt_of_cellJ {w : World} {b i : Nat} {v : Value} (h : w.cell? ⟨b, i, none⟩ = some v) : b < w.heap.size := by
  rcases Nat.lt_or_ge b w.heap.size with h1 | h1
  · exact h1
  · simp [World.cell?, Array.getElem?_eq_none h1] at h
/-- joined of one string. -/
theorem joined_at (b : Nat) (s : ByteArray) (W : World) (hs : s.size ≤ 2000000) (hc : W.cell? ⟨b, 0, none⟩ = some (.string s)) :
    Calls Tryz.prog 45 #[.slice (some ⟨b, 0, none⟩) 1 1] W fun e w' => e = .returned (.string s) ∧ Below W.heap.size W w' := by
  have h := impl_joined b 1 [s] W (lt_of_cellJ hc) (fun j hj => by
    match j, hj with
    | 0, _ => exact hc) (by simp) (by rw [flat_one, size_data]; omega)
  rw [joined_one] at h
  exact h
theorem arr_alloc {w : World} {b t : Nat} {cs : List Value} (h : Arr w b t cs) (o : Obj) : Arr (w.alloc o) b t cs := by
  have hlt : b < w.heap.size := by
    rcases Nat.lt_or_ge b w.heap.size with h1 | h1
    · exact h1
    · unfold Arr at h; rw [Array.getElem?_eq_none h1] at h; cases h
  exact (Below.heap_alloc w o b hlt).trans h
theorem arr_below {w w1 : World} {b t : Nat} {cs : List Value} (h : Arr w b t cs) (hb : Below w.heap.size w w1) : Arr w1 b t cs := by
  have hlt : b < w.heap.size := by
    rcases Nat.lt_or_ge b w.heap.size with h1 | h1
    · exact h1
    · unfold Arr at h; rw [Array.getElem?_eq_none h1] at h; cases h
  exact (hb.block b hlt).trans h
/-- A block of three cells that the call has made for its answer. -/
def Res (W : World) (r : Nat) : Prop := ∃ a b c, Arr W r 49 [a, b, c]
def cellAt (W : World) (b i : Nat) : Value := (W.cell? ⟨b, i, none⟩).getD (.bool false)
theorem bare_kept {w w1 : World} {a b c x y z : Value} {t u : Nat} (h : Below ((w.alloc (.cells #[a, b, c] t)).alloc (.cells #[x, y, z] u)).heap.size ((w.alloc (.cells #[a, b, c] t)).alloc (.cells #[x, y, z] u)) w1) :
    Arr w1 w.heap.size t [a, b, c] ∧ Arr w1 (w.heap.size + 1) u [x, y, z] ∧ Below (w.alloc (.cells #[a, b, c] t)).heap.size (w.alloc (.cells #[a, b, c] t)) w1 := by
  have h1 : Below (w.alloc (.cells #[a, b, c] t)).heap.size (w.alloc (.cells #[a, b, c] t)) w1 := below_one h
  refine ⟨(h1.block w.heap.size (by simp)).trans (Arr.fresh w t [a, b, c]), ?_, h1⟩
  have h2 : Arr w1 (w.alloc (.cells #[a, b, c] t)).heap.size u [x, y, z] := (h.block _ (by simp)).trans (Arr.fresh (w.alloc (.cells #[a, b, c] t)) u [x, y, z])
  rw [World.size_alloc] at h2
  exact h2
theorem arr_three {w : World} {g t : Nat} {a b c : Value} (h : Arr w g t [a, b, c]) : w.cell? ⟨g, 0, none⟩ = some a ∧ w.cell? ⟨g, 1, none⟩ = some b ∧ w.cell? ⟨g, 2, none⟩ = some c ∧ w.frozen? ⟨g, 0, none⟩ = false ∧ w.frozen? ⟨g, 1, none⟩ = false ∧ w.frozen? ⟨g, 2, none⟩ = false :=
  ⟨h.cell 0, h.cell 1, h.cell 2, h.free 0, h.free 1, h.free 2⟩
theorem arr_lt {w : World} {b t : Nat} {cs : List Value} (h : Arr w b t cs) : b < w.heap.size := by
  rcases Nat.lt_or_ge b w.heap.size with h1 | h1
  · exact h1
  · unfold Arr at h; rw [Array.getElem?_eq_none h1] at h; cases h

end Go.Proofs.YtafdjjdmcnlddaaGreat

namespace Go.Proofs.YtafdjjdmcnlddaaGreat
set_option linter.unusedSimpArgs false
set_option linter.unusedVariables false

/-- A byte with A-Z as a-z. -/
def lowC (c : UInt8) : UInt8 := if 65 ≤ c.toNat ∧ c.toNat ≤ 90 then UInt8.ofNat (c.toNat + 32) else c
theorem lowC_slash (c : UInt8) : lowC c = 47 ↔ c = 47 := by
  have h : ∀ x : Fin 256, (lowC (UInt8.ofNat x.val) = 47 ↔ UInt8.ofNat x.val = 47) := by decide +kernel
  have := h ⟨c.toNat, c.toNat_lt⟩
  simpa using this
theorem index_app (c : UInt8) (R : List UInt8) : ∀ A : List UInt8, (∀ x ∈ A, x ≠ c) → Lib.index (A ++ c :: R) [c] = (A.length : Int)
  | [], _ => by
    unfold Lib.index
    simp [List.isPrefixOf]
  | a :: A, h => by
    have ih := index_app c R A (fun x hx => h x (List.mem_cons_of_mem _ hx))
    have ha : (c == a) = false := beq_eq_false_iff_ne.2 (fun e => h a (List.mem_cons_self) e.symm)
    rw [List.cons_append]
    unfold Lib.index
    rw [if_neg (by simp [List.isPrefixOf, ha]), ih, if_neg (by simp)]
    simp
theorem index_not (c : UInt8) : ∀ A : List UInt8, (∀ x ∈ A, x ≠ c) → Lib.index A [c] = -1
  | [], _ => by unfold Lib.index; rfl
  | a :: A, h => by
    have ih := index_not c A (fun x hx => h x (List.mem_cons_of_mem _ hx))
    have ha : (c == a) = false := beq_eq_false_iff_ne.2 (fun e => h a (List.mem_cons_self) e.symm)
    unfold Lib.index
    rw [if_neg (by simp [List.isPrefixOf, ha]), ih]
    rfl
theorem cut_app {c : UInt8} {A R : List UInt8} (h : ∀ x ∈ A, x ≠ c) : Lib.cut (A ++ c :: R) [c] = (A, R, true) := by
  unfold Lib.cut
  rw [index_app c R A h, if_pos (by omega)]
  simp
theorem cut_not {c : UInt8} {A : List UInt8} (h : ∀ x ∈ A, x ≠ c) : Lib.cut A [c] = (A, [], false) := by
  unfold Lib.cut
  rw [index_not c A h, if_neg (by omega)]
theorem cut_form (T : List UInt8) (c : UInt8) : (∃ A R, T = A ++ c :: R ∧ (∀ x ∈ A, x ≠ c)) ∨ ∀ x ∈ T, x ≠ c := by
  by_cases h : c ∈ T
  · obtain ⟨A, R, e, hn⟩ := List.eq_append_cons_of_mem h
    exact .inl ⟨A, R, e, fun x hx e => hn (e ▸ hx)⟩
  · exact .inr fun x hx e => h (e ▸ hx)

/-- A text with its letters before the first slash in lower case. -/
def lowL (T : List UInt8) : List UInt8 := (Lib.cut T [47]).1.map lowC ++ T.drop (Lib.cut T [47]).1.length
def partsL (U : List UInt8) : List UInt8 × List UInt8 × List UInt8 :=
  if (Lib.cut (Lib.cut U [47]).1 [64]).2.2 then ((Lib.cut (Lib.cut U [47]).1 [64]).1, (Lib.cut (Lib.cut U [47]).1 [64]).2.1, (Lib.cut U [47]).2.1) else ([], (Lib.cut U [47]).1, (Lib.cut U [47]).2.1)
def textL (p : List UInt8 × List UInt8 × List UInt8) : List UInt8 := p.1 ++ ((if p.1 = [] then [] else [64]) ++ (p.2.1 ++ ((if p.2.2 = [] then [] else [47]) ++ p.2.2)))
/-- Has no mark of this text an empty part beside it? -/
def shapeL (T : List UInt8) : Bool :=
  !((Lib.cut T [47]).2.2 && (Lib.cut T [47]).2.1.isEmpty) && !((Lib.cut ((Lib.cut T [47]).1.map lowC) [64]).2.2 && (Lib.cut ((Lib.cut T [47]).1.map lowC) [64]).1.isEmpty)
/-- What a text is read as, if it is. -/
def readL (T : List UInt8) : List UInt8 × List UInt8 × List UInt8 :=
  if (Lib.cut ((Lib.cut T [47]).1.map lowC) [64]).2.2 then ((Lib.cut ((Lib.cut T [47]).1.map lowC) [64]).1, (Lib.cut ((Lib.cut T [47]).1.map lowC) [64]).2.1, (Lib.cut T [47]).2.1) else ([], (Lib.cut T [47]).1.map lowC, (Lib.cut T [47]).2.1)
theorem low_no {A : List UInt8} (h : ∀ x ∈ A, x ≠ 47) : ∀ x ∈ A.map lowC, x ≠ 47 := by
  intro x hx
  obtain ⟨y, hy, rfl⟩ := List.mem_map.1 hx
  exact fun e => h y hy ((lowC_slash y).1 e)
theorem lowL_app {A R : List UInt8} (h : ∀ x ∈ A, x ≠ 47) : lowL (A ++ 47 :: R) = A.map lowC ++ 47 :: R := by
  unfold lowL
  rw [cut_app h]
  simp
theorem lowL_not {A : List UInt8} (h : ∀ x ∈ A, x ≠ 47) : lowL A = A.map lowC := by
  unfold lowL
  rw [cut_not h]
  simp
theorem parts_read (T : List UInt8) : partsL (lowL T) = readL T := by
  unfold partsL readL
  rcases cut_form T 47 with ⟨A, R, rfl, h⟩ | h
  · rw [lowL_app h, cut_app (low_no h), cut_app h]
  · rw [lowL_not h, cut_not (low_no h), cut_not h]
theorem len_ne {A B : List UInt8} (h : A.length ≠ B.length) : A ≠ B := fun e => h (by rw [e])
theorem text_shape (T : List UInt8) : textL (partsL (lowL T)) = lowL T ↔ shapeL T = true := by
  rw [parts_read]
  unfold readL shapeL textL
  rcases cut_form T 47 with ⟨A, R, rfl, h⟩ | h
  · rw [lowL_app h, cut_app h]
    dsimp only
    obtain ⟨q, hq⟩ : ∃ q, A.map lowC = q := ⟨_, rfl⟩
    rw [hq]
    rcases cut_form q 64 with ⟨B, D, rfl, h2⟩ | h2
    · rw [cut_app h2]
      cases B with
      | nil =>
        cases R with
        | nil =>
          simp
          exact len_ne (by simp; omega)
        | cons r R =>
          simp only [Bool.true_and, List.isEmpty_nil, List.isEmpty_cons, Bool.not_true, Bool.not_false, Bool.and_false, Bool.false_eq_true, iff_false]
          exact len_ne (by simp)
      | cons b B =>
        cases R with
        | nil => simp
        | cons r R => simp
    · rw [cut_not h2]
      cases R with
      | nil => simp
      | cons r R => simp
  · rw [lowL_not h, cut_not h]
    dsimp only
    obtain ⟨q, hq⟩ : ∃ q, T.map lowC = q := ⟨_, rfl⟩
    rw [hq]
    rcases cut_form q 64 with ⟨B, D, rfl, h2⟩ | h2
    · rw [cut_app h2]
      cases B with
      | nil => simp
      | cons b B => simp
    · rw [cut_not h2]
      simp
theorem read_le (T : List UInt8) : (readL T).1.length ≤ T.length ∧ (readL T).2.1.length ≤ T.length ∧ (readL T).2.2.length ≤ T.length := by
  unfold readL
  rcases cut_form T 47 with ⟨A, R, rfl, h⟩ | h
  · rw [cut_app h]
    dsimp only
    have hl : (A.map lowC).length = A.length := List.length_map ..
    rcases cut_form (A.map lowC) 64 with ⟨B, D, e, h2⟩ | h2
    · rw [e, cut_app h2]
      rw [e] at hl
      simp at hl ⊢
      omega
    · rw [cut_not h2]
      simp
      omega
  · rw [cut_not h]
    dsimp only
    have hl : (T.map lowC).length = T.length := List.length_map ..
    rcases cut_form (T.map lowC) 64 with ⟨B, D, e, h2⟩ | h2
    · rw [e, cut_app h2]
      rw [e] at hl
      simp at hl ⊢
      omega
    · rw [cut_not h2]
      simp
end Go.Proofs.YtafdjjdmcnlddaaGreat

namespace Go.Proofs.YtafdjjdmcnlddaaGreat
set_option linter.unusedSimpArgs false
set_option linter.unusedVariables false
open Go.RowKit

/-- v holds the bytes l, in a block from B on; up to its capacity the cells are there and may be written. -/
def OwnB (w : World) (B : Nat) (v : Value) (l : List UInt8) : Prop := ∃ g cap, v = .slice (some ⟨g, 0, none⟩) l.length cap ∧ B ≤ g ∧ g < w.heap.size ∧ l.length ≤ cap ∧
  (∀ j (h : j < l.length), w.cell? ⟨g, j, none⟩ = some (byteV l[j])) ∧ ∀ j, j < cap → (w.cell? ⟨g, j, none⟩).isSome = true ∧ w.frozen? ⟨g, j, none⟩ = false
theorem OwnB.kept {w w' : World} {B B' : Nat} {v : Value} {l : List UInt8} (h : OwnB w B v l) (hb : Below B' w w') (hB : w.heap.size ≤ B') : OwnB w' B v l := by
  obtain ⟨g, cap, h1, h2, h3, h4, h5, h6⟩ := h
  have hg : g < B' := Nat.lt_of_lt_of_le h3 hB
  exact ⟨g, cap, h1, h2, Nat.lt_of_lt_of_le h3 hb.size, h4, fun j hj => (hb.cell (p := ⟨g, j, none⟩) hg).trans (h5 j hj), fun j hj => by rw [hb.cell (p := ⟨g, j, none⟩) hg, hb.frozen (p := ⟨g, j, none⟩) hg]; exact h6 j hj⟩
theorem OwnB.alloc {w : World} {B : Nat} {v : Value} {l : List UInt8} (h : OwnB w B v l) (o : Obj) : OwnB (w.alloc o) B v l := h.kept ((Below.refl w.heap.size w).alloc (Nat.le_refl _) o) (Nat.le_refl _)
theorem OwnB.mono {w : World} {B B' : Nat} {v : Value} {l : List UInt8} (h : OwnB w B v l) (hB : B' ≤ B) : OwnB w B' v l := by
  obtain ⟨g, cap, h1, h2, h3⟩ := h
  exact ⟨g, cap, h1, Nat.le_trans hB h2, h3⟩
/-- []byte(s). -/
theorem wpList_bytes (w : World) {ops : Array Oper} {rest : List Oper} {o : Oper} {a : Act} {Q : Exit → Act → World → Prop} (hgd : o.guard = none) (x : Operand)
    (ho : o.op = .convert 9 22 x) (s : ByteArray) (hx : a.eval x = .string s)
    (h : ∀ v W, OwnB W w.heap.size v s.data.toList → Below w.heap.size w W → wpList Tryz.prog ops Q rest (a.put o.dst v) W) : wpList Tryz.prog ops Q (o :: rest) a w := by
  refine wpList_plain hgd fun K hK => ?_
  have hrun := run_bytes_of_string (P := Tryz.prog) w 9 22 5 s Tryz.underlying9 Tryz.underlying22 Tryz.underlying5
  obtain ⟨cap, hcap⟩ : ∃ cap, cap = grownCap w s.size 0 5 := ⟨_, rfl⟩
  have hge : s.size ≤ cap := by rw [hcap]; exact grownCap_ge w s.size 0 _
  rw [← hcap] at hrun
  have hl : s.data.toList.length = s.size := by rw [Array.length_toList]; rfl
  have hsz : (bytesRow s cap).size = cap := by
    unfold bytesRow
    rw [Array.size_append, Array.size_map, Array.size_replicate]
    have : s.data.size = s.size := rfl
    omega
  unfold Oper.wp execOp
  simp only [ho, hx, Sem.run_bind, hrun, Result.andThen_ok]
  refine hK _ _ (h _ _ ⟨w.heap.size, cap, by rw [hl], Nat.le_refl _, by simp, by omega, fun j hj => ?_, fun j hj => ⟨?_, ?_⟩⟩ (((Below.refl _ _).drew).alloc (Nat.le_refl _) _))
  · have := World.cell?_alloc_mark w.drew (bytesRow s cap) 5 ((bytesRow s cap).size, (bytesRow s cap).size + 1) j
    refine this.trans ?_
    unfold bytesRow
    rw [Array.getElem?_append_left (by rw [Array.size_map]; rw [Array.length_toList] at hj; exact hj), Array.getElem?_map, Array.getElem?_eq_getElem (by rw [Array.length_toList] at hj; exact hj)]
    rfl
  · have := World.cell?_alloc_mark w.drew (bytesRow s cap) 5 ((bytesRow s cap).size, (bytesRow s cap).size + 1) j
    refine (congrArg Option.isSome this).trans ?_
    rw [Array.getElem?_eq_getElem (by omega)]
    rfl
  · refine (World.frozen?_alloc_mark w.drew (bytesRow s cap) 5 _ _ j).trans ?_
    rw [hsz]
    simp
    omega
end Go.Proofs.YtafdjjdmcnlddaaGreat

namespace Go.Proofs.YtafdjjdmcnlddaaGreat
set_option linter.unusedSimpArgs false
set_option linter.unusedVariables false
open Go.RowKit

/-- Block g holds the bytes l, and may be written. -/
def BAt (w : World) (g cap : Nat) (l : List UInt8) : Prop := l.length ≤ cap ∧ g < w.heap.size ∧ (∀ j (h : j < l.length), w.cell? ⟨g, j, none⟩ = some (byteV l[j])) ∧
  ∀ j, j < cap → (w.cell? ⟨g, j, none⟩).isSome = true ∧ w.frozen? ⟨g, j, none⟩ = false
theorem BAt.put {w : World} {g cap : Nat} {l : List UInt8} (h : BAt w g cap l) {i : Nat} (hi : i < l.length) (b : UInt8) : BAt (w.setCell ⟨g, i, none⟩ (byteV b)) g cap (l.set i b) := by
  obtain ⟨h1, h2, h3, h4⟩ := h
  have hc : ∀ j, j < cap → (w.setCell ⟨g, i, none⟩ (byteV b)).cell? ⟨g, j, none⟩ = if j = i then some (byteV b) else w.cell? ⟨g, j, none⟩ := by
    intro j hj
    by_cases e : j = i
    · subst e
      rw [if_pos rfl]
      exact World.cell?_setCell_same w ⟨g, j, none⟩ _ (h3 j hi)
    · rw [if_neg e]
      exact World.cell?_setCell_other w ⟨g, i, none⟩ ⟨g, j, none⟩ _ (fun h => by simp at h <;> exact e h)
  refine ⟨by simpa using h1, by simpa [World.setCell] using h2, fun j hj => ?_, fun j hj => ⟨?_, ?_⟩⟩
  · have hj' : j < l.length := by simpa using hj
    rw [hc j (by omega)]
    by_cases e : j = i
    · subst e
      rw [if_pos rfl]
      simp
    · rw [if_neg e, h3 j hj', List.getElem_set_ne (Ne.symm e)]
  · rw [hc j hj]
    split
    · rfl
    · exact (h4 j hj).1
  · rw [World.frozen?_setCell]
    exact (h4 j hj).2
theorem BAt.str {w : World} {g cap : Nat} {l : List UInt8} (h : BAt w g cap l) : (convert 22 9 (.slice (some ⟨g, 0, none⟩) l.length cap)).run Tryz.prog w = .ok (.string (strOf l)) w :=
  run_convert_bytes_back w 22 9 5 ⟨g, 0, none⟩ cap l Tryz.underlying22 Tryz.underlying5 Tryz.underlying9 (fun j hj => by
    rw [show (⟨g, 0, none⟩ : Addr).add j = ⟨g, j, none⟩ by unfold Addr.add; split <;> simp_all]
    exact h.2.2.1 j hj)
/-- The first k bytes in lower case. -/
def lowTo (k : Nat) (T : List UInt8) : List UInt8 := (T.take k).map lowC ++ T.drop k
theorem lowTo_len (k : Nat) (T : List UInt8) : (lowTo k T).length = T.length := by
  unfold lowTo
  simp
  omega
theorem lowTo_zero (T : List UInt8) : lowTo 0 T = T := by simp [lowTo]
theorem lowTo_all (T : List UInt8) : lowTo T.length T = T.map lowC := by simp [lowTo]
theorem lowTo_at (k : Nat) (T : List UInt8) (h : k < T.length) : (lowTo k T)[k]'(by rw [lowTo_len]; exact h) = T[k] := by
  unfold lowTo
  rw [List.getElem_append_right (by simp; omega)]
  simp [Nat.min_eq_left (Nat.le_of_lt h)]
theorem lowTo_succ (k : Nat) (T : List UInt8) (h : k < T.length) : lowTo (k + 1) T = (lowTo k T).set k (lowC T[k]) := by
  unfold lowTo
  rw [List.take_succ_eq_append_getElem h, List.map_append, List.append_assoc]
  rw [List.set_append_right _ _ (by simp; omega)]
  have e : k - ((T.take k).map lowC).length = 0 := by simp; omega
  rw [e, List.drop_eq_getElem_cons h, List.set_cons_zero]
  simp only [List.map_cons, List.map_nil, List.cons_append, List.nil_append]
theorem lowTo_same (k : Nat) (T : List UInt8) (h : k < T.length) (hc : lowC T[k] = T[k]) : lowTo (k + 1) T = lowTo k T := by
  rw [lowTo_succ k T h, hc]
  conv => lhs; arg 3; rw [← lowTo_at k T h]
  exact List.set_getElem_self _
theorem lowC_up {c : UInt8} (h1 : 65 ≤ (c.toNat : Int)) (h2 : (c.toNat : Int) ≤ 90) : Value.int .u8 ((c.toNat : Int) + 32) = byteV (lowC c) := by
  unfold lowC
  rw [if_pos (by omega)]
  exact byteV_ofNat (by omega) (by omega)
theorem lowC_no {c : UInt8} (h : (c.toNat : Int) < 65 ∨ 90 < (c.toNat : Int)) : lowC c = c := by
  unfold lowC
  rw [if_neg (by omega)]

set_option maxRecDepth 100000 in
set_option maxHeartbeats 4000000 in
theorem spec_lower (s : ByteArray) (w : World) (hs : s.size ≤ 2000000) :
    Calls Tryz.prog 89 #[.string s] w fun e w' => e = .returned (.string (strOf (s.data.toList.map lowC))) ∧ Below w.heap.size w w' := by
  have hlen : s.data.toList.length = s.size := size_data s
  obtain ⟨T, hT⟩ : ∃ T, T = s.data.toList := ⟨_, rfl⟩
  rw [← hT] at hlen ⊢
  have HT := Lib.hid hT
  clear hT
  obtain ⟨n, hn⟩ : ∃ n, n = s.size := ⟨_, rfl⟩
  rw [← hn] at hlen hs
  clear hn
  subst hlen
  go_enter Tryz.func89, Tryz.ntmps89
  go_wp2_with (first | (refine wpList_bytes _ rfl _ rfl s rfl ?_; intro v0 w1 ho1 hb1; rw [← HT.out] at ho1; obtain ⟨g, cap, rfl, hgB, hg, hl, hc, ht⟩ := ho1; have HB := Lib.hid hb1; have HA : Hid (BAt w1 g cap T) := Lib.hid ⟨hl, hg, hc, ht⟩; clear hb1 hc ht))
  have HG := Lib.hid hgB
  go_loopw [4] (fun i wr => ∃ k : Nat, k ≤ T.length ∧ i = .int .i64 (k : Int) ∧ BAt wr g cap (lowTo k T) ∧ Below w.heap.size w wr) (fun i _ => T.length - (intOf i).toNat)
  case atStart => exact ⟨0, Nat.zero_le _, rfl, by rw [lowTo_zero]; exact HA.out, HB.out⟩
  case round =>
    obtain ⟨k, hk, rfl, hA, hbel⟩ := hrel
    have HA := Lib.hid hA
    have HBel := Lib.hid hbel
    by_cases hlt : k < T.length
    · have hcell : wr.cell? ⟨g, k, none⟩ = some (.int .u8 (T[k].toNat : Int)) := by
        have h := hA.2.2.1 k (by rw [lowTo_len]; exact hlt)
        rw [lowTo_at k T hlt] at h
        exact h
      have hfz : wr.frozen? ⟨g, k, none⟩ = false := (hA.2.2.2 k (by have := hA.1; rw [lowTo_len] at this; omega)).2
      clear hA hbel
      have hb0 : 0 ≤ (T[k].toNat : Int) := by omega
      have hb1 : (T[k].toNat : Int) ≤ 255 := by have := byte_le T[k]; omega
      by_cases h1 : 65 ≤ (T[k].toNat : Int)
      · by_cases h2 : (T[k].toNat : Int) ≤ 90
        · go_wp2
          go_roundw
          case rel => exact ⟨k + 1, by omega, by go_num, by rw [lowTo_succ k T hlt, lowC_up h1 h2]; exact HA.out.put (by rw [lowTo_len]; exact hlt) _, HBel.out.setCell HG.out _⟩
          case measure => simp [intOf]; omega
        · go_wp2
          go_roundw
          case rel => exact ⟨k + 1, by omega, by go_num, by rw [lowTo_same k T hlt (lowC_no (by omega))]; exact HA.out, HBel.out⟩
          case measure => simp [intOf]; omega
      · go_wp2
        go_roundw
        case rel => exact ⟨k + 1, by omega, by go_num, by rw [lowTo_same k T hlt (lowC_no (by omega))]; exact HA.out, HBel.out⟩
        case measure => simp [intOf]; omega
    · obtain rfl : k = T.length := by omega
      have hcv := hA.str
      rw [lowTo_len, lowTo_all] at hcv
      clear hA hbel
      go_wp2
      go_ret
      exact ⟨rfl, HBel.out⟩

theorem lowL_to (T : List UInt8) : lowL T = lowTo (Lib.cut T [47]).1.length T ∧ (Lib.cut T [47]).1.length ≤ T.length := by
  unfold lowL lowTo
  rcases cut_form T 47 with ⟨A, R, rfl, h⟩ | h
  · rw [cut_app h]
    simp
  · rw [cut_not h]
    simp
theorem lowC_up2 {c : UInt8} (h1 : 65 ≤ (c.toNat : Int)) (h2 : (c.toNat : Int) ≤ 90) : Value.int .u8 ((c.toNat : Int) - 65 + 97) = byteV (lowC c) := by
  rw [← lowC_up h1 h2, show (c.toNat : Int) - 65 + 97 = (c.toNat : Int) + 32 by omega]

set_option maxRecDepth 100000 in
set_option maxHeartbeats 4000000 in
theorem impl_lowered (s : ByteArray) (w : World) (hs : s.size ≤ 2000000) (hm : MaxL w) :
    Calls Tryz.prog 95 #[.string s] w fun e w' => e = .returned (.string (strOf (lowL s.data.toList))) ∧ Below w.heap.size w w' := by
  have hlen : s.data.toList.length = s.size := size_data s
  have hcut := fun W m => Tryz.strings_Cut s ⟨#[47]⟩ m W (by omega)
  rw [show (⟨#[47]⟩ : ByteArray).data.toList = [47] from rfl] at hcut
  obtain ⟨T, hT⟩ : ∃ T, T = s.data.toList := ⟨_, rfl⟩
  rw [← hT] at hlen hcut ⊢
  have HT := Lib.hid hT
  clear hT
  obtain ⟨hlow, hle⟩ := lowL_to T
  obtain ⟨c1, c2, c3, hc⟩ : ∃ c1 c2 c3, Lib.cut T [47] = (c1, c2, c3) := ⟨_, _, _, rfl⟩
  rw [hc] at hlow hle hcut
  dsimp only at hlow hle hcut
  rw [hlow]
  clear hlow hc
  have hsz : (⟨c1.toArray⟩ : ByteArray).size = c1.length := by simp [ByteArray.size]
  obtain ⟨n, hn⟩ : ∃ n, n = s.size := ⟨_, rfl⟩
  rw [← hn] at hlen hs
  clear hn
  subst hlen
  have HM := Lib.hid hm
  clear hm
  go_enter Tryz.func95, Tryz.ntmps95
  go_wp2_with (first
    | (refine wpList_bytes _ rfl _ rfl s rfl ?_; intro v0 w1 ho1 hb1; rw [← HT.out] at ho1; obtain ⟨g, cap, rfl, hgB, hg, hl, hc, ht⟩ := ho1; have HB := Lib.hid hb1; have HA : Hid (BAt w1 g cap T) := Lib.hid ⟨hl, hg, hc, ht⟩; obtain ⟨m, hm⟩ := HM.out.below hb1 HM.out.pos; have hct := hcut w1 m hm; clear hb1 hc ht hcut)
    | (go_at_call 115; go_fit hct; rintro e w2 ⟨rfl, nd, rfl⟩))
  obtain ⟨W1, hW1⟩ : ∃ W1, W1 = w1.drewN nd := ⟨_, rfl⟩
  have HA1 : Hid (BAt W1 g cap T) := Lib.hid (by rw [hW1]; exact HA.out)
  have HB1 : Hid (Below w.heap.size w W1) := Lib.hid (by rw [hW1]; exact below_drewN HB.out nd)
  have HG := Lib.hid hgB
  rw [← hW1]
  clear hW1 HA HB hm hct hgB hg
  go_loopw [19] (fun i wr => ∃ k : Nat, k ≤ c1.length ∧ i = .int .i64 (k : Int) ∧ BAt wr g cap (lowTo k T) ∧ Below w.heap.size w wr) (fun i _ => c1.length - (intOf i).toNat)
  case atStart => exact ⟨0, Nat.zero_le _, rfl, by rw [lowTo_zero]; exact HA1.out, HB1.out⟩
  case round =>
    obtain ⟨k, hk, rfl, hA, hbel⟩ := hrel
    have HA := Lib.hid hA
    have HBel := Lib.hid hbel
    by_cases hlt1 : k < c1.length
    · have hlt : k < T.length := by omega
      have hcell : wr.cell? ⟨g, k, none⟩ = some (.int .u8 (T[k].toNat : Int)) := by
        have h := hA.2.2.1 k (by rw [lowTo_len]; exact hlt)
        rw [lowTo_at k T hlt] at h
        exact h
      have hfz : wr.frozen? ⟨g, k, none⟩ = false := (hA.2.2.2 k (by have := hA.1; rw [lowTo_len] at this; omega)).2
      clear hA hbel
      have hb0 : 0 ≤ (T[k].toNat : Int) := by omega
      have hb1 : (T[k].toNat : Int) ≤ 255 := by have := byte_le T[k]; omega
      by_cases h1 : 65 ≤ (T[k].toNat : Int)
      · by_cases h2 : (T[k].toNat : Int) ≤ 90
        · have hz : (T[k].toNat : Int) - 65 + 97 = (T[k].toNat : Int) + 32 := by omega
          go_wp2
          go_roundw
          case rel => exact ⟨k + 1, by omega, by go_num, by (first | rw [lowTo_succ k T hlt, lowC_up h1 h2] | rw [lowTo_succ k T hlt, lowC_up2 h1 h2]); exact HA.out.put (by rw [lowTo_len]; exact hlt) _, HBel.out.setCell HG.out _⟩
          case measure => simp [intOf]; omega
        · go_wp2
          go_roundw
          case rel => exact ⟨k + 1, by omega, by go_num, by rw [lowTo_same k T hlt (lowC_no (by omega))]; exact HA.out, HBel.out⟩
          case measure => simp [intOf]; omega
      · go_wp2
        go_roundw
        case rel => exact ⟨k + 1, by omega, by go_num, by rw [lowTo_same k T hlt (lowC_no (by omega))]; exact HA.out, HBel.out⟩
        case measure => simp [intOf]; omega
    · obtain rfl : k = c1.length := by omega
      have hcv := hA.str
      rw [lowTo_len] at hcv
      clear hA hbel
      go_wp2
      go_ret
      exact ⟨rfl, HBel.out⟩
set_option maxHeartbeats 1000000 in
theorem spec_at (s : ByteArray) (c : UInt8) (w : World) (hs : s.size ≤ maxLen) :
    Calls Tryz.prog 88 #[.string s, .int .u8 (c.toNat : Int)] w fun e w' => e = .returned (.int .i64 (Lib.index s.data.toList [c])) ∧ w = w' := by
  unfold maxLen at hs
  have hlen : s.data.toList.length = s.size := size_data s
  have hget : ∀ j (h : j < s.size), s.data.toList[j]? = some s[j] := fun j h => Lib.data_getElem? s j h
  have hocc : ∀ j (h : j < s.size), Lib.occAt s.data.toList [c] j = (c == s[j]) := by
    intro j h
    unfold Lib.occAt
    rw [List.drop_eq_getElem_cons (by omega), Array.getElem_toList]
    simp [List.isPrefixOf]
    rfl
  obtain ⟨v, hv⟩ : ∃ v, Lib.index s.data.toList [c] = v := ⟨_, rfl⟩
  rw [hv]
  have HV := Lib.hid hv
  have HO := Lib.hid hocc
  have HL := Lib.hid hlen
  clear hv hocc hget hlen
  go_enter Tryz.func88, Tryz.ntmps88
  go_wp2
  go_loop [5] (fun i => ∃ k : Nat, k ≤ s.size ∧ i = .int .i64 (k : Int) ∧ ∀ j, j < k → Lib.occAt s.data.toList [c] j = false) (fun i => s.size - (intOf i).toNat)
  case atStart => exact ⟨0, Nat.zero_le _, rfl, fun j h => absurd h (Nat.not_lt_zero _)⟩
  case round =>
    obtain ⟨k, hk, rfl, hno⟩ := hrel
    have HN := Lib.hid hno
    clear hno
    by_cases hlt : k < s.size
    · by_cases he : (s[k].toNat : Int) = (c.toNat : Int)
      · have HE : Hid (Lib.occAt s.data.toList [c] k = true) := Lib.hid (by
          rw [HO.out k hlt, beq_iff_eq]
          exact UInt8.toNat_inj.1 (by omega))
        go_wp2
        go_ret
        exact ⟨ret_int (by rw [← HV.out]; exact (Lib.index_first (by rw [HL.out]; omega) HE.out HN.out).symm), rfl⟩
      · have HE : Hid (Lib.occAt s.data.toList [c] k = false) := Lib.hid (by
          rw [HO.out k hlt, beq_eq_false_iff_ne]
          intro e
          rw [e] at he
          exact he rfl)
        go_wp2
        go_round
        case rel => exact ⟨k + 1, by omega, by go_num, fun j hj => by
          by_cases e : j = k
          · subst e; exact HE.out
          · exact HN.out j (by omega)⟩
        case measure => simp [intOf]; omega
    · have HI : Hid (v = -1) := Lib.hid (by
        rw [← HV.out]
        refine Lib.index_none fun j hj => ?_
        by_cases h : j < k
        · exact HN.out j h
        · rw [Bool.eq_false_iff]
          intro ho
          rcases Lib.occAt_room ho with h1 | h1
          · rw [HL.out] at h1
            simp at h1
            omega
          · cases h1)
      go_wp2
      go_ret
      exact ⟨ret_int HI.out.symm, rfl⟩
end Go.Proofs.YtafdjjdmcnlddaaGreat

namespace Go.Proofs.YtafdjjdmcnlddaaGreat
set_option linter.unusedSimpArgs false
set_option linter.unusedVariables false
open Go.RowKit

theorem strOf_back (l : List UInt8) : (⟨l.toArray⟩ : ByteArray) = strOf l := rfl
theorem cut_le (T : List UInt8) (c : UInt8) : (Lib.cut T [c]).1.length ≤ T.length ∧ (Lib.cut T [c]).2.1.length ≤ T.length := by
  rcases cut_form T c with ⟨A, R, rfl, h⟩ | h
  · rw [cut_app h]; simp; omega
  · rw [cut_not h]; simp
/-- An address out of three lists of bytes. -/
def jidP (p : List UInt8 × List UInt8 × List UInt8) : Value := .agg #[.string (strOf p.1), .string (strOf p.2.1), .string (strOf p.2.2)]

set_option maxRecDepth 100000 in
set_option maxHeartbeats 4000000 in
theorem impl_parts (s : ByteArray) (w : World) (hs : s.size ≤ 2000000) (hm : MaxL w) :
    Calls Tryz.prog 96 #[.string s] w fun e w' => e = .returned (jidP (partsL s.data.toList)) ∧ Below w.heap.size w w' := by
  have hlen : s.data.toList.length = s.size := size_data s
  have hcut := fun W m => Tryz.strings_Cut s ⟨#[47]⟩ m W (by omega)
  rw [show (⟨#[47]⟩ : ByteArray).data.toList = [47] from rfl] at hcut
  obtain ⟨T, hT⟩ : ∃ T, T = s.data.toList := ⟨_, rfl⟩
  rw [← hT] at hlen hcut ⊢
  clear hT
  have hle := cut_le T 47
  obtain ⟨a, r, f, h1⟩ : ∃ a r f, Lib.cut T [47] = (a, r, f) := ⟨_, _, _, rfl⟩
  have hle2 := cut_le a 64
  have hcut2 := fun W m => Tryz.strings_Cut (strOf a) ⟨#[64]⟩ m W (by rw [h1] at hle; rw [strOf_size]; have := hle.1; dsimp only at this; omega)
  rw [show (⟨#[64]⟩ : ByteArray).data.toList = [64] from rfl, strOf_data] at hcut2
  obtain ⟨b, d, q, h2⟩ : ∃ b d q, Lib.cut a [64] = (b, d, q) := ⟨_, _, _, rfl⟩
  unfold partsL
  rw [h1] at hle hcut ⊢
  dsimp only at hle hcut ⊢
  rw [h2] at hle2 hcut2 ⊢
  dsimp only at hle2 hcut2 ⊢
  simp only [strOf_back] at hcut hcut2
  clear h1 h2
  obtain ⟨m, hm0⟩ := hm
  have hm1 : ∀ o, (w.alloc o).cell? ⟨0, 0, none⟩ = some (.int .i64 m) := fun o => (World.cell?_alloc_lt w o ⟨0, 0, none⟩ (lt_of_cellJ hm0)).trans hm0
  have k1 := fun o => hcut (w.alloc o) m (hm1 o)
  have k2 := fun o n => hcut2 ((w.alloc o).drewN n) m (hm1 o)
  clear hcut hcut2 hm0 hm1
  have ha : (strOf a).size ≤ 2000000 := by rw [strOf_size]; omega
  have hbb : (strOf b).size ≤ 2000000 := by rw [strOf_size]; omega
  have hdd : (strOf d).size ≤ 2000000 := by rw [strOf_size]; omega
  have hrr : (strOf r).size ≤ 2000000 := by rw [strOf_size]; omega
  cases q
  · rw [if_neg Bool.false_ne_true]
    have hx : (⟨#[]⟩ : ByteArray).size ≤ 2000000 := by decide
    have hy := ha
    have hz := hrr
    go_enter Tryz.func96, Tryz.ntmps96
    go_wp2_with (first
      | (go_at_call 115; go_fit (k1 _); rintro e w2 ⟨rfl, nd, rfl⟩)
      | (go_at_call 115; go_fit (k2 _ _); rintro e w2 ⟨rfl, nd2, rfl⟩))
    obtain ⟨W1, hW1⟩ : ∃ W1, W1 = ((w.alloc (.cells #[.string ⟨#[]⟩, .string ⟨#[]⟩, .string ⟨#[]⟩] 49)).drewN (nd + nd2)) := ⟨_, rfl⟩
    have hsz : W1.heap.size = w.heap.size + 1 := by rw [hW1]; exact World.size_alloc ..
    have hR : Arr W1 w.heap.size 49 [.string ⟨#[]⟩, .string ⟨#[]⟩, .string ⟨#[]⟩] := by rw [hW1]; exact Arr.fresh w _ _
    have hb : Below (w.alloc (.cells #[.string ⟨#[]⟩, .string ⟨#[]⟩, .string ⟨#[]⟩] 49)).heap.size (w.alloc (.cells #[.string ⟨#[]⟩, .string ⟨#[]⟩, .string ⟨#[]⟩] 49)) W1 := by rw [hW1]; exact below_drewN (Below.refl _ _) _
    have hj : Calls Tryz.prog 45 #[.slice (some ⟨w.heap.size + 1, 0, none⟩) 1 1] (W1.alloc (.cells #[.string ⟨#[]⟩] 9)) fun e w' => e = .returned (.string ⟨#[]⟩) ∧ Below (W1.alloc (.cells #[.string ⟨#[]⟩] 9)).heap.size (W1.alloc (.cells #[.string ⟨#[]⟩] 9)) w' :=
      joined_at _ ⟨#[]⟩ _ hx (by rw [← hsz]; exact one_at W1 _ _)
    rw [hW1] at hj
    refine hj.mono ?_
    rw [← hW1]
    clear hj hW1 k1 k2
    rintro e w3 ⟨rfl, hb3⟩
    replace hb := hb.trans ((below_one hb3).mono hb.size)
    replace hR := arr_below hR (below_one hb3)
    have HR := Lib.hid hR
    clear hR hb3
    go_wp2_with (first
      | (go_at_call 45; go_fit (joined_at _ (strOf a) _ hy (one_at w3 _ _)); rintro e w4 ⟨rfl, hb4⟩; replace hb := hb.trans ((below_one hb4).mono hb.size); have hR4 := arr_below HR.out (below_one hb4); have HR4 := Lib.hid hR4; clear hR4 hb4)
      | (go_at_call 45; go_fit (joined_at _ (strOf r) _ hz (one_at w4 _ _)); rintro e w5 ⟨rfl, hb5⟩; replace hb := hb.trans ((below_one hb5).mono hb.size); have hR5 := arr_below HR4.out (below_one hb5); have hz5 := arr_lt hR5; obtain ⟨c0, c1, c2, f0, f1, f2⟩ := arr_three hR5; clear hR5 hb5))
    exact bodyPost_ret (v := .agg #[.string ⟨#[]⟩, .string (strOf a), .string (strOf r)]) (by simp [results, Tryz.results96, go_sem, c0, c1, c2, hz5]) rfl ⟨rfl, below_three (below_one hb) (Nat.le_refl _) _ _ _⟩
  · rw [if_pos rfl]
    have hx := hbb
    have hy := hdd
    have hz := hrr
    go_enter Tryz.func96, Tryz.ntmps96
    go_wp2_with (first
      | (go_at_call 115; go_fit (k1 _); rintro e w2 ⟨rfl, nd, rfl⟩)
      | (go_at_call 115; go_fit (k2 _ _); rintro e w2 ⟨rfl, nd2, rfl⟩))
    obtain ⟨W1, hW1⟩ : ∃ W1, W1 = ((w.alloc (.cells #[.string ⟨#[]⟩, .string ⟨#[]⟩, .string ⟨#[]⟩] 49)).drewN (nd + nd2)) := ⟨_, rfl⟩
    have hsz : W1.heap.size = w.heap.size + 1 := by rw [hW1]; exact World.size_alloc ..
    have hR : Arr W1 w.heap.size 49 [.string ⟨#[]⟩, .string ⟨#[]⟩, .string ⟨#[]⟩] := by rw [hW1]; exact Arr.fresh w _ _
    have hb : Below (w.alloc (.cells #[.string ⟨#[]⟩, .string ⟨#[]⟩, .string ⟨#[]⟩] 49)).heap.size (w.alloc (.cells #[.string ⟨#[]⟩, .string ⟨#[]⟩, .string ⟨#[]⟩] 49)) W1 := by rw [hW1]; exact below_drewN (Below.refl _ _) _
    have hj : Calls Tryz.prog 45 #[.slice (some ⟨w.heap.size + 1, 0, none⟩) 1 1] (W1.alloc (.cells #[.string (strOf b)] 9)) fun e w' => e = .returned (.string (strOf b)) ∧ Below (W1.alloc (.cells #[.string (strOf b)] 9)).heap.size (W1.alloc (.cells #[.string (strOf b)] 9)) w' :=
      joined_at _ (strOf b) _ hx (by rw [← hsz]; exact one_at W1 _ _)
    rw [hW1] at hj
    refine hj.mono ?_
    rw [← hW1]
    clear hj hW1 k1 k2
    rintro e w3 ⟨rfl, hb3⟩
    replace hb := hb.trans ((below_one hb3).mono hb.size)
    replace hR := arr_below hR (below_one hb3)
    have HR := Lib.hid hR
    clear hR hb3
    go_wp2_with (first
      | (go_at_call 45; go_fit (joined_at _ (strOf d) _ hy (one_at w3 _ _)); rintro e w4 ⟨rfl, hb4⟩; replace hb := hb.trans ((below_one hb4).mono hb.size); have hR4 := arr_below HR.out (below_one hb4); have HR4 := Lib.hid hR4; clear hR4 hb4)
      | (go_at_call 45; go_fit (joined_at _ (strOf r) _ hz (one_at w4 _ _)); rintro e w5 ⟨rfl, hb5⟩; replace hb := hb.trans ((below_one hb5).mono hb.size); have hR5 := arr_below HR4.out (below_one hb5); have hz5 := arr_lt hR5; obtain ⟨c0, c1, c2, f0, f1, f2⟩ := arr_three hR5; clear hR5 hb5))
    exact bodyPost_ret (v := .agg #[.string (strOf b), .string (strOf d), .string (strOf r)]) (by simp [results, Tryz.results96, go_sem, c0, c1, c2, hz5]) rfl ⟨rfl, below_three (below_one hb) (Nat.le_refl _) _ _ _⟩
end Go.Proofs.YtafdjjdmcnlddaaGreat

namespace Go.Proofs.YtafdjjdmcnlddaaGreat
set_option linter.unusedSimpArgs false
set_option linter.unusedVariables false
open Go.RowKit

def jo (l d r : ByteArray) (c : Int) : Value := .agg #[.string l, .string d, .string r, .int .i64 c]
noncomputable def goodR (T : List UInt8) : Bool := shapeL T && jidB (strOf (readL T).1) (strOf (readL T).2.1) (strOf (readL T).2.2)
/-- What JidRead answers. -/
noncomputable def jidReadV (s : ByteArray) : Value :=
  if 20000 < s.size then jo ⟨#[]⟩ ⟨#[]⟩ ⟨#[]⟩ 2 else if goodR s.data.toList = true then jo (strOf (readL s.data.toList).1) (strOf (readL s.data.toList).2.1) (strOf (readL s.data.toList).2.2) 0 else jo ⟨#[]⟩ ⟨#[]⟩ ⟨#[]⟩ 3
theorem arr_four {w : World} {g t : Nat} {a b c d : Value} (h : Arr w g t [a, b, c, d]) : (w.cell? ⟨g, 0, none⟩ = some a ∧ w.cell? ⟨g, 1, none⟩ = some b ∧ w.cell? ⟨g, 2, none⟩ = some c ∧ w.cell? ⟨g, 3, none⟩ = some d) ∧ w.frozen? ⟨g, 0, none⟩ = false ∧ w.frozen? ⟨g, 1, none⟩ = false ∧ w.frozen? ⟨g, 2, none⟩ = false ∧ w.frozen? ⟨g, 3, none⟩ = false :=
  ⟨⟨h.cell 0, h.cell 1, h.cell 2, h.cell 3⟩, h.free 0, h.free 1, h.free 2, h.free 3⟩
theorem below_four {B g : Nat} {w w1 : World} (h : Below B w w1) (hg : B ≤ g) (x y z u : Value) : Below B w ((((w1.setCell ⟨g, 0, none⟩ x).setCell ⟨g, 1, none⟩ y).setCell ⟨g, 2, none⟩ z).setCell ⟨g, 3, none⟩ u) :=
  (below_three h hg x y z).setCell (p := ⟨g, 3, none⟩) hg u
theorem jidT_text (p : List UInt8 × List UInt8 × List UInt8) : jidT (strOf p.1) (strOf p.2.1) (strOf p.2.2) = strOf (textL p) := by
  unfold jidT textL
  rw [flat_five]
  have e : ∀ (m : ByteArray) (c : UInt8) (x : List UInt8), m = ⟨#[c]⟩ → (markOf m (strOf x)).data.toList = if x = [] then [] else [c] := by
    intro m c x hm
    subst hm
    unfold markOf
    rw [strOf_size]
    cases x with
    | nil => rfl
    | cons y x => rfl
  rw [e atS 64 _ rfl, e slS 47 _ rfl, strOf_data, strOf_data, strOf_data]
theorem text_same (T : List UInt8) : ((jidT (strOf (readL T).1) (strOf (readL T).2.1) (strOf (readL T).2.2)).toList == (strOf (lowL T)).toList) = shapeL T := by
  rw [jidT_text, ByteArray.toList_eq, ByteArray.toList_eq, strOf_data, strOf_data, Bool.eq_iff_iff, beq_iff_eq, ← parts_read, text_shape]

set_option maxRecDepth 100000 in
set_option maxHeartbeats 4000000 in
theorem impl_read (s : ByteArray) (w : World) (hs : s.size ≤ maxLen) (hm : MaxL w) :
    Calls Tryz.prog 57 #[.string s] w fun e w' => e = .returned (jidReadV s) ∧ Below w.heap.size w w' := by
  unfold maxLen at hs
  unfold jidReadV
  by_cases hbig : 20000 < s.size
  · rw [if_pos hbig]
    clear hm
    go_enter Tryz.func57, Tryz.ntmps57
    go_wp2
    exact bodyPost_ret (v := jo ⟨#[]⟩ ⟨#[]⟩ ⟨#[]⟩ 2) (by simp [results, Tryz.results57, go_sem, jo]) rfl ⟨rfl, (Below.refl _ _).alloc (Nat.le_refl _) _⟩
  · rw [if_neg hbig]
    have i1 := fun w hm => impl_lowered s w (by omega) hm
    have hlen : s.data.toList.length = s.size := size_data s
    obtain ⟨T, hT⟩ : ∃ T, T = s.data.toList := ⟨_, rfl⟩
    rw [← hT] at i1 hlen ⊢
    clear hT
    have hll : (lowL T).length = T.length := by rw [(lowL_to T).1, lowTo_len]
    have i2 := fun w hm => impl_parts (strOf (lowL T)) w (by rw [strOf_size]; omega) hm
    rw [strOf_data, parts_read] at i2
    unfold jidP at i2
    obtain ⟨r1, r2, r3⟩ := read_le T
    have hts := text_same T
    unfold goodR
    obtain ⟨l, hl⟩ : ∃ l, l = strOf (readL T).1 := ⟨_, rfl⟩
    obtain ⟨d, hd⟩ : ∃ d, d = strOf (readL T).2.1 := ⟨_, rfl⟩
    obtain ⟨r, hr⟩ : ∃ r, r = strOf (readL T).2.2 := ⟨_, rfl⟩
    have z1 : l.size ≤ 20000 := by rw [hl, strOf_size]; omega
    have z2 : d.size ≤ 20000 := by rw [hd, strOf_size]; omega
    have z3 : r.size ≤ 20000 := by rw [hr, strOf_size]; omega
    rw [← hl, ← hd, ← hr] at i2 hts ⊢
    clear hl hd hr r1 r2 r3
    have i3 := fun w hm => impl_right l d r w (by unfold maxLen; omega) (by unfold maxLen; omega) (by unfold maxLen; omega) hm
    have i4 := fun w => impl_addr l d r w (by omega) (by omega) (by omega)
    obtain ⟨U, hU⟩ : ∃ U, U = strOf (lowL T) := ⟨_, rfl⟩
    obtain ⟨X, hX⟩ : ∃ X, X = jidT l d r := ⟨_, rfl⟩
    rw [← hU] at i1 i2 hts
    rw [← hX] at i4 hts
    clear hU hX hll
    obtain ⟨b1, hb1⟩ : ∃ b, shapeL T = b := ⟨_, rfl⟩
    obtain ⟨b2, hb2⟩ : ∃ b, jidB l d r = b := ⟨_, rfl⟩
    rw [hb1] at hts ⊢
    rw [hb2] at i3 ⊢
    clear hb1 hb2
    have HM := Lib.hid (fun W (h : Below w.heap.size w W) => hm.below h hm.pos)
    clear hm
    cases b2
    · rw [Bool.and_false, if_neg Bool.false_ne_true]
      go_enter Tryz.func57, Tryz.ntmps57
      go_wp2_with (first
        | (go_at_call 95; go_fit (i1 _ (HM.out _ ((Below.refl _ _).alloc (Nat.le_refl _) _))); rintro e w1 ⟨rfl, hb⟩; have hR : Arr w1 w.heap.size 51 [.string ⟨#[]⟩, .string ⟨#[]⟩, .string ⟨#[]⟩, .int .i64 0] := arr_below (Arr.fresh w _ _) hb; replace hb := below_one hb; have HR := Lib.hid hR; clear hR)
        | (go_at_call 96; go_fit (i2 _ (HM.out _ hb)); rintro e w2 ⟨rfl, hb2⟩; have hR := arr_below HR.out hb2; have HR := Lib.hid hR; replace hb := hb.trans (hb2.mono hb.size); clear hR hb2)
        | (go_at_call 97; go_fit (i3 _ (HM.out _ (hb.alloc hb.size _))); rintro e w3 ⟨rfl, hb3⟩; have hR := arr_below HR.out (below_one hb3); have hz := arr_lt hR; obtain ⟨⟨c0, c1, c2, c3⟩, f0, f1, f2, f3⟩ := arr_four hR; replace hb := hb.trans ((below_one hb3).mono hb.size); clear hR))
      exact bodyPost_ret (v := jo ⟨#[]⟩ ⟨#[]⟩ ⟨#[]⟩ 3) (by simp [results, Tryz.results57, go_sem, c0, c1, c2, c3, hz, jo]) rfl ⟨rfl, below_four hb (Nat.le_refl _) _ _ _ _⟩
    · cases b1
      · rw [Bool.and_true, if_neg Bool.false_ne_true]
        go_enter Tryz.func57, Tryz.ntmps57
        go_wp2_with (first
        | (go_at_call 95; go_fit (i1 _ (HM.out _ ((Below.refl _ _).alloc (Nat.le_refl _) _))); rintro e w1 ⟨rfl, hb⟩; have hR : Arr w1 w.heap.size 51 [.string ⟨#[]⟩, .string ⟨#[]⟩, .string ⟨#[]⟩, .int .i64 0] := arr_below (Arr.fresh w _ _) hb; replace hb := below_one hb; have HR := Lib.hid hR; clear hR)
        | (go_at_call 96; go_fit (i2 _ (HM.out _ hb)); rintro e w2 ⟨rfl, hb2⟩; have hR := arr_below HR.out hb2; have HR := Lib.hid hR; replace hb := hb.trans (hb2.mono hb.size); clear hR hb2)
        | (go_at_call 97; go_fit (i3 _ (HM.out _ (hb.alloc hb.size _))); rintro e w3 ⟨rfl, hb3⟩; obtain ⟨⟨k0, k1, k2⟩, _, hk⟩ := three_kept hb3; have hR := arr_below HR.out (below_one hb3); have HR := Lib.hid hR; replace hb := hb.trans ((below_one hb3).mono hb.size); clear hR hb3)
        | (go_at_call 98; go_fit (i4 _); rintro e w4 ⟨rfl, hb4⟩; have hR := arr_below HR.out hb4; have hz := arr_lt hR; obtain ⟨⟨c0, c1, c2, c3⟩, f0, f1, f2, f3⟩ := arr_four hR; have q0 := (hb4.cell (p := ⟨w2.heap.size, 0, none⟩) hk).trans k0; have q1 := (hb4.cell (p := ⟨w2.heap.size, 1, none⟩) hk).trans k1; have q2 := (hb4.cell (p := ⟨w2.heap.size, 2, none⟩) hk).trans k2; replace hb := hb.trans (hb4.mono hb.size); clear hR))
        exact bodyPost_ret (v := jo ⟨#[]⟩ ⟨#[]⟩ ⟨#[]⟩ 3) (by simp [results, Tryz.results57, go_sem, c0, c1, c2, c3, hz, jo]) rfl ⟨rfl, below_four hb (Nat.le_refl _) _ _ _ _⟩
      · rw [Bool.and_true, if_pos rfl]
        go_enter Tryz.func57, Tryz.ntmps57
        go_wp2_with (first
        | (go_at_call 95; go_fit (i1 _ (HM.out _ ((Below.refl _ _).alloc (Nat.le_refl _) _))); rintro e w1 ⟨rfl, hb⟩; have hR : Arr w1 w.heap.size 51 [.string ⟨#[]⟩, .string ⟨#[]⟩, .string ⟨#[]⟩, .int .i64 0] := arr_below (Arr.fresh w _ _) hb; replace hb := below_one hb; have HR := Lib.hid hR; clear hR)
        | (go_at_call 96; go_fit (i2 _ (HM.out _ hb)); rintro e w2 ⟨rfl, hb2⟩; have hR := arr_below HR.out hb2; have HR := Lib.hid hR; replace hb := hb.trans (hb2.mono hb.size); clear hR hb2)
        | (go_at_call 97; go_fit (i3 _ (HM.out _ (hb.alloc hb.size _))); rintro e w3 ⟨rfl, hb3⟩; obtain ⟨⟨k0, k1, k2⟩, _, hk⟩ := three_kept hb3; have hR := arr_below HR.out (below_one hb3); have HR := Lib.hid hR; replace hb := hb.trans ((below_one hb3).mono hb.size); clear hR hb3)
        | (go_at_call 98; go_fit (i4 _); rintro e w4 ⟨rfl, hb4⟩; have hR := arr_below HR.out hb4; have hz := arr_lt hR; obtain ⟨⟨c0, c1, c2, c3⟩, f0, f1, f2, f3⟩ := arr_four hR; have q0 := (hb4.cell (p := ⟨w2.heap.size, 0, none⟩) hk).trans k0; have q1 := (hb4.cell (p := ⟨w2.heap.size, 1, none⟩) hk).trans k1; have q2 := (hb4.cell (p := ⟨w2.heap.size, 2, none⟩) hk).trans k2; replace hb := hb.trans (hb4.mono hb.size); clear hR))
        exact bodyPost_ret (v := jo l d r 0) (by simp [results, Tryz.results57, go_sem, c0, c1, c2, c3, hz, jo]) rfl ⟨rfl, below_four hb (Nat.le_refl _) _ _ _ _⟩
end Go.Proofs.YtafdjjdmcnlddaaGreat

namespace Go.Proofs.YtafdjjdmcnlddaaGreat
set_option linter.unusedSimpArgs false
set_option linter.unusedVariables false
open Go.RowKit

theorem ext_str (s : ByteArray) (A B C : List UInt8) (h : s.data.toList = A ++ B ++ C) (i j : Nat) (hi : i = A.length) (hj : j = A.length + B.length) : s.extract i j = strOf B := by
  apply WideShapes.bytes_inj
  rw [strOf_data, ByteArray.data_extract, Array.toList_extract, h, hi, hj]
  simp [List.extract_eq_take_drop, List.drop_append_of_le_length, List.take_append_of_le_length]
/-- What stands at l03Read's last statement. -/
abbrev ReadS (w : World) (l d r : ByteArray) (W : World) : Prop :=
  (W.cell? ⟨w.heap.size + 1, 0, none⟩ = some (.string l) ∧ W.cell? ⟨w.heap.size + 1, 1, none⟩ = some (.string d) ∧ W.cell? ⟨w.heap.size + 1, 2, none⟩ = some (.string r) ∧
   W.cell? ⟨w.heap.size, 0, none⟩ = some (cellAt W w.heap.size 0) ∧ W.cell? ⟨w.heap.size, 1, none⟩ = some (cellAt W w.heap.size 1) ∧ W.cell? ⟨w.heap.size, 2, none⟩ = some (cellAt W w.heap.size 2) ∧
   W.frozen? ⟨w.heap.size, 0, none⟩ = false ∧ W.frozen? ⟨w.heap.size, 1, none⟩ = false ∧ W.frozen? ⟨w.heap.size, 2, none⟩ = false) ∧
  (Below w.heap.size w W ∧ Arr W (w.heap.size + 1) 49 [.string l, .string d, .string r] ∧ Res W w.heap.size)
theorem readS {w W : World} {l d r : ByteArray} (hb : Below w.heap.size w W) (hA : Arr W (w.heap.size + 1) 49 [.string l, .string d, .string r]) (hr : Res W w.heap.size) : ReadS w l d r W := by
  obtain ⟨c0, c1, c2, _, _, _⟩ := arr_three hA
  obtain ⟨a, b, c, hR⟩ := id hr
  have e : ∀ i v, W.cell? ⟨w.heap.size, i, none⟩ = some v → W.cell? ⟨w.heap.size, i, none⟩ = some (cellAt W w.heap.size i) := fun i v h => by unfold cellAt; rw [h]; rfl
  exact ⟨⟨c0, c1, c2, e 0 a (hR.cell 0), e 1 b (hR.cell 1), e 2 c (hR.cell 2), hR.free 0, hR.free 1, hR.free 2⟩, hb, hA, hr⟩
theorem readS_on {w W w2 : World} {l d r : ByteArray} {S : Prop} (h : S ∧ (Below w.heap.size w W ∧ Arr W (w.heap.size + 1) 49 [.string l, .string d, .string r] ∧ Res W w.heap.size)) (h2 : Below W.heap.size W w2) : ReadS w l d r w2 :=
  readS (h.2.1.trans (h2.mono h.2.1.size)) (arr_below h.2.2.1 h2) (by obtain ⟨a, b, c, hA⟩ := h.2.2.2; exact ⟨a, b, c, arr_below hA h2⟩)
theorem arr_other {w : World} {b t : Nat} {cs : List Value} (h : Arr w b t cs) (g i : Nat) (u : Value) (hne : b ≠ g) : Arr (w.setCell ⟨g, i, none⟩ u) b t cs := by
  unfold Arr at h ⊢
  rw [← h]
  exact Below.heap_setCell w ⟨g, i, none⟩ u b (by simpa using hne)
theorem readS_store {w W : World} {l d r : ByteArray} {S : Prop} {x y z : Value} (h : S ∧ (Below w.heap.size w W ∧ Arr W (w.heap.size + 1) 49 [.string l, .string d, .string r] ∧ Res W w.heap.size)) :
    ReadS w l d r (((W.setCell ⟨w.heap.size, 0, none⟩ x).setCell ⟨w.heap.size, 1, none⟩ y).setCell ⟨w.heap.size, 2, none⟩ z) :=
  readS (below_three h.2.1 (Nat.le_refl _) x y z) (arr_other (arr_other (arr_other h.2.2.1 _ _ _ (by omega)) _ _ _ (by omega)) _ _ _ (by omega)) (by obtain ⟨a, b, c, hA⟩ := h.2.2.2; exact ⟨x, y, z, ((hA.put 0 x).put 1 y).put 2 z⟩)

/-- What l03Read answers. -/
def ReadsTo (T : List UInt8) (w : World) (e : Ending) (w' : World) : Prop :=
  (∃ x y z b, e = .returned (.tuple #[.agg #[.string x, .string y, .string z], .bool b]) ∧ b = goodR T ∧ (b = true → x = strOf (readL T).1 ∧ y = strOf (readL T).2.1 ∧ z = strOf (readL T).2.2)) ∧ Below w.heap.size w w'
theorem readsTo_no {T : List UInt8} {w : World} {x y z : ByteArray} {w' : World} (h : shapeL T = false) (hb : Below w.heap.size w w') : ReadsTo T w (.returned (.tuple #[.agg #[.string x, .string y, .string z], .bool false])) w' :=
  ⟨⟨x, y, z, false, rfl, by unfold goodR; rw [h]; rfl, fun h => by cases h⟩, hb⟩
theorem readsTo_yes {T l d r : List UInt8} {w : World} {w' : World} (h : shapeL T = true) (hr : readL T = (l, d, r)) (hb : Below w.heap.size w w') :
    ReadsTo T w (.returned (.tuple #[.agg #[.string (strOf l), .string (strOf d), .string (strOf r)], .bool (jidB (strOf l) (strOf d) (strOf r))])) w' :=
  ⟨⟨_, _, _, _, rfl, by unfold goodR; rw [h, hr]; rfl, fun _ => by rw [hr]; exact ⟨rfl, rfl, rfl⟩⟩, hb⟩
set_option maxRecDepth 100000 in
set_option maxHeartbeats 4000000 in
theorem spec_read1 (s : ByteArray) (w : World) (hs : s.size ≤ 2000000) (A : List UInt8) (R : List UInt8) (hT : s.data.toList = A ++ 47 :: R) (hA : ∀ x ∈ A, x ≠ 47) (hR : R = []) :
    Calls Tryz.prog 51 #[.string s] w (ReadsTo s.data.toList w) := by
  have hsize : s.size = A.length + 1 + R.length := by rw [← size_data, hT]; simp; omega
  have b1 : A.length + 1 ≤ s.size := by omega
  have b1' : (A.length : Int) + 1 ≤ (s.size : Int) := by omega
  have i1 := fun W => spec_at s 47 W (by unfold maxLen; omega)
  rw [hT, index_app 47 R A hA] at i1
  have x1 : s.extract (A.length + 1) s.size = strOf R := ext_str s (A ++ [47]) R [] (by rw [hT]; simp) _ _ (by simp) (by rw [hsize]; simp)
  have x2 : s.extract 0 A.length = strOf A := ext_str s [] A (47 :: R) (by rw [hT]; simp) _ _ rfl (by simp)
  subst hR
  have n1 : (strOf []).toList = [] := by rw [ByteArray.toList_eq]; rfl
  have n2 : (strOf []).toList.isEmpty = true := by rw [ByteArray.toList_eq]; rfl
  have HSH : Hid (shapeL s.data.toList = false) := Lib.hid (by rw [hT]; unfold shapeL; rw [cut_app hA]; rfl)
  clear hsize hT
  go_enter Tryz.func51, Tryz.ntmps51
  go_wp2_with (first
    | (go_at_call 88; go_fit (i1 _); rintro e w1 ⟨rfl, rfl⟩))
  refine bodyPost_ret (v := .tuple #[.agg #[.string ⟨#[]⟩, .string ⟨#[]⟩, .string (strOf [])], .bool false]) (by simp [results, Tryz.results51, go_sem]) rfl (readsTo_no HSH.out ?_)
  exact ((Below.refl _ _).alloc (Nat.le_refl _) _).alloc (by simp) _
set_option maxRecDepth 100000 in
set_option maxHeartbeats 4000000 in
theorem spec_read2 (s : ByteArray) (w : World) (hs : s.size ≤ 2000000) (A : List UInt8) (R : List UInt8) (hT : s.data.toList = A ++ 47 :: R) (hA : ∀ x ∈ A, x ≠ 47) (hR : R ≠ []) (B D : List UInt8) (hq : A.map lowC = B ++ 64 :: D) (hB : ∀ x ∈ B, x ≠ 64) (hBn : B = []) :
    Calls Tryz.prog 51 #[.string s] w (ReadsTo s.data.toList w) := by
  have hsize : s.size = A.length + 1 + R.length := by rw [← size_data, hT]; simp; omega
  have b1 : A.length + 1 ≤ s.size := by omega
  have b1' : (A.length : Int) + 1 ≤ (s.size : Int) := by omega
  have i1 := fun W => spec_at s 47 W (by unfold maxLen; omega)
  rw [hT, index_app 47 R A hA] at i1
  have x1 : s.extract (A.length + 1) s.size = strOf R := ext_str s (A ++ [47]) R [] (by rw [hT]; simp) _ _ (by simp) (by rw [hsize]; simp)
  have x2 : s.extract 0 A.length = strOf A := ext_str s [] A (47 :: R) (by rw [hT]; simp) _ _ rfl (by simp)
  have n1 : (strOf R).toList ≠ [] := ne_nil (by rw [strOf_size]; exact List.length_pos_iff.2 hR)
  have n2 : (strOf R).toList.isEmpty = false := not_empty (by rw [strOf_size]; exact List.length_pos_iff.2 hR)
  have i2 := fun W => spec_lower (strOf A) W (by rw [strOf_size]; omega)
  rw [strOf_data] at i2
  have hql : (A.map lowC).length ≤ 2000000 := by rw [List.length_map]; omega
  rw [hq] at i2 hql
  have i3 := fun W => spec_at (strOf (B ++ 64 :: D)) 64 W (by rw [strOf_size]; unfold maxLen; omega)
  rw [strOf_data, index_app 64 D B hB] at i3
  have x3 : (strOf (B ++ 64 :: D)).extract 0 B.length = strOf B := ext_str _ [] B (64 :: D) (by rw [strOf_data]; simp) _ _ rfl (by simp)
  have x4 : (strOf (B ++ 64 :: D)).extract (B.length + 1) (strOf (B ++ 64 :: D)).size = strOf D := ext_str _ (B ++ [64]) D [] (by rw [strOf_data]; simp) _ _ (by simp) (by rw [strOf_size]; simp; omega)
  have b2 : B.length + 1 ≤ (strOf (B ++ 64 :: D)).size := by rw [strOf_size]; simp
  have b2' : (B.length : Int) + 1 ≤ ((strOf (B ++ 64 :: D)).size : Int) := by omega
  have b3 : (strOf (B ++ 64 :: D)).size ≤ 2000000 := by rw [strOf_size]; exact hql
  have HSH : Hid (shapeL s.data.toList = false) := Lib.hid (by rw [hT]; unfold shapeL; rw [cut_app hA]; dsimp only; rw [hq, cut_app hB, hBn]; cases R <;> rfl)
  have n3 : (strOf B).toList = [] := by rw [hBn, ByteArray.toList_eq]; rfl
  have n4 : (strOf B).toList.isEmpty = true := by rw [hBn, ByteArray.toList_eq]; rfl
  clear hBn
  obtain ⟨Q, hQ⟩ : ∃ Q, Q = strOf (B ++ 64 :: D) := ⟨_, rfl⟩
  rw [← hQ] at i2 i3 x3 x4 b2 b2' b3
  clear hQ hT hql hsize
  go_enter Tryz.func51, Tryz.ntmps51
  go_wp2_with (first
    | (go_at_call 88; go_fit (i1 _); rintro e w1 ⟨rfl, rfl⟩)
    | (go_at_call 88; go_fit (i3 _); rintro e w1 ⟨rfl, rfl⟩)
    | (go_at_call 89; go_fit (i2 _); rintro e w1 ⟨rfl, hb1⟩; obtain ⟨hRes, hJ, hb2⟩ := bare_kept hb1; have hz := arr_lt hJ; obtain ⟨c0, c1, c2, f0, f1, f2⟩ := arr_three hJ; obtain ⟨p0, p1, p2, q0, q1, q2⟩ := arr_three hRes; have HRes := Lib.hid hRes; have HJ := Lib.hid hJ; clear hRes hJ))
  refine bodyPost_ret (v := .tuple #[.agg #[.string (strOf B), .string ⟨#[]⟩, .string (strOf R)], .bool false]) (by simp [results, Tryz.results51, go_sem, c0, c1, c2, p0, p1, p2, hz, Nat.lt_of_succ_lt hz]) rfl (readsTo_no HSH.out ?_)
  exact below_three ((below_one (below_one hb1)).setCell (Nat.le_succ _) _) (Nat.le_refl _) _ _ _
set_option maxRecDepth 100000 in
set_option maxHeartbeats 4000000 in
theorem spec_read3 (s : ByteArray) (w : World) (hs : s.size ≤ 2000000) (A : List UInt8) (R : List UInt8) (hT : s.data.toList = A ++ 47 :: R) (hA : ∀ x ∈ A, x ≠ 47) (hR : R ≠ []) (B D : List UInt8) (hq : A.map lowC = B ++ 64 :: D) (hB : ∀ x ∈ B, x ≠ 64) (hBn : B ≠ []) :
    Calls Tryz.prog 51 #[.string s] w (ReadsTo s.data.toList w) := by
  have hsize : s.size = A.length + 1 + R.length := by rw [← size_data, hT]; simp; omega
  have b1 : A.length + 1 ≤ s.size := by omega
  have b1' : (A.length : Int) + 1 ≤ (s.size : Int) := by omega
  have i1 := fun W => spec_at s 47 W (by unfold maxLen; omega)
  rw [hT, index_app 47 R A hA] at i1
  have x1 : s.extract (A.length + 1) s.size = strOf R := ext_str s (A ++ [47]) R [] (by rw [hT]; simp) _ _ (by simp) (by rw [hsize]; simp)
  have x2 : s.extract 0 A.length = strOf A := ext_str s [] A (47 :: R) (by rw [hT]; simp) _ _ rfl (by simp)
  have n1 : (strOf R).toList ≠ [] := ne_nil (by rw [strOf_size]; exact List.length_pos_iff.2 hR)
  have n2 : (strOf R).toList.isEmpty = false := not_empty (by rw [strOf_size]; exact List.length_pos_iff.2 hR)
  have i2 := fun W => spec_lower (strOf A) W (by rw [strOf_size]; omega)
  rw [strOf_data] at i2
  have hql : (A.map lowC).length ≤ 2000000 := by rw [List.length_map]; omega
  rw [hq] at i2 hql
  have i3 := fun W => spec_at (strOf (B ++ 64 :: D)) 64 W (by rw [strOf_size]; unfold maxLen; omega)
  rw [strOf_data, index_app 64 D B hB] at i3
  have x3 : (strOf (B ++ 64 :: D)).extract 0 B.length = strOf B := ext_str _ [] B (64 :: D) (by rw [strOf_data]; simp) _ _ rfl (by simp)
  have x4 : (strOf (B ++ 64 :: D)).extract (B.length + 1) (strOf (B ++ 64 :: D)).size = strOf D := ext_str _ (B ++ [64]) D [] (by rw [strOf_data]; simp) _ _ (by simp) (by rw [strOf_size]; simp; omega)
  have b2 : B.length + 1 ≤ (strOf (B ++ 64 :: D)).size := by rw [strOf_size]; simp
  have b2' : (B.length : Int) + 1 ≤ ((strOf (B ++ 64 :: D)).size : Int) := by omega
  have b3 : (strOf (B ++ 64 :: D)).size ≤ 2000000 := by rw [strOf_size]; exact hql
  have n3 : (strOf B).toList ≠ [] := ne_nil (by rw [strOf_size]; exact List.length_pos_iff.2 hBn)
  have n4 : (strOf B).toList.isEmpty = false := not_empty (by rw [strOf_size]; exact List.length_pos_iff.2 hBn)
  have HSH : Hid (shapeL s.data.toList = true) := Lib.hid (by
    rw [hT]; unfold shapeL; rw [cut_app hA]; dsimp only; rw [hq, cut_app hB]
    cases B with
    | nil => exact absurd rfl hBn
    | cons b B => cases R with | nil => exact absurd rfl hR | cons r R => rfl)
  have HRD : Hid (readL s.data.toList = (B, D, R)) := Lib.hid (by rw [hT]; unfold readL; rw [cut_app hA]; dsimp only; rw [hq, cut_app hB]; rfl)
  obtain ⟨Q, hQ⟩ : ∃ Q, Q = strOf (B ++ 64 :: D) := ⟨_, rfl⟩
  rw [← hQ] at i2 i3 x3 x4 b2 b2' b3
  have j1 : ((strOf B) : ByteArray).size ≤ maxLen := by rw [strOf_size]; simp at hql; unfold maxLen; omega
  have j2 : ((strOf D) : ByteArray).size ≤ maxLen := by rw [strOf_size]; simp at hql; unfold maxLen; omega
  have j3 : ((strOf R) : ByteArray).size ≤ maxLen := by rw [strOf_size]; unfold maxLen; omega
  have i4 := fun W => spec_right (strOf B) (strOf D) (strOf R) W j1 j2 j3
  obtain ⟨v, hv⟩ : ∃ v, jidB (strOf B) (strOf D) (strOf R) = v := ⟨_, rfl⟩
  rw [hv] at i4
  have HFin : Hid (∀ W, Below w.heap.size w W → ReadsTo s.data.toList w (.returned (.tuple #[.agg #[.string (strOf B), .string (strOf D), .string (strOf R)], .bool v])) W) := Lib.hid (fun W hb => by
    have h := readsTo_yes HSH.out HRD.out hb
    rw [hv] at h
    exact h)
  clear hv j1 j2 j3
  clear hQ hT hql hsize HSH HRD
  go_enter Tryz.func51, Tryz.ntmps51
  go_wp2_with (first
    | (go_at_call 88; go_fit (i1 _); rintro e w1 ⟨rfl, rfl⟩)
    | (go_at_call 88; go_fit (i3 _); rintro e w1 ⟨rfl, rfl⟩)
    | (go_at_call 89; go_fit (i2 _); rintro e w1 ⟨rfl, hb1⟩; obtain ⟨hRes, hJ, hb2⟩ := bare_kept hb1; have hz := arr_lt hJ; obtain ⟨c0, c1, c2, f0, f1, f2⟩ := arr_three hJ; obtain ⟨p0, p1, p2, q0, q1, q2⟩ := arr_three hRes; have HRes := Lib.hid hRes; have HJ := Lib.hid hJ; clear hRes hJ))
  have hS : ReadS w (strOf B) (strOf D) (strOf R) (((w1.setCell ⟨w.heap.size + 1, 0, none⟩ (.string (strOf B))).setCell ⟨w.heap.size + 1, 1, none⟩ (.string (strOf D)))).drew := readS (Below.drew (((below_one (below_one hb1)).setCell (Nat.le_succ _) _).setCell (Nat.le_succ _) _)) ((HJ.out.put 0 _).put 1 _) ⟨_, _, _, arr_other (arr_other HRes.out _ _ _ (by omega)) _ _ _ (by omega)⟩
  have HS := Lib.hid hS
  clear hS hb1 hb2 c0 c1 c2 f0 f1 f2 p0 p1 p2 q0 q1 q2 HRes HJ i1 i2 i3 hz
  go_region_held3 (fun W => (W.cell? ⟨w.heap.size + 1, 0, none⟩ = some (.string (strOf B)) ∧ W.cell? ⟨w.heap.size + 1, 1, none⟩ = some (.string (strOf D)) ∧ W.cell? ⟨w.heap.size + 1, 2, none⟩ = some (.string (strOf R)) ∧
   W.cell? ⟨w.heap.size, 0, none⟩ = some (cellAt W w.heap.size 0) ∧ W.cell? ⟨w.heap.size, 1, none⟩ = some (cellAt W w.heap.size 1) ∧ W.cell? ⟨w.heap.size, 2, none⟩ = some (cellAt W w.heap.size 2) ∧
   W.frozen? ⟨w.heap.size, 0, none⟩ = false ∧ W.frozen? ⟨w.heap.size, 1, none⟩ = false ∧ W.frozen? ⟨w.heap.size, 2, none⟩ = false) ∧
  (Below w.heap.size w W ∧ Arr W (w.heap.size + 1) 49 [.string (strOf B), .string (strOf D), .string (strOf R)] ∧ Res W w.heap.size))
    (with_reducible first | assumption | exact HS.out | exact readS_on (by assumption) hbN | exact readS_store (by assumption))
    (first
      | (go_at_call 90; go_fit (i4 _); rintro e w2 ⟨rfl, hbN⟩; have hrN := (readS_on (by assumption) hbN).2.2.2))
  all_goals
    obtain ⟨_, hbF, _, _⟩ := readS_on (by assumption) (Below.refl _ _)
    have HB := Lib.hid hbF
    obtain ⟨x, y, z, hA⟩ := hrN
    have hF : Arr _ w.heap.size 49 [.string (strOf B), .string (strOf D), .string (strOf R)] := ((hA.put 0 (.string (strOf B))).put 1 (.string (strOf D))).put 2 (.string (strOf R))
    have hz := arr_lt hF
    obtain ⟨c0, c1, c2, _, _, _⟩ := arr_three hF
    clear hbF hA hF
    go_wp2
    exact bodyPost_ret (v := .tuple #[.agg #[.string (strOf B), .string (strOf D), .string (strOf R)], .bool v]) (by simp [results, Tryz.results51, go_sem, c0, c1, c2] at hz ⊢; try omega) rfl (HFin.out _ HB.out)
set_option maxRecDepth 100000 in
set_option maxHeartbeats 4000000 in
theorem spec_read4 (s : ByteArray) (w : World) (hs : s.size ≤ 2000000) (A : List UInt8) (R : List UInt8) (hT : s.data.toList = A ++ 47 :: R) (hA : ∀ x ∈ A, x ≠ 47) (hR : R ≠ []) (hB : ∀ x ∈ A.map lowC, x ≠ 64) :
    Calls Tryz.prog 51 #[.string s] w (ReadsTo s.data.toList w) := by
  have hsize : s.size = A.length + 1 + R.length := by rw [← size_data, hT]; simp; omega
  have b1 : A.length + 1 ≤ s.size := by omega
  have b1' : (A.length : Int) + 1 ≤ (s.size : Int) := by omega
  have i1 := fun W => spec_at s 47 W (by unfold maxLen; omega)
  rw [hT, index_app 47 R A hA] at i1
  have x1 : s.extract (A.length + 1) s.size = strOf R := ext_str s (A ++ [47]) R [] (by rw [hT]; simp) _ _ (by simp) (by rw [hsize]; simp)
  have x2 : s.extract 0 A.length = strOf A := ext_str s [] A (47 :: R) (by rw [hT]; simp) _ _ rfl (by simp)
  have n1 : (strOf R).toList ≠ [] := ne_nil (by rw [strOf_size]; exact List.length_pos_iff.2 hR)
  have n2 : (strOf R).toList.isEmpty = false := not_empty (by rw [strOf_size]; exact List.length_pos_iff.2 hR)
  have i2 := fun W => spec_lower (strOf A) W (by rw [strOf_size]; omega)
  rw [strOf_data] at i2
  have hql : (A.map lowC).length ≤ 2000000 := by rw [List.length_map]; omega
  have i3 := fun W => spec_at (strOf (A.map lowC)) 64 W (by rw [strOf_size]; unfold maxLen; omega)
  rw [strOf_data, index_not 64 _ hB] at i3
  have HSH : Hid (shapeL s.data.toList = true) := Lib.hid (by
    rw [hT]; unfold shapeL; rw [cut_app hA]; dsimp only; rw [cut_not hB]
    cases R with | nil => exact absurd rfl hR | cons r R => rfl)
  have HRD : Hid (readL s.data.toList = ([], A.map lowC, R)) := Lib.hid (by rw [hT]; unfold readL; rw [cut_app hA]; dsimp only; rw [cut_not hB]; rfl)
  obtain ⟨Q, hQ⟩ : ∃ Q, Q = strOf (A.map lowC) := ⟨_, rfl⟩
  rw [← hQ] at i2 i3
  have j1 : (⟨#[]⟩ : ByteArray).size ≤ maxLen := by unfold maxLen; decide
  have j2 : (Q : ByteArray).size ≤ maxLen := by rw [hQ, strOf_size]; unfold maxLen; omega
  have j3 : ((strOf R) : ByteArray).size ≤ maxLen := by rw [strOf_size]; unfold maxLen; omega
  have i4 := fun W => spec_right ⟨#[]⟩ Q (strOf R) W j1 j2 j3
  obtain ⟨v, hv⟩ : ∃ v, jidB ⟨#[]⟩ Q (strOf R) = v := ⟨_, rfl⟩
  rw [hv] at i4
  have HFin : Hid (∀ W, Below w.heap.size w W → ReadsTo s.data.toList w (.returned (.tuple #[.agg #[.string ⟨#[]⟩, .string Q, .string (strOf R)], .bool v])) W) := Lib.hid (fun W hb => by
    have h := readsTo_yes HSH.out HRD.out hb
    rw [← hQ] at h
    have h2 : jidB (strOf []) Q (strOf R) = v := hv
    rw [h2] at h
    exact h)
  clear hv j1 j2 j3
  clear hQ hT hql hsize HSH HRD
  go_enter Tryz.func51, Tryz.ntmps51
  go_wp2_with (first
    | (go_at_call 88; go_fit (i1 _); rintro e w1 ⟨rfl, rfl⟩)
    | (go_at_call 88; go_fit (i3 _); rintro e w1 ⟨rfl, rfl⟩)
    | (go_at_call 89; go_fit (i2 _); rintro e w1 ⟨rfl, hb1⟩; obtain ⟨hRes, hJ, hb2⟩ := bare_kept hb1; have hz := arr_lt hJ; obtain ⟨c0, c1, c2, f0, f1, f2⟩ := arr_three hJ; obtain ⟨p0, p1, p2, q0, q1, q2⟩ := arr_three hRes; have HRes := Lib.hid hRes; have HJ := Lib.hid hJ; clear hRes hJ))
  have hS : ReadS w ⟨#[]⟩ Q (strOf R) ((w1.setCell ⟨w.heap.size + 1, 1, none⟩ (.string Q))).drew := readS (Below.drew ((below_one (below_one hb1)).setCell (Nat.le_succ _) _)) (HJ.out.put 1 _) ⟨_, _, _, arr_other HRes.out _ _ _ (by omega)⟩
  have HS := Lib.hid hS
  clear hS hb1 hb2 c0 c1 c2 f0 f1 f2 p0 p1 p2 q0 q1 q2 HRes HJ i1 i2 i3 hz
  go_region_held3 (fun W => (W.cell? ⟨w.heap.size + 1, 0, none⟩ = some (.string ⟨#[]⟩) ∧ W.cell? ⟨w.heap.size + 1, 1, none⟩ = some (.string Q) ∧ W.cell? ⟨w.heap.size + 1, 2, none⟩ = some (.string (strOf R)) ∧
   W.cell? ⟨w.heap.size, 0, none⟩ = some (cellAt W w.heap.size 0) ∧ W.cell? ⟨w.heap.size, 1, none⟩ = some (cellAt W w.heap.size 1) ∧ W.cell? ⟨w.heap.size, 2, none⟩ = some (cellAt W w.heap.size 2) ∧
   W.frozen? ⟨w.heap.size, 0, none⟩ = false ∧ W.frozen? ⟨w.heap.size, 1, none⟩ = false ∧ W.frozen? ⟨w.heap.size, 2, none⟩ = false) ∧
  (Below w.heap.size w W ∧ Arr W (w.heap.size + 1) 49 [.string ⟨#[]⟩, .string Q, .string (strOf R)] ∧ Res W w.heap.size))
    (with_reducible first | assumption | exact HS.out | exact readS_on (by assumption) hbN | exact readS_store (by assumption))
    (first
      | (go_at_call 90; go_fit (i4 _); rintro e w2 ⟨rfl, hbN⟩; have hrN := (readS_on (by assumption) hbN).2.2.2))
  all_goals
    obtain ⟨_, hbF, _, _⟩ := readS_on (by assumption) (Below.refl _ _)
    have HB := Lib.hid hbF
    obtain ⟨x, y, z, hA⟩ := hrN
    have hF : Arr _ w.heap.size 49 [.string ⟨#[]⟩, .string Q, .string (strOf R)] := ((hA.put 0 (.string ⟨#[]⟩)).put 1 (.string Q)).put 2 (.string (strOf R))
    have hz := arr_lt hF
    obtain ⟨c0, c1, c2, _, _, _⟩ := arr_three hF
    clear hbF hA hF
    go_wp2
    exact bodyPost_ret (v := .tuple #[.agg #[.string ⟨#[]⟩, .string Q, .string (strOf R)], .bool v]) (by simp [results, Tryz.results51, go_sem, c0, c1, c2] at hz ⊢; try omega) rfl (HFin.out _ HB.out)
set_option maxRecDepth 100000 in
set_option maxHeartbeats 4000000 in
theorem spec_read5 (s : ByteArray) (w : World) (hs : s.size ≤ 2000000) (A : List UInt8) (hT : s.data.toList = A) (hA : ∀ x ∈ A, x ≠ 47) (B D : List UInt8) (hq : A.map lowC = B ++ 64 :: D) (hB : ∀ x ∈ B, x ≠ 64) (hBn : B = []) :
    Calls Tryz.prog 51 #[.string s] w (ReadsTo s.data.toList w) := by
  have hsize : s.size = A.length := by rw [← size_data, hT]
  have i1 := fun W => spec_at s 47 W (by unfold maxLen; omega)
  rw [hT, index_not 47 A hA] at i1
  have i2 := fun W => spec_lower s W (by omega)
  rw [hT] at i2
  have hql : (A.map lowC).length ≤ 2000000 := by rw [List.length_map]; omega
  rw [hq] at i2 hql
  have i3 := fun W => spec_at (strOf (B ++ 64 :: D)) 64 W (by rw [strOf_size]; unfold maxLen; omega)
  rw [strOf_data, index_app 64 D B hB] at i3
  have x3 : (strOf (B ++ 64 :: D)).extract 0 B.length = strOf B := ext_str _ [] B (64 :: D) (by rw [strOf_data]; simp) _ _ rfl (by simp)
  have x4 : (strOf (B ++ 64 :: D)).extract (B.length + 1) (strOf (B ++ 64 :: D)).size = strOf D := ext_str _ (B ++ [64]) D [] (by rw [strOf_data]; simp) _ _ (by simp) (by rw [strOf_size]; simp; omega)
  have b2 : B.length + 1 ≤ (strOf (B ++ 64 :: D)).size := by rw [strOf_size]; simp
  have b2' : (B.length : Int) + 1 ≤ ((strOf (B ++ 64 :: D)).size : Int) := by omega
  have b3 : (strOf (B ++ 64 :: D)).size ≤ 2000000 := by rw [strOf_size]; exact hql
  have HSH : Hid (shapeL s.data.toList = false) := Lib.hid (by rw [hT]; unfold shapeL; rw [cut_not hA]; dsimp only; rw [hq, cut_app hB, hBn]; rfl)
  have n3 : (strOf B).toList = [] := by rw [hBn, ByteArray.toList_eq]; rfl
  have n4 : (strOf B).toList.isEmpty = true := by rw [hBn, ByteArray.toList_eq]; rfl
  clear hBn
  obtain ⟨Q, hQ⟩ : ∃ Q, Q = strOf (B ++ 64 :: D) := ⟨_, rfl⟩
  rw [← hQ] at i2 i3 x3 x4 b2 b2' b3
  clear hQ hT hql hsize
  go_enter Tryz.func51, Tryz.ntmps51
  go_wp2_with (first
    | (go_at_call 88; go_fit (i1 _); rintro e w1 ⟨rfl, rfl⟩)
    | (go_at_call 88; go_fit (i3 _); rintro e w1 ⟨rfl, rfl⟩)
    | (go_at_call 89; go_fit (i2 _); rintro e w1 ⟨rfl, hb1⟩; obtain ⟨hRes, hJ, hb2⟩ := bare_kept hb1; have hz := arr_lt hJ; obtain ⟨c0, c1, c2, f0, f1, f2⟩ := arr_three hJ; obtain ⟨p0, p1, p2, q0, q1, q2⟩ := arr_three hRes; have HRes := Lib.hid hRes; have HJ := Lib.hid hJ; clear hRes hJ))
  refine bodyPost_ret (v := .tuple #[.agg #[.string (strOf B), .string ⟨#[]⟩, .string ⟨#[]⟩], .bool false]) (by simp [results, Tryz.results51, go_sem, c0, c1, c2, p0, p1, p2, hz, Nat.lt_of_succ_lt hz]) rfl (readsTo_no HSH.out ?_)
  exact below_three ((below_one (below_one hb1)).setCell (Nat.le_succ _) _) (Nat.le_refl _) _ _ _
set_option maxRecDepth 100000 in
set_option maxHeartbeats 4000000 in
theorem spec_read6 (s : ByteArray) (w : World) (hs : s.size ≤ 2000000) (A : List UInt8) (hT : s.data.toList = A) (hA : ∀ x ∈ A, x ≠ 47) (B D : List UInt8) (hq : A.map lowC = B ++ 64 :: D) (hB : ∀ x ∈ B, x ≠ 64) (hBn : B ≠ []) :
    Calls Tryz.prog 51 #[.string s] w (ReadsTo s.data.toList w) := by
  have hsize : s.size = A.length := by rw [← size_data, hT]
  have i1 := fun W => spec_at s 47 W (by unfold maxLen; omega)
  rw [hT, index_not 47 A hA] at i1
  have i2 := fun W => spec_lower s W (by omega)
  rw [hT] at i2
  have hql : (A.map lowC).length ≤ 2000000 := by rw [List.length_map]; omega
  rw [hq] at i2 hql
  have i3 := fun W => spec_at (strOf (B ++ 64 :: D)) 64 W (by rw [strOf_size]; unfold maxLen; omega)
  rw [strOf_data, index_app 64 D B hB] at i3
  have x3 : (strOf (B ++ 64 :: D)).extract 0 B.length = strOf B := ext_str _ [] B (64 :: D) (by rw [strOf_data]; simp) _ _ rfl (by simp)
  have x4 : (strOf (B ++ 64 :: D)).extract (B.length + 1) (strOf (B ++ 64 :: D)).size = strOf D := ext_str _ (B ++ [64]) D [] (by rw [strOf_data]; simp) _ _ (by simp) (by rw [strOf_size]; simp; omega)
  have b2 : B.length + 1 ≤ (strOf (B ++ 64 :: D)).size := by rw [strOf_size]; simp
  have b2' : (B.length : Int) + 1 ≤ ((strOf (B ++ 64 :: D)).size : Int) := by omega
  have b3 : (strOf (B ++ 64 :: D)).size ≤ 2000000 := by rw [strOf_size]; exact hql
  have n3 : (strOf B).toList ≠ [] := ne_nil (by rw [strOf_size]; exact List.length_pos_iff.2 hBn)
  have n4 : (strOf B).toList.isEmpty = false := not_empty (by rw [strOf_size]; exact List.length_pos_iff.2 hBn)
  have HSH : Hid (shapeL s.data.toList = true) := Lib.hid (by
    rw [hT]; unfold shapeL; rw [cut_not hA]; dsimp only; rw [hq, cut_app hB]
    cases B with
    | nil => exact absurd rfl hBn
    | cons b B => rfl)
  have HRD : Hid (readL s.data.toList = (B, D, [])) := Lib.hid (by rw [hT]; unfold readL; rw [cut_not hA]; dsimp only; rw [hq, cut_app hB]; rfl)
  obtain ⟨Q, hQ⟩ : ∃ Q, Q = strOf (B ++ 64 :: D) := ⟨_, rfl⟩
  rw [← hQ] at i2 i3 x3 x4 b2 b2' b3
  have j1 : ((strOf B) : ByteArray).size ≤ maxLen := by rw [strOf_size]; simp at hql; unfold maxLen; omega
  have j2 : ((strOf D) : ByteArray).size ≤ maxLen := by rw [strOf_size]; simp at hql; unfold maxLen; omega
  have j3 : (⟨#[]⟩ : ByteArray).size ≤ maxLen := by unfold maxLen; decide
  have i4 := fun W => spec_right (strOf B) (strOf D) ⟨#[]⟩ W j1 j2 j3
  obtain ⟨v, hv⟩ : ∃ v, jidB (strOf B) (strOf D) ⟨#[]⟩ = v := ⟨_, rfl⟩
  rw [hv] at i4
  have HFin : Hid (∀ W, Below w.heap.size w W → ReadsTo s.data.toList w (.returned (.tuple #[.agg #[.string (strOf B), .string (strOf D), .string ⟨#[]⟩], .bool v])) W) := Lib.hid (fun W hb => by
    have h := readsTo_yes HSH.out HRD.out hb
    have h2 : jidB (strOf B) (strOf D) (strOf []) = v := hv
    rw [h2] at h
    exact h)
  clear hv j1 j2 j3
  clear hQ hT hql hsize HSH HRD
  go_enter Tryz.func51, Tryz.ntmps51
  go_wp2_with (first
    | (go_at_call 88; go_fit (i1 _); rintro e w1 ⟨rfl, rfl⟩)
    | (go_at_call 88; go_fit (i3 _); rintro e w1 ⟨rfl, rfl⟩)
    | (go_at_call 89; go_fit (i2 _); rintro e w1 ⟨rfl, hb1⟩; obtain ⟨hRes, hJ, hb2⟩ := bare_kept hb1; have hz := arr_lt hJ; obtain ⟨c0, c1, c2, f0, f1, f2⟩ := arr_three hJ; obtain ⟨p0, p1, p2, q0, q1, q2⟩ := arr_three hRes; have HRes := Lib.hid hRes; have HJ := Lib.hid hJ; clear hRes hJ))
  have hS : ReadS w (strOf B) (strOf D) ⟨#[]⟩ (((w1.setCell ⟨w.heap.size + 1, 0, none⟩ (.string (strOf B))).setCell ⟨w.heap.size + 1, 1, none⟩ (.string (strOf D)))).drew := readS (Below.drew (((below_one (below_one hb1)).setCell (Nat.le_succ _) _).setCell (Nat.le_succ _) _)) ((HJ.out.put 0 _).put 1 _) ⟨_, _, _, arr_other (arr_other HRes.out _ _ _ (by omega)) _ _ _ (by omega)⟩
  have HS := Lib.hid hS
  clear hS hb1 hb2 c0 c1 c2 f0 f1 f2 p0 p1 p2 q0 q1 q2 HRes HJ i1 i2 i3 hz
  go_region_held3 (fun W => (W.cell? ⟨w.heap.size + 1, 0, none⟩ = some (.string (strOf B)) ∧ W.cell? ⟨w.heap.size + 1, 1, none⟩ = some (.string (strOf D)) ∧ W.cell? ⟨w.heap.size + 1, 2, none⟩ = some (.string ⟨#[]⟩) ∧
   W.cell? ⟨w.heap.size, 0, none⟩ = some (cellAt W w.heap.size 0) ∧ W.cell? ⟨w.heap.size, 1, none⟩ = some (cellAt W w.heap.size 1) ∧ W.cell? ⟨w.heap.size, 2, none⟩ = some (cellAt W w.heap.size 2) ∧
   W.frozen? ⟨w.heap.size, 0, none⟩ = false ∧ W.frozen? ⟨w.heap.size, 1, none⟩ = false ∧ W.frozen? ⟨w.heap.size, 2, none⟩ = false) ∧
  (Below w.heap.size w W ∧ Arr W (w.heap.size + 1) 49 [.string (strOf B), .string (strOf D), .string ⟨#[]⟩] ∧ Res W w.heap.size))
    (with_reducible first | assumption | exact HS.out | exact readS_on (by assumption) hbN | exact readS_store (by assumption))
    (first
      | (go_at_call 90; go_fit (i4 _); rintro e w2 ⟨rfl, hbN⟩; have hrN := (readS_on (by assumption) hbN).2.2.2))
  all_goals
    obtain ⟨_, hbF, _, _⟩ := readS_on (by assumption) (Below.refl _ _)
    have HB := Lib.hid hbF
    obtain ⟨x, y, z, hA⟩ := hrN
    have hF : Arr _ w.heap.size 49 [.string (strOf B), .string (strOf D), .string ⟨#[]⟩] := ((hA.put 0 (.string (strOf B))).put 1 (.string (strOf D))).put 2 (.string ⟨#[]⟩)
    have hz := arr_lt hF
    obtain ⟨c0, c1, c2, _, _, _⟩ := arr_three hF
    clear hbF hA hF
    go_wp2
    exact bodyPost_ret (v := .tuple #[.agg #[.string (strOf B), .string (strOf D), .string ⟨#[]⟩], .bool v]) (by simp [results, Tryz.results51, go_sem, c0, c1, c2] at hz ⊢; try omega) rfl (HFin.out _ HB.out)
set_option maxRecDepth 100000 in
set_option maxHeartbeats 4000000 in
theorem spec_read7 (s : ByteArray) (w : World) (hs : s.size ≤ 2000000) (A : List UInt8) (hT : s.data.toList = A) (hA : ∀ x ∈ A, x ≠ 47) (hB : ∀ x ∈ A.map lowC, x ≠ 64) :
    Calls Tryz.prog 51 #[.string s] w (ReadsTo s.data.toList w) := by
  have hsize : s.size = A.length := by rw [← size_data, hT]
  have i1 := fun W => spec_at s 47 W (by unfold maxLen; omega)
  rw [hT, index_not 47 A hA] at i1
  have i2 := fun W => spec_lower s W (by omega)
  rw [hT] at i2
  have hql : (A.map lowC).length ≤ 2000000 := by rw [List.length_map]; omega
  have i3 := fun W => spec_at (strOf (A.map lowC)) 64 W (by rw [strOf_size]; unfold maxLen; omega)
  rw [strOf_data, index_not 64 _ hB] at i3
  have HSH : Hid (shapeL s.data.toList = true) := Lib.hid (by
    rw [hT]; unfold shapeL; rw [cut_not hA]; dsimp only; rw [cut_not hB]
    rfl)
  have HRD : Hid (readL s.data.toList = ([], A.map lowC, [])) := Lib.hid (by rw [hT]; unfold readL; rw [cut_not hA]; dsimp only; rw [cut_not hB]; rfl)
  obtain ⟨Q, hQ⟩ : ∃ Q, Q = strOf (A.map lowC) := ⟨_, rfl⟩
  rw [← hQ] at i2 i3
  have j1 : (⟨#[]⟩ : ByteArray).size ≤ maxLen := by unfold maxLen; decide
  have j2 : (Q : ByteArray).size ≤ maxLen := by rw [hQ, strOf_size]; unfold maxLen; omega
  have j3 : (⟨#[]⟩ : ByteArray).size ≤ maxLen := by unfold maxLen; decide
  have i4 := fun W => spec_right ⟨#[]⟩ Q ⟨#[]⟩ W j1 j2 j3
  obtain ⟨v, hv⟩ : ∃ v, jidB ⟨#[]⟩ Q ⟨#[]⟩ = v := ⟨_, rfl⟩
  rw [hv] at i4
  have HFin : Hid (∀ W, Below w.heap.size w W → ReadsTo s.data.toList w (.returned (.tuple #[.agg #[.string ⟨#[]⟩, .string Q, .string ⟨#[]⟩], .bool v])) W) := Lib.hid (fun W hb => by
    have h := readsTo_yes HSH.out HRD.out hb
    rw [← hQ] at h
    have h2 : jidB (strOf []) Q (strOf []) = v := hv
    rw [h2] at h
    exact h)
  clear hv j1 j2 j3
  clear hQ hT hql hsize HSH HRD
  go_enter Tryz.func51, Tryz.ntmps51
  go_wp2_with (first
    | (go_at_call 88; go_fit (i1 _); rintro e w1 ⟨rfl, rfl⟩)
    | (go_at_call 88; go_fit (i3 _); rintro e w1 ⟨rfl, rfl⟩)
    | (go_at_call 89; go_fit (i2 _); rintro e w1 ⟨rfl, hb1⟩; obtain ⟨hRes, hJ, hb2⟩ := bare_kept hb1; have hz := arr_lt hJ; obtain ⟨c0, c1, c2, f0, f1, f2⟩ := arr_three hJ; obtain ⟨p0, p1, p2, q0, q1, q2⟩ := arr_three hRes; have HRes := Lib.hid hRes; have HJ := Lib.hid hJ; clear hRes hJ))
  have hS : ReadS w ⟨#[]⟩ Q ⟨#[]⟩ ((w1.setCell ⟨w.heap.size + 1, 1, none⟩ (.string Q))).drew := readS (Below.drew ((below_one (below_one hb1)).setCell (Nat.le_succ _) _)) (HJ.out.put 1 _) ⟨_, _, _, arr_other HRes.out _ _ _ (by omega)⟩
  have HS := Lib.hid hS
  clear hS hb1 hb2 c0 c1 c2 f0 f1 f2 p0 p1 p2 q0 q1 q2 HRes HJ i1 i2 i3 hz
  go_region_held3 (fun W => (W.cell? ⟨w.heap.size + 1, 0, none⟩ = some (.string ⟨#[]⟩) ∧ W.cell? ⟨w.heap.size + 1, 1, none⟩ = some (.string Q) ∧ W.cell? ⟨w.heap.size + 1, 2, none⟩ = some (.string ⟨#[]⟩) ∧
   W.cell? ⟨w.heap.size, 0, none⟩ = some (cellAt W w.heap.size 0) ∧ W.cell? ⟨w.heap.size, 1, none⟩ = some (cellAt W w.heap.size 1) ∧ W.cell? ⟨w.heap.size, 2, none⟩ = some (cellAt W w.heap.size 2) ∧
   W.frozen? ⟨w.heap.size, 0, none⟩ = false ∧ W.frozen? ⟨w.heap.size, 1, none⟩ = false ∧ W.frozen? ⟨w.heap.size, 2, none⟩ = false) ∧
  (Below w.heap.size w W ∧ Arr W (w.heap.size + 1) 49 [.string ⟨#[]⟩, .string Q, .string ⟨#[]⟩] ∧ Res W w.heap.size))
    (with_reducible first | assumption | exact HS.out | exact readS_on (by assumption) hbN | exact readS_store (by assumption))
    (first
      | (go_at_call 90; go_fit (i4 _); rintro e w2 ⟨rfl, hbN⟩; have hrN := (readS_on (by assumption) hbN).2.2.2))
  all_goals
    obtain ⟨_, hbF, _, _⟩ := readS_on (by assumption) (Below.refl _ _)
    have HB := Lib.hid hbF
    obtain ⟨x, y, z, hA⟩ := hrN
    have hF : Arr _ w.heap.size 49 [.string ⟨#[]⟩, .string Q, .string ⟨#[]⟩] := ((hA.put 0 (.string ⟨#[]⟩)).put 1 (.string Q)).put 2 (.string ⟨#[]⟩)
    have hz := arr_lt hF
    obtain ⟨c0, c1, c2, _, _, _⟩ := arr_three hF
    clear hbF hA hF
    go_wp2
    exact bodyPost_ret (v := .tuple #[.agg #[.string ⟨#[]⟩, .string Q, .string ⟨#[]⟩], .bool v]) (by simp [results, Tryz.results51, go_sem, c0, c1, c2] at hz ⊢; try omega) rfl (HFin.out _ HB.out)
theorem spec_l03read (s : ByteArray) (w : World) (hs : s.size ≤ 2000000) : Calls Tryz.prog 51 #[.string s] w (ReadsTo s.data.toList w) := by
  rcases cut_form s.data.toList 47 with ⟨A, R, hT, hA⟩ | hA
  · by_cases hR : R = []
    · exact spec_read1 s w hs A R hT hA hR
    · rcases cut_form (A.map lowC) 64 with ⟨B, D, hq, hB⟩ | hB
      · by_cases hBn : B = []
        · exact spec_read2 s w hs A R hT hA hR B D hq hB hBn
        · exact spec_read3 s w hs A R hT hA hR B D hq hB hBn
      · exact spec_read4 s w hs A R hT hA hR hB
  · rcases cut_form (s.data.toList.map lowC) 64 with ⟨B, D, hq, hB⟩ | hB
    · by_cases hBn : B = []
      · exact spec_read5 s w hs _ rfl hA B D hq hB hBn
      · exact spec_read6 s w hs _ rfl hA B D hq hB hBn
    · exact spec_read7 s w hs _ rfl hA hB

end Go.Proofs.YtafdjjdmcnlddaaGreat

namespace Go.Proofs.YtafdjjdmcnlddaaGreat
open Go.RowKit



def letN (c : Nat) : Prop := 97 ≤ c ∧ c ≤ 122
def moreN (c : Nat) : Prop := 97 ≤ c ∧ c ≤ 122 ∨ 48 ≤ c ∧ c ≤ 57 ∨ c = 95
instance (c : Nat) : Decidable (letN c) := by unfold letN; infer_instance
instance (c : Nat) : Decidable (moreN c) := by unfold moreN; infer_instance
def nameAt (s : ByteArray) (k : Nat) : Prop := ∀ h : k < s.size, if k = 0 then letN s[k].toNat else moreN s[k].toNat
def nameP (s : ByteArray) : Prop := 1 ≤ s.size ∧ s.size ≤ 20 ∧ ∀ k, nameAt s k
open Classical in
noncomputable def nameB (s : ByteArray) : Bool := decide (nameP s)
theorem nameB_true {s : ByteArray} (h : nameP s) : nameB s = true := by unfold nameB; simpa using h
theorem nameB_false {s : ByteArray} (h : ¬ nameP s) : nameB s = false := by unfold nameB; simpa using h
theorem name_no {s : ByteArray} {k : Nat} (hlt : k < s.size) (h : nameP s) : k = 0 ∧ 97 ≤ (s[k].toNat : Int) ∧ (s[k].toNat : Int) ≤ 122 ∨ 0 < k ∧ (97 ≤ (s[k].toNat : Int) ∧ (s[k].toNat : Int) ≤ 122 ∨ 48 ≤ (s[k].toNat : Int) ∧ (s[k].toNat : Int) ≤ 57 ∨ (s[k].toNat : Int) = 95) := by
  have hx := h.2.2 k hlt
  by_cases hk : k = 0
  · rw [if_pos hk] at hx; unfold letN at hx; omega
  · rw [if_neg hk] at hx; unfold moreN at hx; omega
theorem name_go {s : ByteArray} {k : Nat} (hlt : k < s.size) (hall : ∀ j, j < k → nameAt s j) (h : k = 0 ∧ 97 ≤ (s[k].toNat : Int) ∧ (s[k].toNat : Int) ≤ 122 ∨ 0 < k ∧ (97 ≤ (s[k].toNat : Int) ∧ (s[k].toNat : Int) ≤ 122 ∨ 48 ≤ (s[k].toNat : Int) ∧ (s[k].toNat : Int) ≤ 57 ∨ (s[k].toNat : Int) = 95)) : ∀ j, j < k + 1 → nameAt s j := by
  intro j hj
  by_cases hjk : j = k
  · subst hjk
    intro h'
    by_cases hk : j = 0
    · rw [if_pos hk]; unfold letN; omega
    · rw [if_neg hk]; unfold moreN; omega
  · exact hall j (by omega)

set_option maxHeartbeats 400000 in
theorem spec_name (s : ByteArray) (w : World) (hs : s.size ≤ maxLen) :
    Calls Tryz.prog 66 #[.string s] w fun e w' => e = .returned (.bool (nameB s)) ∧ w = w' := by
  unfold maxLen at hs
  by_cases h1 : 1 ≤ s.size ∧ s.size ≤ 20
  · obtain ⟨h1, h2⟩ := h1
    go_enter Tryz.func66, Tryz.ntmps66
    go_wp2
    go_loop [3] (fun i => ∃ k : Nat, k ≤ s.size ∧ i = .int .i64 k ∧ ∀ j, j < k → nameAt s j) (fun i => s.size - (intOf i).toNat)
    case atStart => exact ⟨0, Nat.zero_le _, rfl, fun j hj => absurd hj (Nat.not_lt_zero _)⟩
    case round =>
      obtain ⟨k, hk, rfl, hall⟩ := hrel
      have HA := Lib.hid hall
      clear hall
      by_cases hlt : k < s.size
      · rcases Nat.eq_zero_or_pos k with hk0 | hk0
        · subst hk0
          go_wp2
          all_goals first
            | (go_ret; refine ⟨ret_bool (nameB_false (fun h => ?_)).symm, rfl⟩; have hx := name_no hlt h; clear h HA; simp at *; omega)
            | (go_round
               case rel => exact ⟨0 + 1, by omega, by go_num, name_go hlt HA.out (by clear HA; simp at *; omega)⟩
               case measure => simp [intOf]; omega)
        · go_wp2
          all_goals first
            | (go_ret; refine ⟨ret_bool (nameB_false (fun h => ?_)).symm, rfl⟩; have hx := name_no hlt h; clear h HA; simp at *; omega)
            | (go_round
               case rel => exact ⟨k + 1, by omega, by go_num, name_go hlt HA.out (by clear HA; simp at *; omega)⟩
               case measure => simp [intOf]; omega)
      · go_wp2
        go_ret
        exact ⟨ret_bool (nameB_true ⟨h1, h2, fun j => by
          by_cases hj : j < k
          · exact HA.out j hj
          · intro h; omega⟩).symm, rfl⟩
  · have hf := nameB_false (s := s) (fun h => h1 ⟨h.1, h.2.1⟩)
    have HF := Lib.hid hf
    clear hf
    by_cases h2 : s.size < 1
    · clear h1
      go_enter Tryz.func66, Tryz.ntmps66
      go_wp2
      go_ret
      exact ⟨ret_bool HF.out.symm, rfl⟩
    · have h3 : 20 < s.size := by omega
      clear h1
      go_enter Tryz.func66, Tryz.ntmps66
      go_wp2
      go_ret
      exact ⟨ret_bool HF.out.symm, rfl⟩

set_option maxHeartbeats 400000 in
theorem impl_name (s : ByteArray) (w : World) (hs : s.size ≤ maxLen) :
    Calls Tryz.prog 72 #[.string s] w fun e w' => e = .returned (.bool (nameB s)) ∧ w = w' := by
  unfold maxLen at hs
  by_cases h1 : 1 ≤ s.size ∧ s.size ≤ 20
  · obtain ⟨h1, h2⟩ := h1
    have hlt0 : 0 < s.size := h1
    by_cases hl : 97 ≤ (s[0].toNat : Int) ∧ (s[0].toNat : Int) ≤ 122
    · obtain ⟨hl1, hl2⟩ := hl
      have H0 := Lib.hid (name_go hlt0 (fun j hj => absurd hj (Nat.not_lt_zero j)) (Or.inl ⟨rfl, hl1, hl2⟩))
      go_enter Tryz.func72, Tryz.ntmps72
      go_wp2
      go_loop [3] (fun i => ∃ k : Nat, 0 < k ∧ k ≤ s.size ∧ i = .int .i64 k ∧ ∀ j, j < k → nameAt s j) (fun i => s.size - (intOf i).toNat)
      case atStart => exact ⟨1, by omega, h1, rfl, H0.out⟩
      case round =>
        obtain ⟨k, hk0, hk, rfl, hall⟩ := hrel
        have HA := Lib.hid hall
        clear hall H0
        by_cases hlt : k < s.size
        · go_wp2
          all_goals first
            | (go_ret; refine ⟨ret_bool (nameB_false (fun h => ?_)).symm, rfl⟩; have hx := name_no hlt h; clear h HA; simp at *; omega)
            | (go_round
               case rel => exact ⟨k + 1, by omega, by omega, by go_num, name_go hlt HA.out (by clear HA; simp at *; omega)⟩
               case measure => simp [intOf]; omega)
        · go_wp2
          go_ret
          exact ⟨ret_bool (nameB_true ⟨h1, h2, fun j => by
            by_cases hj : j < k
            · exact HA.out j hj
            · intro h; omega⟩).symm, rfl⟩
    · have hf := nameB_false (s := s) (fun h => hl (by have := name_no hlt0 h; omega))
      have HF := Lib.hid hf
      clear hf
      by_cases hl1 : 97 ≤ (s[0].toNat : Int)
      · have hl2 : 122 < (s[0].toNat : Int) := by omega
        clear hl
        go_enter Tryz.func72, Tryz.ntmps72
        go_wp2
        all_goals first
          | (exfalso; clear HF; simp at *; omega)
          | (go_ret; exact ⟨ret_bool HF.out.symm, rfl⟩)
      · clear hl
        go_enter Tryz.func72, Tryz.ntmps72
        go_wp2
        all_goals (go_ret; exact ⟨ret_bool HF.out.symm, rfl⟩)
  · have hf := nameB_false (s := s) (fun h => h1 ⟨h.1, h.2.1⟩)
    have HF := Lib.hid hf
    clear hf
    by_cases h2 : s.size < 1
    · clear h1
      go_enter Tryz.func72, Tryz.ntmps72
      go_wp2
      go_ret
      exact ⟨ret_bool HF.out.symm, rfl⟩
    · have h3 : 20 < s.size := by omega
      clear h1
      go_enter Tryz.func72, Tryz.ntmps72
      go_wp2
      go_ret
      exact ⟨ret_bool HF.out.symm, rfl⟩
end Go.Proofs.YtafdjjdmcnlddaaGreat

namespace Go.Proofs.YtafdjjdmcnlddaaGreat
set_option linter.unusedSimpArgs false
set_option linter.unusedVariables false
open Go.RowKit

theorem takeH {P : Program} {ops : Array Oper} {Q : Exit → Act → World → Prop} {md : Region.Mode} {S : World → Prop} {i k : Nat} {oi : Oper} {v : Value} {fuel : Nat} {listed : Array Bool} {a : Act} {w : World} (hi : ops[i]? = some oi) (hd : oi.dst = some k)
    (hs : Region.noSelect ops = true) (hf : Region.free md ops listed i = true) (hr : (Region.ready md ops listed).contains i = true) (hQ : ∀ c a w, Q (.panic c) (a.put (some k) v) w → Q (.panic c) a w)
    (hw : Region.wanted oi (yielded ops a.tmps) = true) (hv : ∀ w, S w → (execOp a.eval oi).run P w = .ok (.value v) w) (hS : S w) (h : wpAnyH P md ops Q S fuel (listed.setIfInBounds i true) (a.put (some k) v) w) : wpAnyH P md ops Q S (fuel + 1) listed a w := by
  rw [← hd] at hQ h
  exact wpAnyH_take hi hs hf hr hQ (Or.inl ⟨hw, hv⟩) hS h
theorem skipH {P : Program} {ops : Array Oper} {Q : Exit → Act → World → Prop} {md : Region.Mode} {S : World → Prop} {i k : Nat} {oi : Oper} {fuel : Nat} {listed : Array Bool} {a : Act} {w : World} (hi : ops[i]? = some oi) (hd : oi.dst = some k)
    (hs : Region.noSelect ops = true) (hf : Region.free md ops listed i = true) (hr : (Region.ready md ops listed).contains i = true) (hQ : ∀ c a w, Q (.panic c) (a.put (some k) undef) w → Q (.panic c) a w)
    (hw : Region.wanted oi (yielded ops a.tmps) = false) (hS : S w) (h : wpAnyH P md ops Q S fuel (listed.setIfInBounds i true) (a.put (some k) undef) w) : wpAnyH P md ops Q S (fuel + 1) listed a w := by
  rw [← hd] at hQ h
  exact wpAnyH_take hi hs hf hr hQ (Or.inr ⟨hw, rfl⟩) hS h
theorem heldOn {S : Prop} {W0 X w2 : World} (h : S ∧ Below W0.heap.size W0 X) (h2 : Below X.heap.size X w2) : Below W0.heap.size W0 w2 := h.2.trans (h2.mono h.2.size)
/-- A box of six cells that was laid ahead of a call stands behind it. -/
theorem box_six {w w1 : World} {a b c d e f : Value} {t : Nat} (h : Below (w.alloc (.cells #[a, b, c, d, e, f] t)).heap.size (w.alloc (.cells #[a, b, c, d, e, f] t)) w1) :
    (w1.cell? ⟨w.heap.size, 0, none⟩ = some a ∧ w1.cell? ⟨w.heap.size, 1, none⟩ = some b ∧ w1.cell? ⟨w.heap.size, 2, none⟩ = some c ∧ w1.cell? ⟨w.heap.size, 3, none⟩ = some d ∧ w1.cell? ⟨w.heap.size, 4, none⟩ = some e ∧ w1.cell? ⟨w.heap.size, 5, none⟩ = some f) ∧
    Below (w.alloc (.cells #[a, b, c, d, e, f] t)).heap.size (w.alloc (.cells #[a, b, c, d, e, f] t)) w1 := by
  have hA : Arr w1 w.heap.size t [a, b, c, d, e, f] := (h.block w.heap.size (by simp)).trans (Arr.fresh w t [a, b, c, d, e, f])
  exact ⟨⟨hA.cell 0, hA.cell 1, hA.cell 2, hA.cell 3, hA.cell 4, hA.cell 5⟩, h⟩
end Go.Proofs.YtafdjjdmcnlddaaGreat

namespace Go.Proofs.YtafdjjdmcnlddaaGreat
set_option linter.unusedSimpArgs false
set_option linter.unusedVariables false
open Go.RowKit

def kPres : ByteArray := ⟨#[112, 114, 101, 115, 101, 110, 99, 101]⟩
def kMess : ByteArray := ⟨#[109, 101, 115, 115, 97, 103, 101]⟩
def kIq : ByteArray := ⟨#[105, 113]⟩
def kDb : ByteArray := ⟨#[100, 98]⟩
/-- A kind. -/
def kindB (k : ByteArray) : Bool := (k.toList == kPres.toList) || (k.toList == kMess.toList) || (k.toList == kIq.toList) || (k.toList == kDb.toList)
def timeB (n : Int) : Bool := decide (0 ≤ n ∧ n ≤ 1000000000)
def printC (c : Nat) : Bool := decide (32 ≤ c ∧ c ≤ 126)

theorem impl_kind (k : ByteArray) (w : World) : Calls Tryz.prog 71 #[.string k] w (SaysB (kindB k) w) := by
  unfold kindB
  obtain ⟨b1, h1⟩ : ∃ b, (k.toList == kPres.toList) = b := ⟨_, rfl⟩
  obtain ⟨b2, h2⟩ : ∃ b, (k.toList == kMess.toList) = b := ⟨_, rfl⟩
  obtain ⟨b3, h3⟩ : ∃ b, (k.toList == kIq.toList) = b := ⟨_, rfl⟩
  obtain ⟨b4, h4⟩ : ∃ b, (k.toList == kDb.toList) = b := ⟨_, rfl⟩
  rw [h1, h2, h3, h4]
  unfold kPres at h1
  unfold kMess at h2
  unfold kIq at h3
  unfold kDb at h4
  cases b1
  · cases b2
    · cases b3
      · go_enter Tryz.func71, Tryz.ntmps71
        go_wp2
        all_goals (go_ret; exact ⟨ret_bool (by simp_all), rfl⟩)
      · go_enter Tryz.func71, Tryz.ntmps71
        go_wp2
        all_goals (go_ret; exact ⟨ret_bool (by simp_all), rfl⟩)
    · go_enter Tryz.func71, Tryz.ntmps71
      go_wp2
      all_goals (go_ret; exact ⟨ret_bool (by simp_all), rfl⟩)
  · go_enter Tryz.func71, Tryz.ntmps71
    go_wp2
    all_goals (go_ret; exact ⟨ret_bool (by simp_all), rfl⟩)
theorem impl_time (n : Int) (w : World) : Calls Tryz.prog 74 #[.int .i64 n] w (SaysB (timeB n) w) := by
  go_enter Tryz.func74, Tryz.ntmps74
  go_wp2
  all_goals (go_ret; refine ⟨ret_bool ?_, rfl⟩; unfold timeB; simp; try omega)
theorem spec_is (n : Int) (w : World) : Calls Tryz.prog 77 #[.int .i64 n, .int .i64 0, .int .i64 1000000000] w (SaysB (timeB n) w) := by
  go_enter Tryz.func77, Tryz.ntmps77
  go_wp2
  all_goals (go_ret; refine ⟨ret_bool ?_, rfl⟩; unfold timeB; simp; try omega)

set_option maxRecDepth 100000 in
set_option maxHeartbeats 1000000 in
theorem spec_body (s : ByteArray) (w : World) (hs : s.size ≤ maxLen) : Calls Tryz.prog 82 #[.string s] w (SaysB (allC printC s && decide (s.size ≤ 400)) w) := by
  unfold maxLen at hs
  go_enter Tryz.func82, Tryz.ntmps82
  go_wp2
  go_loop [3] (fun i => ∃ k : Nat, k ≤ s.size ∧ i = .int .i64 k ∧ Upto printC s k) (fun i => s.size - (intOf i).toNat)
  case atStart => exact ⟨0, Nat.zero_le _, rfl, upto_zero _ _⟩
  case round =>
    obtain ⟨k, hk, rfl, hup⟩ := hrel
    by_cases hlt : k < s.size
    · have hc := byte_le s[k]
      obtain ⟨b, hb⟩ : ∃ b, printC s[k].toNat = b := ⟨_, rfl⟩
      cases b
      · have h1 : (s[k].toNat : Int) < 32 ∨ 126 < (s[k].toNat : Int) := by unfold printC at hb; simp at hb; omega
        have HB := Lib.hid (all_no hlt hb)
        go_wp2
        all_goals (go_ret; refine ⟨ret_bool ?_, rfl⟩; rw [HB.out]; rfl)
      · have h1 : 32 ≤ (s[k].toNat : Int) ∧ (s[k].toNat : Int) ≤ 126 := by unfold printC at hb; simp at hb; omega
        go_wp2
        exact ⟨⟨k + 1, hlt, rfl, upto_succ hup hlt hb⟩, by simp [intOf]; omega⟩
    · have HB := Lib.hid (upto_all hup hlt)
      go_wp2
      go_ret
      refine ⟨ret_bool ?_, rfl⟩
      rw [HB.out]
      simp
      try omega

set_option maxRecDepth 100000 in
set_option maxHeartbeats 1000000 in
theorem impl_printable (s : ByteArray) (w : World) (hs : s.size ≤ maxLen) : Calls Tryz.prog 75 #[.string s] w fun e w' => e = .returned (.bool (allC printC s)) ∧ Below w.heap.size w w' := by
  unfold maxLen at hs
  go_enter Tryz.func75, Tryz.ntmps75
  go_wp2
  go_loopw [] (fun wr => ∃ pos : Nat, pos ≤ s.size ∧ wr = w.iter s pos ∧ Upto printC s pos) (fun wr => s.size - wr.iterPos w.heap.size)
  case atStart => exact ⟨0, Nat.zero_le _, rfl, upto_zero _ _⟩
  case round =>
    obtain ⟨pos, hk, rfl, hup⟩ := hrel
    have hB : ∀ p, Below w.heap.size w (w.iter s p) := fun p => (Below.refl _ _).alloc (Nat.le_refl _) _
    by_cases hlt : pos < s.size
    · obtain ⟨b, hb⟩ : ∃ b, printC s[pos].toNat = b := ⟨_, rfl⟩
      by_cases ha : s[pos].toNat < 128
      · have hnx := fun ty => run_next_ascii (P := Tryz.prog) w s pos ty hlt ha
        have hc := byte_le s[pos]
        cases b
        · have h1 : (s[pos].toNat : Int) < 32 ∨ 126 < (s[pos].toNat : Int) := by unfold printC at hb; simp at hb; omega
          have HB := Lib.hid (all_no hlt hb)
          go_wp2
          all_goals (go_ret; refine ⟨ret_bool ?_, hB _⟩; rw [HB.out])
        · have h1 : 32 ≤ (s[pos].toNat : Int) ∧ (s[pos].toNat : Int) ≤ 126 := by unfold printC at hb; simp at hb; omega
          go_wp2
          go_roundw
          case rel => exact ⟨pos + 1, hlt, rfl, upto_succ hup hlt hb⟩
          case measure => simp; omega
      · have hnx := fun ty => run_next_any (P := Tryz.prog) w s pos ty hlt
        have hd := (decode_high s pos hlt (by omega)).1
        have hl := decode_le s pos
        have h1 : 126 < ((Utf8.decode s pos).1 : Int) := by omega
        have h2 : ¬ ((Utf8.decode s pos).1 : Int) < 32 := by omega
        have HB := Lib.hid (all_no hlt (show printC s[pos].toNat = false by unfold printC; simp; omega))
        go_wp2
        all_goals (go_ret; refine ⟨ret_bool ?_, hB _⟩; rw [HB.out])
    · have hnx := fun ty => run_next_end (P := Tryz.prog) w s pos ty hlt
      have HB := Lib.hid (upto_all hup hlt)
      go_wp2
      go_ret
      refine ⟨ret_bool ?_, hB _⟩
      rw [HB.out]

theorem spec_kinds (w : World) : Calls Tryz.prog 80 #[] w fun e w' => e = .returned (.slice (some ⟨w.heap.size, 0, none⟩) 4 4) ∧ w' = w.alloc (.cells #[.string kPres, .string kMess, .string kIq, .string kDb] 9) := by
  go_enter Tryz.func80, Tryz.ntmps80
  go_wp2
  go_ret
  exact ⟨rfl, rfl⟩

set_option maxRecDepth 100000 in
set_option maxHeartbeats 1000000 in
theorem spec_in (b c : Nat) (ks : List ByteArray) (k : ByteArray) (w : World) (hlen : ks.length ≤ 1000) (hc : ∀ j (h : j < ks.length), w.cell? ⟨b, j, none⟩ = some (.string ks[j])) :
    Calls Tryz.prog 79 #[.slice (some ⟨b, 0, none⟩) ks.length c, .string k] w (SaysB (ks.any fun x => x.toList == k.toList) w) := by
  have HC := Lib.hid hc
  clear hc
  go_enter Tryz.func79, Tryz.ntmps79
  go_wp2
  go_loop [5] (fun i => ∃ j : Nat, j ≤ ks.length ∧ i = .int .i64 j ∧ ∀ m (h : m < ks.length), m < j → (ks[m].toList == k.toList) = false) (fun i => ks.length - (intOf i).toNat)
  case atStart => exact ⟨0, Nat.zero_le _, rfl, fun _ _ h => absurd h (Nat.not_lt_zero _)⟩
  case round =>
    obtain ⟨j, hj, rfl, hno⟩ := hrel
    have HN := Lib.hid hno
    clear hno
    by_cases hlt : j < ks.length
    · have hcell := HC.out j hlt
      obtain ⟨x, hx⟩ : ∃ x, x = ks[j] := ⟨_, rfl⟩
      rw [← hx] at hcell
      obtain ⟨b1, h1⟩ : ∃ b, (x.toList == k.toList) = b := ⟨_, rfl⟩
      have HX := Lib.hid hx
      clear hx
      cases b1
      · go_wp2
        refine ⟨⟨j + 1, hlt, rfl, fun m hm h => ?_⟩, by simp [intOf]; omega⟩
        by_cases e : m < j
        · exact HN.out m hm e
        · obtain rfl : m = j := by omega
          rw [← HX.out]
          exact h1
      · have HA : Hid ((ks.any fun x => x.toList == k.toList) = true) := Lib.hid (List.any_eq_true.2 ⟨x, by rw [HX.out]; exact List.getElem_mem hlt, h1⟩)
        go_wp2
        go_ret
        exact ⟨ret_bool HA.out.symm, rfl⟩
    · have HA : Hid ((ks.any fun x => x.toList == k.toList) = false) := Lib.hid (by
        rw [List.any_eq_false]
        intro x hx
        obtain ⟨m, hm, rfl⟩ := List.getElem_of_mem hx
        rw [HN.out m hm (by omega)]
        exact Bool.false_ne_true)
      go_wp2
      go_ret
      exact ⟨ret_bool HA.out.symm, rfl⟩
theorem any_kind (k : ByteArray) : ([kPres, kMess, kIq, kDb].any fun x => x.toList == k.toList) = kindB k := by
  have e : ∀ x : ByteArray, (x.toList == k.toList) = (k.toList == x.toList) := fun x => Bool.eq_iff_iff.2 (by rw [beq_iff_eq, beq_iff_eq]; exact eq_comm)
  simp only [List.any_cons, List.any_nil, e, Bool.or_false, kindB, Bool.or_assoc]
/-- isAddress, and l04Address of what is not empty. -/
noncomputable def addrB (t : ByteArray) : Bool := goodR t.data.toList && ((jidT (strOf (readL t.data.toList).1) (strOf (readL t.data.toList).2.1) (strOf (readL t.data.toList).2.2)).toList == t.toList)
end Go.Proofs.YtafdjjdmcnlddaaGreat

namespace Go.Proofs.YtafdjjdmcnlddaaGreat
set_option linter.unusedSimpArgs false
set_option linter.unusedVariables false
open Go.RowKit

theorem text_some {l d r : ByteArray} (h : jidB l d r = true) : 0 < (jidT l d r).size ∧ (jidT l d r).size ≤ 100 := by
  obtain ⟨b1, b2, b3⟩ := right_le h
  unfold jidB jidB' at h
  simp only [Bool.and_eq_true] at h
  have hd := (domB_iff.1 h.1.2).1
  unfold jidT
  rw [strOf_size, flat_five]
  simp only [List.length_append, size_data]
  have e1 := mark_le atS l (by decide)
  have e2 := mark_le slS r (by decide)
  omega
end Go.Proofs.YtafdjjdmcnlddaaGreat

namespace Go.Proofs.YtafdjjdmcnlddaaGreat
set_option linter.unusedSimpArgs false
set_option linter.unusedVariables false
open Go.RowKit

theorem addr_big {t : ByteArray} (h : 20000 < t.size) : addrB t = false := by
  cases hA : addrB t
  · rfl
  · exfalso
    unfold addrB goodR at hA
    simp only [Bool.and_eq_true] at hA
    obtain ⟨⟨_, hj⟩, he⟩ := hA
    have h1 := (text_some hj).2
    have h2 := beq_iff_eq.1 he
    rw [ByteArray.toList_eq, ByteArray.toList_eq] at h2
    have h3 := congrArg List.length h2
    rw [size_data, size_data] at h3
    omega
theorem addr_bad {t : ByteArray} (h : goodR t.data.toList = false) : addrB t = false := by unfold addrB; rw [h]; rfl

set_option maxRecDepth 100000 in
set_option maxHeartbeats 2000000 in
theorem impl_address (s : ByteArray) (w : World) (hs : s.size ≤ maxLen) (hm : MaxL w) :
    Calls Tryz.prog 73 #[.string s] w fun e w' => e = .returned (.bool (addrB s)) ∧ Below w.heap.size w w' := by
  have i1 := impl_read s w hs hm
  unfold jidReadV at i1
  by_cases hbig : 20000 < s.size
  · rw [if_pos hbig] at i1
    unfold jo at i1
    rw [addr_big hbig]
    clear hm
    go_enter Tryz.func73, Tryz.ntmps73
    go_wp2_with (go_at_call 57; go_fit i1; rintro e w1 ⟨rfl, hb⟩)
    go_ret
    exact ⟨rfl, hb.alloc hb.size _⟩
  · rw [if_neg hbig] at i1
    cases hg : goodR s.data.toList
    · rw [hg, if_neg Bool.false_ne_true] at i1
      unfold jo at i1
      rw [addr_bad hg]
      clear hm hg
      go_enter Tryz.func73, Tryz.ntmps73
      go_wp2_with (go_at_call 57; go_fit i1; rintro e w1 ⟨rfl, hb⟩)
      go_ret
      exact ⟨rfl, hb.alloc hb.size _⟩
    · rw [hg, if_pos rfl] at i1
      unfold addrB
      rw [hg, Bool.true_and]
      have hj : jidB (strOf (readL s.data.toList).1) (strOf (readL s.data.toList).2.1) (strOf (readL s.data.toList).2.2) = true := by
        unfold goodR at hg
        simp only [Bool.and_eq_true] at hg
        exact hg.2
      obtain ⟨l, hl⟩ : ∃ l, l = strOf (readL s.data.toList).1 := ⟨_, rfl⟩
      obtain ⟨d, hd⟩ : ∃ d, d = strOf (readL s.data.toList).2.1 := ⟨_, rfl⟩
      obtain ⟨r, hr⟩ : ∃ r, r = strOf (readL s.data.toList).2.2 := ⟨_, rfl⟩
      rw [← hl, ← hd, ← hr] at i1 hj ⊢
      unfold jo at i1
      obtain ⟨z1, z2, z3⟩ := right_le hj
      have i2 := fun w => impl_text l d r w (by unfold maxLen; omega) (by unfold maxLen; omega) (by unfold maxLen; omega)
      rw [jidTextS_yes hj] at i2
      obtain ⟨X, hX⟩ : ∃ X, X = jidT l d r := ⟨_, rfl⟩
      rw [← hX] at i2 ⊢
      obtain ⟨b, hb0⟩ : ∃ b, (X.toList == s.toList) = b := ⟨_, rfl⟩
      rw [hb0]
      have HM := Lib.hid (fun W (h : Below w.heap.size w W) => hm.below h hm.pos)
      clear hm hg hj hl hd hr hX
      cases b <;>
      · go_enter Tryz.func73, Tryz.ntmps73
        go_wp2_with (first
          | (go_at_call 57; go_fit i1; rintro e w1 ⟨rfl, hb⟩)
          | (go_at_call 108; go_fit (i2 _ (HM.out _ (hb.alloc hb.size _))); rintro e w2 ⟨rfl, hb2⟩; replace hb := hb.trans ((below_one hb2).mono hb.size)))
        go_ret
        exact ⟨rfl, hb⟩

/-- What stands while a result of three cells, at ra, is set from a box of three, at rb. -/
abbrev CopyS (w : World) (ra rb : Nat) (x y z : ByteArray) (W : World) : Prop :=
  (W.cell? ⟨rb, 0, none⟩ = some (.string x) ∧ W.cell? ⟨rb, 1, none⟩ = some (.string y) ∧ W.cell? ⟨rb, 2, none⟩ = some (.string z) ∧
   W.cell? ⟨ra, 0, none⟩ = some (cellAt W ra 0) ∧ W.cell? ⟨ra, 1, none⟩ = some (cellAt W ra 1) ∧ W.cell? ⟨ra, 2, none⟩ = some (cellAt W ra 2) ∧
   W.frozen? ⟨ra, 0, none⟩ = false ∧ W.frozen? ⟨ra, 1, none⟩ = false ∧ W.frozen? ⟨ra, 2, none⟩ = false) ∧
  (Below w.heap.size w W ∧ Arr W rb 49 [.string x, .string y, .string z] ∧ Res W ra)
theorem copyS {w W : World} {ra rb : Nat} {x y z : ByteArray} (hb : Below w.heap.size w W) (hA : Arr W rb 49 [.string x, .string y, .string z]) (hr : Res W ra) : CopyS w ra rb x y z W := by
  obtain ⟨c0, c1, c2, _, _, _⟩ := arr_three hA
  obtain ⟨a, b, c, hR⟩ := id hr
  have e : ∀ i v, W.cell? ⟨ra, i, none⟩ = some v → W.cell? ⟨ra, i, none⟩ = some (cellAt W ra i) := fun i v h => by unfold cellAt; rw [h]; rfl
  exact ⟨⟨c0, c1, c2, e 0 a (hR.cell 0), e 1 b (hR.cell 1), e 2 c (hR.cell 2), hR.free 0, hR.free 1, hR.free 2⟩, hb, hA, hr⟩
theorem copyS_on {w W w2 : World} {ra rb : Nat} {x y z : ByteArray} {S : Prop} (h : S ∧ (Below w.heap.size w W ∧ Arr W rb 49 [.string x, .string y, .string z] ∧ Res W ra)) (h2 : Below W.heap.size W w2) : CopyS w ra rb x y z w2 :=
  copyS (h.2.1.trans (h2.mono h.2.1.size)) (arr_below h.2.2.1 h2) (by obtain ⟨a, b, c, hA⟩ := h.2.2.2; exact ⟨a, b, c, arr_below hA h2⟩)
theorem copyS_store {w W : World} {ra rb : Nat} {x y z : ByteArray} {S : Prop} {u v t : Value} (hne : rb ≠ ra) (hle : w.heap.size ≤ ra) (h : S ∧ (Below w.heap.size w W ∧ Arr W rb 49 [.string x, .string y, .string z] ∧ Res W ra)) :
    CopyS w ra rb x y z (((W.setCell ⟨ra, 0, none⟩ u).setCell ⟨ra, 1, none⟩ v).setCell ⟨ra, 2, none⟩ t) :=
  copyS (below_three h.2.1 hle u v t) (arr_other (arr_other (arr_other h.2.2.1 _ _ _ hne) _ _ _ hne) _ _ _ hne) (by obtain ⟨a, b, c, hA⟩ := h.2.2.2; exact ⟨u, v, t, ((hA.put 0 u).put 1 v).put 2 t⟩)

set_option maxRecDepth 100000 in
set_option maxHeartbeats 2000000 in
theorem spec_l04jidP (s : ByteArray) (w : World) (hs : s.size ≤ 2000000) :
    Calls Tryz.prog 65 #[.string s] w fun e w' => (∃ x y z, e = .returned (.tuple #[.agg #[.string x, .string y, .string z], .bool (addrB s)]) ∧ (addrB s = true → x = strOf (readL s.data.toList).1 ∧ y = strOf (readL s.data.toList).2.1 ∧ z = strOf (readL s.data.toList).2.2)) ∧ Below w.heap.size w w' := by
  have i1 := fun w => spec_l03read s w hs
  go_enter Tryz.func65, Tryz.ntmps65
  go_wp2_with (go_at_call 51; go_fit (i1 _); rintro e w1 ⟨⟨x, y, z, b, rfl, hg, hx⟩, hb⟩)
  rw [← hg]
  have hlt : w.heap.size < w1.heap.size := by have := hb.size; simp at this; omega
  have hne : w1.heap.size ≠ w.heap.size := by omega
  have hS : CopyS w w.heap.size w1.heap.size x y z (w1.alloc (.cells #[.string x, .string y, .string z] 49)).drew :=
    copyS (Below.drew ((below_one hb).alloc (by omega) _)) (Arr.fresh w1 _ _) ⟨_, _, _, arr_alloc (arr_below (Arr.fresh w _ _) hb) _⟩
  obtain ⟨W1, hW1⟩ : ∃ W1, W1 = w1.alloc (.cells #[.string x, .string y, .string z] 49) := ⟨_, rfl⟩
  rw [← hW1] at hS ⊢
  have HS := Lib.hid hS
  clear hS hb i1 hW1
  cases b
  · have HA := Lib.hid (addr_bad hg.symm)
    clear hg hx
    refine wp_region_held_drew (S := (fun W => (W.cell? ⟨w1.heap.size, 0, none⟩ = some (.string x) ∧ W.cell? ⟨w1.heap.size, 1, none⟩ = some (.string y) ∧ W.cell? ⟨w1.heap.size, 2, none⟩ = some (.string z) ∧
   W.cell? ⟨w.heap.size, 0, none⟩ = some (cellAt W w.heap.size 0) ∧ W.cell? ⟨w.heap.size, 1, none⟩ = some (cellAt W w.heap.size 1) ∧ W.cell? ⟨w.heap.size, 2, none⟩ = some (cellAt W w.heap.size 2) ∧
   W.frozen? ⟨w.heap.size, 0, none⟩ = false ∧ W.frozen? ⟨w.heap.size, 1, none⟩ = false ∧ W.frozen? ⟨w.heap.size, 2, none⟩ = false) ∧
  (Below w.heap.size w W ∧ Arr W w1.heap.size 49 [.string x, .string y, .string z] ∧ Res W w.heap.size))) (by kernel_rfl) HS.out (fun hHeld => ?_)
    generalize W1.drew = V at hHeld ⊢
    refine takeH (i := 0) (k := 11) (v := .agg #[.string x, .string y, .string z]) rfl (by rfl) (by kernel_rfl) (by kernel_rfl) (by kernel_rfl) (fun _ _ _ h => h) (by rfl) ?_ hHeld ?_
    · intro w hSw; (try dsimp only at hSw); go_simp
    (try simp only [Act.put, List.setIfInBounds_toArray, List.set_cons_zero, List.set_cons_succ])
    refine takeH (i := 1) (k := 12) (v := .bool false) rfl (by rfl) (by kernel_rfl) (by kernel_rfl) (by kernel_rfl) (fun _ _ _ h => h) (by rfl) ?_ hHeld ?_
    · intro w hSw; (try dsimp only at hSw); go_simp
    (try simp only [Act.put, List.setIfInBounds_toArray, List.set_cons_zero, List.set_cons_succ])
    refine takeH (i := 2) (k := 13) (v := .bool false) rfl (by rfl) (by kernel_rfl) (by kernel_rfl) (by kernel_rfl) (fun _ _ _ h => h) (by rfl) ?_ hHeld ?_
    · intro w hSw; (try dsimp only at hSw); go_simp
    (try simp only [Act.put, List.setIfInBounds_toArray, List.set_cons_zero, List.set_cons_succ])
    refine skipH (i := 3) (k := 14) rfl (by rfl) (by kernel_rfl) (by kernel_rfl) (by kernel_rfl) (fun _ _ _ h => h) (by rfl) hHeld ?_
    (try simp only [Act.put, List.setIfInBounds_toArray, List.set_cons_zero, List.set_cons_succ])
    refine skipH (i := 4) (k := 15) rfl (by rfl) (by kernel_rfl) (by kernel_rfl) (by kernel_rfl) (fun _ _ _ h => h) (by rfl) hHeld ?_
    (try simp only [Act.put, List.setIfInBounds_toArray, List.set_cons_zero, List.set_cons_succ])
    refine skipH (i := 5) (k := 16) rfl (by rfl) (by kernel_rfl) (by kernel_rfl) (by kernel_rfl) (fun _ _ _ h => h) (by rfl) hHeld ?_
    (try simp only [Act.put, List.setIfInBounds_toArray, List.set_cons_zero, List.set_cons_succ])
    refine skipH (i := 6) (k := 17) rfl (by rfl) (by kernel_rfl) (by kernel_rfl) (by kernel_rfl) (fun _ _ _ h => h) (by rfl) hHeld ?_
    (try simp only [Act.put, List.setIfInBounds_toArray, List.set_cons_zero, List.set_cons_succ])
    refine takeH (i := 7) (k := 18) (v := .bool false) rfl (by rfl) (by kernel_rfl) (by kernel_rfl) (by kernel_rfl) (fun _ _ _ h => h) (by rfl) ?_ hHeld ?_
    · intro w hSw; (try dsimp only at hSw); go_simp
    (try simp only [Act.put, List.setIfInBounds_toArray, List.set_cons_zero, List.set_cons_succ])
    have hrN := hHeld.2.2.2
    obtain ⟨⟨p0, p1, p2, p3, p4, p5, p6, p7, p8⟩, -⟩ := id hHeld
    refine wpAnyH_ready (rs := [8]) (by kernel_rfl) (by simp) ?_
    refine AllReadyH.cons rfl (fun K hK => ?_) AllReadyH.nil
    rw [if_pos (by rfl)]
    go_simp
    refine hK.out _ _ (copyS_store hne (Nat.le_refl _) hHeld) (fun hHeld => ?_)
    clear hK K
    (try simp only [Act.put, List.setIfInBounds_toArray, List.set_cons_zero, List.set_cons_succ])
    refine takeH (i := 9) (k := 3) (v := .bool false) rfl (by rfl) (by kernel_rfl) (by kernel_rfl) (by kernel_rfl) (fun _ _ _ h => h) (by rfl) ?_ hHeld ?_
    · intro w hSw; (try dsimp only at hSw); go_simp
    (try simp only [Act.put, List.setIfInBounds_toArray, List.set_cons_zero, List.set_cons_succ])
    refine wpAnyH_done (by kernel_rfl) ?_ _
    obtain ⟨a, b, c, hA⟩ := hrN
    have hF : Arr _ w.heap.size 49 [.string x, .string y, .string z] := ((hA.put 0 (.string x)).put 1 (.string y)).put 2 (.string z)
    have hz := arr_lt hF
    obtain ⟨c0, c1, c2, _, _, _⟩ := arr_three hF
    have HB := Lib.hid hHeld.2.1
    clear hA hF hHeld
    go_wp2
    exact bodyPost_ret (v := .tuple #[.agg #[.string x, .string y, .string z], .bool false]) (by simp [results, Tryz.results65, go_sem, c0, c1, c2] at hz ⊢; try omega) rfl ⟨⟨x, y, z, by rw [HA.out], fun h => by rw [HA.out] at h; cases h⟩, HB.out⟩
  · obtain ⟨e1, e2, e3⟩ := hx rfl
    have HE := Lib.hid (And.intro e1 (And.intro e2 e3))
    have hj : jidB x y z = true := by
      have h := hg.symm
      unfold goodR at h
      simp only [Bool.and_eq_true] at h
      rw [e1, e2, e3]
      exact h.2
    obtain ⟨z1, z2, z3⟩ := right_le hj
    have i2 := fun w => spec_addr x y z w (by omega) (by omega) (by omega)
    obtain ⟨X, hX⟩ : ∃ X, X = jidT x y z := ⟨_, rfl⟩
    rw [← hX] at i2
    obtain ⟨v, hv⟩ : ∃ v, (X.toList == s.toList) = v := ⟨_, rfl⟩
    have HA : Hid (addrB s = v) := Lib.hid (by unfold addrB; rw [← hg, ← e1, ← e2, ← e3, ← hX, hv]; rfl)
    clear hg hx e1 e2 e3 hj z1 z2 z3 hX
    go_region_held3 (fun W => (W.cell? ⟨w1.heap.size, 0, none⟩ = some (.string x) ∧ W.cell? ⟨w1.heap.size, 1, none⟩ = some (.string y) ∧ W.cell? ⟨w1.heap.size, 2, none⟩ = some (.string z) ∧
   W.cell? ⟨w.heap.size, 0, none⟩ = some (cellAt W w.heap.size 0) ∧ W.cell? ⟨w.heap.size, 1, none⟩ = some (cellAt W w.heap.size 1) ∧ W.cell? ⟨w.heap.size, 2, none⟩ = some (cellAt W w.heap.size 2) ∧
   W.frozen? ⟨w.heap.size, 0, none⟩ = false ∧ W.frozen? ⟨w.heap.size, 1, none⟩ = false ∧ W.frozen? ⟨w.heap.size, 2, none⟩ = false) ∧
  (Below w.heap.size w W ∧ Arr W w1.heap.size 49 [.string x, .string y, .string z] ∧ Res W w.heap.size))
      (with_reducible first | assumption | exact HS.out | exact copyS_on (by assumption) hbN | exact copyS_store hne (Nat.le_refl _) (by assumption))
      (first
        | (go_at_call 102; go_fit (i2 _); rintro e w2 ⟨rfl, hbN⟩; have hrN := (copyS_on (by assumption) hbN).2.2.2))
    all_goals
      obtain ⟨a, b, c, hA⟩ := hrN
      have hF : Arr _ w.heap.size 49 [.string x, .string y, .string z] := ((hA.put 0 (.string x)).put 1 (.string y)).put 2 (.string z)
      have hz := arr_lt hF
      obtain ⟨c0, c1, c2, _, _, _⟩ := arr_three hF
      obtain ⟨_, hbF, _, _⟩ := copyS_on (by assumption) (Below.refl _ _)
      have HB := Lib.hid hbF
      clear hA hF hbF
      go_wp2
      exact bodyPost_ret (v := .tuple #[.agg #[.string x, .string y, .string z], .bool v]) (by simp [results, Tryz.results65, go_sem, c0, c1, c2] at hz ⊢; try omega) rfl ⟨⟨x, y, z, by rw [HA.out], fun _ => HE.out⟩, HB.out⟩
theorem spec_l04jid (s : ByteArray) (w : World) (hs : s.size ≤ 2000000) :
    Calls Tryz.prog 65 #[.string s] w fun e w' => (∃ x y z, e = .returned (.tuple #[.agg #[.string x, .string y, .string z], .bool (addrB s)])) ∧ Below w.heap.size w w' :=
  (spec_l04jidP s w hs).mono fun e w' ⟨⟨x, y, z, h, _⟩, hb⟩ => ⟨⟨x, y, z, h⟩, hb⟩
/-- An address, or nothing. -/
noncomputable def addrE (s : ByteArray) : Bool := decide (s.size = 0) || addrB s
theorem is_empty (s : ByteArray) : (s.toList == []) = decide (s.size = 0) := by
  rw [Bool.eq_iff_iff, beq_iff_eq, decide_eq_true_iff, ByteArray.toList_eq, ← size_data]
  exact List.length_eq_zero_iff.symm
set_option maxHeartbeats 1000000 in
theorem spec_address (s : ByteArray) (w : World) (hs : s.size ≤ 2000000) :
    Calls Tryz.prog 81 #[.string s] w fun e w' => e = .returned (.bool (addrE s)) ∧ Below w.heap.size w w' := by
  have i1 := spec_l04jid s w hs
  unfold addrE
  obtain ⟨v, hv⟩ : ∃ v, addrB s = v := ⟨_, rfl⟩
  rw [hv] at i1 ⊢
  clear hv
  rcases Nat.eq_zero_or_pos s.size with h1 | h1
  · obtain ⟨n1, e1⟩ := empty_of h1
    rw [decide_eq_true h1]
    go_enter Tryz.func81, Tryz.ntmps81
    go_wp2_with (go_at_call 65; go_fit i1; rintro e w1 ⟨⟨x, y, z, rfl⟩, hb⟩)
    go_ret
    exact ⟨rfl, hb.alloc hb.size _⟩
  · have n1 := ne_nil h1
    have e1 := not_empty h1
    rw [decide_eq_false (by omega)]
    go_enter Tryz.func81, Tryz.ntmps81
    go_wp2_with (go_at_call 65; go_fit i1; rintro e w1 ⟨⟨x, y, z, rfl⟩, hb⟩)
    go_ret
    exact ⟨ret_bool (by simp), hb.alloc hb.size _⟩
end Go.Proofs.YtafdjjdmcnlddaaGreat
