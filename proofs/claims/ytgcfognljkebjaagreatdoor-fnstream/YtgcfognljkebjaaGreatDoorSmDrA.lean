/- Several parts in one text: StFrame, DrawBase, EdgeBase, PickDraws, SpoilDraws, AnyOrder, StReplyI, StDraws, SrDraws, SmDraws, SmDraws2, SmDraws3, SmLw, SmDead. -/
import Derived.Test.YtgcfognljkebjaaGreatDoorChecked
import Derived.WalkKit
import Derived.ProofKit
import Derived.OpenShut
import Derived.ShutString
import Derived.Lib.SmallJoins
import Derived.Test.YtgcfognljkebjaaGreatDoorMath
import Derived.Deep.QuietTactic
import Derived.BigQuiet
import Derived.RegionTactic
import Derived.IntWalk
import Derived.Test.YtgcfognljkebjaaGreatDoorJidCells
import Derived.Deep.RegionHeld3
import Derived.Test.YtgcfognljkebjaaGreatDoorStRightI
import Derived.Test.YtgcfognljkebjaaGreatDoorStText
import Derived.Test.YtgcfognljkebjaaGreatDoorSmAllC
namespace Go.Proofs.YtgcfognljkebjaaGreatDoor
set_option linter.unusedSimpArgs false
set_option linter.unusedVariables false
open Go.ChangeShapes Go.WideShapes Go.ChangeAt Go.RowKit Go.Joins

theorem cellsStr : Tryz.prog.cellsOf 9 = 1 := by kernel_rfl
theorem cellsI64 : Tryz.prog.cellsOf 2 = 1 := by kernel_rfl
def stV (k t f o : ByteArray) (n : Int) (b : ByteArray) : Value := .agg #[.string k, .string t, .string f, .string o, .int .i64 n, .string b]
def stD {H : Type} (k t f o : ByteArray) (n : Int) (b : ByteArray) : DataW H :=
  .agg [.lit (.string k.data.toList), .lit (.string t.data.toList), .lit (.string f.data.toList), .lit (.string o.data.toList), .lit (.int .i64 n), .lit (.string b.data.toList)]
end Go.Proofs.YtgcfognljkebjaaGreatDoor

namespace Go.Proofs.YtgcfognljkebjaaGreatDoor
set_option linter.unusedSimpArgs false
set_option linter.unusedVariables false
open Go.RowKit

/-- The first len cells of a slice are bytes that lie below B. -/
def SrcRow (w : World) (B : Nat) (a : Option Addr) (len : Nat) : Prop :=
  ∀ k, k < len → ∃ (b off : Nat) (z : Int), a = some ⟨b, off, none⟩ ∧ b < B ∧ w.cell? ⟨b, off + k, none⟩ = some (.int .u8 z) ∧ 0 ≤ z ∧ z ≤ 255
theorem lt_of_cell {w : World} {b i : Nat} {v : Value} (h : w.cell? ⟨b, i, none⟩ = some v) : b < w.heap.size := by
  rcases Nat.lt_or_ge b w.heap.size with h1 | h1
  · exact h1
  · simp [World.cell?, Array.getElem?_eq_none h1] at h
theorem SrcRow.grown {w w' : World} {B g : Nat} {a : Option Addr} {len : Nat} (h : SrcRow w B a len) (hg : w.grownBy w' (some g)) (hB : B ≤ g) : SrcRow w' B a len := by
  intro k hk
  obtain ⟨b, off, z, ha, hb, hc, h0, h1⟩ := h k hk
  refine ⟨b, off, z, ha, hb, ?_, h0, h1⟩
  rw [World.cell?_of_block (w := w) (hg.block b (lt_of_cell hc) (by simp; omega))]
  exact hc
theorem grown_set {w w1 : World} {g : Nat} (h : w.grownBy w1 (some g)) (i : Nat) (v : Value) : w.grownBy (w1.setCell ⟨g, i, none⟩ v) (some g) :=
  ⟨h.os, h.tape, h.output, by simpa [World.setCell] using h.size, fun k hk hne => (Below.heap_setCell w1 ⟨g, i, none⟩ v k (fun e => hne (by simp at e; rw [e]))).trans (h.block k hk hne)⟩
theorem grown_drew {w w1 : World} {r : Option Nat} (h : w.grownBy w1 r) : w.grownBy w1.drew r := ⟨h.os, h.tape, h.output, h.size, h.block⟩
theorem grown_drewN {w w1 : World} {r : Option Nat} (h : w.grownBy w1 r) (n : Nat) : w.grownBy (w1.drewN n) r := ⟨h.os, h.tape, h.output, h.size, h.block⟩

/-- Block g (not below B) is a source over bytes that lie below B. -/
def Src (w : World) (B g : Nat) : Prop := B ≤ g ∧ ∃ (a : Option Addr) (len cap : Nat) (at_ mix size : Int),
  Arr w g 99 [.slice a len cap, .int .i64 at_, .int .u64 mix, .int .i64 size] ∧ 0 ≤ at_ ∧ at_ ≤ (len : Int) ∧ 0 ≤ mix ∧ mix ≤ 18446744073709551615 ∧ 0 ≤ size ∧ size ≤ 12 ∧ len ≤ 1048576 ∧
  SrcRow w B a len

/-- A call that draws: it answers some v of which P holds; only the source and what is new have turned. -/
def Drew (B g : Nat) (w : World) (P : Value → Prop) (e : Ending) (w' : World) : Prop := ∃ v, e = .returned v ∧ P v ∧ Src w' B g ∧ w.grownBy w' (some g)
def NumIn (most : Int) (v : Value) : Prop := ∃ r : Int, v = .int .i64 r ∧ 0 ≤ r ∧ (r < most ∨ r = 0)

theorem src_done {w w' : World} {B g : Nat} {P : Value → Prop} {v : Value} {a : Option Addr} {len cap : Nat} {at_ mix size : Int} (hP : P v) (hBg : B ≤ g)
    (hA : Arr w' g 99 [.slice a len cap, .int .i64 at_, .int .u64 mix, .int .i64 size]) (a0 : 0 ≤ at_) (a1 : at_ ≤ (len : Int)) (m0 : 0 ≤ mix) (m1 : mix ≤ 18446744073709551615) (s0 : 0 ≤ size) (s1 : size ≤ 12) (hl : len ≤ 1048576)
    (hr : SrcRow w B a len) (hg : w.grownBy w' (some g)) : Drew B g w P (.returned v) w' :=
  ⟨v, rfl, hP, ⟨hBg, a, len, cap, at_, mix, size, hA, a0, a1, m0, m1, s0, s1, hl, hr.grown hg hBg⟩, hg⟩
theorem rem_in {x most : Int} (_ : 0 ≤ x) (h1 : 1 < most) (hm : most ≤ 9223372036854775807) : 0 ≤ wrap64 (x % most) ∧ (wrap64 (x % most) < most ∨ wrap64 (x % most) = 0) := by
  have a := Int.emod_nonneg x (b := most) (by omega)
  have b := Int.emod_lt_of_pos x (b := most) (by omega)
  rw [IntWalk.wrap64_in _ ⟨by omega, by omega⟩]
  exact ⟨a, .inl b⟩
theorem bits_range {op : BinOp} {a b M : Int} (h : bits op IntKind.u64 a b = M) : 0 ≤ M ∧ M ≤ 18446744073709551615 := by
  have hw := wf_bits (k := .u64) op a b
  rw [h] at hw
  simpa [Lit.wf, IntKind.min, IntKind.max, IntKind.signed, IntKind.bits] using hw

set_option maxRecDepth 100000 in
set_option maxHeartbeats 2000000 in
theorem src_n (B g : Nat) (most : Int) (w : World) (hm : most ≤ 9223372036854775807) (hS : Src w B g) :
    Calls Tryz.prog 40 #[.pointer (some ⟨g, 0, none⟩), .int .i64 most] w (Drew B g w (NumIn most)) := by
  by_cases h1 : most ≤ 1
  · have HS := Lib.hid hS
    clear hS
    go_enter Tryz.func40, Tryz.ntmps40
    go_wp2
    go_ret
    exact ⟨_, rfl, ⟨0, rfl, by omega, .inr rfl⟩, HS.out, World.grownBy.refl w _⟩
  · obtain ⟨hBg, a, len, cap, at_, mix, size, hA, ha0, ha1, hx0, hx1, hz0, hz1, hlen, hrow⟩ := hS
    have k0 : w.cell? ⟨g, 0, none⟩ = some (.slice a len cap) := hA.cell 0
    have k1 : w.cell? ⟨g, 1, none⟩ = some (.int .i64 at_) := hA.cell 1
    have k2 : w.cell? ⟨g, 2, none⟩ = some (.int .u64 mix) := hA.cell 2
    have f1 : w.frozen? ⟨g, 1, none⟩ = false := hA.free 1
    have f2 : w.frozen? ⟨g, 2, none⟩ = false := hA.free 2
    have HA := Lib.hid hA
    have HR := Lib.hid hrow
    clear hA hrow
    obtain ⟨M1, hM1⟩ : ∃ M, bits BinOp.xor IntKind.u64 mix (IntKind.u64.wrap (mix * 8192)) = M := ⟨_, rfl⟩
    obtain ⟨b10, b11⟩ := bits_range hM1
    obtain ⟨M2, hM2⟩ : ∃ M, bits BinOp.xor IntKind.u64 M1 (M1 / 128) = M := ⟨_, rfl⟩
    obtain ⟨b20, b21⟩ := bits_range hM2
    obtain ⟨M3, hM3⟩ : ∃ M, bits BinOp.xor IntKind.u64 M2 (IntKind.u64.wrap (M2 * 131072)) = M := ⟨_, rfl⟩
    obtain ⟨b30, b31⟩ := bits_range hM3
    by_cases hend : at_ < (len : Int)
    · obtain ⟨A, rfl⟩ : ∃ A : Nat, at_ = A := ⟨at_.toNat, by omega⟩
      obtain ⟨b, off, z, rfl, hb, hcz, hz00, hz11⟩ := HR.out A (by omega)
      have hbg : b ≠ g := by omega
      have f1 : w.frozen? ⟨g, 1, none⟩ = false := f1
      have kk : ∀ n, ((w.drewN n).setCell ⟨g, 1, none⟩ (.int .i64 ((A : Int) + 1))).cell? ⟨g, 2, none⟩ = some (.int .u64 mix) := fun n => (World.cell?_setCell_other (w.drewN n) ⟨g, 1, none⟩ ⟨g, 2, none⟩ _ (by simp)).trans k2
      have hk3 : ∀ n, (((((w.drewN n).setCell ⟨g, 1, none⟩ (.int .i64 ((A : Int) + 1))).setCell ⟨g, 2, none⟩ (.int .u64 M1)).setCell ⟨g, 2, none⟩ (.int .u64 M2)).setCell ⟨g, 2, none⟩ (.int .u64 M3)).cell? ⟨g, 2, none⟩ = some (.int .u64 M3) := fun n =>
        World.cell?_setCell_same _ _ _ (World.cell?_setCell_same _ _ _ (World.cell?_setCell_same _ _ _ (kk n)))
      have hk2 : ∀ n, ((((w.drewN n).setCell ⟨g, 1, none⟩ (.int .i64 ((A : Int) + 1))).setCell ⟨g, 2, none⟩ (.int .u64 M1)).setCell ⟨g, 2, none⟩ (.int .u64 M2)).cell? ⟨g, 2, none⟩ = some (.int .u64 M2) := fun n =>
        World.cell?_setCell_same _ _ _ (World.cell?_setCell_same _ _ _ (kk n))
      have hk1 : ∀ n, (((w.drewN n).setCell ⟨g, 1, none⟩ (.int .i64 ((A : Int) + 1))).setCell ⟨g, 2, none⟩ (.int .u64 M1)).cell? ⟨g, 2, none⟩ = some (.int .u64 M1) := fun n =>
        World.cell?_setCell_same _ _ _ (kk n)
      go_enter Tryz.func40, Tryz.ntmps40
      go_wp2
      go_quiet (fail)
      go_wp2
      go_quiet (fail)
      go_wp2
      go_region
      go_wp2
      go_region
      go_wp2
      go_region
      go_wp2
      go_ret
      exact src_done ⟨wrap64 ((z + M3 / 1048576) % most), rfl, rem_in (by omega) (by omega) hm⟩ hBg (((Arr.put (w := w.drewN _) HA.out 1 _).put 2 _).put 2 _ |>.put 2 _) (by omega) (by omega) b30 b31 hz0 hz1 hlen HR.out
        (grown_drew (grown_drew (grown_drew (grown_set (grown_set (grown_set (grown_set (grown_drewN (World.grownBy.refl w _) _) _ _) _ _) _ _) _ _))))
    · have hk3 : ∀ n, ((((w.drewN n).setCell ⟨g, 2, none⟩ (.int .u64 M1)).setCell ⟨g, 2, none⟩ (.int .u64 M2)).setCell ⟨g, 2, none⟩ (.int .u64 M3)).cell? ⟨g, 2, none⟩ = some (.int .u64 M3) := fun n =>
        World.cell?_setCell_same _ _ _ (World.cell?_setCell_same _ _ _ (World.cell?_setCell_same (w.drewN n) _ _ k2))
      go_enter Tryz.func40, Tryz.ntmps40
      go_wp2
      go_quiet (fail)
      go_wp2
      go_region
      go_wp2
      go_region
      go_wp2
      go_region
      go_wp2
      go_ret
      have hgr : w.grownBy ((((w.drewN (nq + 1)).setCell ⟨g, 2, none⟩ (.int .u64 M1)).setCell ⟨g, 2, none⟩ (.int .u64 M2)).setCell ⟨g, 2, none⟩ (.int .u64 M3)).drew.drew (some g) :=
        grown_drew (grown_drew (grown_set (grown_set (grown_set (grown_drewN (World.grownBy.refl w _) _) _ _) _ _) _ _))
      have hA' : Arr (w.drewN (nq + 1)) g 99 [.slice a len cap, .int .i64 at_, .int .u64 mix, .int .i64 size] := HA.out
      refine ⟨_, rfl, ⟨wrap64 (M3 / 1048576 % most), rfl, ?_⟩, ⟨hBg, a, len, cap, at_, M3, size, ((hA'.put 2 _).put 2 _).put 2 _, ha0, ha1, b30, b31, hz0, hz1, hlen, HR.out.grown hgr hBg⟩, hgr⟩
      exact rem_in (by omega) (by omega) hm

def BoolIn (v : Value) : Prop := ∃ b : Bool, v = .bool b
theorem src_one (B g : Nat) (of : Int) (w : World) (hm : of ≤ 9223372036854775807) (hS : Src w B g) :
    Calls Tryz.prog 36 #[.pointer (some ⟨g, 0, none⟩), .int .i64 of] w (Drew B g w BoolIn) := by
  have HS := Lib.hid hS
  clear hS
  go_enter Tryz.func36, Tryz.ntmps36
  go_wp2_with (go_at_call 40; refine (src_n B g of _ hm HS.out).mono ?_; rintro e w1 ⟨_, rfl, ⟨r, rfl, h0, h1⟩, hS1, hg1⟩)
  all_goals
    go_ret
    exact ⟨_, rfl, ⟨_, rfl⟩, hS1, hg1⟩

theorem SrcRow.below {w w' : World} {B : Nat} {a : Option Addr} {len : Nat} (h : SrcRow w B a len) (hb : Below B w w') : SrcRow w' B a len := by
  intro k hk
  obtain ⟨b, off, z, ha, hB, hc, h0, h1⟩ := h k hk
  exact ⟨b, off, z, ha, hB, (hb.cell (p := ⟨b, off + k, none⟩) hB).trans hc, h0, h1⟩
theorem info_u8d : (Tryz.prog.info? 5).map (fun i => (i.zero, i.size, i.bytes)) = some (some (.int .u8 0), 1, 1) := by kernel_rfl
theorem own_empty_d (w : World) (e : TypeId) : (w.alloc (.cells #[] e)).ownsRow w.heap.size e 1 (.slice (some ⟨w.heap.size, 0, none⟩) 0 0) 0 [] :=
  ⟨by simp, .inr ⟨w.heap.size, 0, #[], rfl, Nat.le_refl _, heap_alloc_new w _, Nat.le_refl _, Nat.zero_le _, by simp, by simp⟩⟩
theorem grown_alloc {w w1 : World} {r : Option Nat} (h : w.grownBy w1 r) (o : Obj) : w.grownBy (w1.alloc o) r :=
  ⟨h.os, h.tape, h.output, Nat.le_trans h.size (by simp), fun k hk hne => (Below.heap_alloc w1 o k (Nat.lt_of_lt_of_le hk h.size)).trans (h.block k hk hne)⟩
theorem Arr.alloc {w : World} {b t : Nat} {cs : List Value} (h : Arr w b t cs) (o : Obj) : Arr (w.alloc o) b t cs := by
  have hlt : b < w.heap.size := by
    rcases Nat.lt_or_ge b w.heap.size with h1 | h1
    · exact h1
    · unfold Arr at h; rw [Array.getElem?_eq_none h1] at h; cases h
  exact (Below.heap_alloc w o b hlt).trans h
theorem Src.alloc {w : World} {B g : Nat} (h : Src w B g) (o : Obj) : Src (w.alloc o) B g := by
  obtain ⟨hBg, a, len, cap, at_, mix, size, hA, h1, h2, h3, h4, h5, h6, h7, hr⟩ := h
  refine ⟨hBg, a, len, cap, at_, mix, size, hA.alloc o, h1, h2, h3, h4, h5, h6, h7, ?_⟩
  intro k hk
  obtain ⟨b, off, z, ha, hB, hc, h0, h1⟩ := hr k hk
  exact ⟨b, off, z, ha, hB, (World.cell?_alloc_lt w o ⟨b, off + k, none⟩ (lt_of_cell hc)).trans hc, h0, h1⟩
/-- What is owned elsewhere has grown: the source stands. -/
theorem Src.other {w w' : World} {B g : Nat} {r : Option Nat} (h : Src w B g) (hg : w.grownBy w' r) (hne : ∀ q, r = some q → q ≠ g) (hlt : g < w.heap.size) (hr : ∀ q, r = some q → B ≤ q) : Src w' B g := by
  obtain ⟨hBg, a, len, cap, at_, mix, size, hA, h1, h2, h3, h4, h5, h6, h7, hrow⟩ := h
  refine ⟨hBg, a, len, cap, at_, mix, size, (hg.block g hlt (fun e => hne g e.symm rfl)).trans hA, h1, h2, h3, h4, h5, h6, h7, ?_⟩
  intro k hk
  obtain ⟨b, off, z, ha, hB, hc, h0, h1⟩ := hrow k hk
  refine ⟨b, off, z, ha, hB, ?_, h0, h1⟩
  rw [World.cell?_of_block (w := w) (hg.block b (lt_of_cell hc) (fun e => by have := hr b e.symm; omega))]
  exact hc
theorem grown_same {w w1 w2 : World} {r : Option Nat} (h : w.grownBy w1 r) (k : w1.grownBy w2 r) : w.grownBy w2 r :=
  ⟨k.os.trans h.os, k.tape.trans h.tape, k.output.trans h.output, Nat.le_trans h.size k.size, fun i hi hne => (k.block i (Nat.lt_of_lt_of_le hi h.size) hne).trans (h.block i hi hne)⟩
/-- A row of the call's own has grown besides. -/
theorem grown_over {w w1 w2 : World} {r s : Option Nat} (h : w.grownBy w1 r) (k : w1.grownBy w2 s) (hs : ∀ q, s = some q → w.heap.size ≤ q) : w.grownBy w2 r :=
  ⟨k.os.trans h.os, k.tape.trans h.tape, k.output.trans h.output, Nat.le_trans h.size k.size, fun i hi hne => (k.block i (Nat.lt_of_lt_of_le hi h.size) (fun e => by have := hs i e.symm; omega)).trans (h.block i hi hne)⟩
/-- A source has been made. -/
def SrcMade (w : World) (e : Ending) (w' : World) : Prop := e = .returned (.pointer (some ⟨w.heap.size, 0, none⟩)) ∧ Src w' w.heap.size w.heap.size ∧ Below w.heap.size w w'

def SrcMadeB (B : Nat) (w : World) (e : Ending) (w' : World) : Prop := e = .returned (.pointer (some ⟨w.heap.size, 0, none⟩)) ∧ Src w' B w.heap.size ∧ Below w.heap.size w w'
theorem wrap_range {a M : Int} (h : IntKind.u64.wrap a = M) : 0 ≤ M ∧ M ≤ 18446744073709551615 := by
  rw [wrap_u64] at h
  omega

set_option maxRecDepth 100000 in
set_option maxHeartbeats 2000000 in
theorem src_sourceB (B : Nat) (a : Option Addr) (len cap : Nat) (w : World) (hlen : len ≤ 1048576) (hB : B ≤ w.heap.size) (hrow : SrcRow w B a len) :
    Calls Tryz.prog 34 #[.slice a len cap] w (SrcMadeB B w) := by
  have HR := Lib.hid hrow
  clear hrow
  go_enter Tryz.func34, Tryz.ntmps34
  go_wp2
  go_loopw [4] (fun i wr => ∃ (k : Nat) (mix : Int), i = .int .i64 (k : Int) ∧ k ≤ len ∧ k ≤ 64 ∧ 0 ≤ mix ∧ mix ≤ 18446744073709551615 ∧ Arr wr w.heap.size 99 [.slice a len cap, .int .i64 0, .int .u64 mix, .int .i64 0] ∧ Below w.heap.size w wr)
    (fun i _ => 64 - (intOf i).toNat)
  case atStart => exact ⟨0, 88172645463325252, rfl, by omega, by omega, by omega, by omega, Arr.fresh w _ [.slice a len cap, .int .i64 0, .int .u64 88172645463325252, .int .i64 0], (Below.refl _ _).alloc (Nat.le_refl _) _⟩
  case round =>
    obtain ⟨k, mix, rfl, hk, hk64, hm0, hm1, hA, hbel⟩ := hrel
    have k2 : wr.cell? ⟨w.heap.size, 2, none⟩ = some (.int .u64 mix) := hA.cell 2
    have k3 : wr.cell? ⟨w.heap.size, 3, none⟩ = some (.int .i64 0) := hA.cell 3
    have f2 : wr.frozen? ⟨w.heap.size, 2, none⟩ = false := hA.free 2
    have f3 : wr.frozen? ⟨w.heap.size, 3, none⟩ = false := hA.free 3
    have HA := Lib.hid hA
    clear hA
    by_cases hlt : k < len ∧ k < 64
    · obtain ⟨hl, h64⟩ := hlt
      obtain ⟨b, off, z, rfl, hb, hcz, hz0, hz1⟩ := (HR.out.below (hbel.mono hB)) k hl
      have hbne : b ≠ w.heap.size := by omega
      go_wp2
      go_region
      go_wp2
      go_roundw
      case rel =>
        obtain ⟨M, hM⟩ : ∃ M, IntKind.u64.wrap (bits BinOp.xor IntKind.u64 mix z * 1099511628211) = M := ⟨_, rfl⟩
        obtain ⟨r0, r1⟩ := wrap_range hM
        rw [hM]
        exact ⟨k + 1, M, by go_num, by omega, by omega, r0, r1, HA.out.put 2 _, (hbel.setCell (Nat.le_refl _) _).drew⟩
      case measure => simp [intOf]; omega
    · have hA3 : ∀ x : Int, (wr.setCell ⟨w.heap.size, 3, none⟩ (.int .i64 x)).cell? ⟨w.heap.size, 3, none⟩ = some (.int .i64 x) := fun x => World.cell?_setCell_same _ _ _ k3
      by_cases hbig : 12 < (len : Int) / 20
      · by_cases hl : k < len
        · have h64 : ¬ k < 64 := fun h => hlt ⟨hl, h⟩
          clear hlt
          go_wp2
          go_ret
          exact ⟨rfl, ⟨hB, a, len, cap, 0, mix, 12, (HA.out.put 3 _).put 3 _, by omega, by omega, hm0, hm1, by omega, by omega, hlen, HR.out.below (((hbel.setCell (Nat.le_refl _) _).setCell (Nat.le_refl _) _).mono hB)⟩, (hbel.setCell (Nat.le_refl _) _).setCell (Nat.le_refl _) _⟩
        · omega
      · by_cases hl : k < len
        · have h64 : ¬ k < 64 := fun h => hlt ⟨hl, h⟩
          clear hlt
          go_wp2
          go_ret
          exact ⟨rfl, ⟨hB, a, len, cap, 0, mix, _, HA.out.put 3 _, by omega, by omega, hm0, hm1, by omega, by omega, hlen, HR.out.below ((hbel.setCell (Nat.le_refl _) _).mono hB)⟩, hbel.setCell (Nat.le_refl _) _⟩
        · clear hlt
          go_wp2
          go_ret
          exact ⟨rfl, ⟨hB, a, len, cap, 0, mix, _, HA.out.put 3 _, by omega, by omega, hm0, hm1, by omega, by omega, hlen, HR.out.below ((hbel.setCell (Nat.le_refl _) _).mono hB)⟩, hbel.setCell (Nat.le_refl _) _⟩
theorem src_source (a : Option Addr) (len cap : Nat) (w : World) (hlen : len ≤ 1048576) (hrow : SrcRow w w.heap.size a len) :
    Calls Tryz.prog 34 #[.slice a len cap] w (SrcMade w) := src_sourceB w.heap.size a len cap w hlen (Nat.le_refl _) hrow

/-- Some bytes, at most so many. -/
def StrIn (most : Nat) (v : Value) : Prop := ∃ s : ByteArray, v = .string s ∧ s.size ≤ most

/-- A slice of bytes that came in is a row of bytes. -/
theorem srcRow_of {w : World} {x : Addr} {zs : List Int} {len : Nat} (hl : len ≤ zs.length) (hc : ∀ i, i < zs.length → w.cell? (x.add i) = some (.int .u8 (zs.getD i 0))) (hw : ∀ n ∈ zs, (Lit.int .u8 n).wf = true) : SrcRow w w.heap.size (some x) len := by
  intro k hk
  obtain ⟨b, off, rfl, hcell⟩ := ints_at hc (show 0 < zs.length by omega)
  have hk' : k < zs.length := by omega
  have h1 := hcell k hk'
  have hmem : zs.getD k 0 ∈ zs := by
    rw [List.getD_eq_getElem?_getD, List.getElem?_eq_getElem hk']
    exact List.getElem_mem hk'
  have hb := hw _ hmem
  have hr : 0 ≤ zs.getD k 0 ∧ zs.getD k 0 ≤ 255 := by simpa [Lit.wf, IntKind.min, IntKind.max, IntKind.signed, IntKind.bits] using hb
  exact ⟨b, off, _, rfl, lt_of_cell h1, h1, hr.1, hr.2⟩
theorem srcRow_nil {w : World} {B : Nat} {a : Option Addr} : SrcRow w B a 0 := fun k hk => by omega
end Go.Proofs.YtgcfognljkebjaaGreatDoor

namespace Go.Proofs.YtgcfognljkebjaaGreatDoor
set_option linter.unusedSimpArgs false
set_option linter.unusedVariables false
open Go.RowKit

theorem Arr.other {w w' : World} {b t : Nat} {cs : List Value} {r : Option Nat} (h : Arr w b t cs) (hg : w.grownBy w' r) (hne : r ≠ some b) : Arr w' b t cs := by
  have hlt : b < w.heap.size := by
    rcases Nat.lt_or_ge b w.heap.size with h1 | h1
    · exact h1
    · unfold Arr at h; rw [Array.getElem?_eq_none h1] at h; cases h
  exact (hg.block b hlt (fun e => hne e.symm)).trans h

theorem madeCells_zero (n : Nat) : (madeCells #[Value.int .u8 0] n).toList = (List.replicate n (0 : UInt8)).map byteV := by
  rw [List.map_replicate]
  apply List.ext_getElem
  · simp [size_madeCells]
  · intro i h1 h2
    simp [madeCells, byteV, Nat.mod_one]
/-- string(make([]byte, n)). -/
theorem run_string_made {P : Program} (w : World) (src dst e n : Nat) (hs : P.underlying src = some (.slice e)) (he : P.underlying e = some (.int .u8)) (hd : P.underlying dst = some .string) :
    (convert src dst (.slice (some ⟨w.heap.size, 0, none⟩) n n)).run P (w.alloc (.cells (madeCells #[.int .u8 0] n) e)) = .ok (.string (strOf (List.replicate n 0))) (w.alloc (.cells (madeCells #[.int .u8 0] n) e)) := by
  have hA : Arr (w.alloc (.cells (madeCells #[.int .u8 0] n) e)) w.heap.size e (madeCells #[.int .u8 0] n).toList := heap_alloc_new w _
  refine run_string_arr (P := P) _ src dst e w.heap.size e n n _ (List.replicate n 0) hA ?_ (by simp) hs he hd
  unfold Heads
  rw [madeCells_zero]
  exact List.take_of_length_le (by simp)
theorem src_below {w w1 w2 : World} (hb : Below w.heap.size w w1) (hg : w1.grownBy w2 (some w.heap.size)) : Below w.heap.size w w2 :=
  hb.grown hg hb.size (fun k hk => by simp at hk; omega)

theorem Src.lt {w : World} {B g : Nat} (h : Src w B g) : g < w.heap.size := by
  obtain ⟨_, a, len, cap, at_, mix, size, hA, _⟩ := h
  exact lt_of_cell (hA.cell 0)

theorem SrcRow.heap {w W : World} {B : Nat} {a : Option Addr} {len : Nat} (h : SrcRow w B a len) (hh : W.heap = w.heap) : SrcRow W B a len := by
  intro k hk
  obtain ⟨b, off, z, ha, hB, hc, h0, h1⟩ := h k hk
  exact ⟨b, off, z, ha, hB, by rw [← hc]; unfold World.cell?; rw [hh], h0, h1⟩
theorem SrcRow.lift {w w' : World} {B B' : Nat} {a : Option Addr} {len : Nat} (h : SrcRow w B a len) (hb : Below B w w') (hB : B ≤ B') : SrcRow w' B' a len := by
  intro k hk
  obtain ⟨b, off, z, ha, hlt, hc, h0, h1⟩ := h k hk
  exact ⟨b, off, z, ha, by omega, (hb.cell (p := ⟨b, off + k, none⟩) hlt).trans hc, h0, h1⟩

end Go.Proofs.YtgcfognljkebjaaGreatDoor

namespace Go.Proofs.YtgcfognljkebjaaGreatDoor
set_option linter.unusedSimpArgs false
set_option linter.unusedVariables false
open Go.RowKit

/-- A row of strings, each of at most M bytes. -/
def StrRow (w : World) (b n M : Nat) : Prop := ∀ j, j < n → ∃ s : ByteArray, w.cell? ⟨b, j, none⟩ = some (.string s) ∧ s.size ≤ M
theorem strRow_new (w : World) (t M : Nat) (ss : List ByteArray) (h : ∀ s ∈ ss, s.size ≤ M) : StrRow (w.alloc (.cells (ss.map Value.string).toArray t)) w.heap.size ss.length M := by
  intro j hj
  refine ⟨ss[j], ?_, h _ (List.getElem_mem hj)⟩
  rw [(Arr.fresh w t (ss.map Value.string)).cell]
  simp [List.getElem?_eq_getElem hj]
set_option maxHeartbeats 1000000 in
theorem src_pick (B g b n M : Nat) (w : World) (hn0 : 1 ≤ n) (hn : n ≤ 100) (hS : Src w B g) (hbg : b ≠ g) (hrow : StrRow w b n M) :
    Calls Tryz.prog 38 #[.pointer (some ⟨g, 0, none⟩), .slice (some ⟨b, 0, none⟩) n n] w (Drew B g w (StrIn M)) := by
  have HS := Lib.hid hS
  have HR := Lib.hid hrow
  clear hS hrow
  go_enter Tryz.func38, Tryz.ntmps38
  go_wp2_with fail
  refine (src_n B g (n : Int) _ (by omega) HS.out).mono ?_
  rintro e w1 ⟨_, rfl, ⟨r, rfl, h0, h1⟩, hS1, hg1⟩
  obtain ⟨R, rfl⟩ : ∃ R : Nat, r = R := ⟨r.toNat, by omega⟩
  have hR : R < n := by omega
  obtain ⟨s, hs, hM⟩ := HR.out R hR
  have hc : w1.cell? ⟨b, R, none⟩ = some (.string s) := by
    rw [World.cell?_of_block (w := w) (hg1.block b (lt_of_cell hs) (fun e => hbg (by injection e)))]
    exact hs
  clear h1
  go_wp2
  go_ret
  exact ⟨_, rfl, ⟨s, rfl, hM⟩, hS1, hg1⟩
theorem grown_new {w w1 : World} {r : Option Nat} (h : w.grownBy w1 r) (b i : Nat) (v : Value) (hb : w.heap.size ≤ b) : w.grownBy (w1.setCell ⟨b, i, none⟩ v) r :=
  ⟨h.os, h.tape, h.output, by simpa [World.setCell] using h.size, fun k hk hne => (Below.heap_setCell w1 ⟨b, i, none⟩ v k (by simp; omega)).trans (h.block k hk hne)⟩
theorem grown_setb (w : World) (b i : Nat) (v : Value) : w.grownBy (w.setCell ⟨b, i, none⟩ v) (some b) := grown_set (World.grownBy.refl w _) i v
theorem Src.set {w : World} {B g : Nat} (h : Src w B g) (b i : Nat) (v : Value) (hne : b ≠ g) (hB : B ≤ b) : Src (w.setCell ⟨b, i, none⟩ v) B g :=
  h.other (grown_setb w b i v) (fun q e => by injection e; omega) h.lt (fun q e => by injection e; omega)
theorem Src.on {w w1 : World} {B g : Nat} (h : Src w B g) (hb : Below w.heap.size w w1) : Src w1 B g := by
  obtain ⟨hBg, a, len, cap, at_, mix, size, hA, h1, h2, h3, h4, h5, h6, h7, hrow⟩ := id h
  refine ⟨hBg, a, len, cap, at_, mix, size, arr_below hA hb, h1, h2, h3, h4, h5, h6, h7, ?_⟩
  intro k hk
  obtain ⟨b, off, z, ha, hB, hc, h0, h1⟩ := hrow k hk
  exact ⟨b, off, z, ha, hB, (hb.cell (p := ⟨b, off + k, none⟩) (lt_of_cell hc)).trans hc, h0, h1⟩
theorem grown_on {w w1 w2 : World} {r : Option Nat} (h : w.grownBy w1 r) (hb : Below w1.heap.size w1 w2) : w.grownBy w2 r :=
  ⟨hb.os.trans h.os, hb.tape.trans h.tape, hb.output.trans h.output, Nat.le_trans h.size hb.size, fun k hk hne => (hb.block k (Nat.lt_of_lt_of_le hk h.size)).trans (h.block k hk hne)⟩
theorem strRow_at (w : World) (t M b : Nat) (ss : List ByteArray) (hb : b = w.heap.size) (h : ∀ s ∈ ss, s.size ≤ M) : StrRow (w.alloc (.cells (ss.map Value.string).toArray t)) b ss.length M := by
  subst hb
  exact strRow_new w t M ss h
theorem below_grown {B g : Nat} {w w1 w2 : World} (hb : Below B w w1) (hB : B ≤ w1.heap.size) (hg : w1.grownBy w2 (some g)) (hg' : B ≤ g) : Below B w w2 :=
  hb.grown hg hB (fun k hk => by simp at hk; omega)
theorem srcRow_alloc {w : World} {B : Nat} {a : Option Addr} {len : Nat} (h : SrcRow w B a len) (o : Obj) : SrcRow (w.alloc o) B a len := by
  intro k hk
  obtain ⟨b, off, z, ha, hb, hc, h0, h1⟩ := h k hk
  exact ⟨b, off, z, ha, hb, (World.cell?_alloc_lt w o ⟨b, off + k, none⟩ (lt_of_cell hc)).trans hc, h0, h1⟩
end Go.Proofs.YtgcfognljkebjaaGreatDoor

namespace Go.Proofs.YtgcfognljkebjaaGreatDoor
set_option linter.unusedSimpArgs false
set_option linter.unusedVariables false
open Go.RowKit

def spoilS : ByteArray := ⟨#[32, 10, 48, 97, 45, 110, 44, 58, 93, 255, 40, 120, 126, 49, 128, 225, 59]⟩
theorem str_one (w : World) (x : Int) (b : UInt8) (hx : x = (b.toNat : Int)) : (convert 38 9 (.slice (some ⟨w.heap.size, 0, none⟩) 1 1)).run Tryz.prog (w.alloc (.cells #[.int .u8 x] 5)) = .ok (.string (strOf [b])) (w.alloc (.cells #[.int .u8 x] 5)) := by
  subst hx
  exact run_string_arr (P := Tryz.prog) _ 38 9 5 w.heap.size 5 1 1 [byteV b] [b] (Arr.fresh w _ [byteV b]) rfl rfl Tryz.underlying38 Tryz.underlying5 Tryz.underlying9
theorem Src.drewN {w : World} {B g : Nat} (h : Src w B g) (n : Nat) : Src (w.drewN n) B g := by
  obtain ⟨hBg, a, len, cap, at_, mix, size, hA, h1, h2, h3, h4, h5, h6, h7, hrow⟩ := h
  exact ⟨hBg, a, len, cap, at_, mix, size, hA, h1, h2, h3, h4, h5, h6, h7, hrow⟩
set_option maxRecDepth 100000 in
set_option maxHeartbeats 2000000 in
theorem src_spoilM (B g M : Nat) (s : ByteArray) (w : World) (hs : s.size ≤ M) (hM : M ≤ 100000) (hS : Src w B g) :
    Calls Tryz.prog 39 #[.pointer (some ⟨g, 0, none⟩), .string s] w (Drew B g w (StrIn (M + 10))) := by
  have HS := Lib.hid hS
  clear hS
  go_enter Tryz.func39, Tryz.ntmps39
  go_wp2_with fail
  refine (src_n B g ((s.size : Int) + 1) _ (by omega) HS.out).mono ?_
  rintro e w1 ⟨_, rfl, ⟨r, rfl, h0, h1⟩, hS1, hg1⟩
  obtain ⟨K, rfl⟩ : ∃ K : Nat, r = K := ⟨r.toNat, by omega⟩
  have hK : K ≤ s.size := by omega
  clear h0 h1 HS
  go_wp2_with fail
  refine (src_n B g 17 _ (by omega) hS1).mono ?_
  rintro e w2 ⟨_, rfl, ⟨r, rfl, h0, h1⟩, hS2, hg2⟩
  obtain ⟨R, rfl⟩ : ∃ R : Nat, r = R := ⟨r.toNat, by omega⟩
  have hR : R < 17 := by omega
  clear h0 h1 hS1
  have G2 := grown_same hg1 hg2
  clear hg1 hg2
  have hRs : R < (⟨#[32, 10, 48, 97, 45, 110, 44, 58, 93, 255, 40, 120, 126, 49, 128, 225, 59]⟩ : ByteArray).size := hR
  have hcv := str_one w2 (((⟨#[32, 10, 48, 97, 45, 110, 44, 58, 93, 255, 40, 120, 126, 49, 128, 225, 59]⟩ : ByteArray)[R]'hRs).toNat : Int) ((⟨#[32, 10, 48, 97, 45, 110, 44, 58, 93, 255, 40, 120, 126, 49, 128, 225, 59]⟩ : ByteArray)[R]'hRs) rfl
  obtain ⟨c, hc⟩ : ∃ c, c = strOf [(⟨#[32, 10, 48, 97, 45, 110, 44, 58, 93, 255, 40, 120, 126, 49, 128, 225, 59]⟩ : ByteArray)[R]'hRs] := ⟨_, rfl⟩
  rw [← hc] at hcv
  have hcs : c.size = 1 := by rw [hc, strOf_size]; rfl
  clear hc
  have hS3 := hS2.alloc (.cells #[.int .u8 (((⟨#[32, 10, 48, 97, 45, 110, 44, 58, 93, 255, 40, 120, 126, 49, 128, 225, 59]⟩ : ByteArray)[R]'hRs).toNat : Int)] 5)
  have G3 := grown_alloc G2 (.cells #[.int .u8 (((⟨#[32, 10, 48, 97, 45, 110, 44, 58, 93, 255, 40, 120, 126, 49, 128, 225, 59]⟩ : ByteArray)[R]'hRs).toNat : Int)] 5)
  clear hS2 G2
  have HS3 := Lib.hid hS3
  have HG3 := Lib.hid G3
  clear hS3 G3
  have x1 : (s.extract 0 K).size = K := by rw [ByteArray.size_extract]; omega
  have x2 : (s.extract K s.size).size = s.size - K := by rw [ByteArray.size_extract]; omega
  by_cases hKs : K = s.size
  · subst hKs
    go_wp2
    go_quiet (fail)
    go_wp2
    go_ret
    exact ⟨_, rfl, ⟨_, rfl, by simp only [ByteArray.size_append]; omega⟩, HS3.out.drewN _, grown_drewN HG3.out _⟩
  · have hlt : K < s.size := by omega
    have hlt' : (K : Int) < (s.size : Int) := by omega
    have x3 : (s.extract (K + 1) s.size).size = s.size - (K + 1) := by rw [ByteArray.size_extract]; omega
    have hKz : (K : Int) + 1 ≤ (s.size : Int) := by omega
    go_wp2_with fail
    refine (src_one B g 3 _ (by omega) HS3.out).mono ?_
    rintro e w4 ⟨_, rfl, ⟨q, rfl⟩, hS4, hg4⟩
    have HS4 := Lib.hid hS4
    have HG4 := Lib.hid (grown_same HG3.out hg4)
    clear hS4 hg4 hcv HS3 HG3
    cases q
    · go_wp2_with fail
      refine (src_one B g 2 _ (by omega) HS4.out).mono ?_
      rintro e w5 ⟨_, rfl, ⟨q, rfl⟩, hS5, hg5⟩
      have HS5 := Lib.hid hS5
      have HG5 := Lib.hid (grown_same HG4.out hg5)
      clear hS5 hg5 HS4 HG4
      cases q
      · go_wp2
        go_quiet (fail)
        go_wp2
        go_ret
        exact ⟨_, rfl, ⟨_, rfl, by simp only [ByteArray.size_append]; omega⟩, HS5.out.drewN _, grown_drewN HG5.out _⟩
      · go_wp2
        go_quiet (fail)
        go_wp2
        go_ret
        exact ⟨_, rfl, ⟨_, rfl, by simp only [ByteArray.size_append]; omega⟩, HS5.out.drewN _, grown_drewN HG5.out _⟩
    · go_wp2
      go_quiet (fail)
      go_wp2
      go_ret
      exact ⟨_, rfl, ⟨_, rfl, by simp only [ByteArray.size_append]; omega⟩, HS4.out.drewN _, grown_drewN HG4.out _⟩

theorem src_spoil (B g : Nat) (s : ByteArray) (w : World) (hs : s.size ≤ 1000) (hS : Src w B g) :
    Calls Tryz.prog 39 #[.pointer (some ⟨g, 0, none⟩), .string s] w (Drew B g w (StrIn 1010)) := src_spoilM B g 1000 s w hs (by omega) hS
end Go.Proofs.YtgcfognljkebjaaGreatDoor

namespace Go.Proofs.YtgcfognljkebjaaGreatDoor
set_option linter.unusedSimpArgs false
set_option linter.unusedVariables false

theorem countP_lt {p q : Nat → Bool} (hpq : ∀ j, q j = true → p j = true) {i : Nat} (hp : p i = true) (hq : q i = false) : ∀ l : List Nat, i ∈ l → l.countP q < l.countP p
  | [], h => by cases h
  | x :: l, h => by
    have hle : l.countP q ≤ l.countP p := List.countP_mono_left (fun y _ h => hpq y h)
    rw [List.countP_cons, List.countP_cons]
    rcases List.mem_cons.1 h with rfl | h
    · rw [hp, hq]
      simp
      omega
    · have ih := countP_lt hpq hp hq l h
      cases hx : q x
      · simp
        split <;> omega
      · rw [hpq x hx]
        simp
        omega
def unlisted (ops : Array Oper) (listed : Array Bool) : Nat := (List.range ops.size).countP (fun i => !listed.getD i true)
theorem ready_spec {md : Region.Mode} {ops : Array Oper} {listed : Array Bool} {i : Nat} (h : i ∈ Region.ready md ops listed) :
    i < ops.size ∧ listed.getD i true = false ∧ ((ops[i]?).map (·.after.all fun e => !Region.binds md e || listed.getD e.on false)).getD false = true := by
  unfold Region.ready at h
  rw [List.mem_filter] at h
  simp only [List.mem_range, Bool.and_eq_true, Bool.not_eq_true'] at h
  exact ⟨h.1, h.2.1, h.2.2⟩
theorem ready_nil {md : Region.Mode} {ops : Array Oper} {listed : Array Bool} (h : Region.ready md ops listed = []) (i : Nat) (hi : i < ops.size) (hd : ((ops[i]?).map (·.after.all fun e => !Region.binds md e || listed.getD e.on false)).getD false = true) : listed.getD i true = true := by
  cases hl : listed.getD i true
  · exfalso
    have : i ∈ Region.ready md ops listed := by
      unfold Region.ready
      rw [List.mem_filter]
      exact ⟨List.mem_range.2 hi, by rw [hl, hd]; rfl⟩
    rw [h] at this
    cases this
  · rfl
theorem getD_set (l : Array Bool) (i j : Nat) : (l.setIfInBounds i true).getD j true = (if j = i then true else l.getD j true) := by
  simp only [Array.getD_eq_getD_getElem?, Array.getElem?_setIfInBounds]
  split
  · rename_i e
    subst e
    simp only [if_true]
    split
    · rfl
    · rfl
  · rename_i e
    rw [if_neg (fun h => e h.symm)]
theorem unlisted_lt {md : Region.Mode} {ops : Array Oper} {listed : Array Bool} {i : Nat} (h : i ∈ Region.ready md ops listed) : unlisted ops (listed.setIfInBounds i true) < unlisted ops listed := by
  obtain ⟨h1, h2, _⟩ := ready_spec h
  refine countP_lt (i := i) (fun j hj => ?_) (by simp [h2]) (by simp [getD_set]) _ (List.mem_range.2 h1)
  rw [getD_set] at hj
  split at hj
  · simp at hj
  · exact hj
theorem any_order {P : Program} {md : Region.Mode} {ops : Array Oper} {Q : Exit → Act → World → Prop} {S : World → Prop} (Inv : Array Bool → Act → World → Prop)
    (hstep : ∀ listed a w i, Inv listed a w → i ∈ Region.ready md ops listed → wpOp P ops Q i (fun a' w' => S w' ∧ Inv (listed.setIfInBounds i true) a' w') a w)
    (hdone : ∀ listed a w, Inv listed a w → Region.ready md ops listed = [] → Q .normal a w) :
    ∀ (fuel : Nat) (listed : Array Bool) (a : Act) (w : World), unlisted ops listed ≤ fuel → Inv listed a w → wpAnyH P md ops Q S fuel listed a w
  | 0, listed, a, w, hf, hI => by
    have hr : Region.ready md ops listed = [] := by
      rcases h : Region.ready md ops listed with _ | ⟨i, l⟩
      · rfl
      · have := unlisted_lt (md := md) (ops := ops) (listed := listed) (i := i) (by rw [h]; simp)
        omega
    exact ⟨hr, hdone _ _ _ hI hr⟩
  | fuel + 1, listed, a, w, hf, hI => by
    refine ⟨fun hr => hdone _ _ _ hI hr, fun i hi => ?_⟩
    refine wpOp_mono (fun a' w' h' => ⟨h'.1, ?_⟩) (hstep listed a w i hI hi)
    exact any_order Inv hstep hdone fuel _ a' w' (by have := unlisted_lt hi; omega) h'.2
end Go.Proofs.YtgcfognljkebjaaGreatDoor

namespace Go.Proofs.YtgcfognljkebjaaGreatDoor
set_option linter.unusedSimpArgs false
set_option linter.unusedVariables false
open Go.RowKit

/-- A slice of one string. -/
def OneStr (W : World) (v : Value) (s : ByteArray) : Prop := ∃ g, v = .slice (some ⟨g, 0, none⟩) 1 1 ∧ W.cell? ⟨g, 0, none⟩ = some (.string s)
theorem OneStr.on {W W' : World} {v : Value} {s : ByteArray} (h : OneStr W v s) (hb : Below W.heap.size W W') : OneStr W' v s := by
  obtain ⟨g, rfl, hc⟩ := h
  exact ⟨g, rfl, (hb.cell (p := ⟨g, 0, none⟩) (lt_of_cellJ hc)).trans hc⟩
theorem oneStr_new (W : World) (s : ByteArray) (t : Nat) : OneStr (W.alloc (.cells #[.string s] t)) (.slice (some ⟨W.heap.size, 0, none⟩) 1 1) s := ⟨_, rfl, one_at W s t⟩
theorem OneStr.joined {W : World} {v : Value} {s : ByteArray} (h : OneStr W v s) (hs : s.size ≤ 2000000) : Calls Tryz.prog 26 #[v] W fun e w' => e = .returned (.string s) ∧ Below W.heap.size W w' := by
  obtain ⟨g, rfl, hc⟩ := h
  exact joined_at g s W hs hc
/-- A new stanza, empty. -/
def ResAt (B : Nat) (W : World) (v : Value) : Prop := ∃ g, v = .pointer (some ⟨g, 0, none⟩) ∧ B ≤ g ∧ Arr W g 70 [.string ⟨#[]⟩, .string ⟨#[]⟩, .string ⟨#[]⟩, .string ⟨#[]⟩, .int .i64 0, .string ⟨#[]⟩]
theorem ResAt.on {B : Nat} {W W' : World} {v : Value} (h : ResAt B W v) (hb : Below W.heap.size W W') : ResAt B W' v := by
  obtain ⟨g, rfl, hB, hA⟩ := h
  exact ⟨g, rfl, hB, arr_below hA hb⟩
theorem resAt_new (B : Nat) (W : World) (h : B ≤ W.heap.size) : ResAt B (W.alloc (.cells #[.string ⟨#[]⟩, .string ⟨#[]⟩, .string ⟨#[]⟩, .string ⟨#[]⟩, .int .i64 0, .string ⟨#[]⟩] 70)) (.pointer (some ⟨W.heap.size, 0, none⟩)) := ⟨_, rfl, h, Arr.fresh W _ _⟩
theorem arr_six0 {w : World} {g t : Nat} {a b c d e f : Value} (h : Arr w g t [a, b, c, d, e, f]) : (w.cell? ⟨g, 0, none⟩ = some a ∧ w.cell? ⟨g, 1, none⟩ = some b ∧ w.cell? ⟨g, 2, none⟩ = some c ∧ w.cell? ⟨g, 3, none⟩ = some d ∧ w.cell? ⟨g, 4, none⟩ = some e ∧ w.cell? ⟨g, 5, none⟩ = some f) ∧
    w.frozen? ⟨g, 0, none⟩ = false ∧ w.frozen? ⟨g, 1, none⟩ = false ∧ w.frozen? ⟨g, 2, none⟩ = false ∧ w.frozen? ⟨g, 3, none⟩ = false ∧ w.frozen? ⟨g, 4, none⟩ = false ∧ w.frozen? ⟨g, 5, none⟩ = false :=
  ⟨⟨h.cell 0, h.cell 1, h.cell 2, h.cell 3, h.cell 4, h.cell 5⟩, h.free 0, h.free 1, h.free 2, h.free 3, h.free 4, h.free 5⟩
def put6 (w : World) (g : Nat) (a b c d e f : Value) : World := (((((w.setCell ⟨g, 0, none⟩ a).setCell ⟨g, 1, none⟩ b).setCell ⟨g, 2, none⟩ c).setCell ⟨g, 3, none⟩ d).setCell ⟨g, 4, none⟩ e).setCell ⟨g, 5, none⟩ f
theorem arr_put6 {w : World} {g t : Nat} {x0 x1 x2 x3 x4 x5 : Value} (h : Arr w g t [x0, x1, x2, x3, x4, x5]) (a b c d e f : Value) : Arr (put6 w g a b c d e f) g t [a, b, c, d, e, f] :=
  (((((h.put 0 a).put 1 b).put 2 c).put 3 d).put 4 e).put 5 f
theorem arr_far6 {w : World} {g g' t : Nat} {cs : List Value} (h : Arr w g t cs) (hne : g ≠ g') (a b c d e f : Value) : Arr (put6 w g' a b c d e f) g t cs := by
  have s : ∀ (w : World) (i : Nat) (u : Value), Arr w g t cs → Arr (w.setCell ⟨g', i, none⟩ u) g t cs := fun w i u h => by
    unfold Arr at h ⊢
    rw [← h]
    exact Below.heap_setCell w ⟨g', i, none⟩ u g (by simpa using hne)
  exact s _ _ _ (s _ _ _ (s _ _ _ (s _ _ _ (s _ _ _ (s _ _ _ h)))))
theorem below_put6 {B g : Nat} {w w1 : World} (h : Below B w w1) (hg : B ≤ g) (a b c d e f : Value) : Below B w (put6 w1 g a b c d e f) :=
  (((((h.setCell (p := ⟨g, 0, none⟩) hg a).setCell (p := ⟨g, 1, none⟩) hg b).setCell (p := ⟨g, 2, none⟩) hg c).setCell (p := ⟨g, 3, none⟩) hg d).setCell (p := ⟨g, 4, none⟩) hg e).setCell (p := ⟨g, 5, none⟩) hg f
/-- What stands all along: the box of the argument, the box of the answer. -/
def RepS (w : World) (k t f o : ByteArray) (n : Int) (b : ByteArray) (W : World) : Prop :=
  (W.cell? ⟨w.heap.size, 0, none⟩ = some (.string k) ∧ W.cell? ⟨w.heap.size, 1, none⟩ = some (.string t) ∧ W.cell? ⟨w.heap.size, 2, none⟩ = some (.string f) ∧ W.cell? ⟨w.heap.size, 3, none⟩ = some (.string o) ∧ W.cell? ⟨w.heap.size, 4, none⟩ = some (.int .i64 n) ∧ W.cell? ⟨w.heap.size, 5, none⟩ = some (.string b)) ∧ (Below w.heap.size w W ∧ Arr W w.heap.size 70 [.string k, .string t, .string f, .string o, .int .i64 n, .string b] ∧ Arr W (w.heap.size + 1) 70 [.string ⟨#[]⟩, .string ⟨#[]⟩, .string ⟨#[]⟩, .string ⟨#[]⟩, .int .i64 0, .string ⟨#[]⟩] ∧ w.heap.size + 2 ≤ W.heap.size)
theorem repS {w : World} {k t f o : ByteArray} {n : Int} {b : ByteArray} {W : World} (hb : Below w.heap.size w W) (h1 : Arr W w.heap.size 70 [.string k, .string t, .string f, .string o, .int .i64 n, .string b]) (h2 : Arr W (w.heap.size + 1) 70 [.string ⟨#[]⟩, .string ⟨#[]⟩, .string ⟨#[]⟩, .string ⟨#[]⟩, .int .i64 0, .string ⟨#[]⟩]) (h3 : w.heap.size + 2 ≤ W.heap.size) : RepS w k t f o n b W :=
  ⟨(arr_six0 h1).1, hb, h1, h2, h3⟩
theorem repS_on {w : World} {k t f o : ByteArray} {n : Int} {b : ByteArray} {W W' : World} (h : RepS w k t f o n b W) (hb : Below W.heap.size W W') : RepS w k t f o n b W' :=
  repS (h.2.1.trans (hb.mono h.2.1.size)) (arr_below h.2.2.1 hb) (arr_below h.2.2.2.1 hb) (Nat.le_trans h.2.2.2.2 hb.size)
theorem repS_put {w : World} {k t f o : ByteArray} {n : Int} {b : ByteArray} {W : World} (h : RepS w k t f o n b W) {g : Nat} (hg : w.heap.size + 2 ≤ g) (x0 x1 x2 x3 x4 x5 : Value) : RepS w k t f o n b (put6 W g x0 x1 x2 x3 x4 x5) :=
  repS (below_put6 h.2.1 (by omega) _ _ _ _ _ _) (arr_far6 h.2.2.1 (by omega) _ _ _ _ _ _) (arr_far6 h.2.2.2.1 (by omega) _ _ _ _ _ _) (Nat.le_trans h.2.2.2.2 (below_put6 (Below.refl _ W) (Nat.zero_le g) x0 x1 x2 x3 x4 x5).size)
/-- What each operation of the answer's making has left. -/
structure RepA (w : World) (k kd o f : ByteArray) (n : Int) (bd : ByteArray) (b1 c1 b2 c2 b3 c3 b4 c4 b5 c5 bu al : Bool) (v10 v11 v13 v14 v17 v18 v21 v22 v26 v27 v28 v7 : Value) (W : World) : Prop where
  p1 : b1 = true → OneStr W v10 k
  q1 : c1 = true → v11 = .string k
  p2 : b2 = true → OneStr W v13 kd
  q2 : c2 = true → v14 = .string kd
  p3 : b3 = true → OneStr W v17 o
  q3 : c3 = true → v18 = .string o
  p4 : b4 = true → OneStr W v21 f
  q4 : c4 = true → v22 = .string f
  p5 : b5 = true → OneStr W v26 bd
  q5 : c5 = true → v27 = .string bd
  pu : bu = true → v28 = .agg #[.string k, .string kd, .string o, .string f, .int .i64 n, .string bd]
  pa : al = true → ResAt (w.heap.size + 2) W v7
theorem RepA.on {w : World} {k kd o f : ByteArray} {n : Int} {bd : ByteArray} {b1 c1 b2 c2 b3 c3 b4 c4 b5 c5 bu al : Bool} {v10 v11 v13 v14 v17 v18 v21 v22 v26 v27 v28 v7 : Value} {W W' : World} (h : RepA w k kd o f n bd b1 c1 b2 c2 b3 c3 b4 c4 b5 c5 bu al v10 v11 v13 v14 v17 v18 v21 v22 v26 v27 v28 v7 W) (hb : Below W.heap.size W W') : RepA w k kd o f n bd b1 c1 b2 c2 b3 c3 b4 c4 b5 c5 bu al v10 v11 v13 v14 v17 v18 v21 v22 v26 v27 v28 v7 W' :=
  { h with
    p1 := fun e => (h.p1 e).on hb
    p2 := fun e => (h.p2 e).on hb
    p3 := fun e => (h.p3 e).on hb
    p4 := fun e => (h.p4 e).on hb
    p5 := fun e => (h.p5 e).on hb
    pa := fun e => (h.pa e).on hb }
/-- The invariant of the region that makes the answer. -/
def RepInv (w : World) (k t f o : ByteArray) (n : Int) (b kd bd : ByteArray) (listed : Array Bool) (a : Act) (W : World) : Prop :=
  ∃ (b1 c1 b2 c2 b3 c3 b4 c4 b5 c5 bu al st : Bool) (v10 v11 v13 v14 v17 v18 v21 v22 v26 v27 v28 v7 : Value), listed = #[true, true, b1, c1, true, b2, c2, true, true, b3, c3, true, true, b4, c4, true, true, true, b5, c5, bu, al, st] ∧
    a = { tmps := #[.agg #[.string k, .string t, .string f, .string o, .int .i64 n, .string b], .string kd, .string bd, .pointer (some ⟨w.heap.size, 0, none⟩), undef, undef, .pointer (some ⟨w.heap.size + 1, 0, none⟩), v7, .pointer (some ⟨w.heap.size, 0, none⟩), .string k, v10, v11, .string kd, v13, v14, .pointer (some ⟨w.heap.size, 3, none⟩), .string o, v17, v18, .pointer (some ⟨w.heap.size, 2, none⟩), .string f, v21, v22, .pointer (some ⟨w.heap.size, 4, none⟩), .int .i64 n, .string bd, v26, v27, v28, undef, undef, undef, undef, undef, undef, undef, undef, undef, undef], defers := [] } ∧ RepS w k t f o n b W ∧ (st = false → RepA w k kd o f n bd b1 c1 b2 c2 b3 c3 b4 c4 b5 c5 bu al v10 v11 v13 v14 v17 v18 v21 v22 v26 v27 v28 v7 W) ∧
    (st = true → b1 = true ∧ c1 = true ∧ b2 = true ∧ c2 = true ∧ b3 = true ∧ c3 = true ∧ b4 = true ∧ c4 = true ∧ b5 = true ∧ c5 = true ∧ bu = true ∧ al = true) ∧ (st = true → ∃ g, v7 = .pointer (some ⟨g, 0, none⟩) ∧ w.heap.size + 2 ≤ g ∧ Arr W g 70 [.string k, .string kd, .string o, .string f, .int .i64 n, .string bd])

noncomputable def repV (k t f o : ByteArray) (n : Int) (b kd bd : ByteArray) : Value :=
  if (stB k t f o n b && stB k kd o f n bd) = true then stV k kd o f n bd else stV ⟨#[]⟩ ⟨#[]⟩ ⟨#[]⟩ ⟨#[]⟩ 0 ⟨#[]⟩
end Go.Proofs.YtgcfognljkebjaaGreatDoor

namespace Go.Proofs.YtgcfognljkebjaaGreatDoor
set_option linter.unusedSimpArgs false
set_option linter.unusedVariables false
open Go.RowKit

/-- A stanza whose strings have at most 40 bytes. -/
def StIn (v : Value) : Prop := ∃ (k t f o : ByteArray) (n : Int) (b : ByteArray), v = .agg #[.string k, .string t, .string f, .string o, .int .i64 n, .string b] ∧ (k.size ≤ 40 ∧ t.size ≤ 40 ∧ f.size ≤ 40 ∧ o.size ≤ 40 ∧ b.size ≤ 40) ∧ -1 ≤ n ∧ n ≤ 1000000001
theorem lists_st : (∀ s ∈ ([⟨#[]⟩, ⟨#[103, 101, 116]⟩, ⟨#[115, 101, 116]⟩, ⟨#[101, 114, 114, 111, 114]⟩, ⟨#[104, 101, 97, 100, 108, 105, 110, 101]⟩, ⟨#[103, 114, 111, 117, 112, 99, 104, 97, 116]⟩, ⟨#[99, 104, 97, 116]⟩] : List ByteArray), s.size ≤ 40) ∧ (∀ s ∈ ([⟨#[]⟩, ⟨#[97, 110, 110, 64, 97]⟩, ⟨#[98, 111, 98, 64, 98, 47, 104, 111, 109, 101]⟩, ⟨#[97]⟩, ⟨#[97, 110, 110, 64, 97, 47, 120]⟩, ⟨#[99, 64, 97, 46, 98]⟩] : List ByteArray), s.size ≤ 40) ∧ (∀ s ∈ ([⟨#[]⟩, ⟨#[104, 105]⟩, ⟨#[60, 38, 39, 34, 62]⟩, ⟨#[97, 32, 98]⟩] : List ByteArray), s.size ≤ 40) ∧ (∀ s ∈ ([⟨#[65, 64, 98]⟩, ⟨#[64]⟩, ⟨#[97, 47]⟩] : List ByteArray), s.size ≤ 40) ∧ (∀ s ∈ ([kPres, kMess, kIq, kDb] : List ByteArray), s.size ≤ 40) := by decide
theorem src_who (B g : Nat) (w : World) (hS : Src w B g) : Calls Tryz.prog 71 #[.pointer (some ⟨g, 0, none⟩)] w (Drew B g w (StrIn 40)) := by
  have hgw : g < w.heap.size := hS.lt
  have HS := Lib.hid hS
  clear hS
  go_enter Tryz.func71, Tryz.ntmps71
  go_wp2_with fail
  refine (src_pick B g w.heap.size 6 40 _ (by omega) (by omega) (HS.out.alloc _) (by omega) (strRow_at w 9 40 _ [⟨#[]⟩, ⟨#[97, 110, 110, 64, 97]⟩, ⟨#[98, 111, 98, 64, 98, 47, 104, 111, 109, 101]⟩, ⟨#[97]⟩, ⟨#[97, 110, 110, 64, 97, 47, 120]⟩, ⟨#[99, 64, 97, 46, 98]⟩] rfl lists_st.2.1)).mono ?_
  rintro e w1 ⟨_, rfl, ⟨l, rfl, hl⟩, hS1, hg1⟩
  go_wp2
  go_ret
  exact ⟨_, rfl, ⟨l, rfl, hl⟩, hS1, grown_same (grown_alloc (World.grownBy.refl w (some g)) _) hg1⟩
theorem src_set6 {W : World} {B g : Nat} (hS : Src W B g) (b : Nat) (hne : b ≠ g) (hB : B ≤ b) (x0 x1 x2 x3 x4 x5 : Value) : Src (put6 W b x0 x1 x2 x3 x4 x5) B g :=
  (((((hS.set b 0 x0 hne hB).set b 1 x1 hne hB).set b 2 x2 hne hB).set b 3 x3 hne hB).set b 4 x4 hne hB).set b 5 x5 hne hB
theorem grown_put6 {w W : World} {r : Option Nat} (hg : w.grownBy W r) (b : Nat) (hb : w.heap.size ≤ b) (x0 x1 x2 x3 x4 x5 : Value) : w.grownBy (put6 W b x0 x1 x2 x3 x4 x5) r :=
  grown_new (grown_new (grown_new (grown_new (grown_new (grown_new hg b 0 x0 hb) b 1 x1 hb) b 2 x2 hb) b 3 x3 hb) b 4 x4 hb) b 5 x5 hb
theorem st_done {w W : World} {B g : Nat} {k t f o : ByteArray} {n : Int} {b : ByteArray} (hS : Src W B g) (hg : w.grownBy W (some g)) (hgw : g < w.heap.size) (hB : B ≤ w.heap.size) (hz : k.size ≤ 40 ∧ t.size ≤ 40 ∧ f.size ≤ 40 ∧ o.size ≤ 40 ∧ b.size ≤ 40) (h1 : -1 ≤ n) (h2 : n ≤ 1000000001) :
    Drew B g w StIn (.returned (.agg #[.string k, .string t, .string f, .string o, .int .i64 n, .string b])) (put6 W w.heap.size (.string k) (.string t) (.string f) (.string o) (.int .i64 n) (.string b)) :=
  ⟨_, rfl, ⟨k, t, f, o, n, b, rfl, hz, h1, h2⟩, src_set6 hS _ (by omega) hB _ _ _ _ _ _, grown_put6 hg _ (Nat.le_refl _) _ _ _ _ _ _⟩

set_option maxRecDepth 100000 in
set_option maxHeartbeats 4000000 in
theorem src_st (B g : Nat) (w : World) (hS : Src w B g) :
    Calls Tryz.prog 55 #[.pointer (some ⟨g, 0, none⟩)] w (Drew B g w StIn) := by
  obtain ⟨i0, hi, y0, y1, y2⟩ := info_parts info_u8d
  have hgw : g < w.heap.size := hS.lt
  have hBg : B ≤ g := hS.1
  obtain ⟨q1, q2, q3, q4, q5⟩ := lists_st
  have Q1 := Lib.hid q1
  have Q3 := Lib.hid q3
  have Q4 := Lib.hid q4
  have Q5 := Lib.hid q5
  clear q1 q2 q3 q4 q5
  have HS := Lib.hid hS
  clear hS
  go_enter Tryz.func55, Tryz.ntmps55
  go_wp2_with fail
  refine (spec_kinds _).mono ?_
  rintro e w0 ⟨rfl, rfl⟩
  simp only [World.size_alloc]
  go_wp2_with fail
  refine (src_pick B g (w.heap.size + 1) 4 40 _ (by omega) (by omega) ((HS.out.alloc _).alloc _) (by omega) (strRow_at (w.alloc (.cells #[.string ⟨#[]⟩, .string ⟨#[]⟩, .string ⟨#[]⟩, .string ⟨#[]⟩, .int .i64 0, .string ⟨#[]⟩] 70)) 9 40 (w.heap.size + 1) [kPres, kMess, kIq, kDb] (World.size_alloc ..).symm Q5.out)).mono ?_
  rintro e w1 ⟨_, rfl, ⟨k, rfl, hk⟩, hS1, hg1⟩
  have hz1 := hg1.size
  try simp at hz1
  have G0 : (w.alloc (.cells #[.string ⟨#[]⟩, .string ⟨#[]⟩, .string ⟨#[]⟩, .string ⟨#[]⟩, .int .i64 0, .string ⟨#[]⟩] 70)).grownBy w1 (some g) := grown_same (grown_alloc (World.grownBy.refl _ _) _) hg1
  clear hg1
  go_wp2_with fail
  refine (src_pick B g w1.heap.size 7 40 _ (by omega) (by omega) (hS1.alloc _) (by omega) (strRow_at w1 9 40 _ [⟨#[]⟩, ⟨#[103, 101, 116]⟩, ⟨#[115, 101, 116]⟩, ⟨#[101, 114, 114, 111, 114]⟩, ⟨#[104, 101, 97, 100, 108, 105, 110, 101]⟩, ⟨#[103, 114, 111, 117, 112, 99, 104, 97, 116]⟩, ⟨#[99, 104, 97, 116]⟩] rfl Q1.out)).mono ?_
  rintro e w2 ⟨_, rfl, ⟨t, rfl, ht⟩, hS2, hg2⟩
  have hz2 := hg2.size
  try simp at hz2
  replace G0 := grown_same (grown_alloc G0 _) hg2
  clear hg2 hS1
  go_wp2_with fail
  refine (src_who B g _ hS2).mono ?_
  rintro e w3 ⟨_, rfl, ⟨f, rfl, hf⟩, hS3, hg3⟩
  have hz3 := hg3.size
  try simp at hz3
  replace G0 := grown_same G0 hg3
  clear hg3 hS2
  go_wp2_with fail
  refine (src_who B g _ hS3).mono ?_
  rintro e w4 ⟨_, rfl, ⟨o, rfl, ho⟩, hS4, hg4⟩
  have hz4 := hg4.size
  try simp at hz4
  replace G0 := grown_same G0 hg4
  clear hg4 hS3
  go_wp2_with fail
  refine (src_n B g 5 _ (by omega) hS4).mono ?_
  rintro e w5 ⟨_, rfl, ⟨n, rfl, n0, n1⟩, hS5, hg5⟩
  have hz5 := hg5.size
  try simp at hz5
  replace G0 := grown_same G0 hg5
  clear hg5 hS4
  go_wp2_with fail
  refine (src_pick B g w5.heap.size 4 40 _ (by omega) (by omega) (hS5.alloc _) (by omega) (strRow_at w5 9 40 _ [⟨#[]⟩, ⟨#[104, 105]⟩, ⟨#[60, 38, 39, 34, 62]⟩, ⟨#[97, 32, 98]⟩] rfl Q3.out)).mono ?_
  rintro e w6 ⟨_, rfl, ⟨b, rfl, hb⟩, hS6, hg6⟩
  have hz6 := hg6.size
  try simp at hz6
  replace G0 := grown_same (grown_alloc G0 _) hg6
  clear hg6 hS5
  go_wp2_with fail
  refine (src_one B g 12 _ (by omega) (hS6.alloc _)).mono ?_
  rintro e w7 ⟨_, rfl, ⟨q, rfl⟩, hS7, hg7⟩
  have hz7 := hg7.size
  try simp at hz7
  have hJ : Arr w7 w6.heap.size 70 [.string k, .string t, .string f, .string o, .int .i64 n, .string b] := (Arr.fresh w6 70 [.string k, .string t, .string f, .string o, .int .i64 n, .string b]).other hg7 (fun e => by injection e; omega)
  replace G0 := grown_same (grown_alloc G0 _) hg7
  clear hg7 hS6
  cases q
  · have hR : Arr w7 w.heap.size 70 [.string ⟨#[]⟩, .string ⟨#[]⟩, .string ⟨#[]⟩, .string ⟨#[]⟩, .int .i64 0, .string ⟨#[]⟩] := (Arr.fresh w 70 [.string ⟨#[]⟩, .string ⟨#[]⟩, .string ⟨#[]⟩, .string ⟨#[]⟩, .int .i64 0, .string ⟨#[]⟩]).other G0 (fun e => by injection e; omega)
    obtain ⟨⟨c0, c1, c2, c3, c4, c5⟩, d0, d1, d2, d3, d4, d5⟩ := arr_six0 hJ
    obtain ⟨⟨p0, p1, p2, p3, p4, p5⟩, f0, f1, f2, f3, f4, f5⟩ := arr_six0 hR
    have hne : w6.heap.size ≠ w.heap.size := by omega
    have HG := Lib.hid (grown_same (grown_alloc (World.grownBy.refl w (some g)) _) G0)
    have HSx := Lib.hid (hS7)
    clear hJ hR G0 hS7
    go_wp2
    exact bodyPost_ret (v := .agg #[.string k, .string t, .string f, .string o, .int .i64 n, .string b]) (by simp [results, Tryz.results55, go_sem, p0, p1, p2, p3, p4, p5]; try omega) rfl (st_done HSx.out HG.out hgw (by omega) ⟨hk, ht, hf, ho, hb⟩ (by omega) (by omega))
  · go_wp2_with fail
    refine (src_n B g 5 _ (by omega) hS7).mono ?_
    rintro e w8 ⟨_, rfl, ⟨m, rfl, m0, m1⟩, hS8, hg8⟩
    replace hJ := hJ.other hg8 (fun e => by injection e; omega)
    replace G0 := grown_same G0 hg8
    have hz8 := hg8.size
    clear hg8 hS7
    have m5 : m = 0 ∨ m = 1 ∨ m = 2 ∨ m = 3 ∨ m = 4 := by omega
    rcases m5 with rfl | rfl | rfl | rfl | rfl
    · have hR : Arr w8 w.heap.size 70 [.string ⟨#[]⟩, .string ⟨#[]⟩, .string ⟨#[]⟩, .string ⟨#[]⟩, .int .i64 0, .string ⟨#[]⟩] := (Arr.fresh w 70 [.string ⟨#[]⟩, .string ⟨#[]⟩, .string ⟨#[]⟩, .string ⟨#[]⟩, .int .i64 0, .string ⟨#[]⟩]).other G0 (fun e => by injection e; omega)
      obtain ⟨⟨c0, c1, c2, c3, c4, c5⟩, d0, d1, d2, d3, d4, d5⟩ := arr_six0 hJ
      obtain ⟨⟨p0, p1, p2, p3, p4, p5⟩, f0, f1, f2, f3, f4, f5⟩ := arr_six0 hR
      have hne : w6.heap.size ≠ w.heap.size := by omega
      have HG := Lib.hid (grown_new (grown_same (grown_alloc (World.grownBy.refl w (some g)) _) G0) w6.heap.size 0 (.string ⟨#[120]⟩) (by omega))
      have HSx := Lib.hid (hS8.set w6.heap.size 0 (.string ⟨#[120]⟩) (by omega) (by omega))
      clear hJ hR G0 hS8
      go_wp2
      exact bodyPost_ret (v := .agg #[.string ⟨#[120]⟩, .string t, .string f, .string o, .int .i64 n, .string b]) (by simp [results, Tryz.results55, go_sem, p0, p1, p2, p3, p4, p5]; try omega) rfl (st_done HSx.out HG.out hgw (by omega) ⟨(by decide), ht, hf, ho, hb⟩ (by omega) (by omega))
    · have hR : Arr w8 w.heap.size 70 [.string ⟨#[]⟩, .string ⟨#[]⟩, .string ⟨#[]⟩, .string ⟨#[]⟩, .int .i64 0, .string ⟨#[]⟩] := (Arr.fresh w 70 [.string ⟨#[]⟩, .string ⟨#[]⟩, .string ⟨#[]⟩, .string ⟨#[]⟩, .int .i64 0, .string ⟨#[]⟩]).other G0 (fun e => by injection e; omega)
      obtain ⟨⟨c0, c1, c2, c3, c4, c5⟩, d0, d1, d2, d3, d4, d5⟩ := arr_six0 hJ
      obtain ⟨⟨p0, p1, p2, p3, p4, p5⟩, f0, f1, f2, f3, f4, f5⟩ := arr_six0 hR
      have hne : w6.heap.size ≠ w.heap.size := by omega
      have HG := Lib.hid (grown_new (grown_same (grown_alloc (World.grownBy.refl w (some g)) _) G0) w6.heap.size 1 (.string ⟨#[65]⟩) (by omega))
      have HSx := Lib.hid (hS8.set w6.heap.size 1 (.string ⟨#[65]⟩) (by omega) (by omega))
      clear hJ hR G0 hS8
      go_wp2
      exact bodyPost_ret (v := .agg #[.string k, .string ⟨#[65]⟩, .string f, .string o, .int .i64 n, .string b]) (by simp [results, Tryz.results55, go_sem, p0, p1, p2, p3, p4, p5]; try omega) rfl (st_done HSx.out HG.out hgw (by omega) ⟨hk, (by decide), hf, ho, hb⟩ (by omega) (by omega))
    · go_wp2_with fail
      refine (src_pick B g w8.heap.size 3 40 _ (by omega) (by omega) (hS8.alloc _) (by omega) (strRow_at w8 9 40 _ [⟨#[65, 64, 98]⟩, ⟨#[64]⟩, ⟨#[97, 47]⟩] rfl Q4.out)).mono ?_
      rintro e w9 ⟨_, rfl, ⟨x, rfl, hx⟩, hS9, hg9⟩
      replace hJ := (hJ.alloc _).other hg9 (fun e => by injection e; omega)
      replace G0 := grown_same (grown_alloc G0 _) hg9
      have hz9 := hg9.size
      simp at hz9
      clear hg9 hS8
      have hR : Arr w9 w.heap.size 70 [.string ⟨#[]⟩, .string ⟨#[]⟩, .string ⟨#[]⟩, .string ⟨#[]⟩, .int .i64 0, .string ⟨#[]⟩] := (Arr.fresh w 70 [.string ⟨#[]⟩, .string ⟨#[]⟩, .string ⟨#[]⟩, .string ⟨#[]⟩, .int .i64 0, .string ⟨#[]⟩]).other G0 (fun e => by injection e; omega)
      obtain ⟨⟨c0, c1, c2, c3, c4, c5⟩, d0, d1, d2, d3, d4, d5⟩ := arr_six0 hJ
      obtain ⟨⟨p0, p1, p2, p3, p4, p5⟩, f0, f1, f2, f3, f4, f5⟩ := arr_six0 hR
      have hne : w6.heap.size ≠ w.heap.size := by omega
      have HG := Lib.hid (grown_new (grown_same (grown_alloc (World.grownBy.refl w (some g)) _) G0) w6.heap.size 2 (.string x) (by omega))
      have HSx := Lib.hid (hS9.set w6.heap.size 2 (.string x) (by omega) (by omega))
      clear hJ hR G0 hS9
      go_wp2
      exact bodyPost_ret (v := .agg #[.string k, .string t, .string x, .string o, .int .i64 n, .string b]) (by simp [results, Tryz.results55, go_sem, p0, p1, p2, p3, p4, p5]; try omega) rfl (st_done HSx.out HG.out hgw (by omega) ⟨hk, ht, hx, ho, hb⟩ (by omega) (by omega))
    · go_wp2_with fail
      refine (src_n B g 3 _ (by omega) (hS8.alloc _)).mono ?_
      rintro e w9 ⟨_, rfl, ⟨x, rfl, x0, x1⟩, hS9, hg9⟩
      replace hJ := (hJ.alloc _).other hg9 (fun e => by injection e; omega)
      have hI : Arr w9 w8.heap.size 2 [.int .i64 (-1), .int .i64 1000000000, .int .i64 1000000001] := (Arr.fresh w8 2 [.int .i64 (-1), .int .i64 1000000000, .int .i64 1000000001]).other hg9 (fun e => by injection e; omega)
      replace G0 := grown_same (grown_alloc G0 _) hg9
      have hz9 := hg9.size
      simp at hz9
      clear hg9 hS8
      have x3 : x = 0 ∨ x = 1 ∨ x = 2 := by omega
      obtain ⟨j0, j1, j2, _⟩ := arr_three hI
      clear hI
      rcases x3 with rfl | rfl | rfl
      · have hR : Arr w9 w.heap.size 70 [.string ⟨#[]⟩, .string ⟨#[]⟩, .string ⟨#[]⟩, .string ⟨#[]⟩, .int .i64 0, .string ⟨#[]⟩] := (Arr.fresh w 70 [.string ⟨#[]⟩, .string ⟨#[]⟩, .string ⟨#[]⟩, .string ⟨#[]⟩, .int .i64 0, .string ⟨#[]⟩]).other G0 (fun e => by injection e; omega)
        obtain ⟨⟨c0, c1, c2, c3, c4, c5⟩, d0, d1, d2, d3, d4, d5⟩ := arr_six0 hJ
        obtain ⟨⟨p0, p1, p2, p3, p4, p5⟩, f0, f1, f2, f3, f4, f5⟩ := arr_six0 hR
        have hne : w6.heap.size ≠ w.heap.size := by omega
        have HG := Lib.hid (grown_new (grown_same (grown_alloc (World.grownBy.refl w (some g)) _) G0) w6.heap.size 4 (.int .i64 (-1)) (by omega))
        have HSx := Lib.hid (hS9.set w6.heap.size 4 (.int .i64 (-1)) (by omega) (by omega))
        clear hJ hR G0 hS9
        go_wp2
        exact bodyPost_ret (v := .agg #[.string k, .string t, .string f, .string o, .int .i64 (-1), .string b]) (by simp [results, Tryz.results55, go_sem, p0, p1, p2, p3, p4, p5]; try omega) rfl (st_done HSx.out HG.out hgw (by omega) ⟨hk, ht, hf, ho, hb⟩ (by omega) (by omega))
      · have hR : Arr w9 w.heap.size 70 [.string ⟨#[]⟩, .string ⟨#[]⟩, .string ⟨#[]⟩, .string ⟨#[]⟩, .int .i64 0, .string ⟨#[]⟩] := (Arr.fresh w 70 [.string ⟨#[]⟩, .string ⟨#[]⟩, .string ⟨#[]⟩, .string ⟨#[]⟩, .int .i64 0, .string ⟨#[]⟩]).other G0 (fun e => by injection e; omega)
        obtain ⟨⟨c0, c1, c2, c3, c4, c5⟩, d0, d1, d2, d3, d4, d5⟩ := arr_six0 hJ
        obtain ⟨⟨p0, p1, p2, p3, p4, p5⟩, f0, f1, f2, f3, f4, f5⟩ := arr_six0 hR
        have hne : w6.heap.size ≠ w.heap.size := by omega
        have HG := Lib.hid (grown_new (grown_same (grown_alloc (World.grownBy.refl w (some g)) _) G0) w6.heap.size 4 (.int .i64 1000000000) (by omega))
        have HSx := Lib.hid (hS9.set w6.heap.size 4 (.int .i64 1000000000) (by omega) (by omega))
        clear hJ hR G0 hS9
        go_wp2
        exact bodyPost_ret (v := .agg #[.string k, .string t, .string f, .string o, .int .i64 1000000000, .string b]) (by simp [results, Tryz.results55, go_sem, p0, p1, p2, p3, p4, p5]; try omega) rfl (st_done HSx.out HG.out hgw (by omega) ⟨hk, ht, hf, ho, hb⟩ (by omega) (by omega))
      · have hR : Arr w9 w.heap.size 70 [.string ⟨#[]⟩, .string ⟨#[]⟩, .string ⟨#[]⟩, .string ⟨#[]⟩, .int .i64 0, .string ⟨#[]⟩] := (Arr.fresh w 70 [.string ⟨#[]⟩, .string ⟨#[]⟩, .string ⟨#[]⟩, .string ⟨#[]⟩, .int .i64 0, .string ⟨#[]⟩]).other G0 (fun e => by injection e; omega)
        obtain ⟨⟨c0, c1, c2, c3, c4, c5⟩, d0, d1, d2, d3, d4, d5⟩ := arr_six0 hJ
        obtain ⟨⟨p0, p1, p2, p3, p4, p5⟩, f0, f1, f2, f3, f4, f5⟩ := arr_six0 hR
        have hne : w6.heap.size ≠ w.heap.size := by omega
        have HG := Lib.hid (grown_new (grown_same (grown_alloc (World.grownBy.refl w (some g)) _) G0) w6.heap.size 4 (.int .i64 1000000001) (by omega))
        have HSx := Lib.hid (hS9.set w6.heap.size 4 (.int .i64 1000000001) (by omega) (by omega))
        clear hJ hR G0 hS9
        go_wp2
        exact bodyPost_ret (v := .agg #[.string k, .string t, .string f, .string o, .int .i64 1000000001, .string b]) (by simp [results, Tryz.results55, go_sem, p0, p1, p2, p3, p4, p5]; try omega) rfl (st_done HSx.out HG.out hgw (by omega) ⟨hk, ht, hf, ho, hb⟩ (by omega) (by omega))
    · have hmk : ∀ u : World, (Instr.makeSlice 38 (.int .i64 3) (.int .i64 3)).run Tryz.prog u = .ok (.slice (some ⟨u.heap.size, 0, none⟩) 3 3) (u.alloc (.cells (madeCells #[.int .u8 0] 3) 5)) := fun u => by
        have h := run_make (P := Tryz.prog) u 38 5 i0 (.int .u8 0) Tryz.underlying38 hi y0 .i64 .i64 3 3 (by omega) (Int.le_refl _) (by rw [y2]; omega) (by omega)
        simpa [y1, Value.cells] using h
      have hcv := run_string_made (P := Tryz.prog) w8 38 9 5 3 Tryz.underlying38 Tryz.underlying5 Tryz.underlying9
      obtain ⟨Z, hZ⟩ : ∃ Z, Z = strOf (List.replicate 3 0) := ⟨_, rfl⟩
      rw [← hZ] at hcv
      have HZ : Hid (∀ s ∈ ([⟨#[10]⟩, Z, ⟨#[127]⟩] : List ByteArray), s.size ≤ 40) := Lib.hid (by rw [hZ]; decide)
      clear hZ
      go_wp2_with fail
      refine (src_pick B g (w8.heap.size + 1) 3 40 _ (by omega) (by omega) ((hS8.alloc _).alloc _) (by omega) (strRow_at (w8.alloc (.cells (madeCells #[.int .u8 0] 3) 5)) 9 40 _ [⟨#[10]⟩, Z, ⟨#[127]⟩] (World.size_alloc ..).symm HZ.out)).mono ?_
      rintro e w9 ⟨_, rfl, ⟨x, rfl, hx⟩, hS9, hg9⟩
      replace hJ := ((hJ.alloc _).alloc _).other hg9 (fun e => by injection e; omega)
      replace G0 := grown_same (grown_alloc (grown_alloc G0 _) _) hg9
      have hz9 := hg9.size
      simp at hz9
      clear hg9 hS8 hmk hcv
      have hR : Arr w9 w.heap.size 70 [.string ⟨#[]⟩, .string ⟨#[]⟩, .string ⟨#[]⟩, .string ⟨#[]⟩, .int .i64 0, .string ⟨#[]⟩] := (Arr.fresh w 70 [.string ⟨#[]⟩, .string ⟨#[]⟩, .string ⟨#[]⟩, .string ⟨#[]⟩, .int .i64 0, .string ⟨#[]⟩]).other G0 (fun e => by injection e; omega)
      obtain ⟨⟨c0, c1, c2, c3, c4, c5⟩, d0, d1, d2, d3, d4, d5⟩ := arr_six0 hJ
      obtain ⟨⟨p0, p1, p2, p3, p4, p5⟩, f0, f1, f2, f3, f4, f5⟩ := arr_six0 hR
      have hne : w6.heap.size ≠ w.heap.size := by omega
      have HG := Lib.hid (grown_new (grown_same (grown_alloc (World.grownBy.refl w (some g)) _) G0) w6.heap.size 5 (.string x) (by omega))
      have HSx := Lib.hid (hS9.set w6.heap.size 5 (.string x) (by omega) (by omega))
      clear hJ hR G0 hS9
      go_wp2
      exact bodyPost_ret (v := .agg #[.string k, .string t, .string f, .string o, .int .i64 n, .string x]) (by simp [results, Tryz.results55, go_sem, p0, p1, p2, p3, p4, p5]; try omega) rfl (st_done HSx.out HG.out hgw (by omega) ⟨hk, ht, hf, ho, hx⟩ (by omega) (by omega))
end Go.Proofs.YtgcfognljkebjaaGreatDoor

namespace Go.Proofs.YtgcfognljkebjaaGreatDoor
set_option linter.unusedSimpArgs false
set_option linter.unusedVariables false
open Go.RowKit

theorem markL_le {k t f o : List UInt8} {n : Int} {b : List UInt8} (hk : k.length ≤ 40) (ht : t.length ≤ 40) (hf : f.length ≤ 40) (ho : o.length ≤ 40) (hb : b.length ≤ 40) (h0 : 0 ≤ n) (h1 : n ≤ 1000000000) : (markL k t f o n b).length ≤ 1000 := by
  have e1 := fld_len wType t
  have e2 := fld_len wFrom f
  have e3 := fld_len wTo o
  have e4 := fld_len wId (idL n)
  have e5 := id_len h0 h1
  have e6 := escL_len b
  have w1 : wType.length = 4 := rfl
  have w2 : wFrom.length = 4 := rfl
  have w3 : wTo.length = 2 := rfl
  have w4 : wId.length = 2 := rfl
  have e7 : (endL k b).length ≤ 300 := by
    unfold endL
    split
    · simp
    · simp; omega
  unfold markL headL
  simp only [List.length_append, List.length_cons]
  omega
theorem stT_le {k t f o : ByteArray} {n : Int} {b : ByteArray} (h : k.size ≤ 40 ∧ t.size ≤ 40 ∧ f.size ≤ 40 ∧ o.size ≤ 40 ∧ b.size ≤ 40) : (stT k t f o n b).size ≤ 1000 := by
  unfold stT
  split
  · rename_i hb
    obtain ⟨h0, h1, _⟩ := stB_id hb
    obtain ⟨a, b, c, d, e⟩ := h
    rw [← size_data] at a b c d e
    rw [strOf_size]
    exact markL_le a b c d e h0 h1
  · exact Nat.zero_le _
theorem list_rd : ∀ s ∈ ([⟨#[60, 105, 113, 47, 62]⟩, ⟨#[60, 105, 113, 32, 47, 62]⟩, ⟨#[60, 105, 113, 32, 105, 100, 61, 39, 48, 39, 47, 62]⟩, ⟨#[60, 105, 113, 32, 105, 100, 61, 39, 48, 49, 39, 47, 62]⟩, ⟨#[60, 105, 113, 62, 60, 47, 105, 113, 62]⟩, ⟨#[60, 105, 113, 32, 116, 111, 61, 39, 97, 39, 32, 102, 114, 111, 109, 61, 39, 98, 39, 47, 62]⟩, ⟨#[60, 105, 113, 32, 116, 121, 112, 101, 61, 39, 39, 47, 62]⟩, ⟨#[60, 109, 101, 115, 115, 97, 103, 101, 62, 38, 108, 116, 59, 60, 47, 109, 101, 115, 115, 97, 103, 101, 62]⟩, ⟨#[60, 109, 101, 115, 115, 97, 103, 101, 62, 97, 60, 47, 105, 113, 62]⟩, ⟨#[]⟩] : List ByteArray), s.size ≤ 40 := by decide
end Go.Proofs.YtgcfognljkebjaaGreatDoor

namespace Go.Proofs.YtgcfognljkebjaaGreatDoor
set_option linter.unusedSimpArgs false
set_option linter.unusedVariables false
open Go.RowKit Go.Joins

theorem hdT_le (f o : ByteArray) (n : Int) : (hdT f o n).size ≤ 100 := by
  unfold hdT
  split
  · rename_i h
    obtain ⟨h1, h2, h3, h4⟩ := hdB_le h
    have h5 := id_len (show 0 ≤ n by omega) h4
    rw [strOf_size]
    unfold hdL
    simp only [List.length_append, List.length_cons, List.length_nil, size_data]
    omega
  · exact Nat.zero_le _
theorem lists5 : (∀ s ∈ ([⟨#[10]⟩, ⟨#[10, 10]⟩] : List ByteArray), s.size ≤ 20) ∧ (∀ s ∈ ([⟨#[]⟩, ⟨#[60, 47, 115, 116, 114, 101, 97, 109, 62, 10]⟩, ⟨#[60, 47, 115, 116, 114, 101, 97, 109, 62]⟩, ⟨#[60, 105, 113]⟩] : List ByteArray), s.size ≤ 20) ∧
    (∀ s ∈ ([⟨#[10]⟩, ⟨#[47, 62, 10]⟩, ⟨#[60, 105, 113, 47, 62, 10]⟩, ⟨#[60, 47, 115, 116, 114, 101, 97, 109, 62, 10]⟩, ⟨#[120, 10]⟩] : List ByteArray), s.size ≤ 20) ∧ (∀ s ∈ ([⟨#[]⟩, ⟨#[60, 105, 113, 47, 62, 10]⟩] : List ByteArray), s.size ≤ 20) := by
  refine ⟨?_, ?_, ?_, ?_⟩ <;> (intro s hs; simp at hs; rcases hs with rfl | hs <;> (try (rcases hs with rfl | hs)) <;> (try (rcases hs with rfl | hs)) <;> (try (rcases hs with rfl | hs)) <;> (try subst hs) <;> decide)
set_option maxRecDepth 100000 in
set_option maxHeartbeats 1000000 in
theorem src_text5 (B g : Nat) (w : World) (hS : Src w B g) : Calls Tryz.prog 35 #[.pointer (some ⟨g, 0, none⟩)] w (Drew B g w (StrIn 3500)) := by
  have HS := Lib.hid hS
  clear hS
  go_enter Tryz.func35, Tryz.ntmps35
  go_wp2_with fail
  refine (src_n B g 9 _ (by omega) HS.out).mono ?_
  rintro e w1 ⟨_, rfl, ⟨r, rfl, h0, h1⟩, hS1, hg1⟩
  have hr9 : r ≤ 9 := by omega
  clear h1
  go_wp2_with fail
  refine (spec_hdtext ⟨#[97]⟩ ⟨#[98]⟩ (1 + r) _ (by decide) (by decide)).mono ?_
  rintro e w2 ⟨rfl, hb2⟩
  have hS2 := hS1.on hb2
  have hg2 := grown_on hg1 hb2
  have hu := hdT_le ⟨#[97]⟩ ⟨#[98]⟩ (1 + r)
  obtain ⟨u, hu0⟩ : ∃ u, u = hdT ⟨#[97]⟩ ⟨#[98]⟩ (1 + r) := ⟨_, rfl⟩
  rw [← hu0] at hu ⊢
  clear hS1 hb2 hg1 hu0
  go_wp2_with fail
  refine (src_n B g 4 _ (by omega) hS2).mono ?_
  rintro e w3 ⟨_, rfl, ⟨r2, rfl, h2, h3⟩, hS3, hg3⟩
  have hg3' := grown_same hg2 hg3
  clear hg2 hg3 hS2 h0
  have hr3 : r2 ≤ 3 := by omega
  clear h3
  go_wp2_with fail
  go_loopw [3, 4] (fun tq kq wr => ∃ (s : ByteArray) (q : Int), tq = .string s ∧ kq = .int .i64 q ∧ 0 ≤ q ∧ q ≤ 3 ∧ (s.size : Int) ≤ 101 + (3 - q) * 1020 ∧ Src wr B g ∧ w.grownBy wr (some g)) (fun _ k _ => (intOf k).toNat)
  case atStart => exact ⟨_, r2, rfl, rfl, h2, hr3, by simp only [ByteArray.size_append]; have : (⟨#[10]⟩ : ByteArray).size = 1 := rfl; omega, hS3, hg3'⟩
  case round =>
    obtain ⟨s, q, rfl, rfl, q0, q3, hs, hSr, hgr⟩ := hrel
    have hs' : s.size ≤ 3200 := by omega
    by_cases hq : 0 < q
    · go_wp2_with fail
      refine (src_st B g _ hSr).mono ?_
      rintro e w4 ⟨_, rfl, ⟨k, t, f, o, n, b, rfl, hz, n0, n1⟩, hS4, hg4⟩
      have hg4' := grown_same hgr hg4
      clear hgr hg4 hSr
      go_wp2_with fail
      refine (spec_sttext k t f o n b _ (by omega) (by omega) (by omega) (by omega) (by omega)).mono ?_
      rintro e w5 ⟨rfl, hb5⟩
      have hS5 := hS4.on hb5
      have hg5 := grown_on hg4' hb5
      have hy0 := stT_le (n := n) hz
      obtain ⟨y, hy⟩ : ∃ y, y = stT k t f o n b := ⟨_, rfl⟩
      rw [← hy] at hy0 ⊢
      clear hS4 hb5 hg4' hy n0 n1 hz
      have hl5 := hS5.lt
      go_wp2_with fail
      refine (src_pick B g w5.heap.size 2 20 _ (by omega) (by omega) (hS5.alloc _) (by omega) (strRow_at w5 9 20 _ [⟨#[10]⟩, ⟨#[10, 10]⟩] rfl lists5.1)).mono ?_
      rintro e w6 ⟨_, rfl, ⟨c, rfl, hc⟩, hS6, hg6⟩
      have hg6' := grown_same (grown_alloc hg5 _) hg6
      clear hg6 hg5 hS5
      go_wp2
      go_roundw
      case rel => exact ⟨_, q - 1, rfl, rfl, by omega, by omega, by simp only [ByteArray.size_append]; omega, hS6, hg6'⟩
      case measure => simp [intOf]; omega
    · have hlr := hSr.lt
      go_wp2_with fail
      refine (src_pick B g wr.heap.size 4 20 _ (by omega) (by omega) (hSr.alloc _) (by omega) (strRow_at wr 9 20 _ [⟨#[]⟩, ⟨#[60, 47, 115, 116, 114, 101, 97, 109, 62, 10]⟩, ⟨#[60, 47, 115, 116, 114, 101, 97, 109, 62]⟩, ⟨#[60, 105, 113]⟩] rfl lists5.2.1)).mono ?_
      rintro e w6 ⟨_, rfl, ⟨c, rfl, hc⟩, hS6, hg6⟩
      have hg6' := grown_same (grown_alloc hgr _) hg6
      clear hg6 hgr
      go_wp2
      go_ret
      exact ⟨_, rfl, ⟨_, rfl, by simp only [ByteArray.size_append]; omega⟩, hS6, hg6'⟩
/-- A drawn stream. -/
def SmIn (v : Value) : Prop := ∃ s R, v = smLV s R ∧ s.f.length ≤ 30 ∧ s.o.length ≤ 30 ∧ R.length ≤ 5000
theorem okS_small {s : SmS} (h : okS s) : s.f.length ≤ 30 ∧ s.o.length ≤ 30 := by
  cases hop : s.op with
  | true =>
    have := hdB_le (h.1 hop)
    rw [strOf_size, strOf_size] at this
    exact ⟨this.1, this.2.1⟩
  | false =>
    obtain ⟨h1, h2, _⟩ := h.2 hop
    rw [h1, h2]
    exact ⟨Nat.zero_le _, Nat.zero_le _⟩
theorem fed_small (s : SmS) (R T : List UInt8) : (feedA s R T).1.s.f.length ≤ 30 ∧ (feedA s R T).1.s.o.length ≤ 30 ∧ (feedA s R T).1.rest.length ≤ 4000 := by
  unfold feedA
  split
  · exact ⟨Nat.zero_le _, Nat.zero_le _, Nat.zero_le _⟩
  · split
    · exact ⟨Nat.zero_le _, Nat.zero_le _, Nat.zero_le _⟩
    · split
      · exact ⟨Nat.zero_le _, Nat.zero_le _, Nat.zero_le _⟩
      · rename_i h1 h2 h3
        have h4 := (smBL_iff (s := s) (R := R)).1 (by simpa using h2)
        have h5 := smBL_iff.1 (feedO_ok h4.1 (R ++ T))
        have h6 := okS_small h5.1
        exact ⟨h6.1, h6.2, h5.2.1⟩
theorem so_field (o : SmO) (p : Option Addr) (n k : Nat) (c : Int) (W : World) : (Instr.field 32 (.agg #[.string (strOf o.s.f), .string (strOf o.s.o), .int .i64 o.s.n, .string (strOf o.rest), .bool o.s.op, .bool o.s.cl, .bool o.s.de, .slice p n k, .int .i64 c]) 0).run Tryz.prog W = .ok (.agg #[.string (strOf o.s.f), .string (strOf o.s.o), .int .i64 o.s.n, .string (strOf o.rest), .bool o.s.op, .bool o.s.cl, .bool o.s.de]) W := by kernel_rfl
theorem so_code (o : SmO) (p : Option Addr) (n k : Nat) (c : Int) (W : World) : (Instr.field 32 (.agg #[.string (strOf o.s.f), .string (strOf o.s.o), .int .i64 o.s.n, .string (strOf o.rest), .bool o.s.op, .bool o.s.cl, .bool o.s.de, .slice p n k, .int .i64 c]) 2).run Tryz.prog W = .ok (.int .i64 c) W := by kernel_rfl
theorem made_text (u : World) (N : Nat) (hN : N ≤ 100000) : (Instr.makeSlice 38 (.int .i64 (N : Int)) (.int .i64 (N : Int))).run Tryz.prog u = .ok (.slice (some ⟨u.heap.size, 0, none⟩) N N) (u.alloc (.cells (madeCells #[.int .u8 0] N) 5)) ∧
    (convert 38 9 (.slice (some ⟨u.heap.size, 0, none⟩) N N)).run Tryz.prog (u.alloc (.cells (madeCells #[.int .u8 0] N) 5)) = .ok (.string (strOf (List.replicate N 0))) (u.alloc (.cells (madeCells #[.int .u8 0] N) 5)) := by
  obtain ⟨i0, hi, y0, y1, y2⟩ := info_parts info_u8d
  have h := run_make (P := Tryz.prog) u 38 5 i0 (.int .u8 0) Tryz.underlying38 hi y0 .i64 .i64 N N (by omega) (Int.le_refl _) (by rw [y2]; omega) (by omega)
  refine ⟨?_, run_string_made (P := Tryz.prog) u 38 9 5 N Tryz.underlying38 Tryz.underlying5 Tryz.underlying9⟩
  simpa [Value.cells, y1] using h
end Go.Proofs.YtgcfognljkebjaaGreatDoor

namespace Go.Proofs.YtgcfognljkebjaaGreatDoor
set_option linter.unusedSimpArgs false
set_option linter.unusedVariables false
open Go.RowKit Go.Joins

theorem grown_setRow {w W : World} {r : Option Nat} (h : w.grownBy W r) (b : Nat) (hb : w.heap.size ≤ b) (cs : Array Value) : w.grownBy (W.setRow b cs) r :=
  ⟨h.os, h.tape, h.output, Nat.le_trans h.size (below_setRow (g := b) (Below.refl 0 W) (Nat.zero_le _) cs).size, fun k hk hne => (setRow_other W b k cs (by omega)).trans (h.block k hk hne)⟩
theorem Src.setRow {W : World} {B g : Nat} (h : Src W B g) (b : Nat) (hne : b ≠ g) (hB : B ≤ b) (cs : Array Value) : Src (W.setRow b cs) B g := by
  obtain ⟨hBg, a, len, cap, at_, mix, size, hA, h1, h2, h3, h4, h5, h6, h7, hrow⟩ := h
  refine ⟨hBg, a, len, cap, at_, mix, size, arr_farRow hA (fun e => hne e.symm) cs, h1, h2, h3, h4, h5, h6, h7, fun k hk => ?_⟩
  obtain ⟨bb, off, z, ha, hb, hc, hz⟩ := hrow k hk
  exact ⟨bb, off, z, ha, hb, (cell_setRow_other W b cs ⟨bb, off + k, none⟩ (by show bb ≠ b; omega)).trans hc, hz⟩
/-- The end of l05Stream: the stream is stored into the answer's box. -/
theorem stream_done {w W : World} {B g : Nat} (s : SmS) (R : List UInt8) (hS : Src W B g) (hG : (w.alloc (.cells #[.string ⟨#[]⟩, .string ⟨#[]⟩, .int .i64 0, .string ⟨#[]⟩, .bool false, .bool false, .bool false] 29)).grownBy W (some g)) (hgw : g < w.heap.size) (hB : B ≤ w.heap.size) (h1 : s.f.length ≤ 30) (h2 : s.o.length ≤ 30) (h3 : R.length ≤ 5000) :
    Drew B g w SmIn (.returned (smLV s R)) (W.setRow w.heap.size #[.string (strOf s.f), .string (strOf s.o), .int .i64 s.n, .string (strOf R), .bool s.op, .bool s.cl, .bool s.de]) := by
  refine ⟨_, rfl, ⟨s, R, rfl, h1, h2, h3⟩, hS.setRow w.heap.size (by omega) hB _, ?_⟩
  exact grown_setRow (grown_same (grown_alloc (World.grownBy.refl w (some g)) _) hG) w.heap.size (Nat.le_refl _) _
theorem stream_box {w W : World} {g : Nat} (hG : (w.alloc (.cells #[.string ⟨#[]⟩, .string ⟨#[]⟩, .int .i64 0, .string ⟨#[]⟩, .bool false, .bool false, .bool false] 29)).grownBy W (some g)) (hgw : g < w.heap.size) : Arr W w.heap.size 29 (smC zeroS []) :=
  Arr.other (Arr.fresh w 29 (smC zeroS [])) hG (fun e => by injection e; omega)
set_option maxRecDepth 100000 in
set_option maxHeartbeats 2000000 in
theorem src_stream5 (B g : Nat) (w : World) (hS : Src w B g) (hB : B ≤ w.heap.size) : Calls Tryz.prog 37 #[.pointer (some ⟨g, 0, none⟩)] w (Drew B g w SmIn) := by
  have HS := Lib.hid hS
  have hgw := hS.lt
  clear hS
  go_enter Tryz.func37, Tryz.ntmps37
  go_wp2_with fail
  refine (src_text5 B g _ (HS.out.alloc _)).mono ?_
  rintro e w1 ⟨_, rfl, ⟨t, rfl, ht⟩, hS1, hg1⟩
  go_wp2_with fail
  refine (src_n B g ((t.size : Int) + 1) _ (by omega) hS1).mono ?_
  rintro e w2 ⟨_, rfl, ⟨r, rfl, h0, h1⟩, hS2, hg2⟩
  have hg2' := grown_same hg1 hg2
  obtain ⟨K, rfl⟩ : ∃ K : Nat, r = K := ⟨r.toNat, by omega⟩
  have hK : K ≤ t.size := by omega
  clear hg1 hg2 hS1 h0 h1
  have i3 : Calls Tryz.prog 7 #[.agg #[.string ⟨#[]⟩, .string ⟨#[]⟩, .int .i64 0, .string ⟨#[]⟩, .bool false, .bool false, .bool false], .string (t.extract 0 K)] w2 (FedAns zeroS [] (t.extract 0 K).data.toList w2) :=
    spec_sfeed zeroS [] (t.extract 0 K).data.toList w2 (Nat.zero_le _) (Nat.zero_le _) (Nat.zero_le _) (by rw [size_data, ByteArray.size_extract]; omega)
  have hsm := fed_small zeroS [] (t.extract 0 K).data.toList
  unfold FedAns at i3
  obtain ⟨A, hA⟩ : ∃ A, feedA zeroS [] (t.extract 0 K).data.toList = A := ⟨_, rfl⟩
  rw [hA] at i3 hsm
  rcases A with ⟨o1, cc⟩
  dsimp only at i3 hsm
  obtain ⟨s1, s2, s3⟩ := hsm
  unfold soV at i3
  clear hA
  go_wp2_with fail
  refine i3.mono ?_
  rintro e w3 ⟨⟨v, rfl, hv⟩, hb3⟩
  obtain ⟨p, k, rfl, _⟩ := hv.row stC_len
  have hS3 := hS2.on hb3
  have hg3 := grown_on hg2' hb3
  have hfd := so_field o1 p o1.xs.length k cc
  clear hv hb3 hS2 hg2' i3
  have hl3 := hS3.lt
  have hz3 := hg3.size
  go_wp2_with fail
  refine (src_one B g 20 _ (by omega) (hS3.alloc _)).mono ?_
  rintro e w4 ⟨_, rfl, ⟨q, rfl⟩, hS4, hg4⟩
  have hA4 := Arr.other (Arr.fresh w3 29 (smC o1.s o1.rest)) hg4 (fun e => by injection e; omega)
  have hg4' := grown_same (grown_alloc hg3 _) hg4
  clear hg4 hg3 hS3 hfd
  obtain ⟨⟨c0, c1, c2, c3, c4, c5, c6⟩, f0, f1, f2, f3, f4, f5, f6⟩ := arr_sev hA4
  simp at hz3
  cases q
  · have HB4 := Lib.hid (stream_box hg4' hgw)
    have HD4 := Lib.hid (stream_done o1.s o1.rest hS4 hg4' hgw hB s1 s2 (by omega))
    clear hA4 hg4' hS4
    go_wp2_with (refine wpList_store_row rfl 29 _ _ rfl w.heap.size _ rfl rfl 29 _ HB4.out (by kernel_rfl) (by rfl) (by kernel_rfl) ?_)
    exact bodyPost_ret (v := smLV o1.s o1.rest) (results_cell_row (P := Tryz.prog) Tryz.results37 _ _ w.heap.size 29 _ (0, 0) _ rfl (setRow_heap _ _ _ _ _ _ HB4.out) Tryz.underlying29 rfl (by kernel_rfl)) rfl HD4.out
  · go_wp2_with fail
    refine (src_n B g 4 _ (by omega) hS4).mono ?_
    rintro e w5 ⟨_, rfl, ⟨r, rfl, h0, h1⟩, hS5, hg5⟩
    have hA5 := Arr.other hA4 hg5 (fun e => by injection e; omega)
    have hg5' := grown_same hg4' hg5
    clear hg5 hg4' hS4 hA4 c0 c1 c2 c3 c4 c5 c6 f0 f1 f2 f3 f4 f5 f6
    obtain ⟨⟨c0, c1, c2, c3, c4, c5, c6⟩, f0, f1, f2, f3, f4, f5, f6⟩ := arr_sev hA5
    have hne : w3.heap.size ≠ g := by omega
    have HB5 := Lib.hid (stream_box hg5' hgw)
    have hz5 := hg5'.size
    have hlt5 := arr_lt hA5
    simp at hz5
    have hrs : (strOf o1.rest).size ≤ 4000 := by rw [strOf_size]; exact s3
    by_cases r0 : r = 0
    · subst r0
      have hcat : strOf o1.rest ++ ⟨#[10]⟩ = strOf (o1.rest ++ [10]) := (strOf_app _ _).symm
      have HS6 := hS5.set w3.heap.size 3 (.string (strOf (o1.rest ++ [10]))) hne (by omega)
      have HG6 := grown_new hg5' w3.heap.size 3 (.string (strOf (o1.rest ++ [10]))) (by simp; omega)
      have HB6 := Lib.hid (stream_box HG6 hgw)
      have HD6 := Lib.hid (stream_done o1.s (o1.rest ++ [10]) HS6 HG6 hgw hB s1 s2 (by first | omega | (simp; omega)))
      clear HS6 HG6 hS5 hg5' hA5
      go_wp2_with (refine wpList_store_row rfl 29 _ _ rfl w.heap.size _ rfl rfl 29 _ HB6.out (by kernel_rfl) (by rfl) (by kernel_rfl) ?_)
      exact bodyPost_ret (v := smLV o1.s (o1.rest ++ [10])) (results_cell_row (P := Tryz.prog) Tryz.results37 _ _ w.heap.size 29 _ (0, 0) _ rfl (setRow_heap _ _ _ _ _ _ HB6.out) Tryz.underlying29 rfl (by kernel_rfl)) rfl HD6.out
    have e0 : (r == 0) = false := by rw [beq_eq_false_iff_ne]; exact r0
    by_cases r1 : r = 1
    · subst r1
      have HS6 := hS5.set w3.heap.size 6 (.bool true) hne (by omega)
      have HG6 := grown_new hg5' w3.heap.size 6 (.bool true) (by simp; omega)
      have HB6 := Lib.hid (stream_box HG6 hgw)
      have HD6 := Lib.hid (stream_done ⟨o1.s.f, o1.s.o, o1.s.n, o1.s.op, o1.s.cl, true⟩ o1.rest HS6 HG6 hgw hB s1 s2 (by first | omega | (simp; omega)))
      clear HS6 HG6 hS5 hg5' hA5
      go_wp2_with (refine wpList_store_row rfl 29 _ _ rfl w.heap.size _ rfl rfl 29 _ HB6.out (by kernel_rfl) (by rfl) (by kernel_rfl) ?_)
      exact bodyPost_ret (v := smLV ⟨o1.s.f, o1.s.o, o1.s.n, o1.s.op, o1.s.cl, true⟩ o1.rest) (results_cell_row (P := Tryz.prog) Tryz.results37 _ _ w.heap.size 29 _ (0, 0) _ rfl (setRow_heap _ _ _ _ _ _ HB6.out) Tryz.underlying29 rfl (by kernel_rfl)) rfl HD6.out
    have e1 : (r == 1) = false := by rw [beq_eq_false_iff_ne]; exact r1
    by_cases r2 : r = 2
    · subst r2
      have HS6 := hS5.set w3.heap.size 4 (.bool !o1.s.op) hne (by omega)
      have HG6 := grown_new hg5' w3.heap.size 4 (.bool !o1.s.op) (by simp; omega)
      have HB6 := Lib.hid (stream_box HG6 hgw)
      have HD6 := Lib.hid (stream_done ⟨o1.s.f, o1.s.o, o1.s.n, !o1.s.op, o1.s.cl, o1.s.de⟩ o1.rest HS6 HG6 hgw hB s1 s2 (by first | omega | (simp; omega)))
      clear HS6 HG6 hS5 hg5' hA5
      go_wp2_with (refine wpList_store_row rfl 29 _ _ rfl w.heap.size _ rfl rfl 29 _ HB6.out (by kernel_rfl) (by rfl) (by kernel_rfl) ?_)
      exact bodyPost_ret (v := smLV ⟨o1.s.f, o1.s.o, o1.s.n, !o1.s.op, o1.s.cl, o1.s.de⟩ o1.rest) (results_cell_row (P := Tryz.prog) Tryz.results37 _ _ w.heap.size 29 _ (0, 0) _ rfl (setRow_heap _ _ _ _ _ _ HB6.out) Tryz.underlying29 rfl (by kernel_rfl)) rfl HD6.out
    have e2 : (r == 2) = false := by rw [beq_eq_false_iff_ne]; exact r2
    go_wp2_with fail
    refine (src_n B g 2 _ (by omega) hS5).mono ?_
    rintro e w6 ⟨_, rfl, ⟨r6, rfl, h2, h3⟩, hS6, hg6⟩
    replace hA5 := Arr.other hA5 hg6 (fun e => by injection e; omega)
    have hg6' := grown_same hg5' hg6
    obtain ⟨N, hN⟩ : ∃ N : Nat, (4000 : Int) + r6 = N := ⟨(4000 + r6).toNat, by omega⟩
    have hN5 : N ≤ 4001 := by omega
    obtain ⟨hmk, hcv⟩ := made_text w6 N (by omega)
    clear hg6 hg5' hS5 c0 c1 c2 c3 c4 c5 c6 f0 f1 f2 f3 f4 f5 f6
    have hz6 := hg6'.size
    have hlt6 := arr_lt hA5
    simp at hz6
    obtain ⟨Z, hZ⟩ : ∃ Z, Z = List.replicate N (0 : UInt8) := ⟨_, rfl⟩
    have hZl : Z.length ≤ 4001 := by rw [hZ]; simpa using hN5
    rw [← hZ] at hcv
    clear hZ
    obtain ⟨⟨c0, c1, c2, c3, c4, c5, c6⟩, f0, f1, f2, f3, f4, f5, f6⟩ := arr_sev hA5
    have HS6 := (hS6.set w3.heap.size 3 (.string (strOf Z)) hne (by omega)).alloc (.cells (madeCells #[.int .u8 0] N) 5)
    have HG6 := grown_alloc (grown_new hg6' w3.heap.size 3 (.string (strOf Z)) (by simp; omega)) (.cells (madeCells #[.int .u8 0] N) 5)
    have HB6 := Lib.hid (stream_box HG6 hgw)
    have HD6 := Lib.hid (stream_done o1.s Z HS6 HG6 hgw hB s1 s2 (by first | omega | (simp; omega)))
    clear HS6 HG6 hS6 hg6' hA5 hN5
    go_wp2_with (refine wpList_store_row rfl 29 _ _ rfl w.heap.size _ rfl rfl 29 _ HB6.out (by kernel_rfl) (by rfl) (by kernel_rfl) ?_)
    exact bodyPost_ret (v := smLV o1.s Z) (results_cell_row (P := Tryz.prog) Tryz.results37 _ _ w.heap.size 29 _ (0, 0) _ rfl (setRow_heap _ _ _ _ _ _ HB6.out) Tryz.underlying29 rfl (by kernel_rfl)) rfl HD6.out
end Go.Proofs.YtgcfognljkebjaaGreatDoor

namespace Go.Proofs.YtgcfognljkebjaaGreatDoor
set_option linter.unusedSimpArgs false
set_option linter.unusedVariables false
open Go.RowKit Go.Joins

/-- The source, the stream's box, the answer's box. -/
def DF (w : World) (b : Nat) (W : World) (s : SmS) (R : List UInt8) : Prop := Src W w.heap.size (w.heap.size + 1) ∧ Arr W b 29 (smC s R) ∧ Arr W w.heap.size 29 (smC zeroS []) ∧ Below w.heap.size w W ∧ w.heap.size + 1 < b
theorem DF.draw {w W W2 : World} {b : Nat} {s : SmS} {R : List UInt8} (h : DF w b W s R) (hg : W.grownBy W2 (some (w.heap.size + 1))) (hS : Src W2 w.heap.size (w.heap.size + 1)) : DF w b W2 s R :=
  ⟨hS, Arr.other h.2.1 hg (fun e => by injection e; have := h.2.2.2.2; omega), Arr.other h.2.2.1 hg (fun e => by injection e; omega), below_grown h.2.2.2.1 h.2.2.2.1.size hg (by omega), h.2.2.2.2⟩
theorem DF.alloc {w W : World} {b : Nat} {s : SmS} {R : List UInt8} (h : DF w b W s R) (o : Obj) : DF w b (W.alloc o) s R :=
  ⟨h.1.alloc o, h.2.1.alloc o, h.2.2.1.alloc o, h.2.2.2.1.alloc h.2.2.2.1.size o, h.2.2.2.2⟩
theorem DF.store {w W : World} {b : Nat} {s s' : SmS} {R R' : List UInt8} (h : DF w b W s R) : DF w b (W.setRow b #[.string (strOf s'.f), .string (strOf s'.o), .int .i64 s'.n, .string (strOf R'), .bool s'.op, .bool s'.cl, .bool s'.de]) s' R' := by
  have hb := h.2.2.2.2
  exact ⟨h.1.setRow b (by omega) (by omega) _, Arr.row h.2.1 (smC s' R'), arr_farRow h.2.2.1 (by omega) _, below_setRow h.2.2.2.1 (by omega) _, hb⟩
set_option maxRecDepth 100000 in
set_option maxHeartbeats 2000000 in
theorem draw_sfeed (a : Option Addr) (len cap : Nat) (w : World) (hlen : len ≤ 1048576) (hrow : SrcRow w w.heap.size a len) :
    Calls Tryz.prog 13 #[.slice a len cap] w fun e w' => (∃ s R t, e = .returned (.tuple #[smLV s R, .string t]) ∧ s.f.length ≤ 30 ∧ s.o.length ≤ 30 ∧ R.length ≤ 5000 ∧ t.size ≤ 5000) ∧ Below w.heap.size w w' := by
  have HR := Lib.hid hrow
  clear hrow
  go_enter Tryz.func13, Tryz.ntmps13
  go_wp2_with fail
  refine (src_sourceB w.heap.size a len cap _ hlen (by simp) (srcRow_alloc HR.out _)).mono ?_
  rintro e w1 ⟨rfl, hS1, hb1⟩
  have hR1 : Arr w1 w.heap.size 29 (smC zeroS []) := arr_below (Arr.fresh w _ (smC zeroS [])) hb1
  have hl1 := hS1.lt
  replace hb1 := below_one hb1
  rw [World.size_alloc] at hS1 hl1
  simp only [World.size_alloc]
  have HD0 : Hid (DF w w1.heap.size (w1.alloc (.cells #[.string ⟨#[]⟩, .string ⟨#[]⟩, .int .i64 0, .string ⟨#[]⟩, .bool false, .bool false, .bool false] 29)) zeroS []) := Lib.hid ⟨hS1.alloc _, Arr.fresh w1 29 (smC zeroS []), hR1.alloc _, hb1.alloc hb1.size _, hl1⟩
  obtain ⟨b, hb⟩ : ∃ b, w1.heap.size = b := ⟨_, rfl⟩
  rw [hb] at HD0
  clear hS1 hR1 hb1
  go_wp2_with fail
  refine (src_text5 _ _ _ HD0.out.1).mono ?_
  rintro e w2 ⟨_, rfl, ⟨t, rfl, ht⟩, hS2, hg2⟩
  have HD2 := Lib.hid (HD0.out.draw hg2 hS2)
  clear hS2 hg2 HD0 hb hl1
  go_wp2_with fail
  refine (src_one _ _ 2 _ (by omega) HD2.out.1).mono ?_
  rintro e w3 ⟨_, rfl, ⟨q, rfl⟩, hS3, hg3⟩
  have HD3 := Lib.hid (HD2.out.draw hg3 hS3)
  clear hS3 hg3 HD2
  cases q
  · go_wp2_with fail
    refine (src_one _ _ 5 _ (by omega) HD3.out.1).mono ?_
    rintro e w6p ⟨_, rfl, ⟨q6, rfl⟩, hS6, hg6⟩
    have HE6 := Lib.hid (HD3.out.draw hg6 hS6)
    clear hS6 hg6 HD3
    cases q6
    · go_wp2_with fail
      refine (src_one _ _ 20 _ (by omega) HE6.out.1).mono ?_
      rintro e w8pa ⟨_, rfl, ⟨q8, rfl⟩, hS8, hg8⟩
      have HE8 := Lib.hid (HE6.out.draw hg8 hS8)
      clear hS8 hg8 HE6
      cases q8
      · obtain ⟨⟨c0, c1, c2, c3, c4, c5, c6⟩, _⟩ := arr_sev HE8.out.2.1
        go_wp2_with (refine wpList_store_row rfl 29 _ _ rfl w.heap.size _ rfl rfl 29 _ HE8.out.2.2.1 (by kernel_rfl) (by rfl) (by kernel_rfl) ?_)
        exact bodyPost_ret (results_pair Tryz.results13 _ _ w.heap.size 29 _ _ _ rfl rfl (setRow_heap _ _ _ _ _ _ HE8.out.2.2.1) Tryz.underlying29 rfl (by kernel_rfl)) rfl ⟨⟨zeroS, [], t, rfl, Nat.zero_le _, Nat.zero_le _, Nat.zero_le _, by omega⟩, below_setRow HE8.out.2.2.2.1 (Nat.le_refl _) _⟩
      · go_wp2_with fail
        refine (src_n _ _ 3 _ (by omega) HE8.out.1).mono ?_
        rintro e w9pa ⟨_, rfl, ⟨r9, rfl, h2, h3⟩, hS9, hg9⟩
        have HE9 := Lib.hid (HE8.out.draw hg9 hS9)
        clear hS9 hg9 HE8
        obtain ⟨N, hN⟩ : ∃ N : Nat, (4000 : Int) + r9 = N := ⟨(4000 + r9).toNat, by omega⟩
        have hN5 : N ≤ 4002 := by omega
        obtain ⟨hmk, hcv⟩ := made_text w9pa N (by omega)
        have HE10 := Lib.hid (HE9.out.alloc (.cells (madeCells #[.int .u8 0] N) 5))
        have hZs : (strOf (List.replicate N (0 : UInt8))).size ≤ 4002 := by rw [strOf_size]; simpa using hN5
        obtain ⟨Z, hZ⟩ : ∃ Z, Z = strOf (List.replicate N (0 : UInt8)) := ⟨_, rfl⟩
        rw [← hZ] at hcv hZs
        clear hZ HE9
        obtain ⟨⟨c0, c1, c2, c3, c4, c5, c6⟩, _⟩ := arr_sev HE10.out.2.1
        go_wp2_with (refine wpList_store_row rfl 29 _ _ rfl w.heap.size _ rfl rfl 29 _ HE10.out.2.2.1 (by kernel_rfl) (by rfl) (by kernel_rfl) ?_)
        exact bodyPost_ret (results_pair Tryz.results13 _ _ w.heap.size 29 _ _ _ rfl rfl (setRow_heap _ _ _ _ _ _ HE10.out.2.2.1) Tryz.underlying29 rfl (by kernel_rfl)) rfl ⟨⟨zeroS, [], Z, rfl, Nat.zero_le _, Nat.zero_le _, Nat.zero_le _, by omega⟩, below_setRow HE10.out.2.2.2.1 (Nat.le_refl _) _⟩
    · go_wp2_with fail
      refine (src_spoilM _ _ 3500 _ _ (by omega) (by omega) HE6.out.1).mono ?_
      rintro e w7p ⟨_, rfl, ⟨u, rfl, hu⟩, hS7, hg7⟩
      have HE7 := Lib.hid (HE6.out.draw hg7 hS7)
      clear hS7 hg7 HE6
      go_wp2_with fail
      refine (src_one _ _ 20 _ (by omega) HE7.out.1).mono ?_
      rintro e w8pb ⟨_, rfl, ⟨q8, rfl⟩, hS8, hg8⟩
      have HE8 := Lib.hid (HE7.out.draw hg8 hS8)
      clear hS8 hg8 HE7
      cases q8
      · obtain ⟨⟨c0, c1, c2, c3, c4, c5, c6⟩, _⟩ := arr_sev HE8.out.2.1
        go_wp2_with (refine wpList_store_row rfl 29 _ _ rfl w.heap.size _ rfl rfl 29 _ HE8.out.2.2.1 (by kernel_rfl) (by rfl) (by kernel_rfl) ?_)
        exact bodyPost_ret (results_pair Tryz.results13 _ _ w.heap.size 29 _ _ _ rfl rfl (setRow_heap _ _ _ _ _ _ HE8.out.2.2.1) Tryz.underlying29 rfl (by kernel_rfl)) rfl ⟨⟨zeroS, [], u, rfl, Nat.zero_le _, Nat.zero_le _, Nat.zero_le _, by omega⟩, below_setRow HE8.out.2.2.2.1 (Nat.le_refl _) _⟩
      · go_wp2_with fail
        refine (src_n _ _ 3 _ (by omega) HE8.out.1).mono ?_
        rintro e w9pb ⟨_, rfl, ⟨r9, rfl, h2, h3⟩, hS9, hg9⟩
        have HE9 := Lib.hid (HE8.out.draw hg9 hS9)
        clear hS9 hg9 HE8
        obtain ⟨N, hN⟩ : ∃ N : Nat, (4000 : Int) + r9 = N := ⟨(4000 + r9).toNat, by omega⟩
        have hN5 : N ≤ 4002 := by omega
        obtain ⟨hmk, hcv⟩ := made_text w9pb N (by omega)
        have HE10 := Lib.hid (HE9.out.alloc (.cells (madeCells #[.int .u8 0] N) 5))
        have hZs : (strOf (List.replicate N (0 : UInt8))).size ≤ 4002 := by rw [strOf_size]; simpa using hN5
        obtain ⟨Z, hZ⟩ : ∃ Z, Z = strOf (List.replicate N (0 : UInt8)) := ⟨_, rfl⟩
        rw [← hZ] at hcv hZs
        clear hZ HE9
        obtain ⟨⟨c0, c1, c2, c3, c4, c5, c6⟩, _⟩ := arr_sev HE10.out.2.1
        go_wp2_with (refine wpList_store_row rfl 29 _ _ rfl w.heap.size _ rfl rfl 29 _ HE10.out.2.2.1 (by kernel_rfl) (by rfl) (by kernel_rfl) ?_)
        exact bodyPost_ret (results_pair Tryz.results13 _ _ w.heap.size 29 _ _ _ rfl rfl (setRow_heap _ _ _ _ _ _ HE10.out.2.2.1) Tryz.underlying29 rfl (by kernel_rfl)) rfl ⟨⟨zeroS, [], Z, rfl, Nat.zero_le _, Nat.zero_le _, Nat.zero_le _, by omega⟩, below_setRow HE10.out.2.2.2.1 (Nat.le_refl _) _⟩
  · go_wp2_with fail
    refine (src_stream5 _ _ _ HD3.out.1 HD3.out.2.2.2.1.size).mono ?_
    rintro e w4 ⟨_, rfl, ⟨s, R, rfl, b1, b2, b3⟩, hS4, hg4⟩
    have HD4 := Lib.hid (HD3.out.draw hg4 hS4)
    clear hS4 hg4 HD3
    unfold smLV
    have HD5 := Lib.hid (HD4.out.store (s' := s) (R' := R))
    have hlr : w4.heap.size ≤ (w4.setRow b #[.string (strOf s.f), .string (strOf s.o), .int .i64 s.n, .string (strOf R), .bool s.op, .bool s.cl, .bool s.de]).heap.size := (below_setRow (g := b) (Below.refl 0 w4) (Nat.zero_le _) _).size
    go_wp2_with (refine wpList_store_row rfl 29 _ _ rfl b _ rfl rfl 29 _ HD4.out.2.1 (by kernel_rfl) (by rfl) (by kernel_rfl) ?_)
    have hl4 := HD4.out.1.lt
    refine (src_pick _ _ w4.heap.size 5 20 _ (by omega) (by omega) (HD5.out.1.alloc _) (by omega) (strRow_at _ 9 20 _ [⟨#[10]⟩, ⟨#[47, 62, 10]⟩, ⟨#[60, 105, 113, 47, 62, 10]⟩, ⟨#[60, 47, 115, 116, 114, 101, 97, 109, 62, 10]⟩, ⟨#[120, 10]⟩] (by simp) lists5.2.2.1)).mono ?_
    rintro e w5 ⟨_, rfl, ⟨c, rfl, hc⟩, hS5, hg5⟩
    have HD6 := Lib.hid ((HD5.out.alloc _).draw hg5 hS5)
    clear hS5 hg5 HD5 HD4 hlr hl4
    have hl5 := HD6.out.1.lt
    go_wp2_with fail
    refine (src_pick _ _ w5.heap.size 2 20 _ (by omega) (by omega) (HD6.out.1.alloc _) (by omega) (strRow_at _ 9 20 _ [⟨#[]⟩, ⟨#[60, 105, 113, 47, 62, 10]⟩] rfl lists5.2.2.2)).mono ?_
    rintro e w5b ⟨_, rfl, ⟨d, rfl, hd⟩, hS5, hg5⟩
    have HD7 := Lib.hid ((HD6.out.alloc _).draw hg5 hS5)
    clear hS5 hg5 HD6 hl5 ht
    have ht : (c ++ d).size ≤ 3500 := by simp only [ByteArray.size_append]; omega
    obtain ⟨y, hy⟩ : ∃ y, c ++ d = y := ⟨_, rfl⟩
    rw [hy] at ht
    go_wp2_with fail
    refine (src_one _ _ 5 _ (by omega) HD7.out.1).mono ?_
    rintro e w6q ⟨_, rfl, ⟨q6, rfl⟩, hS6, hg6⟩
    have HE6 := Lib.hid (HD7.out.draw hg6 hS6)
    clear hS6 hg6 HD7
    cases q6
    · go_wp2_with fail
      refine (src_one _ _ 20 _ (by omega) HE6.out.1).mono ?_
      rintro e w8qa ⟨_, rfl, ⟨q8, rfl⟩, hS8, hg8⟩
      have HE8 := Lib.hid (HE6.out.draw hg8 hS8)
      clear hS8 hg8 HE6
      cases q8
      · obtain ⟨⟨c0, c1, c2, c3, c4, c5, c6⟩, _⟩ := arr_sev HE8.out.2.1
        go_wp2_with (refine wpList_store_row rfl 29 _ _ rfl w.heap.size _ rfl rfl 29 _ HE8.out.2.2.1 (by kernel_rfl) (by rfl) (by kernel_rfl) ?_)
        exact bodyPost_ret (results_pair Tryz.results13 _ _ w.heap.size 29 _ _ _ rfl rfl (setRow_heap _ _ _ _ _ _ HE8.out.2.2.1) Tryz.underlying29 rfl (by kernel_rfl)) rfl ⟨⟨s, R, y, rfl, b1, b2, b3, by omega⟩, below_setRow HE8.out.2.2.2.1 (Nat.le_refl _) _⟩
      · go_wp2_with fail
        refine (src_n _ _ 3 _ (by omega) HE8.out.1).mono ?_
        rintro e w9qa ⟨_, rfl, ⟨r9, rfl, h2, h3⟩, hS9, hg9⟩
        have HE9 := Lib.hid (HE8.out.draw hg9 hS9)
        clear hS9 hg9 HE8
        obtain ⟨N, hN⟩ : ∃ N : Nat, (4000 : Int) + r9 = N := ⟨(4000 + r9).toNat, by omega⟩
        have hN5 : N ≤ 4002 := by omega
        obtain ⟨hmk, hcv⟩ := made_text w9qa N (by omega)
        have HE10 := Lib.hid (HE9.out.alloc (.cells (madeCells #[.int .u8 0] N) 5))
        have hZs : (strOf (List.replicate N (0 : UInt8))).size ≤ 4002 := by rw [strOf_size]; simpa using hN5
        obtain ⟨Z, hZ⟩ : ∃ Z, Z = strOf (List.replicate N (0 : UInt8)) := ⟨_, rfl⟩
        rw [← hZ] at hcv hZs
        clear hZ HE9
        obtain ⟨⟨c0, c1, c2, c3, c4, c5, c6⟩, _⟩ := arr_sev HE10.out.2.1
        go_wp2_with (refine wpList_store_row rfl 29 _ _ rfl w.heap.size _ rfl rfl 29 _ HE10.out.2.2.1 (by kernel_rfl) (by rfl) (by kernel_rfl) ?_)
        exact bodyPost_ret (results_pair Tryz.results13 _ _ w.heap.size 29 _ _ _ rfl rfl (setRow_heap _ _ _ _ _ _ HE10.out.2.2.1) Tryz.underlying29 rfl (by kernel_rfl)) rfl ⟨⟨s, R, Z, rfl, b1, b2, b3, by omega⟩, below_setRow HE10.out.2.2.2.1 (Nat.le_refl _) _⟩
    · go_wp2_with fail
      refine (src_spoilM _ _ 3500 _ _ (by omega) (by omega) HE6.out.1).mono ?_
      rintro e w7q ⟨_, rfl, ⟨u, rfl, hu⟩, hS7, hg7⟩
      have HE7 := Lib.hid (HE6.out.draw hg7 hS7)
      clear hS7 hg7 HE6
      go_wp2_with fail
      refine (src_one _ _ 20 _ (by omega) HE7.out.1).mono ?_
      rintro e w8qb ⟨_, rfl, ⟨q8, rfl⟩, hS8, hg8⟩
      have HE8 := Lib.hid (HE7.out.draw hg8 hS8)
      clear hS8 hg8 HE7
      cases q8
      · obtain ⟨⟨c0, c1, c2, c3, c4, c5, c6⟩, _⟩ := arr_sev HE8.out.2.1
        go_wp2_with (refine wpList_store_row rfl 29 _ _ rfl w.heap.size _ rfl rfl 29 _ HE8.out.2.2.1 (by kernel_rfl) (by rfl) (by kernel_rfl) ?_)
        exact bodyPost_ret (results_pair Tryz.results13 _ _ w.heap.size 29 _ _ _ rfl rfl (setRow_heap _ _ _ _ _ _ HE8.out.2.2.1) Tryz.underlying29 rfl (by kernel_rfl)) rfl ⟨⟨s, R, u, rfl, b1, b2, b3, by omega⟩, below_setRow HE8.out.2.2.2.1 (Nat.le_refl _) _⟩
      · go_wp2_with fail
        refine (src_n _ _ 3 _ (by omega) HE8.out.1).mono ?_
        rintro e w9qb ⟨_, rfl, ⟨r9, rfl, h2, h3⟩, hS9, hg9⟩
        have HE9 := Lib.hid (HE8.out.draw hg9 hS9)
        clear hS9 hg9 HE8
        obtain ⟨N, hN⟩ : ∃ N : Nat, (4000 : Int) + r9 = N := ⟨(4000 + r9).toNat, by omega⟩
        have hN5 : N ≤ 4002 := by omega
        obtain ⟨hmk, hcv⟩ := made_text w9qb N (by omega)
        have HE10 := Lib.hid (HE9.out.alloc (.cells (madeCells #[.int .u8 0] N) 5))
        have hZs : (strOf (List.replicate N (0 : UInt8))).size ≤ 4002 := by rw [strOf_size]; simpa using hN5
        obtain ⟨Z, hZ⟩ : ∃ Z, Z = strOf (List.replicate N (0 : UInt8)) := ⟨_, rfl⟩
        rw [← hZ] at hcv hZs
        clear hZ HE9
        obtain ⟨⟨c0, c1, c2, c3, c4, c5, c6⟩, _⟩ := arr_sev HE10.out.2.1
        go_wp2_with (refine wpList_store_row rfl 29 _ _ rfl w.heap.size _ rfl rfl 29 _ HE10.out.2.2.1 (by kernel_rfl) (by rfl) (by kernel_rfl) ?_)
        exact bodyPost_ret (results_pair Tryz.results13 _ _ w.heap.size 29 _ _ _ rfl rfl (setRow_heap _ _ _ _ _ _ HE10.out.2.2.1) Tryz.underlying29 rfl (by kernel_rfl)) rfl ⟨⟨s, R, Z, rfl, b1, b2, b3, by omega⟩, below_setRow HE10.out.2.2.2.1 (Nat.le_refl _) _⟩
end Go.Proofs.YtgcfognljkebjaaGreatDoor

namespace Go.Proofs.YtgcfognljkebjaaGreatDoor
set_option linter.unusedSimpArgs false
set_option linter.unusedVariables false
open Go.RowKit Go.Joins

set_option maxRecDepth 100000 in
set_option maxHeartbeats 2000000 in
theorem lw_st (xs : List StL) (p q : Option Addr) (c d : Nat) (w : World) (hn : xs.length ≤ 1000000) (hp : RowC stC 6 w p xs) (hq : RowC stC 6 w q xs) :
    Calls Tryz.prog 14 #[.slice p xs.length c, .slice q xs.length d] w fun e w' => e = .returned (.bool true) ∧ Below w.heap.size w w' := by
  obtain ⟨n, hxn⟩ : ∃ n, xs.length = n := ⟨_, rfl⟩
  have HP := Lib.hid hp
  have HQ := Lib.hid hq
  have HN := Lib.hid hxn
  rw [hxn] at hn ⊢
  clear hp hq hxn
  go_enter Tryz.func14, Tryz.ntmps14
  go_wp2
  go_loopw [5] (fun iq wr => ∃ i : Nat, i ≤ n ∧ iq = .int .i64 i ∧ Below w.heap.size w wr) (fun i _ => n - (intOf i).toNat)
  case atStart => exact ⟨0, Nat.zero_le _, rfl, Below.refl _ _⟩
  case round =>
    obtain ⟨i, hi, rfl, hb⟩ := hrel
    have HB := Lib.hid hb
    by_cases hlt : i < n
    · obtain ⟨a, rfl, ha, a0, a1, a2, a3, a4, a5⟩ := row_st HP.out (i := i) (by rw [HN.out]; exact hlt)
      obtain ⟨b, rfl, hb0, b0, b1, b2, b3, b4, b5⟩ := row_st HQ.out (i := i) (by rw [HN.out]; exact hlt)
      obtain ⟨x, hx⟩ : ∃ x, xs[i]'(by rw [HN.out]; exact hlt) = x := ⟨_, rfl⟩
      rw [hx] at a0 b0 a1 b1 a2 b2 a3 b3 a4 b4 a5 b5
      have HS : Hid (Both_st a b i x wr wr) := Lib.hid ⟨⟨⟨(hb.cell (p := ⟨a, i * 6, none⟩) ha).trans a0, (hb.cell (p := ⟨a, i * 6 + 1, none⟩) ha).trans a1, (hb.cell (p := ⟨a, i * 6 + 2, none⟩) ha).trans a2, (hb.cell (p := ⟨a, i * 6 + 3, none⟩) ha).trans a3, (hb.cell (p := ⟨a, i * 6 + 4, none⟩) ha).trans a4, (hb.cell (p := ⟨a, i * 6 + 5, none⟩) ha).trans a5⟩, (hb.cell (p := ⟨b, i * 6, none⟩) hb0).trans b0, (hb.cell (p := ⟨b, i * 6 + 1, none⟩) hb0).trans b1, (hb.cell (p := ⟨b, i * 6 + 2, none⟩) hb0).trans b2, (hb.cell (p := ⟨b, i * 6 + 3, none⟩) hb0).trans b3, (hb.cell (p := ⟨b, i * 6 + 4, none⟩) hb0).trans b4, (hb.cell (p := ⟨b, i * 6 + 5, none⟩) hb0).trans b5⟩, Below.refl _ _, Nat.lt_of_lt_of_le ha hb.size, Nat.lt_of_lt_of_le hb0 hb.size⟩
      clear hb a0 b0 a1 b1 a2 b2 a3 b3 a4 b4 a5 b5 hx ha hb0
      obtain ⟨⟨⟨c0, c1, c2, c3, c4, c5⟩, d0, d1, d2, d3, d4, d5⟩, _⟩ := HS.out
      go_wp2
      go_quiet (fail)
      go_wp2
      go_roundw
      case rel => exact ⟨i + 1, by omega, by go_num, below_drewN HB.out _⟩
      case measure => simp [intOf]; omega
    · obtain rfl : i = n := by omega
      go_wp2
      go_ret
      exact ⟨rfl, HB.out⟩
/-- A dead stream takes nothing more, a closed one tells nothing. -/
theorem dead_math (s : SmS) (R T : List UInt8) : (feedA s R T).2 = 0 → ((feedA s R T).1.s.de = true → (feedA (feedA s R T).1.s (feedA s R T).1.rest T).2 = 11) ∧ (s.cl = true → (feedA s R T).1.xs = []) := by
  intro h
  unfold feedA at h
  split at h
  · exact absurd h (by decide)
  rename_i hT
  split at h
  · exact absurd h (by decide)
  rename_i hB
  split at h
  · exact absurd h (by decide)
  rename_i hd
  have hB' : smBL s R = true := by revert hB; cases smBL s R <;> simp
  have hok := (smBL_iff.1 hB').1
  have hA : feedA s R T = (feedO s (R ++ T), 0) := by unfold feedA; rw [if_neg hT, if_neg hB, if_neg hd]
  rw [hA]
  refine ⟨fun hde => ?_, fun hc => ?_⟩
  · have h1 := feedO_ok hok (R ++ T)
    dsimp only at hde ⊢
    unfold feedA
    rw [if_neg hT, if_neg (by rw [h1]; decide), if_pos hde]
  · have hop : s.op = true := by
      cases ho : s.op with
      | true => rfl
      | false => have := (hok.2 ho).2.2.2; rw [hc] at this; cases this
    obtain ⟨h1, _⟩ := feedK_closed (iniL (R ++ T)) s hc hop
    dsimp only
    unfold feedO restK
    rw [h1]
    cases (feedK s (iniL (R ++ T))).1.cl || (feedK s (iniL (R ++ T))).1.de
    · dsimp only [cond_false]
      split <;> rfl
    · rfl
end Go.Proofs.YtgcfognljkebjaaGreatDoor

namespace Go.Proofs.YtgcfognljkebjaaGreatDoor
set_option linter.unusedSimpArgs false
set_option linter.unusedVariables false
open Go.RowKit Go.Joins

/-- A box that holds a stream. -/
def YBox (w : World) (b : Nat) (W : World) (s : SmS) (R : List UInt8) : Prop := Arr W b 29 (smC s R) ∧ Below w.heap.size w W
theorem YBox.on {w W W2 : World} {b : Nat} {s : SmS} {R : List UInt8} (h : YBox w b W s R) (hb : Below W.heap.size W W2) : YBox w b W2 s R := ⟨arr_below h.1 hb, h.2.trans (hb.mono h.2.size)⟩
theorem YBox.alloc {w W : World} {b : Nat} {s : SmS} {R : List UInt8} (h : YBox w b W s R) (o : Obj) : YBox w b (W.alloc o) s R := h.on ((Below.refl _ _).alloc (Nat.le_refl _) o)
theorem YBox.new {w W : World} {s : SmS} {R : List UInt8} (h : Below w.heap.size w W) : YBox w W.heap.size (W.alloc (.cells (smC s R).toArray 29)) s R := ⟨Arr.fresh W _ _, h.alloc h.size _⟩
/-- What feeding a right-sized stream answers, for both sides. -/
theorem fed_both (s : SmS) (R : List UInt8) (t : ByteArray) (h1 : s.f.length ≤ 30) (h2 : s.o.length ≤ 30) (h3 : R.length ≤ 5000) (h4 : t.size ≤ 10000) : ∀ W : World, Calls Tryz.prog 7 #[.agg #[.string (strOf s.f), .string (strOf s.o), .int .i64 s.n, .string (strOf R), .bool s.op, .bool s.cl, .bool s.de], .string t] W (FedAns s R t.data.toList W) ∧ (MaxL W ∧ TabP W ∧ ErrV W → Calls Tryz.prog 9 #[.agg #[.string (strOf s.f), .string (strOf s.o), .int .i64 s.n, .string (strOf R), .bool s.op, .bool s.cl, .bool s.de], .string t] W (FedAns s R t.data.toList W)) := by
  intro W
  have e : t.data.toList.length ≤ 2000000 := by rw [size_data]; omega
  have i1 := spec_sfeed s R t.data.toList W (by omega) (by omega) (by omega) e
  have i2 := fun hm hp hE => impl_sfeed s R t.data.toList W (by omega) (by omega) (by omega) e hm hp hE
  rw [strOf_toList] at i1 i2
  exact ⟨i1, fun h => i2 h.1 h.2.1 h.2.2⟩
set_option maxRecDepth 100000 in
set_option maxHeartbeats 2000000 in
theorem fndead_law (w : World) (a0 : Option Addr) (len0 cap0 : Nat) (w0 : SrcRow w w.heap.size a0 len0) (a1 : Option Addr) (len1 cap1 : Nat) (w1 : SrcRow w w.heap.size a1 len1) (hm : MaxL w) (hp : TabP w) (hE : ErrV w) :
    Calls Tryz.prog 4 #[.slice a0 len0 cap0, .slice a1 len1 cap1] w fun e w' => e = .returned (.bool true) ∧ Below w.heap.size w w' := by
  have hr0 := Lib.hid w0
  have hr1 := Lib.hid w1
  have HM := Lib.hid (fun W (h : Below w.heap.size w W) => And.intro (hm.below h hm.pos) (And.intro (hp.below h) (hE.below h)))
  clear w0 w1 hm hp hE
  by_cases hbig0 : 1048576 < len0
  · go_enter Tryz.func4, Tryz.ntmps4
    go_wp2
    go_ret
    exact ⟨rfl, Below.refl _ _⟩
  by_cases hbig1 : 1048576 < len1
  · go_enter Tryz.func4, Tryz.ntmps4
    go_wp2
    go_ret
    exact ⟨rfl, Below.refl _ _⟩
  go_enter Tryz.func4, Tryz.ntmps4
  go_wp2_with fail
  refine (draw_sfeed a0 len0 cap0 _ (by omega) hr0.out).mono ?_
  rintro e w1 ⟨⟨s, R, t0, rfl, b1, b2, b3, _⟩, hb1⟩
  rcases s with ⟨f, o, n, op, cl, de⟩
  unfold smLV
  have HK1 := Lib.hid (YBox.new (s := ⟨f, o, n, op, cl, de⟩) (R := R) hb1)
  clear hb1
  go_wp2_with fail
  refine (draw_sfeed a1 len1 cap1 _ (by omega) (hr1.out.lift HK1.out.2 HK1.out.2.size)).mono ?_
  rintro e w2 ⟨⟨s2, R2, t, rfl, _, _, _, ht⟩, hb2⟩
  unfold smLV
  have HK2 := Lib.hid (HK1.out.on hb2)
  clear hb2 HK1
  have i1 := fed_both ⟨f, o, n, op, cl, de⟩ R t b1 b2 b3 (by omega)
  have hxs := sfeed_xs ⟨f, o, n, op, cl, de⟩ R t.data.toList
  have hdm := dead_math ⟨f, o, n, op, cl, de⟩ R t.data.toList
  have hsm := fed_small ⟨f, o, n, op, cl, de⟩ R t.data.toList
  unfold FedAns at i1
  obtain ⟨A, hA⟩ : ∃ A, feedA ⟨f, o, n, op, cl, de⟩ R t.data.toList = A := ⟨_, rfl⟩
  rw [hA] at i1 hxs hdm hsm
  rcases A with ⟨⟨⟨f1, o1, n1, op1, cl1, de1⟩, r1, xs⟩, cc⟩
  dsimp only at i1 hxs hdm hsm
  have i3 := fed_both ⟨f1, o1, n1, op1, cl1, de1⟩ r1 t hsm.1 hsm.2.1 (by omega) (by omega)
  unfold FedAns at i3
  obtain ⟨A2, hA2⟩ : ∃ A, feedA ⟨f1, o1, n1, op1, cl1, de1⟩ r1 t.data.toList = A := ⟨_, rfl⟩
  rw [hA2] at i3 hdm
  rcases A2 with ⟨o3, c3⟩
  dsimp only at i3 hdm
  unfold soV at i1 i3
  dsimp only at i1 i3
  clear hA hA2 hsm b1 b2 b3
  obtain ⟨N, hN⟩ : ∃ N, xs.length = N := ⟨_, rfl⟩
  have HX := Lib.hid hxs
  have i5 := fun p q c d W hp hq => lw_st xs p q c d W hxs hp hq
  rw [hN] at i5
  obtain ⟨⟨c0, c1, c2, c3', c4, c5, c6⟩, _⟩ := arr_sev HK2.out.1
  have hz2 := arr_lt HK2.out.1
  go_wp2_with fail
  have HK2' := Lib.hid (HK2.out.alloc (.cells (smC s2 R2).toArray 29))
  refine ((i1 _).2 (HM.out _ HK2'.out.2)).mono ?_
  rintro e w3 ⟨⟨v1, rfl, hv1⟩, hb3⟩
  have HK3 := Lib.hid (HK2'.out.on hb3)
  obtain ⟨p1, k1, rfl, _⟩ := hv1.row stC_len
  have HV1 := Lib.hid (OBox.new (o := ⟨⟨f1, o1, n1, op1, cl1, de1⟩, r1, xs⟩) (c := cc) hv1)
  have HK3' := Lib.hid (HK3.out.alloc (.cells (soC ⟨⟨f1, o1, n1, op1, cl1, de1⟩, r1, xs⟩ (.slice p1 xs.length k1) cc).toArray 32))
  clear hv1 hb3 HK2' HK2 c0 c1 c2 c3' c4 c5 c6 hz2
  rw [hN] at HV1 HK3' ⊢
  obtain ⟨⟨c0, c1, c2, c3', c4, c5, c6⟩, _⟩ := arr_sev HK3.out.1
  have hz3 := arr_lt HK3.out.1
  go_wp2_with fail
  refine ((i1 _).1).mono ?_
  rintro e w4 ⟨⟨v2, rfl, hv2⟩, hb4⟩
  obtain ⟨p2, k2, rfl, hR2⟩ := hv2.row stC_len
  have HK4 := Lib.hid (HK3'.out.on hb4)
  have HV4 := Lib.hid (HV1.out.on hb4)
  have HR2 := Lib.hid hR2
  rw [hN] at hv2 ⊢
  clear hb4 HK3 HK3' HV1 c0 c1 c2 c3' c4 c5 c6 hz3 i1 hv2 hR2
  obtain ⟨⟨c0, c1, c2, c3', c4, c5, c6⟩, _⟩ := arr_sev HK4.out.1
  have hz3 := arr_lt HK4.out.1
  obtain ⟨⟨d0, d1, d2, d3, d4, d5, d6, d7, d8⟩, _⟩ := arr_nine HV4.out.1
  have hz4 := arr_lt HV4.out.1
  go_wp2_with fail
  refine (i5 p1 p2 k1 k2 _ (row_of (HV4.out.2.alloc _)) (RowC.on HR2.out ((Below.refl _ _).alloc (Nat.le_refl _) _))).mono ?_
  rintro e w5 ⟨rfl, hb5⟩
  have HK5 := Lib.hid ((HK4.out.alloc _).on hb5)
  have HV5 := Lib.hid ((HV4.out.on ((Below.refl _ _).alloc (Nat.le_refl _) _)).on hb5)
  clear hb5 HK4 HV4 HR2 c0 c1 c2 c3' c4 c5 c6 hz3 d0 d1 d2 d3 d4 d5 d6 d7 d8 hz4 i5
  obtain ⟨⟨c0, c1, c2, c3', c4, c5, c6⟩, _⟩ := arr_sev HK5.out.1
  have hz3 := arr_lt HK5.out.1
  obtain ⟨⟨d0, d1, d2, d3, d4, d5, d6, d7, d8⟩, _⟩ := arr_nine HV5.out.1
  have hz4 := arr_lt HV5.out.1
  by_cases hcc : cc = 0
  · subst hcc
    obtain ⟨hd1, hd2⟩ := hdm rfl
    have hcl : (!cl || decide (N = 0)) = true := by
      cases cl
      · rfl
      · have := hd2 rfl
        rw [← hN, this]
        rfl
    clear hd2 hxs HX hN
    cases de1
    · clear hd1
      cases cl
      · go_wp2_with fail
        go_ret
        exact ⟨rfl, HK5.out.2⟩
      · obtain rfl : N = 0 := by simpa using hcl
        go_wp2_with fail
        go_ret
        exact ⟨rfl, HK5.out.2⟩
    · obtain rfl := hd1 rfl
      go_wp2_with fail
      refine ((i3 _).2 (HM.out _ HK5.out.2)).mono ?_
      rintro e w6 ⟨⟨v6, rfl, hv6⟩, hb6⟩
      obtain ⟨p6, k6, rfl, _⟩ := hv6.row stC_len
      have hcode := so_code o3 p6 o3.xs.length k6 11
      have HK6 := Lib.hid (HK5.out.on hb6)
      have HV6 := Lib.hid (HV5.out.on hb6)
      clear hb6 HK5 HV5 c0 c1 c2 c3' c4 c5 c6 hz3 d0 d1 d2 d3 d4 d5 d6 d7 d8 hz4 hv6 i3
      obtain ⟨⟨c0, c1, c2, c3', c4, c5, c6⟩, _⟩ := arr_sev HK6.out.1
      have hz3 := arr_lt HK6.out.1
      obtain ⟨⟨d0, d1, d2, d3, d4, d5, d6, d7, d8⟩, _⟩ := arr_nine HV6.out.1
      have hz4 := arr_lt HV6.out.1
      cases cl
      · go_wp2_with fail
        go_ret
        exact ⟨rfl, HK6.out.2⟩
      · obtain rfl : N = 0 := by simpa using hcl
        go_wp2_with fail
        go_ret
        exact ⟨rfl, HK6.out.2⟩
  · have hce : (cc == 0) = false := by rw [beq_eq_false_iff_ne]; exact hcc
    go_wp2_with fail
    go_ret
    exact ⟨rfl, HK5.out.2⟩
end Go.Proofs.YtgcfognljkebjaaGreatDoor
