/- The draws: what is drawn from bytes is a number within its limits, a string of at most so many bytes. Nothing is said of which one. -/
import Derived.Test.YtpjmcpfmnlfmdaaChecked
import Derived.Test.YtpjmcpfmnlfmdaaMath
import Derived.Deep.QuietTactic
import Derived.BigQuiet
import Derived.RegionTactic
import Derived.IntWalk
namespace Go.Proofs.Ytpjmcpfmnlfmdaa
set_option linter.unusedSimpArgs false
set_option linter.unusedVariables false
open Go.RowKit

/-- The first len cells of a slice are bytes that lie below B. -/
def SrcRow (w : World) (B : Nat) (a : Option Addr) (len : Nat) : Prop :=
  ∀ k, k < len → ∃ (b off : Nat) (z : Int), a = some ⟨b, off, none⟩ ∧ b < B ∧ w.cell? ⟨b, off + k, none⟩ = some (.int .u8 z) ∧ 0 ≤ z ∧ z ≤ 255
theorem lt_of_cell {w : World} {b i : Nat} {v : Value} (h : w.cell? ⟨b, i, none⟩ = some v) : b < w.heap.size := by
  rcases Nat.lt_or_ge b w.heap.size with h1 | h1
  · exact h1
  · simp [World.cell?, Array.getElem?_eq_none h1] at h
theorem SrcRow.grown {w w' : World} {B g : Nat} {a : Option Addr} {len : Nat} (h : SrcRow w B a len) (hg : w.grownBy w' (some g)) (hB : B ≤ g) : SrcRow w' B a len := by
  intro k hk
  obtain ⟨b, off, z, ha, hb, hc, h0, h1⟩ := h k hk
  refine ⟨b, off, z, ha, hb, ?_, h0, h1⟩
  rw [World.cell?_of_block (w := w) (hg.block b (lt_of_cell hc) (by simp; omega))]
  exact hc
theorem grown_set {w w1 : World} {g : Nat} (h : w.grownBy w1 (some g)) (i : Nat) (v : Value) : w.grownBy (w1.setCell ⟨g, i, none⟩ v) (some g) :=
  ⟨h.os, h.tape, h.output, by simpa [World.setCell] using h.size, fun k hk hne => (Below.heap_setCell w1 ⟨g, i, none⟩ v k (fun e => hne (by simp at e; rw [e]))).trans (h.block k hk hne)⟩
theorem grown_drew {w w1 : World} {r : Option Nat} (h : w.grownBy w1 r) : w.grownBy w1.drew r := ⟨h.os, h.tape, h.output, h.size, h.block⟩
theorem grown_drewN {w w1 : World} {r : Option Nat} (h : w.grownBy w1 r) (n : Nat) : w.grownBy (w1.drewN n) r := ⟨h.os, h.tape, h.output, h.size, h.block⟩

/-- Block g (not below B) is a source over bytes that lie below B. -/
def Src (w : World) (B g : Nat) : Prop := B ≤ g ∧ ∃ (a : Option Addr) (len cap : Nat) (at_ mix size : Int),
  Arr w g 86 [.slice a len cap, .int .i64 at_, .int .u64 mix, .int .i64 size] ∧ 0 ≤ at_ ∧ at_ ≤ (len : Int) ∧ 0 ≤ mix ∧ mix ≤ 18446744073709551615 ∧ 0 ≤ size ∧ size ≤ 12 ∧ len ≤ 1048576 ∧
  SrcRow w B a len

/-- A call that draws: it answers some v of which P holds; only the source and what is new have turned. -/
def Drew (B g : Nat) (w : World) (P : Value → Prop) (e : Ending) (w' : World) : Prop := ∃ v, e = .returned v ∧ P v ∧ Src w' B g ∧ w.grownBy w' (some g)
def NumIn (most : Int) (v : Value) : Prop := ∃ r : Int, v = .int .i64 r ∧ 0 ≤ r ∧ (r < most ∨ r = 0)

theorem src_done {w w' : World} {B g : Nat} {P : Value → Prop} {v : Value} {a : Option Addr} {len cap : Nat} {at_ mix size : Int} (hP : P v) (hBg : B ≤ g)
    (hA : Arr w' g 86 [.slice a len cap, .int .i64 at_, .int .u64 mix, .int .i64 size]) (a0 : 0 ≤ at_) (a1 : at_ ≤ (len : Int)) (m0 : 0 ≤ mix) (m1 : mix ≤ 18446744073709551615) (s0 : 0 ≤ size) (s1 : size ≤ 12) (hl : len ≤ 1048576)
    (hr : SrcRow w B a len) (hg : w.grownBy w' (some g)) : Drew B g w P (.returned v) w' :=
  ⟨v, rfl, hP, ⟨hBg, a, len, cap, at_, mix, size, hA, a0, a1, m0, m1, s0, s1, hl, hr.grown hg hBg⟩, hg⟩
theorem rem_in {x most : Int} (_ : 0 ≤ x) (h1 : 1 < most) (hm : most ≤ 9223372036854775807) : 0 ≤ wrap64 (x % most) ∧ (wrap64 (x % most) < most ∨ wrap64 (x % most) = 0) := by
  have a := Int.emod_nonneg x (b := most) (by omega)
  have b := Int.emod_lt_of_pos x (b := most) (by omega)
  rw [IntWalk.wrap64_in _ ⟨by omega, by omega⟩]
  exact ⟨a, .inl b⟩
theorem bits_range {op : BinOp} {a b M : Int} (h : bits op IntKind.u64 a b = M) : 0 ≤ M ∧ M ≤ 18446744073709551615 := by
  have hw := wf_bits (k := .u64) op a b
  rw [h] at hw
  simpa [Lit.wf, IntKind.min, IntKind.max, IntKind.signed, IntKind.bits] using hw

set_option maxRecDepth 100000 in
set_option maxHeartbeats 2000000 in
theorem src_n (B g : Nat) (most : Int) (w : World) (hm : most ≤ 9223372036854775807) (hS : Src w B g) :
    Calls Try.prog 60 #[.pointer (some ⟨g, 0, none⟩), .int .i64 most] w (Drew B g w (NumIn most)) := by
  by_cases h1 : most ≤ 1
  · have HS := Lib.hid hS
    clear hS
    go_enter Try.func60, Try.ntmps60
    go_wp2
    go_ret
    exact ⟨_, rfl, ⟨0, rfl, by omega, .inr rfl⟩, HS.out, World.grownBy.refl w _⟩
  · obtain ⟨hBg, a, len, cap, at_, mix, size, hA, ha0, ha1, hx0, hx1, hz0, hz1, hlen, hrow⟩ := hS
    have k0 : w.cell? ⟨g, 0, none⟩ = some (.slice a len cap) := hA.cell 0
    have k1 : w.cell? ⟨g, 1, none⟩ = some (.int .i64 at_) := hA.cell 1
    have k2 : w.cell? ⟨g, 2, none⟩ = some (.int .u64 mix) := hA.cell 2
    have f1 : w.frozen? ⟨g, 1, none⟩ = false := hA.free 1
    have f2 : w.frozen? ⟨g, 2, none⟩ = false := hA.free 2
    have HA := Lib.hid hA
    have HR := Lib.hid hrow
    clear hA hrow
    obtain ⟨M1, hM1⟩ : ∃ M, bits BinOp.xor IntKind.u64 mix (IntKind.u64.wrap (mix * 8192)) = M := ⟨_, rfl⟩
    obtain ⟨b10, b11⟩ := bits_range hM1
    obtain ⟨M2, hM2⟩ : ∃ M, bits BinOp.xor IntKind.u64 M1 (M1 / 128) = M := ⟨_, rfl⟩
    obtain ⟨b20, b21⟩ := bits_range hM2
    obtain ⟨M3, hM3⟩ : ∃ M, bits BinOp.xor IntKind.u64 M2 (IntKind.u64.wrap (M2 * 131072)) = M := ⟨_, rfl⟩
    obtain ⟨b30, b31⟩ := bits_range hM3
    by_cases hend : at_ < (len : Int)
    · obtain ⟨A, rfl⟩ : ∃ A : Nat, at_ = A := ⟨at_.toNat, by omega⟩
      obtain ⟨b, off, z, rfl, hb, hcz, hz00, hz11⟩ := HR.out A (by omega)
      have hbg : b ≠ g := by omega
      have f1 : w.frozen? ⟨g, 1, none⟩ = false := f1
      have kk : ∀ n, ((w.drewN n).setCell ⟨g, 1, none⟩ (.int .i64 ((A : Int) + 1))).cell? ⟨g, 2, none⟩ = some (.int .u64 mix) := fun n => (World.cell?_setCell_other (w.drewN n) ⟨g, 1, none⟩ ⟨g, 2, none⟩ _ (by simp)).trans k2
      have hk3 : ∀ n, (((((w.drewN n).setCell ⟨g, 1, none⟩ (.int .i64 ((A : Int) + 1))).setCell ⟨g, 2, none⟩ (.int .u64 M1)).setCell ⟨g, 2, none⟩ (.int .u64 M2)).setCell ⟨g, 2, none⟩ (.int .u64 M3)).cell? ⟨g, 2, none⟩ = some (.int .u64 M3) := fun n =>
        World.cell?_setCell_same _ _ _ (World.cell?_setCell_same _ _ _ (World.cell?_setCell_same _ _ _ (kk n)))
      have hk2 : ∀ n, ((((w.drewN n).setCell ⟨g, 1, none⟩ (.int .i64 ((A : Int) + 1))).setCell ⟨g, 2, none⟩ (.int .u64 M1)).setCell ⟨g, 2, none⟩ (.int .u64 M2)).cell? ⟨g, 2, none⟩ = some (.int .u64 M2) := fun n =>
        World.cell?_setCell_same _ _ _ (World.cell?_setCell_same _ _ _ (kk n))
      have hk1 : ∀ n, (((w.drewN n).setCell ⟨g, 1, none⟩ (.int .i64 ((A : Int) + 1))).setCell ⟨g, 2, none⟩ (.int .u64 M1)).cell? ⟨g, 2, none⟩ = some (.int .u64 M1) := fun n =>
        World.cell?_setCell_same _ _ _ (kk n)
      go_enter Try.func60, Try.ntmps60
      go_wp2
      go_quiet (fail)
      go_wp2
      go_quiet (fail)
      go_wp2
      go_region
      go_wp2
      go_region
      go_wp2
      go_region
      go_wp2
      go_ret
      exact src_done ⟨wrap64 ((z + M3 / 1048576) % most), rfl, rem_in (by omega) (by omega) hm⟩ hBg (((Arr.put (w := w.drewN _) HA.out 1 _).put 2 _).put 2 _ |>.put 2 _) (by omega) (by omega) b30 b31 hz0 hz1 hlen HR.out
        (grown_drew (grown_drew (grown_drew (grown_set (grown_set (grown_set (grown_set (grown_drewN (World.grownBy.refl w _) _) _ _) _ _) _ _) _ _))))
    · have hk3 : ∀ n, ((((w.drewN n).setCell ⟨g, 2, none⟩ (.int .u64 M1)).setCell ⟨g, 2, none⟩ (.int .u64 M2)).setCell ⟨g, 2, none⟩ (.int .u64 M3)).cell? ⟨g, 2, none⟩ = some (.int .u64 M3) := fun n =>
        World.cell?_setCell_same _ _ _ (World.cell?_setCell_same _ _ _ (World.cell?_setCell_same (w.drewN n) _ _ k2))
      go_enter Try.func60, Try.ntmps60
      go_wp2
      go_quiet (fail)
      go_wp2
      go_region
      go_wp2
      go_region
      go_wp2
      go_region
      go_wp2
      go_ret
      have hgr : w.grownBy ((((w.drewN (nq + 1)).setCell ⟨g, 2, none⟩ (.int .u64 M1)).setCell ⟨g, 2, none⟩ (.int .u64 M2)).setCell ⟨g, 2, none⟩ (.int .u64 M3)).drew.drew (some g) :=
        grown_drew (grown_drew (grown_set (grown_set (grown_set (grown_drewN (World.grownBy.refl w _) _) _ _) _ _) _ _))
      have hA' : Arr (w.drewN (nq + 1)) g 86 [.slice a len cap, .int .i64 at_, .int .u64 mix, .int .i64 size] := HA.out
      refine ⟨_, rfl, ⟨wrap64 (M3 / 1048576 % most), rfl, ?_⟩, ⟨hBg, a, len, cap, at_, M3, size, ((hA'.put 2 _).put 2 _).put 2 _, ha0, ha1, b30, b31, hz0, hz1, hlen, HR.out.grown hgr hBg⟩, hgr⟩
      exact rem_in (by omega) (by omega) hm

def BoolIn (v : Value) : Prop := ∃ b : Bool, v = .bool b
theorem src_one (B g : Nat) (of : Int) (w : World) (hm : of ≤ 9223372036854775807) (hS : Src w B g) :
    Calls Try.prog 41 #[.pointer (some ⟨g, 0, none⟩), .int .i64 of] w (Drew B g w BoolIn) := by
  have HS := Lib.hid hS
  clear hS
  go_enter Try.func41, Try.ntmps41
  go_wp2_with (go_at_call 60; refine (src_n B g of _ hm HS.out).mono ?_; rintro e w1 ⟨_, rfl, ⟨r, rfl, h0, h1⟩, hS1, hg1⟩)
  all_goals
    go_ret
    exact ⟨_, rfl, ⟨_, rfl⟩, hS1, hg1⟩

theorem SrcRow.below {w w' : World} {B : Nat} {a : Option Addr} {len : Nat} (h : SrcRow w B a len) (hb : Below B w w') : SrcRow w' B a len := by
  intro k hk
  obtain ⟨b, off, z, ha, hB, hc, h0, h1⟩ := h k hk
  exact ⟨b, off, z, ha, hB, (hb.cell (p := ⟨b, off + k, none⟩) hB).trans hc, h0, h1⟩
theorem info_u8d : (Try.prog.info? 5).map (fun i => (i.zero, i.size, i.bytes)) = some (some (.int .u8 0), 1, 1) := by kernel_rfl
theorem own_empty_d (w : World) (e : TypeId) : (w.alloc (.cells #[] e)).ownsRow w.heap.size e 1 (.slice (some ⟨w.heap.size, 0, none⟩) 0 0) 0 [] :=
  ⟨by simp, .inr ⟨w.heap.size, 0, #[], rfl, Nat.le_refl _, heap_alloc_new w _, Nat.le_refl _, Nat.zero_le _, by simp, by simp⟩⟩
theorem grown_alloc {w w1 : World} {r : Option Nat} (h : w.grownBy w1 r) (o : Obj) : w.grownBy (w1.alloc o) r :=
  ⟨h.os, h.tape, h.output, Nat.le_trans h.size (by simp), fun k hk hne => (Below.heap_alloc w1 o k (Nat.lt_of_lt_of_le hk h.size)).trans (h.block k hk hne)⟩
theorem Arr.alloc {w : World} {b t : Nat} {cs : List Value} (h : Arr w b t cs) (o : Obj) : Arr (w.alloc o) b t cs := by
  have hlt : b < w.heap.size := by
    rcases Nat.lt_or_ge b w.heap.size with h1 | h1
    · exact h1
    · unfold Arr at h; rw [Array.getElem?_eq_none h1] at h; cases h
  exact (Below.heap_alloc w o b hlt).trans h
theorem Src.alloc {w : World} {B g : Nat} (h : Src w B g) (o : Obj) : Src (w.alloc o) B g := by
  obtain ⟨hBg, a, len, cap, at_, mix, size, hA, h1, h2, h3, h4, h5, h6, h7, hr⟩ := h
  refine ⟨hBg, a, len, cap, at_, mix, size, hA.alloc o, h1, h2, h3, h4, h5, h6, h7, ?_⟩
  intro k hk
  obtain ⟨b, off, z, ha, hB, hc, h0, h1⟩ := hr k hk
  exact ⟨b, off, z, ha, hB, (World.cell?_alloc_lt w o ⟨b, off + k, none⟩ (lt_of_cell hc)).trans hc, h0, h1⟩
/-- What is owned elsewhere has grown: the source stands. -/
theorem Src.other {w w' : World} {B g : Nat} {r : Option Nat} (h : Src w B g) (hg : w.grownBy w' r) (hne : ∀ q, r = some q → q ≠ g) (hlt : g < w.heap.size) (hr : ∀ q, r = some q → B ≤ q) : Src w' B g := by
  obtain ⟨hBg, a, len, cap, at_, mix, size, hA, h1, h2, h3, h4, h5, h6, h7, hrow⟩ := h
  refine ⟨hBg, a, len, cap, at_, mix, size, (hg.block g hlt (fun e => hne g e.symm rfl)).trans hA, h1, h2, h3, h4, h5, h6, h7, ?_⟩
  intro k hk
  obtain ⟨b, off, z, ha, hB, hc, h0, h1⟩ := hrow k hk
  refine ⟨b, off, z, ha, hB, ?_, h0, h1⟩
  rw [World.cell?_of_block (w := w) (hg.block b (lt_of_cell hc) (fun e => by have := hr b e.symm; omega))]
  exact hc
theorem grown_same {w w1 w2 : World} {r : Option Nat} (h : w.grownBy w1 r) (k : w1.grownBy w2 r) : w.grownBy w2 r :=
  ⟨k.os.trans h.os, k.tape.trans h.tape, k.output.trans h.output, Nat.le_trans h.size k.size, fun i hi hne => (k.block i (Nat.lt_of_lt_of_le hi h.size) hne).trans (h.block i hi hne)⟩
/-- A row of the call's own has grown besides. -/
theorem grown_over {w w1 w2 : World} {r s : Option Nat} (h : w.grownBy w1 r) (k : w1.grownBy w2 s) (hs : ∀ q, s = some q → w.heap.size ≤ q) : w.grownBy w2 r :=
  ⟨k.os.trans h.os, k.tape.trans h.tape, k.output.trans h.output, Nat.le_trans h.size k.size, fun i hi hne => (k.block i (Nat.lt_of_lt_of_le hi h.size) (fun e => by have := hs i e.symm; omega)).trans (h.block i hi hne)⟩
/-- A source has been made. -/
def SrcMade (w : World) (e : Ending) (w' : World) : Prop := e = .returned (.pointer (some ⟨w.heap.size, 0, none⟩)) ∧ Src w' w.heap.size w.heap.size ∧ Below w.heap.size w w'

def SrcMadeB (B : Nat) (w : World) (e : Ending) (w' : World) : Prop := e = .returned (.pointer (some ⟨w.heap.size, 0, none⟩)) ∧ Src w' B w.heap.size ∧ Below w.heap.size w w'
theorem wrap_range {a M : Int} (h : IntKind.u64.wrap a = M) : 0 ≤ M ∧ M ≤ 18446744073709551615 := by
  rw [wrap_u64] at h
  omega

set_option maxRecDepth 100000 in
set_option maxHeartbeats 2000000 in
theorem src_sourceB (B : Nat) (a : Option Addr) (len cap : Nat) (w : World) (hlen : len ≤ 1048576) (hB : B ≤ w.heap.size) (hrow : SrcRow w B a len) :
    Calls Try.prog 39 #[.slice a len cap] w (SrcMadeB B w) := by
  have HR := Lib.hid hrow
  clear hrow
  go_enter Try.func39, Try.ntmps39
  go_wp2
  go_loopw [4] (fun i wr => ∃ (k : Nat) (mix : Int), i = .int .i64 (k : Int) ∧ k ≤ len ∧ k ≤ 64 ∧ 0 ≤ mix ∧ mix ≤ 18446744073709551615 ∧ Arr wr w.heap.size 86 [.slice a len cap, .int .i64 0, .int .u64 mix, .int .i64 0] ∧ Below w.heap.size w wr)
    (fun i _ => 64 - (intOf i).toNat)
  case atStart => exact ⟨0, 88172645463325252, rfl, by omega, by omega, by omega, by omega, Arr.fresh w _ [.slice a len cap, .int .i64 0, .int .u64 88172645463325252, .int .i64 0], (Below.refl _ _).alloc (Nat.le_refl _) _⟩
  case round =>
    obtain ⟨k, mix, rfl, hk, hk64, hm0, hm1, hA, hbel⟩ := hrel
    have k2 : wr.cell? ⟨w.heap.size, 2, none⟩ = some (.int .u64 mix) := hA.cell 2
    have k3 : wr.cell? ⟨w.heap.size, 3, none⟩ = some (.int .i64 0) := hA.cell 3
    have f2 : wr.frozen? ⟨w.heap.size, 2, none⟩ = false := hA.free 2
    have f3 : wr.frozen? ⟨w.heap.size, 3, none⟩ = false := hA.free 3
    have HA := Lib.hid hA
    clear hA
    by_cases hlt : k < len ∧ k < 64
    · obtain ⟨hl, h64⟩ := hlt
      obtain ⟨b, off, z, rfl, hb, hcz, hz0, hz1⟩ := (HR.out.below (hbel.mono hB)) k hl
      have hbne : b ≠ w.heap.size := by omega
      go_wp2
      go_region
      go_wp2
      go_roundw
      case rel =>
        obtain ⟨M, hM⟩ : ∃ M, IntKind.u64.wrap (bits BinOp.xor IntKind.u64 mix z * 1099511628211) = M := ⟨_, rfl⟩
        obtain ⟨r0, r1⟩ := wrap_range hM
        rw [hM]
        exact ⟨k + 1, M, by go_num, by omega, by omega, r0, r1, HA.out.put 2 _, (hbel.setCell (Nat.le_refl _) _).drew⟩
      case measure => simp [intOf]; omega
    · have hA3 : ∀ x : Int, (wr.setCell ⟨w.heap.size, 3, none⟩ (.int .i64 x)).cell? ⟨w.heap.size, 3, none⟩ = some (.int .i64 x) := fun x => World.cell?_setCell_same _ _ _ k3
      by_cases hbig : 12 < (len : Int) / 20
      · by_cases hl : k < len
        · have h64 : ¬ k < 64 := fun h => hlt ⟨hl, h⟩
          clear hlt
          go_wp2
          go_ret
          exact ⟨rfl, ⟨hB, a, len, cap, 0, mix, 12, (HA.out.put 3 _).put 3 _, by omega, by omega, hm0, hm1, by omega, by omega, hlen, HR.out.below (((hbel.setCell (Nat.le_refl _) _).setCell (Nat.le_refl _) _).mono hB)⟩, (hbel.setCell (Nat.le_refl _) _).setCell (Nat.le_refl _) _⟩
        · omega
      · by_cases hl : k < len
        · have h64 : ¬ k < 64 := fun h => hlt ⟨hl, h⟩
          clear hlt
          go_wp2
          go_ret
          exact ⟨rfl, ⟨hB, a, len, cap, 0, mix, _, HA.out.put 3 _, by omega, by omega, hm0, hm1, by omega, by omega, hlen, HR.out.below ((hbel.setCell (Nat.le_refl _) _).mono hB)⟩, hbel.setCell (Nat.le_refl _) _⟩
        · clear hlt
          go_wp2
          go_ret
          exact ⟨rfl, ⟨hB, a, len, cap, 0, mix, _, HA.out.put 3 _, by omega, by omega, hm0, hm1, by omega, by omega, hlen, HR.out.below ((hbel.setCell (Nat.le_refl _) _).mono hB)⟩, hbel.setCell (Nat.le_refl _) _⟩
theorem src_source (a : Option Addr) (len cap : Nat) (w : World) (hlen : len ≤ 1048576) (hrow : SrcRow w w.heap.size a len) :
    Calls Try.prog 39 #[.slice a len cap] w (SrcMade w) := src_sourceB w.heap.size a len cap w hlen (Nat.le_refl _) hrow

/-- Some bytes, at most so many. -/
def StrIn (most : Nat) (v : Value) : Prop := ∃ s : ByteArray, v = .string s ∧ s.size ≤ most

/-- A slice of bytes that came in is a row of bytes. -/
theorem srcRow_of {w : World} {x : Addr} {zs : List Int} {len : Nat} (hl : len ≤ zs.length) (hc : ∀ i, i < zs.length → w.cell? (x.add i) = some (.int .u8 (zs.getD i 0))) (hw : ∀ n ∈ zs, (Lit.int .u8 n).wf = true) : SrcRow w w.heap.size (some x) len := by
  intro k hk
  obtain ⟨b, off, rfl, hcell⟩ := ints_at hc (show 0 < zs.length by omega)
  have hk' : k < zs.length := by omega
  have h1 := hcell k hk'
  have hmem : zs.getD k 0 ∈ zs := by
    rw [List.getD_eq_getElem?_getD, List.getElem?_eq_getElem hk']
    exact List.getElem_mem hk'
  have hb := hw _ hmem
  have hr : 0 ≤ zs.getD k 0 ∧ zs.getD k 0 ≤ 255 := by simpa [Lit.wf, IntKind.min, IntKind.max, IntKind.signed, IntKind.bits] using hb
  exact ⟨b, off, _, rfl, lt_of_cell h1, h1, hr.1, hr.2⟩
theorem srcRow_nil {w : World} {B : Nat} {a : Option Addr} : SrcRow w B a 0 := fun k hk => by omega
end Go.Proofs.Ytpjmcpfmnlfmdaa
