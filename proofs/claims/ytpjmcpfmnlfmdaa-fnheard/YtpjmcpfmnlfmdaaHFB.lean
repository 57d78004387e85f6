/- Several parts in one text: StHand, StForms, StEscMath, StTextMath, StEscS, StTextS, MarkText, RowMk, RwStr, SeRow, BkArg, StSmall, JidReadMore, StAddr, SeCmp, HandQ, SmJoin, BkRight, BkLawR, MbRow, SeFrame, ArMsg, EqMsg, SeMath, SeSmall, SeRightI, SeRightS, ArSession, EqSession, SeLawR, SeAt, SeCopy, SeWithI, SeStrs, SeAny, SeBestM, SeSel, SeWithS, BkMath, BkOps, BkSpec, BkAdd, BkOutL, DrawBase, EdgeBase, PickDraws, BkDraw. -/
import Derived.Test.YtpjmcpfmnlfmdaaHFA
import Derived.Deep.RegionHeld3
import Derived.Test.YtpjmcpfmnlfmdaaChecked
import Derived.Maps.OwnSet
import Derived.Maps.RangeWalk
import Derived.Maps.Ext
import Derived.WalkKit
import Derived.ProofKit
import Derived.Deep.DeepFit
import Derived.Lib.ItoaNum
import Derived.Lib.AppendStr
import Derived.Lib.SmallJoins
import Derived.OpenShut
import Derived.ShutString
import Derived.Deep.Slices
import Derived.Deep.MidRow
import Derived.Laws.CopyOwn
import Derived.Lib.OthersKept
import Derived.Laws.RangeAny
import Derived.IntWalk
import Derived.Laws.Cover1
import Derived.OwnWalk
import Derived.Laws.AppendOwn
import Derived.Lib.SliceRun
import Derived.Test.YtpjmcpfmnlfmdaaShelfB
import Derived.Deep.QuietTactic
import Derived.BigQuiet
import Derived.RegionTactic
namespace Go.Proofs.Ytpjmcpfmnlfmdaa
set_option linter.unusedSimpArgs false
set_option linter.unusedVariables false
open Go.RowKit

theorem takeH {P : Program} {ops : Array Oper} {Q : Exit → Act → World → Prop} {md : Region.Mode} {S : World → Prop} {i k : Nat} {oi : Oper} {v : Value} {fuel : Nat} {listed : Array Bool} {a : Act} {w : World} (hi : ops[i]? = some oi) (hd : oi.dst = some k)
    (hs : Region.noSelect ops = true) (hf : Region.free md ops listed i = true) (hr : (Region.ready md ops listed).contains i = true) (hQ : ∀ c a w, Q (.panic c) (a.put (some k) v) w → Q (.panic c) a w)
    (hw : Region.wanted oi (yielded ops a.tmps) = true) (hv : ∀ w, S w → (execOp a.eval oi).run P w = .ok (.value v) w) (hS : S w) (h : wpAnyH P md ops Q S fuel (listed.setIfInBounds i true) (a.put (some k) v) w) : wpAnyH P md ops Q S (fuel + 1) listed a w := by
  rw [← hd] at hQ h
  exact wpAnyH_take hi hs hf hr hQ (Or.inl ⟨hw, hv⟩) hS h
theorem skipH {P : Program} {ops : Array Oper} {Q : Exit → Act → World → Prop} {md : Region.Mode} {S : World → Prop} {i k : Nat} {oi : Oper} {fuel : Nat} {listed : Array Bool} {a : Act} {w : World} (hi : ops[i]? = some oi) (hd : oi.dst = some k)
    (hs : Region.noSelect ops = true) (hf : Region.free md ops listed i = true) (hr : (Region.ready md ops listed).contains i = true) (hQ : ∀ c a w, Q (.panic c) (a.put (some k) undef) w → Q (.panic c) a w)
    (hw : Region.wanted oi (yielded ops a.tmps) = false) (hS : S w) (h : wpAnyH P md ops Q S fuel (listed.setIfInBounds i true) (a.put (some k) undef) w) : wpAnyH P md ops Q S (fuel + 1) listed a w := by
  rw [← hd] at hQ h
  exact wpAnyH_take hi hs hf hr hQ (Or.inr ⟨hw, rfl⟩) hS h
theorem heldOn {S : Prop} {W0 X w2 : World} (h : S ∧ Below W0.heap.size W0 X) (h2 : Below X.heap.size X w2) : Below W0.heap.size W0 w2 := h.2.trans (h2.mono h.2.size)
/-- A box of six cells that was laid ahead of a call stands behind it. -/
theorem box_six {w w1 : World} {a b c d e f : Value} {t : Nat} (h : Below (w.alloc (.cells #[a, b, c, d, e, f] t)).heap.size (w.alloc (.cells #[a, b, c, d, e, f] t)) w1) :
    (w1.cell? ⟨w.heap.size, 0, none⟩ = some a ∧ w1.cell? ⟨w.heap.size, 1, none⟩ = some b ∧ w1.cell? ⟨w.heap.size, 2, none⟩ = some c ∧ w1.cell? ⟨w.heap.size, 3, none⟩ = some d ∧ w1.cell? ⟨w.heap.size, 4, none⟩ = some e ∧ w1.cell? ⟨w.heap.size, 5, none⟩ = some f) ∧
    Below (w.alloc (.cells #[a, b, c, d, e, f] t)).heap.size (w.alloc (.cells #[a, b, c, d, e, f] t)) w1 := by
  have hA : Arr w1 w.heap.size t [a, b, c, d, e, f] := (h.block w.heap.size (by simp)).trans (Arr.fresh w t [a, b, c, d, e, f])
  exact ⟨⟨hA.cell 0, hA.cell 1, hA.cell 2, hA.cell 3, hA.cell 4, hA.cell 5⟩, h⟩
end Go.Proofs.Ytpjmcpfmnlfmdaa

namespace Go.Proofs.Ytpjmcpfmnlfmdaa
set_option linter.unusedSimpArgs false
set_option linter.unusedVariables false
open Go.RowKit Go.Maps

end Go.Proofs.Ytpjmcpfmnlfmdaa

namespace Go.Proofs.Ytpjmcpfmnlfmdaa
set_option linter.unusedSimpArgs false
set_option linter.unusedVariables false

end Go.Proofs.Ytpjmcpfmnlfmdaa

namespace Go.Proofs.Ytpjmcpfmnlfmdaa
set_option linter.unusedSimpArgs false
set_option linter.unusedVariables false

end Go.Proofs.Ytpjmcpfmnlfmdaa

namespace Go.Proofs.Ytpjmcpfmnlfmdaa
set_option linter.unusedSimpArgs false
set_option linter.unusedVariables false
open Go.RowKit

/-- A row of bytes that the call has made. -/
def OwnR (w : World) (B : Nat) (v : Value) (l : List UInt8) : Prop := w.ownsRow B 5 1 v l.length (l.map byteV)
theorem OwnR.alloc {w : World} {B : Nat} {v : Value} {l : List UInt8} (h : OwnR w B v l) (o : Obj) : OwnR (w.alloc o) B v l := World.ownsRow.alloc h o
theorem OwnR.str {w : World} {B : Nat} {v : Value} {l : List UInt8} (h : OwnR w B v l) : (convert 22 9 v).run Try.prog w = .ok (.string (strOf l)) w :=
  run_string_own (P := Try.prog) w 22 9 5 _ _ _ _ h Try.underlying22 Try.underlying5 Try.underlying9
end Go.Proofs.Ytpjmcpfmnlfmdaa

namespace Go.Proofs.Ytpjmcpfmnlfmdaa
set_option linter.unusedSimpArgs false
set_option linter.unusedVariables false
open Go.RowKit

end Go.Proofs.Ytpjmcpfmnlfmdaa

namespace Go.Proofs.Ytpjmcpfmnlfmdaa
set_option linter.unusedSimpArgs false
set_option linter.unusedVariables false
open Go.RowKit

end Go.Proofs.Ytpjmcpfmnlfmdaa

namespace Go.Proofs.Ytpjmcpfmnlfmdaa
set_option linter.unusedSimpArgs false
set_option linter.unusedVariables false
open Go.RowKit

end Go.Proofs.Ytpjmcpfmnlfmdaa

namespace Go.Proofs.Ytpjmcpfmnlfmdaa
set_option linter.unusedSimpArgs false
set_option linter.unusedVariables false
open Go.RowKit

def strC (s : ByteArray) : List Value := [.string s]
theorem strC_len (s : ByteArray) : (strC s).length = 1 := rfl
end Go.Proofs.Ytpjmcpfmnlfmdaa

namespace Go.Proofs.Ytpjmcpfmnlfmdaa
set_option linter.unusedSimpArgs false
set_option linter.unusedVariables false
open Go.ChangeShapes Go.WideShapes Go.ChangeAt Go.RowKit Go.Joins

/-- A session: resource, on, priority, show. -/
structure SeL where
  r : ByteArray
  o : Bool
  p : Int
  s : ByteArray
instance : Inhabited SeL := ⟨⟨ByteArray.empty, false, 0, ByteArray.empty⟩⟩
def seC (x : SeL) : List Value := [.string x.r, .bool x.o, .int .i64 x.p, .string x.s]
/-- Strings and numbers as the machine has them. -/
def SeL.wf (x : SeL) : Prop := x.r.size ≤ maxLen ∧ (Lit.int .i64 x.p).wf = true ∧ x.s.size ≤ maxLen
theorem cellsStr9 : Try.prog.cellsOf 9 = 1 := by kernel_rfl
theorem cellsI649 : Try.prog.cellsOf 2 = 1 := by kernel_rfl
theorem cellsBo9 : Try.prog.cellsOf 4 = 1 := by kernel_rfl
/-- The elements of a slice that came in lie at a stretch of a block. -/
def RowA {α : Type} (enc : α → List Value) (size : Nat) (w : World) (p : Option Addr) (xs : List α) : Prop := xs ≠ [] → ∃ g o, p = some ⟨g, o, none⟩ ∧ g < w.heap.size ∧ ∀ i (h : i < xs.length) j, j < size → w.cell? ⟨g, o + (i * size + j), none⟩ = (enc xs[i])[j]?
theorem RowA.below {α : Type} {enc : α → List Value} {size : Nat} {w w' : World} {p : Option Addr} {xs : List α} (h : RowA enc size w p xs) (hb : Below w.heap.size w w') : RowA enc size w' p xs := by
  intro hx
  obtain ⟨g, o, h1, h2, h3⟩ := h hx
  exact ⟨g, o, h1, Nat.lt_of_lt_of_le h2 hb.size, fun i hi j hj => (hb.cell (p := ⟨g, o + (i * size + j), none⟩) h2).trans (h3 i hi j hj)⟩
theorem sl_self : ∀ a : List UInt8, Op.bytesLess a a = false
  | [] => rfl
  | c :: a => by
    unfold Op.bytesLess
    rw [sl_self a]
    simp
theorem sl_trans : ∀ a b c : List UInt8, Op.bytesLess a b = true → Op.bytesLess b c = true → Op.bytesLess a c = true
  | _, [], [], h, h' => by cases h'
  | [], [], _ :: _, h, _ => by cases h
  | _ :: _, [], _, h, _ => by cases h
  | [], _ :: _, [], _, h' => by cases h'
  | [], _ :: _, _ :: _, _, _ => rfl
  | _ :: _, _ :: _, [], _, h' => by cases h'
  | a :: x, b :: y, c :: z, h, h' => by
    have ih := sl_trans x y z
    unfold Op.bytesLess at h h' ⊢
    simp only [Bool.or_eq_true, decide_eq_true_eq, Bool.and_eq_true, beq_iff_eq] at h h' ⊢
    rcases h with h | ⟨rfl, h⟩
    · rcases h' with h' | ⟨rfl, h'⟩
      · exact .inl (UInt8.lt_trans h h')
      · exact .inl h
    · rcases h' with h' | ⟨rfl, h'⟩
      · exact .inl h'
      · exact .inr ⟨rfl, ih h h'⟩
end Go.Proofs.Ytpjmcpfmnlfmdaa

namespace Go.Proofs.Ytpjmcpfmnlfmdaa
set_option linter.unusedSimpArgs false
set_option linter.unusedVariables false
open Go.ChangeShapes Go.WideShapes Go.ChangeAt Go.RowKit

/-- So many texts have been copied. -/
def Cop_tx (xs : List ByteArray) (g n i : Nat) (W : World) : Prop := ∃ L, Arr W g 9 L ∧ L.length = n ∧ ∀ i' (h : i' < xs.length), i' < i → L[i']? = some (.string xs[i'])
theorem Cop_tx.there {xs : List ByteArray} {g n i q : Nat} {W : World} (h : Cop_tx xs g n i W) (hq : q < n) : (∃ u, W.cell? ⟨g, q, none⟩ = some u) ∧ W.frozen? ⟨g, q, none⟩ = false := by
  obtain ⟨L, h1, h2, _⟩ := h
  rw [h1.cell, h1.free]
  exact ⟨⟨L[q]'(by omega), List.getElem?_eq_getElem _⟩, rfl⟩
theorem Cop_tx.step {xs : List ByteArray} {g n i : Nat} {W : World} (h : Cop_tx xs g n i W) (hi : i < n) {x : ByteArray} (hx : xs[i]? = some x) : Cop_tx xs g n (i + 1) (W.setCell ⟨g, i, none⟩ (.string x)) := by
  obtain ⟨L, h1, h2, h3⟩ := h
  refine ⟨_, h1.put i _, by simpa using h2, fun i' hi' hlt => ?_⟩
  by_cases e : i' = i
  · subst e
    have ex : xs[i'] = x := by rw [List.getElem?_eq_getElem hi'] at hx; exact Option.some.inj hx
    rw [ex, List.getElem?_set_self (by omega)]
  · rw [List.getElem?_set_ne (by omega)]
    exact h3 i' hi' (by omega)
theorem Cop_tx.own {xs : List ByteArray} {g n B : Nat} {W : World} (h : Cop_tx xs g n n W) (hn : xs.length = n) (hB : B ≤ g) (hm : n ≤ 1048576) : OwnC strC W B 9 1 (.slice (some ⟨g, 0, none⟩) n n) xs := by
  obtain ⟨L, h1, h2, h3⟩ := h
  have e : L = xs.flatMap strC := by
    apply List.ext_getElem?
    intro q
    by_cases hq : q < n
    · have h4 := h3 q (by omega) hq
      rw [h4]
      have h5 := flat_at (enc := strC) (size := 1) (fun _ => rfl) xs q 0 (by omega) (by decide)
      rw [Nat.mul_one, Nat.add_zero] at h5
      exact h5.symm
    · rw [List.getElem?_eq_none (by omega), List.getElem?_eq_none]
      rw [flat_len (enc := strC) (size := 1) (fun _ => rfl), hn]
      omega
  refine ⟨by rw [flat_len (enc := strC) (size := 1) (fun _ => rfl)], .inr ⟨g, n, L.toArray, by rw [hn], hB, h1, by omega, by unfold maxLen; omega, by simpa using h2, ?_⟩⟩
  rw [← e, List.take_of_length_le (by simp; omega)]
theorem info_tx : (Try.prog.info? 9).map (fun i => (i.zero, i.size, i.bytes)) = some (some (.string ⟨#[]⟩), 1, 16) := by kernel_rfl
/-- A slice of texts among the arguments. -/
def TxArg (W : World) (a : Option Addr) (len : Nat) (ps : List ByteArray) : Prop := ps.length = len ∧ len ≤ maxLen ∧ (∀ p ∈ ps, p.size ≤ maxLen) ∧ RowA strC 1 W a ps
theorem TxArg.below {W W2 : World} {a : Option Addr} {len : Nat} {ps : List ByteArray} (h : TxArg W a len ps) (hb : Below W.heap.size W W2) : TxArg W2 a len ps := ⟨h.1, h.2.1, h.2.2.1, h.2.2.2.below hb⟩
theorem addr_plainX {w : World} {x : Addr} {v : Value} (h : w.cell? x = some v) : x = ⟨x.block, x.off, none⟩ := by
  obtain ⟨b, off, sp⟩ := x
  cases sp with
  | none => rfl
  | some s =>
    simp [World.cell?] at h
    split at h <;> cases h
theorem cells_oneX {W : World} {base : Nat} {a : Addr} {cs : List Value} (h : W.cells? base a 1 = some cs) : ∃ c0, cs = [c0] ∧ W.cell? (a.add 0) = some c0 := by
  unfold World.cells? at h
  split at h
  · rw [show List.range 1 = [0] from rfl] at h
    simp only [List.mapM_cons, List.mapM_nil, Option.bind_eq_bind, Option.pure_def] at h
    cases h0 : W.cell? (a.add 0) with
    | none => rw [h0] at h; simp at h
    | some c0 =>
      rw [h0] at h
      simp at h
      exact ⟨c0, h.symm, rfl⟩
  · cases h
set_option maxRecDepth 100000 in
theorem texts_trod {H : Type} {enc : TypeId × Value → H} {W : World} {base : Nat} {sp : Nat → Bool} {held : Bool} {fuel : Nat} {c : Value} {x : DataW H × List MemPlace}
    (hf : DataW.trod enc Try.prog W base sp held fuel 23 [c] = some x) : ∃ a len cap ps, c = .slice a len cap ∧ TxArg W a len ps := by
  rcases Deep.open_slice Try.underlying23 hf with ⟨hcs, _⟩ | ⟨a, len, cap, m, n, D, Pl, hcs, hb, hl, hm, hmm, hx, hall⟩
  · injection hcs with h1
    exact ⟨none, 0, 0, [], h1, rfl, Nat.zero_le _, fun p hp => (by cases hp), fun h => absurd rfl h⟩
  · injection hcs with h1
    have hlm : len ≤ m := by rw [hmm]; split <;> omega
    have each : ∀ i, i < len → ∃ p : ByteArray, p.size ≤ maxLen ∧ W.cell? ((a.add (i * 1)).add 0) = some (.string p) := by
      intro i hi
      obtain ⟨cs', hc, ht⟩ := hall i (by omega)
      rw [cellsStr9] at hc
      obtain ⟨c0, rfl, e0⟩ := cells_oneX hc
      obtain ⟨d, e1, _, w0⟩ := DataW.trod_string Try.underlying9 ht
      simp at e1
      subst e1
      exact ⟨d, w0, e0⟩
    obtain ⟨P, hP⟩ := Deep.choose_lt each
    refine ⟨some a, len, cap, (List.range len).map P, h1, by simp, by omega, fun p hp => ?_, fun hne => ?_⟩
    · obtain ⟨i, hi, rfl⟩ := List.mem_map.1 hp
      exact (hP i (List.mem_range.1 hi)).1
    · have h0 : 0 < len := by
        rcases Nat.eq_zero_or_pos len with h | h
        · subst h; exact absurd rfl hne
        · exact h
      have hc0 := (hP 0 h0).2
      simp only [Nat.zero_mul] at hc0
      have ha : W.cell? a = some (.string (P 0)) := hc0
      have hap := addr_plainX ha
      refine ⟨a.block, a.off, by rw [← hap], ?_, fun i hi j hj => ?_⟩
      · exact block_lt_of_cell ha
      · obtain rfl : j = 0 := by omega
        have hi' : i < len := by simpa using hi
        have h2 := (hP i hi').2
        rw [Deep.add_add, hap] at h2
        simp only [List.getElem_map, List.getElem_range]
        show _ = some (Value.string (P i))
        rw [← h2]
        congr 1
        unfold Addr.add
        split
        · rename_i h3; rw [h3]; rfl
        · rfl
set_option maxRecDepth 100000 in
theorem texts_open {H : Type} {enc : TypeId × Value → H} {W : World} {base : Nat} {sp : Nat → Bool} {held : Bool} {a : Option Addr} {len cap : Nat} {D : DataW H} {p : List MemPlace}
    (h : DataW.Trod enc Try.prog W base sp held 23 (.slice a len cap) D p) : ∃ ps, TxArg W a len ps := by
  obtain ⟨fuel, hf⟩ := h
  have hf' : DataW.trod enc Try.prog W base sp held fuel 23 [.slice a len cap] = some (D, p) := hf
  obtain ⟨a2, len2, cap2, ps, e, hp⟩ := texts_trod hf'
  injection e with e1 e2 e3
  subst e1 e2 e3
  exact ⟨ps, hp⟩
end Go.Proofs.Ytpjmcpfmnlfmdaa

namespace Go.Proofs.Ytpjmcpfmnlfmdaa
set_option linter.unusedSimpArgs false
set_option linter.unusedVariables false
open Go.RowKit

def kPres : ByteArray := ⟨#[112, 114, 101, 115, 101, 110, 99, 101]⟩
def kMess : ByteArray := ⟨#[109, 101, 115, 115, 97, 103, 101]⟩
def kIq : ByteArray := ⟨#[105, 113]⟩
def kDb : ByteArray := ⟨#[100, 98]⟩
/-- A kind. -/
def kindB (k : ByteArray) : Bool := (k.toList == kPres.toList) || (k.toList == kMess.toList) || (k.toList == kIq.toList) || (k.toList == kDb.toList)
def timeB (n : Int) : Bool := decide (0 ≤ n ∧ n ≤ 1000000000)
def printC (c : Nat) : Bool := decide (32 ≤ c ∧ c ≤ 126)

theorem impl_kind (k : ByteArray) (w : World) : Calls Try.prog 88 #[.string k] w (SaysB (kindB k) w) := by
  unfold kindB
  obtain ⟨b1, h1⟩ : ∃ b, (k.toList == kPres.toList) = b := ⟨_, rfl⟩
  obtain ⟨b2, h2⟩ : ∃ b, (k.toList == kMess.toList) = b := ⟨_, rfl⟩
  obtain ⟨b3, h3⟩ : ∃ b, (k.toList == kIq.toList) = b := ⟨_, rfl⟩
  obtain ⟨b4, h4⟩ : ∃ b, (k.toList == kDb.toList) = b := ⟨_, rfl⟩
  rw [h1, h2, h3, h4]
  unfold kPres at h1
  unfold kMess at h2
  unfold kIq at h3
  unfold kDb at h4
  cases b1
  · cases b2
    · cases b3
      · go_enter Try.func88, Try.ntmps88
        go_wp2
        all_goals (go_ret; exact ⟨ret_bool (by simp_all), rfl⟩)
      · go_enter Try.func88, Try.ntmps88
        go_wp2
        all_goals (go_ret; exact ⟨ret_bool (by simp_all), rfl⟩)
    · go_enter Try.func88, Try.ntmps88
      go_wp2
      all_goals (go_ret; exact ⟨ret_bool (by simp_all), rfl⟩)
  · go_enter Try.func88, Try.ntmps88
    go_wp2
    all_goals (go_ret; exact ⟨ret_bool (by simp_all), rfl⟩)
theorem impl_time (n : Int) (w : World) : Calls Try.prog 90 #[.int .i64 n] w (SaysB (timeB n) w) := by
  go_enter Try.func90, Try.ntmps90
  go_wp2
  all_goals (go_ret; refine ⟨ret_bool ?_, rfl⟩; unfold timeB; simp; try omega)
theorem spec_is (n : Int) (w : World) : Calls Try.prog 67 #[.int .i64 n, .int .i64 0, .int .i64 1000000000] w (SaysB (timeB n) w) := by
  go_enter Try.func67, Try.ntmps67
  go_wp2
  all_goals (go_ret; refine ⟨ret_bool ?_, rfl⟩; unfold timeB; simp; try omega)

set_option maxRecDepth 100000 in
set_option maxHeartbeats 1000000 in
theorem spec_body (s : ByteArray) (w : World) (hs : s.size ≤ maxLen) : Calls Try.prog 68 #[.string s] w (SaysB (allC printC s && decide (s.size ≤ 400)) w) := by
  unfold maxLen at hs
  go_enter Try.func68, Try.ntmps68
  go_wp2
  go_loop [3] (fun i => ∃ k : Nat, k ≤ s.size ∧ i = .int .i64 k ∧ Upto printC s k) (fun i => s.size - (intOf i).toNat)
  case atStart => exact ⟨0, Nat.zero_le _, rfl, upto_zero _ _⟩
  case round =>
    obtain ⟨k, hk, rfl, hup⟩ := hrel
    by_cases hlt : k < s.size
    · have hc := byte_le s[k]
      obtain ⟨b, hb⟩ : ∃ b, printC s[k].toNat = b := ⟨_, rfl⟩
      cases b
      · have h1 : (s[k].toNat : Int) < 32 ∨ 126 < (s[k].toNat : Int) := by unfold printC at hb; simp at hb; omega
        have HB := Lib.hid (all_no hlt hb)
        go_wp2
        all_goals (go_ret; refine ⟨ret_bool ?_, rfl⟩; rw [HB.out]; rfl)
      · have h1 : 32 ≤ (s[k].toNat : Int) ∧ (s[k].toNat : Int) ≤ 126 := by unfold printC at hb; simp at hb; omega
        go_wp2
        exact ⟨⟨k + 1, hlt, rfl, upto_succ hup hlt hb⟩, by simp [intOf]; omega⟩
    · have HB := Lib.hid (upto_all hup hlt)
      go_wp2
      go_ret
      refine ⟨ret_bool ?_, rfl⟩
      rw [HB.out]
      simp
      try omega

set_option maxRecDepth 100000 in
set_option maxHeartbeats 1000000 in
theorem impl_printable (s : ByteArray) (w : World) (hs : s.size ≤ maxLen) : Calls Try.prog 91 #[.string s] w fun e w' => e = .returned (.bool (allC printC s)) ∧ Below w.heap.size w w' := by
  unfold maxLen at hs
  go_enter Try.func91, Try.ntmps91
  go_wp2
  go_loopw [] (fun wr => ∃ pos : Nat, pos ≤ s.size ∧ wr = w.iter s pos ∧ Upto printC s pos) (fun wr => s.size - wr.iterPos w.heap.size)
  case atStart => exact ⟨0, Nat.zero_le _, rfl, upto_zero _ _⟩
  case round =>
    obtain ⟨pos, hk, rfl, hup⟩ := hrel
    have hB : ∀ p, Below w.heap.size w (w.iter s p) := fun p => (Below.refl _ _).alloc (Nat.le_refl _) _
    by_cases hlt : pos < s.size
    · obtain ⟨b, hb⟩ : ∃ b, printC s[pos].toNat = b := ⟨_, rfl⟩
      by_cases ha : s[pos].toNat < 128
      · have hnx := fun ty => run_next_ascii (P := Try.prog) w s pos ty hlt ha
        have hc := byte_le s[pos]
        cases b
        · have h1 : (s[pos].toNat : Int) < 32 ∨ 126 < (s[pos].toNat : Int) := by unfold printC at hb; simp at hb; omega
          have HB := Lib.hid (all_no hlt hb)
          go_wp2
          all_goals (go_ret; refine ⟨ret_bool ?_, hB _⟩; rw [HB.out])
        · have h1 : 32 ≤ (s[pos].toNat : Int) ∧ (s[pos].toNat : Int) ≤ 126 := by unfold printC at hb; simp at hb; omega
          go_wp2
          go_roundw
          case rel => exact ⟨pos + 1, hlt, rfl, upto_succ hup hlt hb⟩
          case measure => simp; omega
      · have hnx := fun ty => run_next_any (P := Try.prog) w s pos ty hlt
        have hd := (decode_high s pos hlt (by omega)).1
        have hl := decode_le s pos
        have h1 : 126 < ((Utf8.decode s pos).1 : Int) := by omega
        have h2 : ¬ ((Utf8.decode s pos).1 : Int) < 32 := by omega
        have HB := Lib.hid (all_no hlt (show printC s[pos].toNat = false by unfold printC; simp; omega))
        go_wp2
        all_goals (go_ret; refine ⟨ret_bool ?_, hB _⟩; rw [HB.out])
    · have hnx := fun ty => run_next_end (P := Try.prog) w s pos ty hlt
      have HB := Lib.hid (upto_all hup hlt)
      go_wp2
      go_ret
      refine ⟨ret_bool ?_, hB _⟩
      rw [HB.out]

theorem spec_kinds (w : World) : Calls Try.prog 64 #[] w fun e w' => e = .returned (.slice (some ⟨w.heap.size, 0, none⟩) 4 4) ∧ w' = w.alloc (.cells #[.string kPres, .string kMess, .string kIq, .string kDb] 9) := by
  go_enter Try.func64, Try.ntmps64
  go_wp2
  go_ret
  exact ⟨rfl, rfl⟩

set_option maxRecDepth 100000 in
set_option maxHeartbeats 1000000 in
theorem spec_in (b c : Nat) (ks : List ByteArray) (k : ByteArray) (w : World) (hlen : ks.length ≤ 1000) (hc : ∀ j (h : j < ks.length), w.cell? ⟨b, j, none⟩ = some (.string ks[j])) :
    Calls Try.prog 50 #[.slice (some ⟨b, 0, none⟩) ks.length c, .string k] w (SaysB (ks.any fun x => x.toList == k.toList) w) := by
  have HC := Lib.hid hc
  clear hc
  go_enter Try.func50, Try.ntmps50
  go_wp2
  go_loop [5] (fun i => ∃ j : Nat, j ≤ ks.length ∧ i = .int .i64 j ∧ ∀ m (h : m < ks.length), m < j → (ks[m].toList == k.toList) = false) (fun i => ks.length - (intOf i).toNat)
  case atStart => exact ⟨0, Nat.zero_le _, rfl, fun _ _ h => absurd h (Nat.not_lt_zero _)⟩
  case round =>
    obtain ⟨j, hj, rfl, hno⟩ := hrel
    have HN := Lib.hid hno
    clear hno
    by_cases hlt : j < ks.length
    · have hcell := HC.out j hlt
      obtain ⟨x, hx⟩ : ∃ x, x = ks[j] := ⟨_, rfl⟩
      rw [← hx] at hcell
      obtain ⟨b1, h1⟩ : ∃ b, (x.toList == k.toList) = b := ⟨_, rfl⟩
      have HX := Lib.hid hx
      clear hx
      cases b1
      · go_wp2
        refine ⟨⟨j + 1, hlt, rfl, fun m hm h => ?_⟩, by simp [intOf]; omega⟩
        by_cases e : m < j
        · exact HN.out m hm e
        · obtain rfl : m = j := by omega
          rw [← HX.out]
          exact h1
      · have HA : Hid ((ks.any fun x => x.toList == k.toList) = true) := Lib.hid (List.any_eq_true.2 ⟨x, by rw [HX.out]; exact List.getElem_mem hlt, h1⟩)
        go_wp2
        go_ret
        exact ⟨ret_bool HA.out.symm, rfl⟩
    · have HA : Hid ((ks.any fun x => x.toList == k.toList) = false) := Lib.hid (by
        rw [List.any_eq_false]
        intro x hx
        obtain ⟨m, hm, rfl⟩ := List.getElem_of_mem hx
        rw [HN.out m hm (by omega)]
        exact Bool.false_ne_true)
      go_wp2
      go_ret
      exact ⟨ret_bool HA.out.symm, rfl⟩
theorem any_kind (k : ByteArray) : ([kPres, kMess, kIq, kDb].any fun x => x.toList == k.toList) = kindB k := by
  have e : ∀ x : ByteArray, (x.toList == k.toList) = (k.toList == x.toList) := fun x => Bool.eq_iff_iff.2 (by rw [beq_iff_eq, beq_iff_eq]; exact eq_comm)
  simp only [List.any_cons, List.any_nil, e, Bool.or_false, kindB, Bool.or_assoc]
/-- isAddress, and l04Address of what is not empty. -/
noncomputable def addrB (t : ByteArray) : Bool := goodR t.data.toList && ((jidT (strOf (readL t.data.toList).1) (strOf (readL t.data.toList).2.1) (strOf (readL t.data.toList).2.2)).toList == t.toList)
end Go.Proofs.Ytpjmcpfmnlfmdaa

namespace Go.Proofs.Ytpjmcpfmnlfmdaa
set_option linter.unusedSimpArgs false
set_option linter.unusedVariables false
open Go.RowKit

theorem text_some {l d r : ByteArray} (h : jidB l d r = true) : 0 < (jidT l d r).size ∧ (jidT l d r).size ≤ 100 := by
  obtain ⟨b1, b2, b3⟩ := right_le h
  unfold jidB jidB' at h
  simp only [Bool.and_eq_true] at h
  have hd := (domB_iff.1 h.1.2).1
  unfold jidT
  rw [strOf_size, flat_five]
  simp only [List.length_append, size_data]
  have e1 := mark_le atS l (by decide)
  have e2 := mark_le slS r (by decide)
  omega
end Go.Proofs.Ytpjmcpfmnlfmdaa

namespace Go.Proofs.Ytpjmcpfmnlfmdaa
set_option linter.unusedSimpArgs false
set_option linter.unusedVariables false
open Go.RowKit

theorem addr_big {t : ByteArray} (h : 20000 < t.size) : addrB t = false := by
  cases hA : addrB t
  · rfl
  · exfalso
    unfold addrB goodR at hA
    simp only [Bool.and_eq_true] at hA
    obtain ⟨⟨_, hj⟩, he⟩ := hA
    have h1 := (text_some hj).2
    have h2 := beq_iff_eq.1 he
    rw [ByteArray.toList_eq, ByteArray.toList_eq] at h2
    have h3 := congrArg List.length h2
    rw [size_data, size_data] at h3
    omega
theorem addr_bad {t : ByteArray} (h : goodR t.data.toList = false) : addrB t = false := by unfold addrB; rw [h]; rfl

set_option maxRecDepth 100000 in
set_option maxHeartbeats 2000000 in
theorem impl_address (s : ByteArray) (w : World) (hs : s.size ≤ maxLen) (hm : MaxL w) :
    Calls Try.prog 45 #[.string s] w fun e w' => e = .returned (.bool (addrB s)) ∧ Below w.heap.size w w' := by
  have i1 := impl_read s w hs hm
  unfold jidReadV at i1
  by_cases hbig : 20000 < s.size
  · rw [if_pos hbig] at i1
    unfold jo at i1
    rw [addr_big hbig]
    clear hm
    go_enter Try.func45, Try.ntmps45
    go_wp2_with (go_at_call 56; go_fit i1; rintro e w1 ⟨rfl, hb⟩)
    go_ret
    exact ⟨rfl, hb.alloc hb.size _⟩
  · rw [if_neg hbig] at i1
    cases hg : goodR s.data.toList
    · rw [hg, if_neg Bool.false_ne_true] at i1
      unfold jo at i1
      rw [addr_bad hg]
      clear hm hg
      go_enter Try.func45, Try.ntmps45
      go_wp2_with (go_at_call 56; go_fit i1; rintro e w1 ⟨rfl, hb⟩)
      go_ret
      exact ⟨rfl, hb.alloc hb.size _⟩
    · rw [hg, if_pos rfl] at i1
      unfold addrB
      rw [hg, Bool.true_and]
      have hj : jidB (strOf (readL s.data.toList).1) (strOf (readL s.data.toList).2.1) (strOf (readL s.data.toList).2.2) = true := by
        unfold goodR at hg
        simp only [Bool.and_eq_true] at hg
        exact hg.2
      obtain ⟨l, hl⟩ : ∃ l, l = strOf (readL s.data.toList).1 := ⟨_, rfl⟩
      obtain ⟨d, hd⟩ : ∃ d, d = strOf (readL s.data.toList).2.1 := ⟨_, rfl⟩
      obtain ⟨r, hr⟩ : ∃ r, r = strOf (readL s.data.toList).2.2 := ⟨_, rfl⟩
      rw [← hl, ← hd, ← hr] at i1 hj ⊢
      unfold jo at i1
      obtain ⟨z1, z2, z3⟩ := right_le hj
      have i2 := fun w => impl_text l d r w (by unfold maxLen; omega) (by unfold maxLen; omega) (by unfold maxLen; omega)
      rw [jidTextS_yes hj] at i2
      obtain ⟨X, hX⟩ : ∃ X, X = jidT l d r := ⟨_, rfl⟩
      rw [← hX] at i2 ⊢
      obtain ⟨b, hb0⟩ : ∃ b, (X.toList == s.toList) = b := ⟨_, rfl⟩
      rw [hb0]
      have HM := Lib.hid (fun W (h : Below w.heap.size w W) => hm.below h hm.pos)
      clear hm hg hj hl hd hr hX
      cases b <;>
      · go_enter Try.func45, Try.ntmps45
        go_wp2_with (first
          | (go_at_call 56; go_fit i1; rintro e w1 ⟨rfl, hb⟩)
          | (go_at_call 75; go_fit (i2 _ (HM.out _ (hb.alloc hb.size _))); rintro e w2 ⟨rfl, hb2⟩; replace hb := hb.trans ((below_one hb2).mono hb.size)))
        go_ret
        exact ⟨rfl, hb⟩

/-- What stands while a result of three cells, at ra, is set from a box of three, at rb. -/
abbrev CopyS (w : World) (ra rb : Nat) (x y z : ByteArray) (W : World) : Prop :=
  (W.cell? ⟨rb, 0, none⟩ = some (.string x) ∧ W.cell? ⟨rb, 1, none⟩ = some (.string y) ∧ W.cell? ⟨rb, 2, none⟩ = some (.string z) ∧
   W.cell? ⟨ra, 0, none⟩ = some (cellAt W ra 0) ∧ W.cell? ⟨ra, 1, none⟩ = some (cellAt W ra 1) ∧ W.cell? ⟨ra, 2, none⟩ = some (cellAt W ra 2) ∧
   W.frozen? ⟨ra, 0, none⟩ = false ∧ W.frozen? ⟨ra, 1, none⟩ = false ∧ W.frozen? ⟨ra, 2, none⟩ = false) ∧
  (Below w.heap.size w W ∧ Arr W rb 69 [.string x, .string y, .string z] ∧ Res W ra)
theorem copyS {w W : World} {ra rb : Nat} {x y z : ByteArray} (hb : Below w.heap.size w W) (hA : Arr W rb 69 [.string x, .string y, .string z]) (hr : Res W ra) : CopyS w ra rb x y z W := by
  obtain ⟨c0, c1, c2, _, _, _⟩ := arr_three hA
  obtain ⟨a, b, c, hR⟩ := id hr
  have e : ∀ i v, W.cell? ⟨ra, i, none⟩ = some v → W.cell? ⟨ra, i, none⟩ = some (cellAt W ra i) := fun i v h => by unfold cellAt; rw [h]; rfl
  exact ⟨⟨c0, c1, c2, e 0 a (hR.cell 0), e 1 b (hR.cell 1), e 2 c (hR.cell 2), hR.free 0, hR.free 1, hR.free 2⟩, hb, hA, hr⟩
theorem copyS_on {w W w2 : World} {ra rb : Nat} {x y z : ByteArray} {S : Prop} (h : S ∧ (Below w.heap.size w W ∧ Arr W rb 69 [.string x, .string y, .string z] ∧ Res W ra)) (h2 : Below W.heap.size W w2) : CopyS w ra rb x y z w2 :=
  copyS (h.2.1.trans (h2.mono h.2.1.size)) (arr_below h.2.2.1 h2) (by obtain ⟨a, b, c, hA⟩ := h.2.2.2; exact ⟨a, b, c, arr_below hA h2⟩)
theorem copyS_store {w W : World} {ra rb : Nat} {x y z : ByteArray} {S : Prop} {u v t : Value} (hne : rb ≠ ra) (hle : w.heap.size ≤ ra) (h : S ∧ (Below w.heap.size w W ∧ Arr W rb 69 [.string x, .string y, .string z] ∧ Res W ra)) :
    CopyS w ra rb x y z (((W.setCell ⟨ra, 0, none⟩ u).setCell ⟨ra, 1, none⟩ v).setCell ⟨ra, 2, none⟩ t) :=
  copyS (below_three h.2.1 hle u v t) (arr_other (arr_other (arr_other h.2.2.1 _ _ _ hne) _ _ _ hne) _ _ _ hne) (by obtain ⟨a, b, c, hA⟩ := h.2.2.2; exact ⟨u, v, t, ((hA.put 0 u).put 1 v).put 2 t⟩)

set_option maxRecDepth 100000 in
set_option maxHeartbeats 2000000 in
theorem spec_l04jidP (s : ByteArray) (w : World) (hs : s.size ≤ 2000000) :
    Calls Try.prog 78 #[.string s] w fun e w' => (∃ x y z, e = .returned (.tuple #[.agg #[.string x, .string y, .string z], .bool (addrB s)]) ∧ (addrB s = true → x = strOf (readL s.data.toList).1 ∧ y = strOf (readL s.data.toList).2.1 ∧ z = strOf (readL s.data.toList).2.2)) ∧ Below w.heap.size w w' := by
  have i1 := fun w => spec_l03read s w hs
  go_enter Try.func78, Try.ntmps78
  go_wp2_with (go_at_call 95; go_fit (i1 _); rintro e w1 ⟨⟨x, y, z, b, rfl, hg, hx⟩, hb⟩)
  rw [← hg]
  have hlt : w.heap.size < w1.heap.size := by have := hb.size; simp at this; omega
  have hne : w1.heap.size ≠ w.heap.size := by omega
  have hS : CopyS w w.heap.size w1.heap.size x y z (w1.alloc (.cells #[.string x, .string y, .string z] 69)).drew :=
    copyS (Below.drew ((below_one hb).alloc (by omega) _)) (Arr.fresh w1 _ _) ⟨_, _, _, arr_alloc (arr_below (Arr.fresh w _ _) hb) _⟩
  obtain ⟨W1, hW1⟩ : ∃ W1, W1 = w1.alloc (.cells #[.string x, .string y, .string z] 69) := ⟨_, rfl⟩
  rw [← hW1] at hS ⊢
  have HS := Lib.hid hS
  clear hS hb i1 hW1
  cases b
  · have HA := Lib.hid (addr_bad hg.symm)
    clear hg hx
    refine wp_region_held_drew (S := (fun W => (W.cell? ⟨w1.heap.size, 0, none⟩ = some (.string x) ∧ W.cell? ⟨w1.heap.size, 1, none⟩ = some (.string y) ∧ W.cell? ⟨w1.heap.size, 2, none⟩ = some (.string z) ∧
   W.cell? ⟨w.heap.size, 0, none⟩ = some (cellAt W w.heap.size 0) ∧ W.cell? ⟨w.heap.size, 1, none⟩ = some (cellAt W w.heap.size 1) ∧ W.cell? ⟨w.heap.size, 2, none⟩ = some (cellAt W w.heap.size 2) ∧
   W.frozen? ⟨w.heap.size, 0, none⟩ = false ∧ W.frozen? ⟨w.heap.size, 1, none⟩ = false ∧ W.frozen? ⟨w.heap.size, 2, none⟩ = false) ∧
  (Below w.heap.size w W ∧ Arr W w1.heap.size 69 [.string x, .string y, .string z] ∧ Res W w.heap.size))) (by kernel_rfl) HS.out (fun hHeld => ?_)
    generalize W1.drew = V at hHeld ⊢
    refine takeH (i := 0) (k := 11) (v := .agg #[.string x, .string y, .string z]) rfl (by rfl) (by kernel_rfl) (by kernel_rfl) (by kernel_rfl) (fun _ _ _ h => h) (by rfl) ?_ hHeld ?_
    · intro w hSw; (try dsimp only at hSw); go_simp
    (try simp only [Act.put, List.setIfInBounds_toArray, List.set_cons_zero, List.set_cons_succ])
    refine takeH (i := 1) (k := 12) (v := .bool false) rfl (by rfl) (by kernel_rfl) (by kernel_rfl) (by kernel_rfl) (fun _ _ _ h => h) (by rfl) ?_ hHeld ?_
    · intro w hSw; (try dsimp only at hSw); go_simp
    (try simp only [Act.put, List.setIfInBounds_toArray, List.set_cons_zero, List.set_cons_succ])
    refine takeH (i := 2) (k := 13) (v := .bool false) rfl (by rfl) (by kernel_rfl) (by kernel_rfl) (by kernel_rfl) (fun _ _ _ h => h) (by rfl) ?_ hHeld ?_
    · intro w hSw; (try dsimp only at hSw); go_simp
    (try simp only [Act.put, List.setIfInBounds_toArray, List.set_cons_zero, List.set_cons_succ])
    refine skipH (i := 3) (k := 14) rfl (by rfl) (by kernel_rfl) (by kernel_rfl) (by kernel_rfl) (fun _ _ _ h => h) (by rfl) hHeld ?_
    (try simp only [Act.put, List.setIfInBounds_toArray, List.set_cons_zero, List.set_cons_succ])
    refine skipH (i := 4) (k := 15) rfl (by rfl) (by kernel_rfl) (by kernel_rfl) (by kernel_rfl) (fun _ _ _ h => h) (by rfl) hHeld ?_
    (try simp only [Act.put, List.setIfInBounds_toArray, List.set_cons_zero, List.set_cons_succ])
    refine skipH (i := 5) (k := 16) rfl (by rfl) (by kernel_rfl) (by kernel_rfl) (by kernel_rfl) (fun _ _ _ h => h) (by rfl) hHeld ?_
    (try simp only [Act.put, List.setIfInBounds_toArray, List.set_cons_zero, List.set_cons_succ])
    refine skipH (i := 6) (k := 17) rfl (by rfl) (by kernel_rfl) (by kernel_rfl) (by kernel_rfl) (fun _ _ _ h => h) (by rfl) hHeld ?_
    (try simp only [Act.put, List.setIfInBounds_toArray, List.set_cons_zero, List.set_cons_succ])
    refine takeH (i := 7) (k := 18) (v := .bool false) rfl (by rfl) (by kernel_rfl) (by kernel_rfl) (by kernel_rfl) (fun _ _ _ h => h) (by rfl) ?_ hHeld ?_
    · intro w hSw; (try dsimp only at hSw); go_simp
    (try simp only [Act.put, List.setIfInBounds_toArray, List.set_cons_zero, List.set_cons_succ])
    have hrN := hHeld.2.2.2
    obtain ⟨⟨p0, p1, p2, p3, p4, p5, p6, p7, p8⟩, -⟩ := id hHeld
    refine wpAnyH_ready (rs := [8]) (by kernel_rfl) (by simp) ?_
    refine AllReadyH.cons rfl (fun K hK => ?_) AllReadyH.nil
    rw [if_pos (by rfl)]
    go_simp
    refine hK.out _ _ (copyS_store hne (Nat.le_refl _) hHeld) (fun hHeld => ?_)
    clear hK K
    (try simp only [Act.put, List.setIfInBounds_toArray, List.set_cons_zero, List.set_cons_succ])
    refine takeH (i := 9) (k := 3) (v := .bool false) rfl (by rfl) (by kernel_rfl) (by kernel_rfl) (by kernel_rfl) (fun _ _ _ h => h) (by rfl) ?_ hHeld ?_
    · intro w hSw; (try dsimp only at hSw); go_simp
    (try simp only [Act.put, List.setIfInBounds_toArray, List.set_cons_zero, List.set_cons_succ])
    refine wpAnyH_done (by kernel_rfl) ?_ _
    obtain ⟨a, b, c, hA⟩ := hrN
    have hF : Arr _ w.heap.size 69 [.string x, .string y, .string z] := ((hA.put 0 (.string x)).put 1 (.string y)).put 2 (.string z)
    have hz := arr_lt hF
    obtain ⟨c0, c1, c2, _, _, _⟩ := arr_three hF
    have HB := Lib.hid hHeld.2.1
    clear hA hF hHeld
    go_wp2
    exact bodyPost_ret (v := .tuple #[.agg #[.string x, .string y, .string z], .bool false]) (by simp [results, Try.results78, go_sem, c0, c1, c2] at hz ⊢; try omega) rfl ⟨⟨x, y, z, by rw [HA.out], fun h => by rw [HA.out] at h; cases h⟩, HB.out⟩
  · obtain ⟨e1, e2, e3⟩ := hx rfl
    have HE := Lib.hid (And.intro e1 (And.intro e2 e3))
    have hj : jidB x y z = true := by
      have h := hg.symm
      unfold goodR at h
      simp only [Bool.and_eq_true] at h
      rw [e1, e2, e3]
      exact h.2
    obtain ⟨z1, z2, z3⟩ := right_le hj
    have i2 := fun w => spec_addr x y z w (by omega) (by omega) (by omega)
    obtain ⟨X, hX⟩ : ∃ X, X = jidT x y z := ⟨_, rfl⟩
    rw [← hX] at i2
    obtain ⟨v, hv⟩ : ∃ v, (X.toList == s.toList) = v := ⟨_, rfl⟩
    have HA : Hid (addrB s = v) := Lib.hid (by unfold addrB; rw [← hg, ← e1, ← e2, ← e3, ← hX, hv]; rfl)
    clear hg hx e1 e2 e3 hj z1 z2 z3 hX
    go_region_held3 (fun W => (W.cell? ⟨w1.heap.size, 0, none⟩ = some (.string x) ∧ W.cell? ⟨w1.heap.size, 1, none⟩ = some (.string y) ∧ W.cell? ⟨w1.heap.size, 2, none⟩ = some (.string z) ∧
   W.cell? ⟨w.heap.size, 0, none⟩ = some (cellAt W w.heap.size 0) ∧ W.cell? ⟨w.heap.size, 1, none⟩ = some (cellAt W w.heap.size 1) ∧ W.cell? ⟨w.heap.size, 2, none⟩ = some (cellAt W w.heap.size 2) ∧
   W.frozen? ⟨w.heap.size, 0, none⟩ = false ∧ W.frozen? ⟨w.heap.size, 1, none⟩ = false ∧ W.frozen? ⟨w.heap.size, 2, none⟩ = false) ∧
  (Below w.heap.size w W ∧ Arr W w1.heap.size 69 [.string x, .string y, .string z] ∧ Res W w.heap.size))
      (with_reducible first | assumption | exact HS.out | exact copyS_on (by assumption) hbN | exact copyS_store hne (Nat.le_refl _) (by assumption))
      (first
        | (go_at_call 96; go_fit (i2 _); rintro e w2 ⟨rfl, hbN⟩; have hrN := (copyS_on (by assumption) hbN).2.2.2))
    all_goals
      obtain ⟨a, b, c, hA⟩ := hrN
      have hF : Arr _ w.heap.size 69 [.string x, .string y, .string z] := ((hA.put 0 (.string x)).put 1 (.string y)).put 2 (.string z)
      have hz := arr_lt hF
      obtain ⟨c0, c1, c2, _, _, _⟩ := arr_three hF
      obtain ⟨_, hbF, _, _⟩ := copyS_on (by assumption) (Below.refl _ _)
      have HB := Lib.hid hbF
      clear hA hF hbF
      go_wp2
      exact bodyPost_ret (v := .tuple #[.agg #[.string x, .string y, .string z], .bool v]) (by simp [results, Try.results78, go_sem, c0, c1, c2] at hz ⊢; try omega) rfl ⟨⟨x, y, z, by rw [HA.out], fun _ => HE.out⟩, HB.out⟩
theorem spec_l04jid (s : ByteArray) (w : World) (hs : s.size ≤ 2000000) :
    Calls Try.prog 78 #[.string s] w fun e w' => (∃ x y z, e = .returned (.tuple #[.agg #[.string x, .string y, .string z], .bool (addrB s)])) ∧ Below w.heap.size w w' :=
  (spec_l04jidP s w hs).mono fun e w' ⟨⟨x, y, z, h, _⟩, hb⟩ => ⟨⟨x, y, z, h⟩, hb⟩
/-- An address, or nothing. -/
noncomputable def addrE (s : ByteArray) : Bool := decide (s.size = 0) || addrB s
set_option maxHeartbeats 1000000 in
theorem spec_address (s : ByteArray) (w : World) (hs : s.size ≤ 2000000) :
    Calls Try.prog 66 #[.string s] w fun e w' => e = .returned (.bool (addrE s)) ∧ Below w.heap.size w w' := by
  have i1 := spec_l04jid s w hs
  unfold addrE
  obtain ⟨v, hv⟩ : ∃ v, addrB s = v := ⟨_, rfl⟩
  rw [hv] at i1 ⊢
  clear hv
  rcases Nat.eq_zero_or_pos s.size with h1 | h1
  · obtain ⟨n1, e1⟩ := empty_of h1
    rw [decide_eq_true h1]
    go_enter Try.func66, Try.ntmps66
    go_wp2_with (go_at_call 78; go_fit i1; rintro e w1 ⟨⟨x, y, z, rfl⟩, hb⟩)
    go_ret
    exact ⟨rfl, hb.alloc hb.size _⟩
  · have n1 := ne_nil h1
    have e1 := not_empty h1
    rw [decide_eq_false (by omega)]
    go_enter Try.func66, Try.ntmps66
    go_wp2_with (go_at_call 78; go_fit i1; rintro e w1 ⟨⟨x, y, z, rfl⟩, hb⟩)
    go_ret
    exact ⟨ret_bool (by simp), hb.alloc hb.size _⟩
end Go.Proofs.Ytpjmcpfmnlfmdaa

namespace Go.Proofs.Ytpjmcpfmnlfmdaa
set_option linter.unusedSimpArgs false
set_option linter.unusedVariables false
open Go.RowKit

theorem nan_str (s : ByteArray) (w : World) : Calls Try.prog 86 #[.string s] w fun e w' => e = .returned (.bool false) ∧ w = w' := by
  go_enter Try.func86, Try.ntmps86
  go_wp2
  go_ret
  exact ⟨ret_bool (by simp), rfl⟩
/-- What comparing two texts answers. -/
def cmpI (a b : ByteArray) : Int := if Op.bytesLess a.toList b.toList then -1 else if a.toList == b.toList then 0 else 1
theorem cmp_str (a b : ByteArray) (w : World) : Calls Try.prog 59 #[.string a, .string b] w fun e w' => e = .returned (.int .i64 (cmpI a b)) ∧ w = w' := by
  obtain ⟨b1, h1⟩ : ∃ b1, Op.bytesLess a.toList b.toList = b1 := ⟨_, rfl⟩
  obtain ⟨b2, h2⟩ : ∃ b2, (a.toList == b.toList) = b2 := ⟨_, rfl⟩
  unfold cmpI
  rw [h1, h2]
  have H1 := h1
  have H2 := h2
  cases b1 <;> cases b2 <;>
    (go_enter Try.func59, Try.ntmps59
     go_wp2_with (go_at_call 86; go_fit (nan_str _ _); rintro e w' ⟨rfl, rfl⟩)
     go_ret
     exact ⟨rfl, rfl⟩)
theorem cmp_neg {a b : ByteArray} : (cmpI a b < 0) ↔ Op.bytesLess a.toList b.toList = true := by
  unfold cmpI
  cases Op.bytesLess a.toList b.toList <;> cases a.toList == b.toList <;> simp
end Go.Proofs.Ytpjmcpfmnlfmdaa

namespace Go.Proofs.Ytpjmcpfmnlfmdaa
set_option linter.unusedSimpArgs false
set_option linter.unusedVariables false
open Go.RowKit

theorem takeQ {P : Program} {ops : Array Oper} {Q : Exit → Act → World → Prop} {md : Region.Mode} {S : World → Prop} {i k : Nat} {oi : Oper} {v : Value} {fuel : Nat} {listed : Array Bool} {a : Act} {w : World} (hi : ops[i]? = some oi) (hd : oi.dst = some k)
    (hs : Region.noSelect ops = true) (hf : Region.free md ops listed i = true) (hr : (Region.ready md ops listed).contains i = true) (hQ : ∀ c a w, Q (.panic c) (a.put (some k) v) w → Q (.panic c) a w)
    (hw : Region.wanted oi (yielded ops a.tmps) = true) (hv : ∀ w, S w → (execOp a.eval oi).run P w = .ok (.value v) w) (hS : S w) (h : wpAnyH P md ops Q S fuel (listed.setIfInBounds i true) (a.put (some k) v) w) : wpAnyH P md ops Q S (fuel + 1) listed a w := by
  rw [← hd] at hQ h
  exact wpAnyH_take hi hs hf hr hQ (Or.inl ⟨hw, hv⟩) hS h
theorem skipQ {P : Program} {ops : Array Oper} {Q : Exit → Act → World → Prop} {md : Region.Mode} {S : World → Prop} {i k : Nat} {oi : Oper} {fuel : Nat} {listed : Array Bool} {a : Act} {w : World} (hi : ops[i]? = some oi) (hd : oi.dst = some k)
    (hs : Region.noSelect ops = true) (hf : Region.free md ops listed i = true) (hr : (Region.ready md ops listed).contains i = true) (hQ : ∀ c a w, Q (.panic c) (a.put (some k) undef) w → Q (.panic c) a w)
    (hw : Region.wanted oi (yielded ops a.tmps) = false) (hS : S w) (h : wpAnyH P md ops Q S fuel (listed.setIfInBounds i true) (a.put (some k) undef) w) : wpAnyH P md ops Q S (fuel + 1) listed a w := by
  rw [← hd] at hQ h
  exact wpAnyH_take hi hs hf hr hQ (Or.inr ⟨hw, rfl⟩) hS h
end Go.Proofs.Ytpjmcpfmnlfmdaa

namespace Go.Proofs.Ytpjmcpfmnlfmdaa
set_option linter.unusedSimpArgs false
set_option linter.unusedVariables false
open Go.RowKit

/-- Slots are written. -/
def putAll (a : Act) : List Nat → (Nat → Value) → Act
  | [], _ => a
  | s :: r, vs => putAll (a.put (some s) (vs s)) r vs
/-- A post that bears no panic. -/
def NormalOnly (R : Act → World → Prop) : Exit → Act → World → Prop
  | .normal, a, w => R a w
  | _, _, _ => False
/-- Whatever way a region goes: the slots that it writes hold some values, and R holds of them and of the world. -/
theorem region_join {P : Program} {c : Code} {Q : Exit → Act → World → Prop} {a : Act} {w : World} (slots : List Nat) (R : (Nat → Value) → World → Prop)
    (h1 : c.wp P (NormalOnly fun a' w' => R (fun k => a'.tmps.getD k undef) w' ∧ a' = putAll a slots (fun k => a'.tmps.getD k undef)) a w)
    (h2 : ∀ vs w', R vs w' → Q .normal (putAll a slots vs) w') : c.wp P Q a w := by
  refine Code.wp_mono (fun e a' w' h => ?_) h1
  cases e with
  | normal =>
    obtain ⟨hR, e⟩ := h
    rw [e]
    exact h2 _ _ hR
  | _ => exact (h : False).elim
end Go.Proofs.Ytpjmcpfmnlfmdaa

namespace Go.Proofs.Ytpjmcpfmnlfmdaa
set_option linter.unusedSimpArgs false
set_option linter.unusedVariables false
open Go.RowKit Go.Joins

theorem row_tx {w : World} {p : Option Addr} {xs : List ByteArray} (h : RowC strC 1 w p xs) {i : Nat} (hi : i < xs.length) : ∃ g, p = some ⟨g, 0, none⟩ ∧ g < w.heap.size ∧ w.cell? ⟨g, i, none⟩ = some (.string xs[i]) := by
  obtain ⟨g, h1, h2, h3⟩ := h (List.ne_nil_of_length_pos (by omega))
  refine ⟨g, h1, h2, ?_⟩
  have := h3 i hi 0 (by decide)
  rw [Nat.mul_one, Nat.add_zero] at this
  exact this
def IncT (xs : List ByteArray) (n : Nat) : Prop := ∀ i (h : i < xs.length), 0 < i → i < n → ∀ h' : i - 1 < xs.length, Op.bytesLess xs[i - 1].toList xs[i].toList = true
def AllT (xs : List ByteArray) (n : Nat) : Prop := ∀ i (h : i < xs.length), i < n → addrB xs[i] = true
theorem incT_zero (xs : List ByteArray) : IncT xs 1 := fun i _ h0 h1 => by omega
theorem incT_0 (xs : List ByteArray) : IncT xs 0 := fun i _ h0 h1 => by omega
theorem allT_0 (xs : List ByteArray) : AllT xs 0 := fun i _ h1 => by omega
theorem incT_succ {xs : List ByteArray} {k : Nat} (h : IncT xs k) (hk : k < xs.length) (hl : 0 < k → ∀ h' : k - 1 < xs.length, Op.bytesLess xs[k - 1].toList xs[k].toList = true) : IncT xs (k + 1) := by
  intro i hi h0 h1 h'
  by_cases e : i = k
  · subst e; exact hl h0 h'
  · exact h i hi h0 (by omega) h'
theorem allT_succ {xs : List ByteArray} {k : Nat} (h : AllT xs k) (hk : k < xs.length) (hl : addrB xs[k] = true) : AllT xs (k + 1) := by
  intro i hi h1
  by_cases e : i = k
  · subst e; exact hl
  · exact h i hi (by omega)
open Classical in
noncomputable def incTB (xs : List ByteArray) : Bool := decide (IncT xs xs.length)
theorem incTB_true {xs : List ByteArray} (h : IncT xs xs.length) : incTB xs = true := by unfold incTB; simpa using h
theorem incTB_false {xs : List ByteArray} (h : ¬ IncT xs xs.length) : incTB xs = false := by unfold incTB; simpa using h
theorem incTB_iff {xs : List ByteArray} : incTB xs = true ↔ IncT xs xs.length := by unfold incTB; simp
def BkR (xs : List ByteArray) : Prop := xs.length ≤ 8 ∧ IncT xs xs.length ∧ AllT xs xs.length
open Classical in
noncomputable def bkB (xs : List ByteArray) : Bool := decide (BkR xs)
theorem bkB_true {xs : List ByteArray} (h : BkR xs) : bkB xs = true := by unfold bkB; simpa using h
theorem bkB_false {xs : List ByteArray} (h : ¬ BkR xs) : bkB xs = false := by unfold bkB; simpa using h
theorem bkB_iff {xs : List ByteArray} : bkB xs = true ↔ BkR xs := by unfold bkB; simp
theorem cmp_strB (a b : ByteArray) (w : World) : Calls Try.prog 59 #[.string a, .string b] w fun e w' => e = .returned (.int .i64 (cmpI a b)) ∧ Below w.heap.size w w' :=
  (cmp_str a b w).mono fun e w' ⟨h1, h2⟩ => ⟨h1, by rw [← h2]; exact Below.refl _ _⟩
abbrev Two_tx (g k : Nat) (x y : ByteArray) (wr W : World) : Prop := (W.cell? ⟨g, k, none⟩ = some (.string x) ∧ W.cell? ⟨g, k + 1, none⟩ = some (.string y)) ∧ (Below wr.heap.size wr W ∧ g < wr.heap.size)
theorem two_tx_on {g k : Nat} {x y : ByteArray} {wr W W2 : World} (h : Two_tx g k x y wr W) (hb : Below W.heap.size W W2) : Two_tx g k x y wr W2 := by
  obtain ⟨⟨c0, d0⟩, h1, h2⟩ := h
  have ha : g < W.heap.size := Nat.lt_of_lt_of_le h2 h1.size
  exact ⟨⟨(hb.cell (p := ⟨g, k, none⟩) ha).trans c0, (hb.cell (p := ⟨g, k + 1, none⟩) ha).trans d0⟩, h1.trans (hb.mono h1.size), h2⟩
theorem two_tx_drew {g k : Nat} {x y : ByteArray} {wr W : World} (h : Two_tx g k x y wr W) : Two_tx g k x y wr W.drew := two_tx_on h (Below.refl _ _).drew
set_option maxRecDepth 100000 in
set_option maxHeartbeats 2000000 in
theorem impl_incT (xs : List ByteArray) (p : Option Addr) (c : Nat) (w : World) (hn : xs.length ≤ 1048576) (hR : RowC strC 1 w p xs) :
    Calls Try.prog 58 #[.slice p xs.length c, .func (.func 59) #[] #[]] w fun e w' => e = .returned (.bool (incTB xs)) ∧ Below w.heap.size w w' := by
  obtain ⟨n, hxn⟩ : ∃ n, xs.length = n := ⟨_, rfl⟩
  have HP := Lib.hid (fun W (h : Below w.heap.size w W) => hR.on h)
  have HN := Lib.hid hxn
  obtain ⟨Z, hZ⟩ : ∃ Z, incTB xs = Z := ⟨_, rfl⟩
  have HZ := Lib.hid hZ
  rw [hxn] at hn ⊢
  rw [hZ]
  clear hR hxn hZ
  go_enter Try.func58, Try.ntmps58
  go_wp2
  go_loopw [5] (fun iq wr => ∃ k : Nat, (k + 1 ≤ n ∨ k = 0) ∧ iq = .int .i64 ((k : Int) + 1) ∧ IncT xs (k + 1) ∧ Below w.heap.size w wr) (fun i _ => n + 1 - (intOf i).toNat)
  case atStart => exact ⟨0, .inr rfl, rfl, incT_zero xs, Below.refl _ _⟩
  case round =>
    obtain ⟨k, hk, rfl, hI, hb⟩ := hrel
    have HI := Lib.hid hI
    have HB := Lib.hid hb
    clear hI
    have hk2 : (k : Int) ≤ 1048576 := by omega
    by_cases hlt : k + 1 < n
    · have hlt1 : k < xs.length := by rw [HN.out]; omega
      have hlt2 : k + 1 < xs.length := by rw [HN.out]; exact hlt
      obtain ⟨g, rfl, hg, a0⟩ := row_tx (HP.out _ hb) hlt1
      obtain ⟨g', he, hg', b0⟩ := row_tx (HP.out _ hb) hlt2
      injection he with he
      injection he with he
      subst he
      obtain ⟨x, hx⟩ : ∃ x, xs[k] = x := ⟨_, rfl⟩
      obtain ⟨y, hy⟩ : ∃ y, xs[k + 1] = y := ⟨_, rfl⟩
      have HX := Lib.hid hx
      have HY := Lib.hid hy
      rw [hx] at a0
      rw [hy] at b0
      have HS : Hid (Two_tx g k x y wr wr) := Lib.hid ⟨⟨a0, b0⟩, Below.refl _ _, hg⟩
      have i1 := fun W => cmp_strB x y W
      obtain ⟨z, hz⟩ : ∃ z, cmpI x y = z := ⟨_, rfl⟩
      have HC := Lib.hid hz
      rw [hz] at i1
      clear hb a0 b0 hx hy hg hg' hz
      have hw1 : IntKind.i64.wrap ((k : Int) + 1 - 1) = (k : Int) := by rw [IntWalk.i64_in _ (by omega)]; omega
      have hw2 : IntKind.i64.wrap (k : Int) = (k : Int) := IntWalk.i64_in _ (by omega)
      have q1 : (0 : Int) ≤ (k : Int) := by omega
      have q2 : (k : Int) < (n : Int) := by omega
      have q3 : (0 : Int) ≤ (k : Int) + 1 := by omega
      have q4 : (k : Int) + 1 < (n : Int) := by omega
      go_wp2
      go_region_held3 (fun W => (W.cell? ⟨g, k, none⟩ = some (.string x) ∧ W.cell? ⟨g, k + 1, none⟩ = some (.string y)) ∧ (Below wr.heap.size wr W ∧ g < wr.heap.size))
        (with_reducible first | assumption | exact two_tx_drew HS.out | exact two_tx_on (by assumption) hbN)
        (first | (go_at_call 59; go_fit (i1 _); rintro e wn ⟨rfl, hbN⟩; have HF := Lib.hid (two_tx_on (g := g) (k := k) (wr := wr) (by assumption) hbN)))
      have HB2 := Lib.hid (HB.out.trans (HF.out.2.1.mono HB.out.size))
      by_cases hneg : z < 0
      · have hn0 : ¬ (0 : Int) ≤ z := by omega
        have hl := cmp_neg.1 (show cmpI x y < 0 by rw [HC.out]; exact hneg)
        have HL := Lib.hid hl
        clear hl
        go_wp2
        go_roundw
        case rel => exact ⟨k + 1, .inl (by omega), by go_num, incT_succ HI.out hlt2 (fun _ h' => by
          simp only [Nat.add_sub_cancel]
          rw [HX.out, HY.out]
          exact HL.out), HB2.out⟩
        case measure => simp [intOf]; omega
      · have hn0 : (0 : Int) ≤ z := by omega
        have HN0 := Lib.hid hneg
        clear hneg
        have HL : Hid (Z = false) := Lib.hid (by
          rw [← HZ.out]
          refine incTB_false (fun h => HN0.out ?_)
          rw [← HC.out]
          have := h (k + 1) hlt2 (by omega) hlt2 hlt1
          simp only [Nat.add_sub_cancel] at this
          rw [HX.out, HY.out] at this
          exact cmp_neg.2 this)
        go_wp2
        go_ret
        exact ⟨ret_bool HL.out.symm, HB2.out⟩
    · have HL : Hid (Z = true) := Lib.hid (by
        rw [← HZ.out]
        exact incTB_true (fun i hi h0 h1 h' => HI.out i hi h0 (by rw [HN.out] at hi; omega) h'))
      clear hb
      go_wp2
      go_ret
      exact ⟨ret_bool HL.out.symm, HB.out⟩
theorem spec_l11jid (s : ByteArray) (w : World) (hs : s.size ≤ 2000000) :
    Calls Try.prog 49 #[.string s] w fun e w' => e = .returned (.bool (addrB s)) ∧ Below w.heap.size w w' := by
  have i1 := fun W => spec_l04jid s W hs
  obtain ⟨b, hb⟩ : ∃ b, addrB s = b := ⟨_, rfl⟩
  rw [hb] at i1 ⊢
  clear hb
  go_enter Try.func49, Try.ntmps49
  go_wp2_with (go_at_call 78; go_fit (i1 _); rintro e w1 ⟨⟨x, y, z, rfl⟩, hb1⟩; have HB := Lib.hid hb1; clear hb1)
  go_ret
  exact ⟨rfl, HB.out.alloc HB.out.size _⟩
set_option maxRecDepth 100000 in
set_option maxHeartbeats 2000000 in
theorem impl_bkright (xs : List ByteArray) (p : Option Addr) (c : Nat) (w : World) (hn : xs.length ≤ 1048576) (hw : ∀ x ∈ xs, x.size ≤ maxLen) (hR : RowC strC 1 w p xs) (hm : MaxL w) :
    Calls Try.prog 19 #[.slice p xs.length c] w fun e w' => e = .returned (.bool (bkB xs)) ∧ Below w.heap.size w w' := by
  have i1 := fun W h => impl_incT xs p c W hn h
  obtain ⟨n, hxn⟩ : ∃ n, xs.length = n := ⟨_, rfl⟩
  have HP := Lib.hid (fun W (h : Below w.heap.size w W) => hR.on h)
  have HM := Lib.hid (fun W (h : Below w.heap.size w W) => hm.below h hm.pos)
  have HN := Lib.hid hxn
  have HW := Lib.hid hw
  obtain ⟨Z, hZ⟩ : ∃ Z, bkB xs = Z := ⟨_, rfl⟩
  have HZ := Lib.hid hZ
  obtain ⟨I, hI⟩ : ∃ I, incTB xs = I := ⟨_, rfl⟩
  have HI := Lib.hid hI
  rw [hxn, hI] at i1
  rw [hxn] at hn ⊢
  rw [hZ]
  clear hR hxn hZ hm hw hI
  by_cases h8 : 8 < n
  · have HL : Hid (Z = false) := Lib.hid (by rw [← HZ.out]; exact bkB_false (fun h => by have := h.1; rw [HN.out] at this; omega))
    go_enter Try.func19, Try.ntmps19
    go_wp2
    go_ret
    exact ⟨ret_bool HL.out.symm, Below.refl _ _⟩
  cases I
  · have HL : Hid (Z = false) := Lib.hid (by rw [← HZ.out]; exact bkB_false (fun h => by have := incTB_true h.2.1; rw [HI.out] at this; cases this))
    go_enter Try.func19, Try.ntmps19
    go_wp2_with (go_at_call 58; go_fit (i1 _ (HP.out _ (Below.refl _ _))); rintro e w1 ⟨rfl, hb1⟩; have HB := Lib.hid hb1; clear hb1)
    go_ret
    exact ⟨ret_bool HL.out.symm, HB.out⟩
  go_enter Try.func19, Try.ntmps19
  go_wp2_with (go_at_call 58; go_fit (i1 _ (HP.out _ (Below.refl _ _))); rintro e w1 ⟨rfl, hb1⟩; have HB := Lib.hid hb1; clear hb1)
  go_loopw [15] (fun iq wr => ∃ k : Nat, k ≤ n ∧ iq = .int .i64 k ∧ AllT xs k ∧ Below w.heap.size w wr) (fun i _ => n - (intOf i).toNat)
  case atStart => exact ⟨0, Nat.zero_le _, rfl, allT_0 xs, HB.out⟩
  case round =>
    obtain ⟨k, hk, rfl, hA, hb⟩ := hrel
    have HA := Lib.hid hA
    have HB1 := Lib.hid hb
    clear hA
    by_cases hlt : k < n
    · have hlt1 : k < xs.length := by rw [HN.out]; exact hlt
      obtain ⟨g, rfl, hg, a0⟩ := row_tx (HP.out _ hb) hlt1
      have hxw := HW.out _ (List.getElem_mem hlt1)
      obtain ⟨x, hx⟩ : ∃ x, xs[k] = x := ⟨_, rfl⟩
      have HX := Lib.hid hx
      rw [hx] at a0 hxw
      have i2 := fun W hm => impl_address x W hxw hm
      obtain ⟨A, hAd⟩ : ∃ A, addrB x = A := ⟨_, rfl⟩
      have HAD := Lib.hid hAd
      rw [hAd] at i2
      clear hb hx hAd hxw
      cases A
      · have HL : Hid (Z = false) := Lib.hid (by
          rw [← HZ.out]
          refine bkB_false (fun h => ?_)
          have := h.2.2 k hlt1 hlt1
          rw [HX.out, HAD.out] at this
          cases this)
        go_wp2_with (go_at_call 45; go_fit (i2 _ (HM.out _ HB1.out)); rintro e w2 ⟨rfl, hb2⟩; have HB2 := Lib.hid (HB1.out.trans (hb2.mono HB1.out.size)); clear hb2)
        go_ret
        exact ⟨ret_bool HL.out.symm, HB2.out⟩
      · go_wp2_with (go_at_call 45; go_fit (i2 _ (HM.out _ HB1.out)); rintro e w2 ⟨rfl, hb2⟩; have HB2 := Lib.hid (HB1.out.trans (hb2.mono HB1.out.size)); clear hb2)
        go_roundw
        case rel => exact ⟨k + 1, by omega, by go_num, allT_succ HA.out hlt1 (by rw [HX.out]; exact HAD.out), HB2.out⟩
        case measure => simp [intOf]; omega
    · have HL : Hid (Z = true) := Lib.hid (by
        rw [← HZ.out]
        exact bkB_true ⟨by rw [HN.out]; omega, incTB_iff.1 HI.out, fun i hi h1 => HA.out i hi (by rw [HN.out] at hi; omega)⟩)
      clear hb
      go_wp2
      go_ret
      exact ⟨ret_bool HL.out.symm, HB1.out⟩
/-- Is the element ahead less? -/
def ltT (xs : List ByteArray) (k : Nat) (r : ByteArray) : Bool := match k with
  | 0 => true
  | m + 1 => match xs[m]? with
    | some y => Op.bytesLess y.toList r.toList
    | none => true
set_option maxRecDepth 100000 in
set_option maxHeartbeats 8000000 in
theorem spec_bkright (xs : List ByteArray) (p0 : Option Addr) (c : Nat) (w : World) (hn : xs.length ≤ 1048576) (hw : ∀ x ∈ xs, x.size ≤ 2000000) (hR : RowC strC 1 w p0 xs) :
    Calls Try.prog 20 #[.slice p0 xs.length c] w fun e w' => e = .returned (.bool (bkB xs)) ∧ Below w.heap.size w w' := by
  obtain ⟨n, hxn⟩ : ∃ n, xs.length = n := ⟨_, rfl⟩
  have HP := Lib.hid (fun W (h : Below w.heap.size w W) => hR.on h)
  have HW := Lib.hid hw
  have HN := Lib.hid hxn
  rw [hxn] at hn ⊢
  obtain ⟨Z, hZ⟩ : ∃ Z, bkB xs = Z := ⟨_, rfl⟩
  have HZ := Lib.hid hZ
  rw [hZ]
  clear hR hw hxn hZ
  go_enter Try.func20, Try.ntmps20
  go_wp2
  go_loopw [3] (fun iq wr => ∃ k : Nat, k ≤ n ∧ iq = .int .i64 k ∧ IncT xs k ∧ AllT xs k ∧ Below w.heap.size w wr) (fun i _ => n - (intOf i).toNat)
  case atStart => exact ⟨0, Nat.zero_le _, rfl, incT_0 xs, allT_0 xs, Below.refl _ _⟩
  case round =>
    obtain ⟨k, hk, rfl, hI, hA, hb⟩ := hrel
    have HI := Lib.hid hI
    have HA := Lib.hid hA
    have HB := Lib.hid hb
    clear hA hI
    by_cases hlt : k < n
    · have hlt1 : k < xs.length := by rw [HN.out]; exact hlt
      have HRr := HP.out _ hb
      obtain ⟨g, rfl, hg, a0⟩ := row_tx HRr hlt1
      have hxw := HW.out _ (List.getElem_mem hlt1)
      obtain ⟨x, hx⟩ : ∃ x, xs[k] = x := ⟨_, rfl⟩
      have HX := Lib.hid hx
      rw [hx] at a0 hxw
      have jA := fun W => spec_l11jid x W hxw
      obtain ⟨b1, h1⟩ : ∃ b, addrB x = b := ⟨_, rfl⟩
      have HA1 := Lib.hid h1
      rw [h1] at jA
      obtain ⟨lt0, h6⟩ : ∃ b, ltT xs k x = b := ⟨_, rfl⟩
      obtain ⟨bad, hbad⟩ : ∃ b, (!(b1 && lt0)) = b := ⟨_, rfl⟩
      have HBAD : Hid (bad = !(b1 && lt0)) := Lib.hid hbad.symm
      have HLT0 : Hid (k = 0 → lt0 = true) := Lib.hid (fun h => by subst h; rw [← h6]; rfl)
      have HLT1 : Hid (∀ m, k = m + 1 → ∀ h : m < xs.length, lt0 = Op.bytesLess xs[m].toList x.toList) := Lib.hid (fun m h hm => by
        subst h
        rw [← h6]
        show (match xs[m]? with | some y => Op.bytesLess y.toList x.toList | none => true) = _
        rw [List.getElem?_eq_getElem hm])
      have HS0 : Hid (RowC strC 1 wr.drew (some ⟨g, 0, none⟩) xs ∧ Below w.heap.size w wr.drew) := Lib.hid ⟨HRr.on (Below.refl _ _).drew, hb.drew⟩
      clear hb hx hxw h1 h6 hbad HRr a0 hg
      go_wp2
      refine region_join [10, 11, 12, 13, 14, 15, 16, 17, 18, 19, 20, 21, 22, 23, 24, 25, 26, 27, 28, 29, 30, 31] (fun vs W => vs 31 = .bool bad ∧ (RowC strC 1 W (some ⟨g, 0, none⟩) xs ∧ Below w.heap.size w W)) ?_ ?_
      · refine wp_region_held_drew (S := fun W => (RowC strC 1 W (some ⟨g, 0, none⟩) xs ∧ Below w.heap.size w W)) (by kernel_rfl) HS0.out (fun hHeld => ?_)
        generalize wr.drew = Wd at hHeld ⊢
        clear HS0
        refine takeQ (i := 0) (k := 10) (v := .slice (some ⟨g, 0, none⟩) n c) rfl (by rfl) (by kernel_rfl) (by kernel_rfl) (by kernel_rfl) (fun _ _ _ h => h) (by rfl) ?_ hHeld ?_
        · intro w1 hSw; go_simp
        (try simp only [Act.put, List.setIfInBounds_toArray, List.set_cons_zero, List.set_cons_succ])
        refine takeQ (i := 1) (k := 11) (v := .int .i64 k) rfl (by rfl) (by kernel_rfl) (by kernel_rfl) (by kernel_rfl) (fun _ _ _ h => h) (by rfl) ?_ hHeld ?_
        · intro w1 hSw; go_simp
        (try simp only [Act.put, List.setIfInBounds_toArray, List.set_cons_zero, List.set_cons_succ])
        refine takeQ (i := 2) (k := 12) (v := .pointer (some ⟨g, k, none⟩)) rfl (by rfl) (by kernel_rfl) (by kernel_rfl) (by kernel_rfl) (fun _ _ _ h => h) (by rfl) ?_ hHeld ?_
        · intro w1 hSw; go_simp
        (try simp only [Act.put, List.setIfInBounds_toArray, List.set_cons_zero, List.set_cons_succ])
        refine takeQ (i := 3) (k := 13) (v := .string x) rfl (by rfl) (by kernel_rfl) (by kernel_rfl) (by kernel_rfl) (fun _ _ _ h => h) (by rfl) ?_ hHeld ?_
        · intro w1 hSw; (obtain ⟨g2, hgg, _, y0⟩ := row_tx hSw.1 hlt1); (injection hgg with hgg); (injection hgg with hgg); subst hgg; rw [HX.out] at y0; go_simp
        (try simp only [Act.put, List.setIfInBounds_toArray, List.set_cons_zero, List.set_cons_succ])
        refine wpAnyH_ready (rs := [4]) (by kernel_rfl) (by simp) ?_
        refine AllReadyH.cons rfl (fun K hK => ?_) AllReadyH.nil
        rw [if_pos (by rfl)]
        go_simp
        go_fit (jA _)
        rintro e0 wz ⟨rfl, hbz⟩
        refine hK.out _ _ ⟨hHeld.1.on hbz, hHeld.2.trans (hbz.mono hHeld.2.size)⟩ (fun hHeld => ?_)
        clear hK K
        (try simp only [Act.put, List.setIfInBounds_toArray, List.set_cons_zero, List.set_cons_succ])
        cases b1
        · skip
          refine takeQ (i := 5) (k := 15) (v := .bool true) rfl (by rfl) (by kernel_rfl) (by kernel_rfl) (by kernel_rfl) (fun _ _ _ h => h) (by rfl) ?_ hHeld ?_
          · intro w1 hSw; go_simp
          (try simp only [Act.put, List.setIfInBounds_toArray, List.set_cons_zero, List.set_cons_succ])
          refine takeQ (i := 6) (k := 16) (v := .bool true) rfl (by rfl) (by kernel_rfl) (by kernel_rfl) (by kernel_rfl) (fun _ _ _ h => h) (by rfl) ?_ hHeld ?_
          · intro w1 hSw; go_simp
          (try simp only [Act.put, List.setIfInBounds_toArray, List.set_cons_zero, List.set_cons_succ])
          refine skipQ (i := 7) (k := 17) rfl (by rfl) (by kernel_rfl) (by kernel_rfl) (by kernel_rfl) (fun _ _ _ h => h) (by rfl) hHeld ?_
          (try simp only [Act.put, List.setIfInBounds_toArray, List.set_cons_zero, List.set_cons_succ])
          refine skipQ (i := 8) (k := 18) rfl (by rfl) (by kernel_rfl) (by kernel_rfl) (by kernel_rfl) (fun _ _ _ h => h) (by rfl) hHeld ?_
          (try simp only [Act.put, List.setIfInBounds_toArray, List.set_cons_zero, List.set_cons_succ])
          refine skipQ (i := 9) (k := 19) rfl (by rfl) (by kernel_rfl) (by kernel_rfl) (by kernel_rfl) (fun _ _ _ h => h) (by rfl) hHeld ?_
          (try simp only [Act.put, List.setIfInBounds_toArray, List.set_cons_zero, List.set_cons_succ])
          refine skipQ (i := 10) (k := 20) rfl (by rfl) (by kernel_rfl) (by kernel_rfl) (by kernel_rfl) (fun _ _ _ h => h) (by rfl) hHeld ?_
          (try simp only [Act.put, List.setIfInBounds_toArray, List.set_cons_zero, List.set_cons_succ])
          refine skipQ (i := 11) (k := 21) rfl (by rfl) (by kernel_rfl) (by kernel_rfl) (by kernel_rfl) (fun _ _ _ h => h) (by rfl) hHeld ?_
          (try simp only [Act.put, List.setIfInBounds_toArray, List.set_cons_zero, List.set_cons_succ])
          refine skipQ (i := 12) (k := 22) rfl (by rfl) (by kernel_rfl) (by kernel_rfl) (by kernel_rfl) (fun _ _ _ h => h) (by rfl) hHeld ?_
          (try simp only [Act.put, List.setIfInBounds_toArray, List.set_cons_zero, List.set_cons_succ])
          refine skipQ (i := 13) (k := 23) rfl (by rfl) (by kernel_rfl) (by kernel_rfl) (by kernel_rfl) (fun _ _ _ h => h) (by rfl) hHeld ?_
          (try simp only [Act.put, List.setIfInBounds_toArray, List.set_cons_zero, List.set_cons_succ])
          refine skipQ (i := 14) (k := 24) rfl (by rfl) (by kernel_rfl) (by kernel_rfl) (by kernel_rfl) (fun _ _ _ h => h) (by rfl) hHeld ?_
          (try simp only [Act.put, List.setIfInBounds_toArray, List.set_cons_zero, List.set_cons_succ])
          refine skipQ (i := 15) (k := 25) rfl (by rfl) (by kernel_rfl) (by kernel_rfl) (by kernel_rfl) (fun _ _ _ h => h) (by rfl) hHeld ?_
          (try simp only [Act.put, List.setIfInBounds_toArray, List.set_cons_zero, List.set_cons_succ])
          refine skipQ (i := 16) (k := 26) rfl (by rfl) (by kernel_rfl) (by kernel_rfl) (by kernel_rfl) (fun _ _ _ h => h) (by rfl) hHeld ?_
          (try simp only [Act.put, List.setIfInBounds_toArray, List.set_cons_zero, List.set_cons_succ])
          refine skipQ (i := 17) (k := 27) rfl (by rfl) (by kernel_rfl) (by kernel_rfl) (by kernel_rfl) (fun _ _ _ h => h) (by rfl) hHeld ?_
          (try simp only [Act.put, List.setIfInBounds_toArray, List.set_cons_zero, List.set_cons_succ])
          refine skipQ (i := 18) (k := 28) rfl (by rfl) (by kernel_rfl) (by kernel_rfl) (by kernel_rfl) (fun _ _ _ h => h) (by rfl) hHeld ?_
          (try simp only [Act.put, List.setIfInBounds_toArray, List.set_cons_zero, List.set_cons_succ])
          refine skipQ (i := 19) (k := 29) rfl (by rfl) (by kernel_rfl) (by kernel_rfl) (by kernel_rfl) (fun _ _ _ h => h) (by rfl) hHeld ?_
          (try simp only [Act.put, List.setIfInBounds_toArray, List.set_cons_zero, List.set_cons_succ])
          refine skipQ (i := 20) (k := 30) rfl (by rfl) (by kernel_rfl) (by kernel_rfl) (by kernel_rfl) (fun _ _ _ h => h) (by rfl) hHeld ?_
          (try simp only [Act.put, List.setIfInBounds_toArray, List.set_cons_zero, List.set_cons_succ])
          refine takeQ (i := 21) (k := 31) (v := .bool true) rfl (by rfl) (by kernel_rfl) (by kernel_rfl) (by kernel_rfl) (fun _ _ _ h => h) (by rfl) ?_ hHeld ?_
          · intro w1 hSw; go_simp
          (try simp only [Act.put, List.setIfInBounds_toArray, List.set_cons_zero, List.set_cons_succ])
          refine wpAnyH_done (by kernel_rfl) ?_ _
          exact ⟨⟨congrArg Value.bool (show true = bad by rw [HBAD.out]; simp), hHeld⟩, by simp only [putAll, Act.put, List.setIfInBounds_toArray, List.set_cons_zero, List.set_cons_succ]; rfl⟩
        · skip
          refine takeQ (i := 5) (k := 15) (v := .bool false) rfl (by rfl) (by kernel_rfl) (by kernel_rfl) (by kernel_rfl) (fun _ _ _ h => h) (by rfl) ?_ hHeld ?_
          · intro w1 hSw; go_simp
          (try simp only [Act.put, List.setIfInBounds_toArray, List.set_cons_zero, List.set_cons_succ])
          refine takeQ (i := 6) (k := 16) (v := .bool false) rfl (by rfl) (by kernel_rfl) (by kernel_rfl) (by kernel_rfl) (fun _ _ _ h => h) (by rfl) ?_ hHeld ?_
          · intro w1 hSw; go_simp
          (try simp only [Act.put, List.setIfInBounds_toArray, List.set_cons_zero, List.set_cons_succ])
          rcases Nat.eq_zero_or_pos k with hk0 | hk0
          · obtain rfl := HLT0.out hk0
            subst hk0
            refine takeQ (i := 7) (k := 17) (v := .int .i64 0) rfl (by rfl) (by kernel_rfl) (by kernel_rfl) (by kernel_rfl) (fun _ _ _ h => h) (by rfl) ?_ hHeld ?_
            · intro w1 hSw; go_simp
            (try simp only [Act.put, List.setIfInBounds_toArray, List.set_cons_zero, List.set_cons_succ])
            refine takeQ (i := 8) (k := 18) (v := .bool false) rfl (by rfl) (by kernel_rfl) (by kernel_rfl) (by kernel_rfl) (fun _ _ _ h => h) (by rfl) ?_ hHeld ?_
            · intro w1 hSw; go_simp
            (try simp only [Act.put, List.setIfInBounds_toArray, List.set_cons_zero, List.set_cons_succ])
            refine takeQ (i := 9) (k := 19) (v := .bool false) rfl (by rfl) (by kernel_rfl) (by kernel_rfl) (by kernel_rfl) (fun _ _ _ h => h) (by rfl) ?_ hHeld ?_
            · intro w1 hSw; go_simp
            (try simp only [Act.put, List.setIfInBounds_toArray, List.set_cons_zero, List.set_cons_succ])
            refine skipQ (i := 10) (k := 20) rfl (by rfl) (by kernel_rfl) (by kernel_rfl) (by kernel_rfl) (fun _ _ _ h => h) (by rfl) hHeld ?_
            (try simp only [Act.put, List.setIfInBounds_toArray, List.set_cons_zero, List.set_cons_succ])
            refine skipQ (i := 11) (k := 21) rfl (by rfl) (by kernel_rfl) (by kernel_rfl) (by kernel_rfl) (fun _ _ _ h => h) (by rfl) hHeld ?_
            (try simp only [Act.put, List.setIfInBounds_toArray, List.set_cons_zero, List.set_cons_succ])
            refine skipQ (i := 12) (k := 22) rfl (by rfl) (by kernel_rfl) (by kernel_rfl) (by kernel_rfl) (fun _ _ _ h => h) (by rfl) hHeld ?_
            (try simp only [Act.put, List.setIfInBounds_toArray, List.set_cons_zero, List.set_cons_succ])
            refine skipQ (i := 13) (k := 23) rfl (by rfl) (by kernel_rfl) (by kernel_rfl) (by kernel_rfl) (fun _ _ _ h => h) (by rfl) hHeld ?_
            (try simp only [Act.put, List.setIfInBounds_toArray, List.set_cons_zero, List.set_cons_succ])
            refine skipQ (i := 14) (k := 24) rfl (by rfl) (by kernel_rfl) (by kernel_rfl) (by kernel_rfl) (fun _ _ _ h => h) (by rfl) hHeld ?_
            (try simp only [Act.put, List.setIfInBounds_toArray, List.set_cons_zero, List.set_cons_succ])
            refine skipQ (i := 15) (k := 25) rfl (by rfl) (by kernel_rfl) (by kernel_rfl) (by kernel_rfl) (fun _ _ _ h => h) (by rfl) hHeld ?_
            (try simp only [Act.put, List.setIfInBounds_toArray, List.set_cons_zero, List.set_cons_succ])
            refine skipQ (i := 16) (k := 26) rfl (by rfl) (by kernel_rfl) (by kernel_rfl) (by kernel_rfl) (fun _ _ _ h => h) (by rfl) hHeld ?_
            (try simp only [Act.put, List.setIfInBounds_toArray, List.set_cons_zero, List.set_cons_succ])
            refine skipQ (i := 17) (k := 27) rfl (by rfl) (by kernel_rfl) (by kernel_rfl) (by kernel_rfl) (fun _ _ _ h => h) (by rfl) hHeld ?_
            (try simp only [Act.put, List.setIfInBounds_toArray, List.set_cons_zero, List.set_cons_succ])
            refine skipQ (i := 18) (k := 28) rfl (by rfl) (by kernel_rfl) (by kernel_rfl) (by kernel_rfl) (fun _ _ _ h => h) (by rfl) hHeld ?_
            (try simp only [Act.put, List.setIfInBounds_toArray, List.set_cons_zero, List.set_cons_succ])
            refine skipQ (i := 19) (k := 29) rfl (by rfl) (by kernel_rfl) (by kernel_rfl) (by kernel_rfl) (fun _ _ _ h => h) (by rfl) hHeld ?_
            (try simp only [Act.put, List.setIfInBounds_toArray, List.set_cons_zero, List.set_cons_succ])
            refine takeQ (i := 20) (k := 30) (v := .bool false) rfl (by rfl) (by kernel_rfl) (by kernel_rfl) (by kernel_rfl) (fun _ _ _ h => h) (by rfl) ?_ hHeld ?_
            · intro w1 hSw; go_simp
            (try simp only [Act.put, List.setIfInBounds_toArray, List.set_cons_zero, List.set_cons_succ])
            refine takeQ (i := 21) (k := 31) (v := .bool false) rfl (by rfl) (by kernel_rfl) (by kernel_rfl) (by kernel_rfl) (fun _ _ _ h => h) (by rfl) ?_ hHeld ?_
            · intro w1 hSw; go_simp
            (try simp only [Act.put, List.setIfInBounds_toArray, List.set_cons_zero, List.set_cons_succ])
            refine wpAnyH_done (by kernel_rfl) ?_ _
            exact ⟨⟨congrArg Value.bool (show false = bad by rw [HBAD.out]; simp), hHeld⟩, by simp only [putAll, Act.put, List.setIfInBounds_toArray, List.set_cons_zero, List.set_cons_succ]; rfl⟩
          · obtain ⟨m, rfl⟩ : ∃ m, k = m + 1 := ⟨k - 1, by omega⟩
            have hm1 : m < xs.length := by omega
            obtain ⟨y, hy⟩ : ∃ y, xs[m] = y := ⟨_, rfl⟩
            have HY := Lib.hid hy
            have hlm := HLT1.out m rfl hm1
            rw [hy] at hlm
            clear hy
            have q1 : (0 : Int) ≤ (m : Int) := by omega
            have q2 : (m : Int) < (n : Int) := by omega
            have q3 : (0 : Int) < (m : Int) + 1 := by omega
            have hw2 : IntKind.i64.wrap (m : Int) = (m : Int) := IntWalk.i64_in _ (by omega)
            have q4 : (m : Int) + 1 < (n : Int) := by omega
            have q5 : (0 : Int) ≤ (m : Int) + 1 := by omega
            have hw1 : IntKind.i64.wrap ((m : Int) + 1 - 1) = (m : Int) := by rw [IntWalk.i64_in _ (by omega)]; omega
            refine takeQ (i := 7) (k := 17) (v := .int .i64 ((m : Int) + 1)) rfl (by rfl) (by kernel_rfl) (by kernel_rfl) (by kernel_rfl) (fun _ _ _ h => h) (by rfl) ?_ hHeld ?_
            · intro w1 hSw; go_simp
            (try simp only [Act.put, List.setIfInBounds_toArray, List.set_cons_zero, List.set_cons_succ])
            refine takeQ (i := 8) (k := 18) (v := .bool true) rfl (by rfl) (by kernel_rfl) (by kernel_rfl) (by kernel_rfl) (fun _ _ _ h => h) (by rfl) ?_ hHeld ?_
            · intro w1 hSw; go_simp
            (try simp only [Act.put, List.setIfInBounds_toArray, List.set_cons_zero, List.set_cons_succ])
            refine takeQ (i := 9) (k := 19) (v := .bool true) rfl (by rfl) (by kernel_rfl) (by kernel_rfl) (by kernel_rfl) (fun _ _ _ h => h) (by rfl) ?_ hHeld ?_
            · intro w1 hSw; go_simp
            (try simp only [Act.put, List.setIfInBounds_toArray, List.set_cons_zero, List.set_cons_succ])
            refine takeQ (i := 10) (k := 20) (v := .slice (some ⟨g, 0, none⟩) n c) rfl (by rfl) (by kernel_rfl) (by kernel_rfl) (by kernel_rfl) (fun _ _ _ h => h) (by rfl) ?_ hHeld ?_
            · intro w1 hSw; go_simp
            (try simp only [Act.put, List.setIfInBounds_toArray, List.set_cons_zero, List.set_cons_succ])
            refine takeQ (i := 11) (k := 21) (v := .int .i64 ((m : Int) + 1)) rfl (by rfl) (by kernel_rfl) (by kernel_rfl) (by kernel_rfl) (fun _ _ _ h => h) (by rfl) ?_ hHeld ?_
            · intro w1 hSw; go_simp
            (try simp only [Act.put, List.setIfInBounds_toArray, List.set_cons_zero, List.set_cons_succ])
            refine takeQ (i := 12) (k := 22) (v := .int .i64 (m : Int)) rfl (by rfl) (by kernel_rfl) (by kernel_rfl) (by kernel_rfl) (fun _ _ _ h => h) (by rfl) ?_ hHeld ?_
            · intro w1 hSw; go_simp
            (try simp only [Act.put, List.setIfInBounds_toArray, List.set_cons_zero, List.set_cons_succ])
            refine takeQ (i := 13) (k := 23) (v := .pointer (some ⟨g, m, none⟩)) rfl (by rfl) (by kernel_rfl) (by kernel_rfl) (by kernel_rfl) (fun _ _ _ h => h) (by rfl) ?_ hHeld ?_
            · intro w1 hSw; go_simp
            (try simp only [Act.put, List.setIfInBounds_toArray, List.set_cons_zero, List.set_cons_succ])
            refine takeQ (i := 14) (k := 24) (v := .string y) rfl (by rfl) (by kernel_rfl) (by kernel_rfl) (by kernel_rfl) (fun _ _ _ h => h) (by rfl) ?_ hHeld ?_
            · intro w1 hSw; (obtain ⟨g2, hgg, _, y0⟩ := row_tx hSw.1 hm1); (injection hgg with hgg); (injection hgg with hgg); subst hgg; rw [HY.out] at y0; go_simp
            (try simp only [Act.put, List.setIfInBounds_toArray, List.set_cons_zero, List.set_cons_succ])
            refine takeQ (i := 15) (k := 25) (v := .slice (some ⟨g, 0, none⟩) n c) rfl (by rfl) (by kernel_rfl) (by kernel_rfl) (by kernel_rfl) (fun _ _ _ h => h) (by rfl) ?_ hHeld ?_
            · intro w1 hSw; go_simp
            (try simp only [Act.put, List.setIfInBounds_toArray, List.set_cons_zero, List.set_cons_succ])
            refine takeQ (i := 16) (k := 26) (v := .int .i64 ((m : Int) + 1)) rfl (by rfl) (by kernel_rfl) (by kernel_rfl) (by kernel_rfl) (fun _ _ _ h => h) (by rfl) ?_ hHeld ?_
            · intro w1 hSw; go_simp
            (try simp only [Act.put, List.setIfInBounds_toArray, List.set_cons_zero, List.set_cons_succ])
            refine takeQ (i := 17) (k := 27) (v := .pointer (some ⟨g, m + 1, none⟩)) rfl (by rfl) (by kernel_rfl) (by kernel_rfl) (by kernel_rfl) (fun _ _ _ h => h) (by rfl) ?_ hHeld ?_
            · intro w1 hSw; go_simp
            (try simp only [Act.put, List.setIfInBounds_toArray, List.set_cons_zero, List.set_cons_succ])
            refine takeQ (i := 18) (k := 28) (v := .string x) rfl (by rfl) (by kernel_rfl) (by kernel_rfl) (by kernel_rfl) (fun _ _ _ h => h) (by rfl) ?_ hHeld ?_
            · intro w1 hSw; (obtain ⟨g2, hgg, _, y0⟩ := row_tx hSw.1 hlt1); (injection hgg with hgg); (injection hgg with hgg); subst hgg; rw [HX.out] at y0; go_simp
            (try simp only [Act.put, List.setIfInBounds_toArray, List.set_cons_zero, List.set_cons_succ])
            refine takeQ (i := 19) (k := 29) (v := .bool (!lt0)) rfl (by rfl) (by kernel_rfl) (by kernel_rfl) (by kernel_rfl) (fun _ _ _ h => h) (by rfl) ?_ hHeld ?_
            · intro w1 hSw; rw [hlm]; go_simp
            (try simp only [Act.put, List.setIfInBounds_toArray, List.set_cons_zero, List.set_cons_succ])
            refine takeQ (i := 20) (k := 30) (v := .bool (!lt0)) rfl (by rfl) (by kernel_rfl) (by kernel_rfl) (by kernel_rfl) (fun _ _ _ h => h) (by rfl) ?_ hHeld ?_
            · intro w1 hSw; go_simp
            (try simp only [Act.put, List.setIfInBounds_toArray, List.set_cons_zero, List.set_cons_succ])
            refine takeQ (i := 21) (k := 31) (v := .bool (!lt0)) rfl (by rfl) (by kernel_rfl) (by kernel_rfl) (by kernel_rfl) (fun _ _ _ h => h) (by rfl) ?_ hHeld ?_
            · intro w1 hSw; go_simp
            (try simp only [Act.put, List.setIfInBounds_toArray, List.set_cons_zero, List.set_cons_succ])
            refine wpAnyH_done (by kernel_rfl) ?_ _
            exact ⟨⟨congrArg Value.bool (show (!lt0) = bad by rw [HBAD.out]; simp), hHeld⟩, by simp only [putAll, Act.put, List.setIfInBounds_toArray, List.set_cons_zero, List.set_cons_succ]; rfl⟩
      · rintro vs W2 ⟨hv, hS⟩
        simp only [putAll, Act.put, List.setIfInBounds_toArray, List.set_cons_zero, List.set_cons_succ, hv]
        have HS := Lib.hid hS.2
        clear hv hS jA
        cases bad
        · have hall : b1 = true ∧ lt0 = true := by
            have h := HBAD.out
            revert h
            cases b1 <;> cases lt0 <;> decide
          have HALL := Lib.hid hall
          clear hall
          go_wp2
          go_roundw
          case rel =>
            refine ⟨k + 1, by omega, by go_num, incT_succ HI.out hlt1 (fun h0 h' => ?_), allT_succ HA.out hlt1 ?_, HS.out⟩
            · have h := HLT1.out (k - 1) (by omega) h'
              rw [HALL.out.2] at h
              rw [HX.out]
              exact h.symm
            · rw [HX.out, HA1.out, HALL.out.1]
          case measure => simp [intOf]; omega
        · have HL : Hid (Z = false) := Lib.hid (by
            rw [← HZ.out]
            refine bkB_false (fun h => ?_)
            have q1 := h.2.2 k hlt1 hlt1
            rw [HX.out, HA1.out] at q1
            have q2 : lt0 = true := by
              rcases Nat.eq_zero_or_pos k with h0 | h0
              · exact HLT0.out h0
              · have hk1 : k - 1 < xs.length := by omega
                rw [HLT1.out (k - 1) (by omega) hk1, ← HX.out]
                exact h.2.1 k hlt1 h0 hlt1 hk1
            have q3 := HBAD.out
            rw [q2, q1] at q3
            cases q3)
          go_wp2
          go_ret
          exact ⟨ret_bool HL.out.symm, HS.out⟩
    · have HL : Hid (Z = decide (n ≤ 8)) := Lib.hid (by
        rw [← HZ.out]
        by_cases h5 : n ≤ 8
        · rw [decide_eq_true h5]
          exact bkB_true ⟨by rw [HN.out]; exact h5, fun i hi h0 h1 h' => HI.out i hi h0 (by rw [HN.out] at hi; omega) h', fun i hi h0 => HA.out i hi (by rw [HN.out] at hi; omega)⟩
        · rw [decide_eq_false h5]
          exact bkB_false (fun h => h5 (by have := h.1; rw [HN.out] at this; exact this)))
      clear hb
      go_wp2
      go_ret
      exact ⟨ret_bool (by rw [HL.out]; simp; omega), HB.out⟩
end Go.Proofs.Ytpjmcpfmnlfmdaa

namespace Go.Proofs.Ytpjmcpfmnlfmdaa
set_option linter.unusedSimpArgs false
set_option linter.unusedVariables false
open Go.RowKit Go.Joins

theorem row_ownX {W : World} {B : Nat} {p : Option Addr} {k n : Nat} {xs : List ByteArray} (h : OwnC strC W B 9 1 (.slice p n k) xs) : RowC strC 1 W p xs := by
  obtain ⟨p', k', e, hR⟩ := h.row strC_len
  injection e with e1 e2 e3
  rw [e1]
  exact hR
theorem own_lenX {W : World} {B : Nat} {v : Value} {xs : List ByteArray} (h : OwnC strC W B 9 1 v xs) : ∃ p k, v = .slice p xs.length k := by
  obtain ⟨p', k', e, hR⟩ := h.row strC_len
  exact ⟨p', k', e⟩
theorem tx_max {xs : List ByteArray} (h : ∀ x ∈ xs, x.size ≤ 1048576) : ∀ x ∈ xs, x.size ≤ maxLen := fun x hx => by have := h x hx; unfold maxLen; omega
theorem tx_two {xs : List ByteArray} (h : ∀ x ∈ xs, x.size ≤ 1048576) : ∀ x ∈ xs, x.size ≤ 2000000 := fun x hx => by have := h x hx; omega
end Go.Proofs.Ytpjmcpfmnlfmdaa

namespace Go.Proofs.Ytpjmcpfmnlfmdaa
set_option linter.unusedSimpArgs false
set_option linter.unusedVariables false
open Go.ChangeShapes Go.WideShapes Go.ChangeAt Go.RowKit Go.Joins

/-- A stanza: kind, type, from, to, id, body. -/
structure MsL where
  k : ByteArray
  t : ByteArray
  f : ByteArray
  o : ByteArray
  n : Int
  b : ByteArray
instance : Inhabited MsL := ⟨⟨ByteArray.empty, ByteArray.empty, ByteArray.empty, ByteArray.empty, 0, ByteArray.empty⟩⟩
def msC (x : MsL) : List Value := [.string x.k, .string x.t, .string x.f, .string x.o, .int .i64 x.n, .string x.b]
theorem msC_len (x : MsL) : (msC x).length = 6 := rfl
theorem msC_one (x : MsL) : ∀ u ∈ msC x, u.oneCell' = true := by
  intro u hu
  simp [msC] at hu
  rcases hu with rfl | rfl | rfl | rfl | rfl | rfl <;> rfl
/-- Strings and numbers as the machine has them. -/
def MsL.wf (x : MsL) : Prop := x.k.size ≤ maxLen ∧ x.t.size ≤ maxLen ∧ x.f.size ≤ maxLen ∧ x.o.size ≤ maxLen ∧ (Lit.int .i64 x.n).wf = true ∧ x.b.size ≤ maxLen
/-- Texts that a law lets in. -/
def MsL.le (m : Nat) (x : MsL) : Prop := x.k.size ≤ m ∧ x.t.size ≤ m ∧ x.f.size ≤ m ∧ x.o.size ≤ m ∧ x.b.size ≤ m
theorem row_ms6 {w : World} {p : Option Addr} {xs : List MsL} (h : RowC msC 6 w p xs) {i : Nat} (hi : i < xs.length) : ∃ g, p = some ⟨g, 0, none⟩ ∧ g < w.heap.size ∧ w.cell? ⟨g, i * 6, none⟩ = some (.string xs[i].k) ∧ w.cell? ⟨g, i * 6 + 1, none⟩ = some (.string xs[i].t) ∧ w.cell? ⟨g, i * 6 + 2, none⟩ = some (.string xs[i].f) ∧ w.cell? ⟨g, i * 6 + 3, none⟩ = some (.string xs[i].o) ∧ w.cell? ⟨g, i * 6 + 4, none⟩ = some (.int .i64 xs[i].n) ∧ w.cell? ⟨g, i * 6 + 5, none⟩ = some (.string xs[i].b) := by
  obtain ⟨g, h1, h2, h3⟩ := h (List.ne_nil_of_length_pos (by omega))
  exact ⟨g, h1, h2, h3 i hi 0 (by decide), h3 i hi 1 (by decide), h3 i hi 2 (by decide), h3 i hi 3 (by decide), h3 i hi 4 (by decide), h3 i hi 5 (by decide)⟩
end Go.Proofs.Ytpjmcpfmnlfmdaa

namespace Go.Proofs.Ytpjmcpfmnlfmdaa
set_option linter.unusedSimpArgs false
set_option linter.unusedVariables false
open Go.ChangeShapes Go.WideShapes Go.ChangeAt Go.RowKit Go.Joins

/-- A slice of sessions among the arguments. -/
def SsArg (W : World) (a : Option Addr) (len : Nat) (ps : List SeL) : Prop := ps.length = len ∧ len ≤ maxLen ∧ (∀ p ∈ ps, p.wf) ∧ RowA seC 4 W a ps
theorem SsArg.below {W W2 : World} {a : Option Addr} {len : Nat} {ps : List SeL} (h : SsArg W a len ps) (hb : Below W.heap.size W W2) : SsArg W2 a len ps := ⟨h.1, h.2.1, h.2.2.1, h.2.2.2.below hb⟩
theorem addr_plainS {w : World} {x : Addr} {v : Value} (h : w.cell? x = some v) : x = ⟨x.block, x.off, none⟩ := by
  obtain ⟨b, off, sp⟩ := x
  cases sp with
  | none => rfl
  | some s =>
    simp [World.cell?] at h
    split at h <;> cases h
theorem mapM_fourS {f : Nat → Option Value} {cs : List Value} (h : (List.range 4).mapM f = some cs) : ∃ c0 c1 c2 c3, cs = [c0, c1, c2, c3] ∧ f 0 = some c0 ∧ f 1 = some c1 ∧ f 2 = some c2 ∧ f 3 = some c3 := by
  rw [show List.range 4 = [0, 1, 2, 3] from rfl] at h
  simp only [List.mapM_cons, List.mapM_nil, Option.bind_eq_bind, Option.pure_def] at h
  cases h0 : f 0 with
  | none => rw [h0] at h; simp at h
  | some c0 =>
    cases h1 : f 1 with
    | none => rw [h0, h1] at h; simp at h
    | some c1 =>
      cases h2 : f 2 with
      | none => rw [h0, h1, h2] at h; simp at h
      | some c2 =>
        cases h3 : f 3 with
        | none => rw [h0, h1, h2, h3] at h; simp at h
        | some c3 =>
          rw [h0, h1, h2, h3] at h
          simp at h
          exact ⟨c0, c1, c2, c3, h.symm, rfl, rfl, rfl, rfl⟩
theorem cells_fourS {W : World} {base : Nat} {a : Addr} {cs : List Value} (h : W.cells? base a 4 = some cs) : ∃ c0 c1 c2 c3, cs = [c0, c1, c2, c3] ∧ W.cell? (a.add 0) = some c0 ∧ W.cell? (a.add 1) = some c1 ∧ W.cell? (a.add 2) = some c2 ∧ W.cell? (a.add 3) = some c3 := by
  unfold World.cells? at h
  split at h
  · exact mapM_fourS h
  · cases h
end Go.Proofs.Ytpjmcpfmnlfmdaa

namespace Go.Proofs.Ytpjmcpfmnlfmdaa
set_option linter.unusedSimpArgs false
set_option linter.unusedVariables false
open Go.RowKit

/-- So many elements have been copied. -/
def Cop_ms (xs : List MsL) (g n i : Nat) (W : World) : Prop := ∃ L, Arr W g 41 L ∧ L.length = n * 6 ∧ ∀ i' (h : i' < xs.length), i' < i → ∀ j, j < 6 → L[i' * 6 + j]? = (msC xs[i'])[j]?
theorem Cop_ms.on {xs : List MsL} {g n i : Nat} {W W2 : World} (h : Cop_ms xs g n i W) (hb : Below W.heap.size W W2) : Cop_ms xs g n i W2 := by
  obtain ⟨L, h1, h2⟩ := h
  exact ⟨L, (hb.block g (Array.getElem?_eq_some_iff.1 h1).1).trans h1, h2⟩
theorem Cop_ms.there {xs : List MsL} {g n i q : Nat} {W : World} (h : Cop_ms xs g n i W) (hq : q < n * 6) : (∃ u, W.cell? ⟨g, q, none⟩ = some u) ∧ W.frozen? ⟨g, q, none⟩ = false := by
  obtain ⟨L, h1, h2, _⟩ := h
  rw [h1.cell, h1.free]
  exact ⟨⟨L[q]'(by omega), List.getElem?_eq_getElem _⟩, rfl⟩
theorem Cop_ms.step {xs : List MsL} {g n i : Nat} {W : World} (h : Cop_ms xs g n i W) (hi : i < n) {x : MsL} (hx : xs[i]? = some x) : Cop_ms xs g n (i + 1) ((((((W.setCell ⟨g, i * 6, none⟩ (.string x.k)).setCell ⟨g, i * 6 + 1, none⟩ (.string x.t)).setCell ⟨g, i * 6 + 2, none⟩ (.string x.f)).setCell ⟨g, i * 6 + 3, none⟩ (.string x.o)).setCell ⟨g, i * 6 + 4, none⟩ (.int .i64 x.n)).setCell ⟨g, i * 6 + 5, none⟩ (.string x.b)) := by
  obtain ⟨L, h1, h2, h3⟩ := h
  refine ⟨_, (((((h1.put (i * 6) _).put (i * 6 + 1) _).put (i * 6 + 2) _).put (i * 6 + 3) _).put (i * 6 + 4) _).put (i * 6 + 5) _, by simpa using h2, fun i' hi' hlt j hj => ?_⟩
  by_cases e : i' = i
  · subst e
    have ex : xs[i'] = x := by rw [List.getElem?_eq_getElem hi'] at hx; exact Option.some.inj hx
    rw [ex]
    match j, hj with
    | 0, _ => rw [show i' * 6 + 0 = i' * 6 from rfl]; rw [List.getElem?_set_ne (by omega)]; rw [List.getElem?_set_ne (by omega)]; rw [List.getElem?_set_ne (by omega)]; rw [List.getElem?_set_ne (by omega)]; rw [List.getElem?_set_ne (by omega)]; rw [List.getElem?_set_self (by first | omega | (simp; omega))]; rfl
    | 1, _ => rw [List.getElem?_set_ne (by omega)]; rw [List.getElem?_set_ne (by omega)]; rw [List.getElem?_set_ne (by omega)]; rw [List.getElem?_set_ne (by omega)]; rw [List.getElem?_set_self (by first | omega | (simp; omega))]; rfl
    | 2, _ => rw [List.getElem?_set_ne (by omega)]; rw [List.getElem?_set_ne (by omega)]; rw [List.getElem?_set_ne (by omega)]; rw [List.getElem?_set_self (by first | omega | (simp; omega))]; rfl
    | 3, _ => rw [List.getElem?_set_ne (by omega)]; rw [List.getElem?_set_ne (by omega)]; rw [List.getElem?_set_self (by first | omega | (simp; omega))]; rfl
    | 4, _ => rw [List.getElem?_set_ne (by omega)]; rw [List.getElem?_set_self (by first | omega | (simp; omega))]; rfl
    | 5, _ => rw [List.getElem?_set_self (by first | omega | (simp; omega))]; rfl
  · have := h3 i' hi' (by omega) j hj
    rw [List.getElem?_set_ne (by omega), List.getElem?_set_ne (by omega), List.getElem?_set_ne (by omega), List.getElem?_set_ne (by omega), List.getElem?_set_ne (by omega), List.getElem?_set_ne (by omega)]
    exact this
theorem Cop_ms.own {xs : List MsL} {g n B : Nat} {W : World} (h : Cop_ms xs g n n W) (hn : xs.length = n) (hB : B ≤ g) (hm : n ≤ 1048576) : OwnC msC W B 41 6 (.slice (some ⟨g, 0, none⟩) n n) xs := by
  obtain ⟨L, h1, h2, h3⟩ := h
  have e : L = xs.flatMap msC := by
    apply List.ext_getElem?
    intro q
    by_cases hq : q < n * 6
    · have h4 := h3 (q / 6) (by rw [hn]; omega) (by omega) (q % 6) (by omega)
      rw [show q / 6 * 6 + q % 6 = q by omega] at h4
      rw [h4]
      have h5 := flat_at (enc := msC) (size := 6) (fun _ => rfl) xs (q / 6) (q % 6) (by rw [hn]; omega) (by omega)
      rw [show q / 6 * 6 + q % 6 = q by omega] at h5
      exact h5.symm
    · rw [List.getElem?_eq_none (by omega), List.getElem?_eq_none]
      rw [flat_len (enc := msC) (size := 6) (fun _ => rfl), hn]
      omega
  refine ⟨by rw [flat_len (enc := msC) (size := 6) (fun _ => rfl)], .inr ⟨g, n, L.toArray, by rw [hn], hB, h1, by omega, by unfold maxLen; omega, by simpa using h2, ?_⟩⟩
  rw [← e, List.take_of_length_le (by simp; rw [h2, hn]; omega)]
theorem info_ms : (Try.prog.info? 41).map (fun i => (i.zero, i.size, i.bytes)) = some (some (.agg #[.string ⟨#[]⟩, .string ⟨#[]⟩, .string ⟨#[]⟩, .string ⟨#[]⟩, .int .i64 0, .string ⟨#[]⟩]), 6, 88) := by kernel_rfl
end Go.Proofs.Ytpjmcpfmnlfmdaa

namespace Go.Proofs.Ytpjmcpfmnlfmdaa
set_option linter.unusedSimpArgs false
set_option linter.unusedVariables false
open Go.RowKit

abbrev Both_ms (a b i : Nat) (x : MsL) (wr W : World) : Prop := ((W.cell? ⟨a, i * 6, none⟩ = some (.string x.k) ∧ W.cell? ⟨a, i * 6 + 1, none⟩ = some (.string x.t) ∧ W.cell? ⟨a, i * 6 + 2, none⟩ = some (.string x.f) ∧ W.cell? ⟨a, i * 6 + 3, none⟩ = some (.string x.o) ∧ W.cell? ⟨a, i * 6 + 4, none⟩ = some (.int .i64 x.n) ∧ W.cell? ⟨a, i * 6 + 5, none⟩ = some (.string x.b)) ∧ (W.cell? ⟨b, i * 6, none⟩ = some (.string x.k) ∧ W.cell? ⟨b, i * 6 + 1, none⟩ = some (.string x.t) ∧ W.cell? ⟨b, i * 6 + 2, none⟩ = some (.string x.f) ∧ W.cell? ⟨b, i * 6 + 3, none⟩ = some (.string x.o) ∧ W.cell? ⟨b, i * 6 + 4, none⟩ = some (.int .i64 x.n) ∧ W.cell? ⟨b, i * 6 + 5, none⟩ = some (.string x.b))) ∧ (Below wr.heap.size wr W ∧ a < wr.heap.size ∧ b < wr.heap.size)
theorem row_ms {w : World} {p : Option Addr} {xs : List MsL} (h : RowC msC 6 w p xs) {i : Nat} (hi : i < xs.length) : ∃ g, p = some ⟨g, 0, none⟩ ∧ g < w.heap.size ∧ w.cell? ⟨g, i * 6, none⟩ = (msC xs[i])[0]? ∧ w.cell? ⟨g, i * 6 + 1, none⟩ = (msC xs[i])[1]? ∧ w.cell? ⟨g, i * 6 + 2, none⟩ = (msC xs[i])[2]? ∧ w.cell? ⟨g, i * 6 + 3, none⟩ = (msC xs[i])[3]? ∧ w.cell? ⟨g, i * 6 + 4, none⟩ = (msC xs[i])[4]? ∧ w.cell? ⟨g, i * 6 + 5, none⟩ = (msC xs[i])[5]? := by
  obtain ⟨g, h1, h2, h3⟩ := h (List.ne_nil_of_length_pos (by omega))
  exact ⟨g, h1, h2, h3 i hi 0 (by decide), h3 i hi 1 (by decide), h3 i hi 2 (by decide), h3 i hi 3 (by decide), h3 i hi 4 (by decide), h3 i hi 5 (by decide)⟩
end Go.Proofs.Ytpjmcpfmnlfmdaa

namespace Go.Proofs.Ytpjmcpfmnlfmdaa
set_option linter.unusedSimpArgs false
set_option linter.unusedVariables false
open Go.RowKit

end Go.Proofs.Ytpjmcpfmnlfmdaa

namespace Go.Proofs.Ytpjmcpfmnlfmdaa
set_option linter.unusedSimpArgs false
set_option linter.unusedVariables false
open Go.RowKit

end Go.Proofs.Ytpjmcpfmnlfmdaa

namespace Go.Proofs.Ytpjmcpfmnlfmdaa
set_option linter.unusedSimpArgs false
set_option linter.unusedVariables false
open Go.RowKit

end Go.Proofs.Ytpjmcpfmnlfmdaa

namespace Go.Proofs.Ytpjmcpfmnlfmdaa
set_option linter.unusedSimpArgs false
set_option linter.unusedVariables false
open Go.RowKit

end Go.Proofs.Ytpjmcpfmnlfmdaa

namespace Go.Proofs.Ytpjmcpfmnlfmdaa
set_option linter.unusedSimpArgs false
set_option linter.unusedVariables false
open Go.RowKit

end Go.Proofs.Ytpjmcpfmnlfmdaa

namespace Go.Proofs.Ytpjmcpfmnlfmdaa
set_option linter.unusedSimpArgs false
set_option linter.unusedVariables false
open Go.RowKit

end Go.Proofs.Ytpjmcpfmnlfmdaa

namespace Go.Proofs.Ytpjmcpfmnlfmdaa
set_option linter.unusedSimpArgs false
set_option linter.unusedVariables false
open Go.RowKit Go.Joins

end Go.Proofs.Ytpjmcpfmnlfmdaa

namespace Go.Proofs.Ytpjmcpfmnlfmdaa
set_option linter.unusedSimpArgs false
set_option linter.unusedVariables false
open Go.RowKit

end Go.Proofs.Ytpjmcpfmnlfmdaa

namespace Go.Proofs.Ytpjmcpfmnlfmdaa
set_option linter.unusedSimpArgs false
set_option linter.unusedVariables false
open Go.RowKit Go.Joins

theorem arr9_on {w w1 : World} {b t : Nat} {cs : List Value} (h : Arr w b t cs) (hb : Below w.heap.size w w1) : Arr w1 b t cs := (hb.block b (Array.getElem?_eq_some_iff.1 h).1).trans h
end Go.Proofs.Ytpjmcpfmnlfmdaa

namespace Go.Proofs.Ytpjmcpfmnlfmdaa
set_option linter.unusedSimpArgs false
set_option linter.unusedVariables false
open Go.RowKit Go.Joins

theorem arr9_lt {w : World} {b t : Nat} {cs : List Value} (h : Arr w b t cs) : b < w.heap.size := (Array.getElem?_eq_some_iff.1 h).1
/-- An element is stored. -/
def put9 (W : World) (g i : Nat) (y : SeL) : World := (((W.setCell ⟨g, i * 4, none⟩ (.string y.r)).setCell ⟨g, i * 4 + 1, none⟩ (.bool y.o)).setCell ⟨g, i * 4 + 2, none⟩ (.int .i64 y.p)).setCell ⟨g, i * 4 + 3, none⟩ (.string y.s)
end Go.Proofs.Ytpjmcpfmnlfmdaa

namespace Go.Proofs.Ytpjmcpfmnlfmdaa
set_option linter.unusedSimpArgs false
set_option linter.unusedVariables false
open Go.RowKit Go.Joins

end Go.Proofs.Ytpjmcpfmnlfmdaa

namespace Go.Proofs.Ytpjmcpfmnlfmdaa
set_option linter.unusedSimpArgs false
set_option linter.unusedVariables false
open Go.RowKit

end Go.Proofs.Ytpjmcpfmnlfmdaa

namespace Go.Proofs.Ytpjmcpfmnlfmdaa
set_option linter.unusedSimpArgs false
set_option linter.unusedVariables false
open Go.RowKit Go.Joins

end Go.Proofs.Ytpjmcpfmnlfmdaa

namespace Go.Proofs.Ytpjmcpfmnlfmdaa
set_option linter.unusedSimpArgs false
set_option linter.unusedVariables false
open Go.RowKit Go.Joins

end Go.Proofs.Ytpjmcpfmnlfmdaa

namespace Go.Proofs.Ytpjmcpfmnlfmdaa
set_option linter.unusedSimpArgs false
set_option linter.unusedVariables false
open Go.RowKit Go.Joins

end Go.Proofs.Ytpjmcpfmnlfmdaa

namespace Go.Proofs.Ytpjmcpfmnlfmdaa
set_option linter.unusedSimpArgs false
set_option linter.unusedVariables false
open Go.RowKit Go.Joins

/-- How many resources are less than r, from the first on. -/
def posT (r : ByteArray) : List ByteArray → Nat
  | [] => 0
  | x :: t => if Op.bytesLess x.toList r.toList then posT r t + 1 else 0
theorem posT_le (r : ByteArray) : ∀ xs, posT r xs ≤ xs.length
  | [] => Nat.le_refl _
  | x :: t => by
    unfold posT
    have := posT_le r t
    split
    · simp; omega
    · exact Nat.zero_le _
theorem posT_lo {r : ByteArray} : ∀ {xs : List ByteArray} {i : Nat} (hi : i < xs.length), i < posT r xs → Op.bytesLess xs[i].toList r.toList = true
  | x :: t, 0, _, h => by
    unfold posT at h
    split at h
    · assumption
    · exact absurd h (Nat.not_lt_zero _)
  | x :: t, i + 1, hi, h => by
    unfold posT at h
    split at h
    · exact posT_lo (xs := t) (by simpa using hi) (by omega)
    · exact absurd h (Nat.not_lt_zero _)
theorem posT_at {r : ByteArray} : ∀ {xs : List ByteArray} (h : posT r xs < xs.length), Op.bytesLess xs[posT r xs].toList r.toList = false
  | x :: t, h => by
    by_cases hx : Op.bytesLess x.toList r.toList = true
    · have e : posT r (x :: t) = posT r t + 1 := by show (if _ then _ else _) = _; rw [if_pos hx]
      have h' : posT r t < t.length := by rw [e] at h; simpa using h
      have := posT_at (xs := t) h'
      simp only [e, List.getElem_cons_succ]
      exact this
    · have e : posT r (x :: t) = 0 := by show (if _ then _ else _) = _; rw [if_neg hx]
      simp only [e, List.getElem_cons_zero]
      exact Bool.eq_false_iff.2 hx
theorem incT_all {xs : List ByteArray} (h : IncT xs xs.length) : ∀ (j i : Nat) (hj : j < xs.length) (hij : i < j), Op.bytesLess (xs[i]'(by omega)).toList xs[j].toList = true
  | 0, i, _, hij => absurd hij (Nat.not_lt_zero _)
  | j + 1, i, hj, hij => by
    have h1 := h (j + 1) hj (by omega) hj (by show j < xs.length; omega)
    simp only [Nat.add_sub_cancel] at h1
    by_cases e : i = j
    · subst e; exact h1
    · exact sl_trans _ _ _ (incT_all h j i (by omega) (by omega)) h1
/-- Is there a session of this resource? -/
def hereT (r : ByteArray) (xs : List ByteArray) : Bool := match xs[posT r xs]? with
  | some x => x.toList == r.toList
  | none => false
theorem hereT_at {r : ByteArray} {xs : List ByteArray} (hp : posT r xs < xs.length) : hereT r xs = (xs[posT r xs].toList == r.toList) := by
  unfold hereT
  rw [List.getElem?_eq_getElem hp]
theorem hereT_end {r : ByteArray} {xs : List ByteArray} (hp : ¬ posT r xs < xs.length) : hereT r xs = false := by
  unfold hereT
  rw [List.getElem?_eq_none (by omega)]
/-- The only session of its resource is the one there. -/
theorem hereT_only {r : ByteArray} {xs : List ByteArray} (h : IncT xs xs.length) {i : Nat} (hi : i < xs.length) (he : xs[i].toList = r.toList) : i = posT r xs ∧ hereT r xs = true := by
  have h1 : posT r xs ≤ i := by
    rcases Nat.lt_or_ge i (posT r xs) with hl | hg
    · have := posT_lo hi hl
      rw [he, sl_self] at this
      cases this
    · exact hg
  have h2 : i = posT r xs := by
    rcases Nat.lt_or_ge (posT r xs) i with hl | hg
    · have hp : posT r xs < xs.length := by omega
      have := incT_all h i (posT r xs) hi hl
      rw [he, posT_at hp] at this
      cases this
    · omega
  refine ⟨h2, ?_⟩
  subst h2
  rw [hereT_at hi, he]
  exact beq_self_eq_true _
theorem hereT_lt {j : ByteArray} {xs : List ByteArray} (h : hereT j xs = true) : posT j xs < xs.length := by
  rcases Nat.lt_or_ge (posT j xs) xs.length with h1 | h1
  · exact h1
  · rw [hereT_end (by omega)] at h; cases h
theorem hereT_eq {j : ByteArray} {xs : List ByteArray} (h : hereT j xs = true) : xs[posT j xs]'(hereT_lt h) = j := by
  have h1 := hereT_at (hereT_lt h)
  rw [h] at h1
  have h2 : (xs[posT j xs]'(hereT_lt h)).toList = j.toList := by simpa using h1.symm
  rw [ByteArray.toList_eq, ByteArray.toList_eq] at h2
  exact ByteArray.ext (Array.ext' h2)
theorem hereT_any {j : ByteArray} {xs : List ByteArray} (hI : IncT xs xs.length) : (xs.any fun x => x.toList == j.toList) = hereT j xs := by
  cases h : hereT j xs
  · rw [List.any_eq_false]
    intro x hx
    obtain ⟨i, hi, rfl⟩ := List.mem_iff_getElem.1 hx
    intro he
    have := (hereT_only hI hi (by simpa using he)).2
    rw [h] at this
    cases this
  · rw [List.any_eq_true]
    exact ⟨xs[posT j xs]'(hereT_lt h), List.getElem_mem _, by rw [hereT_eq h]; exact beq_self_eq_true _⟩
/-- An answer: texts, code. -/
structure BoL where
  l : List ByteArray
  c : Int
def illB (c : Int) : BoL := ⟨[], c⟩
noncomputable def addR (xs : List ByteArray) (j : ByteArray) : BoL :=
  if 400 < xs.length ∨ 20000 < j.size then illB 2 else if bkB xs = false ∨ addrB j = false then illB 1 else if hereT j xs = true then illB 7 else if 8 ≤ xs.length then illB 9
  else ⟨xs.take (posT j xs) ++ [j] ++ xs.drop (posT j xs), 0⟩
def BoIs (B : Nat) (R : BoL) (e : Ending) (W : World) : Prop := ∃ p k, e = .returned (.agg #[.slice p R.l.length k, .int .i64 R.c]) ∧ OwnC strC W B 9 1 (.slice p R.l.length k) R.l
theorem bo_ill (B : Nat) (c : Int) (W : World) : BoIs B (illB c) (.returned (.agg #[.slice none 0 0, .int .i64 c])) W := ⟨none, 0, rfl, ownC_nil _ _ _ _ _⟩
theorem passX {w W : World} {b : Nat} {R : BoL} {p : Option Addr} {k B : Nat} (hA : Arr W b 27 [.slice none 0 0, .int .i64 0]) (hb : Below w.heap.size w W) (hB : w.heap.size ≤ b) (hbB : b < B) (ho : OwnC strC W B 9 1 (.slice p R.l.length k) R.l) :
    Arr ((W.setCell ⟨b, 0, none⟩ (.slice p R.l.length k)).setCell ⟨b, 1, none⟩ (.int .i64 R.c)) b 27 [.slice p R.l.length k, .int .i64 R.c] ∧ OwnC strC ((W.setCell ⟨b, 0, none⟩ (.slice p R.l.length k)).setCell ⟨b, 1, none⟩ (.int .i64 R.c)) w.heap.size 9 1 (.slice p R.l.length k) R.l ∧ Below w.heap.size w ((W.setCell ⟨b, 0, none⟩ (.slice p R.l.length k)).setCell ⟨b, 1, none⟩ (.int .i64 R.c)) :=
  ⟨(hA.put 0 _).put 1 _, ((ho.low (a := ⟨b, 0, none⟩) hbB _).low (a := ⟨b, 1, none⟩) hbB _).mono (by omega), (hb.setCell (p := ⟨b, 0, none⟩) hB _).setCell (p := ⟨b, 1, none⟩) hB _⟩
theorem arrX_two {w : World} {b t : Nat} {a0 a1 : Value} (h : Arr w b t [a0, a1]) : (w.cell? ⟨b, 0, none⟩ = some a0 ∧ w.cell? ⟨b, 1, none⟩ = some a1) ∧ w.frozen? ⟨b, 0, none⟩ = false ∧ w.frozen? ⟨b, 1, none⟩ = false := ⟨⟨h.cell 0, h.cell 1⟩, h.free 0, h.free 1⟩
theorem arrX_lt {w : World} {b t : Nat} {cs : List Value} (h : Arr w b t cs) : b < w.heap.size := (Array.getElem?_eq_some_iff.1 h).1
theorem arrX_on {w w1 : World} {b t : Nat} {cs : List Value} (h : Arr w b t cs) (hb : Below w.heap.size w w1) : Arr w1 b t cs := (hb.block b (arrX_lt h)).trans h
end Go.Proofs.Ytpjmcpfmnlfmdaa

namespace Go.Proofs.Ytpjmcpfmnlfmdaa
set_option linter.unusedSimpArgs false
set_option linter.unusedVariables false
open Go.RowKit Go.Joins

theorem flat_tx (xs : List ByteArray) : xs.flatMap strC = xs.map Value.string := by
  induction xs with
  | nil => rfl
  | cons x xs ih => rw [List.flatMap_cons, ih]; rfl
theorem one_str {xs : List ByteArray} : ∀ v ∈ xs.map Value.string, v.oneCell' = true := by
  intro v hv
  obtain ⟨x, _, rfl⟩ := List.mem_map.1 hv
  rfl
end Go.Proofs.Ytpjmcpfmnlfmdaa

namespace Go.Proofs.Ytpjmcpfmnlfmdaa
set_option linter.unusedSimpArgs false
set_option linter.unusedVariables false
open Go.RowKit Go.Joins

theorem one_allX (xs : List ByteArray) : ∀ u ∈ xs.flatMap strC, u.oneCell' = true := by rw [flat_tx]; exact one_str
theorem flat_lenX (xs : List ByteArray) : (xs.flatMap strC).length = xs.length := by rw [flat_tx, List.length_map]
theorem empty_rowX (W : World) : OwnC strC (W.alloc (.cells #[] 9)) W.heap.size 9 1 (.slice (some ⟨W.heap.size, 0, none⟩) 0 0) [] :=
  World.ownsRow_lit W #[] 0 (Nat.le_refl _) (Nat.zero_le _) rfl
/-- append(v, part...): the part's elements lie at an address. -/
theorem wp_app_subX {o : Oper} {a : Act} {w : World} {K : Act → World → Prop} {Q : Exit → Act → World → Prop} (s x : Operand)
    (ho : o.op = .call { callee := .builtin .append, args := #[s, x], argTypes := #[23, 23] })
    (B : Nat) (v : Value) (ys : List ByteArray) (hs : a.eval s = v) (hown : OwnC strC w B 9 1 v ys) (g off m c : Nat) (zs : List ByteArray) (hx : a.eval x = .slice (some ⟨g, off, none⟩) m c) (hm : zs.length = m)
    (hcells : ∀ i (h : i < zs.length), w.cell? ⟨g, off + i, none⟩ = some (.string zs[i]))
    (hlen : ys.length + zs.length ≤ 2000000) (hB : B ≤ w.heap.size) (h : ∀ v' w', OwnC strC w' B 9 1 v' (ys ++ zs) → w.grownBy w' v.ownBlock → K (a.put o.dst v') w') : o.wp Try.prog a w K Q := by
  obtain ⟨i0, hi, hz0, hz1, hz2⟩ := info_parts info_tx
  subst hm
  refine wp_append_own w s x 23 ho B 9 i0 _ 1 16 Try.underlying23 hi hz0 hz1 hz2 rfl (by decide) v ys.length (ys.flatMap strC) hs hown ⟨g, off, none⟩ zs.length c (zs.flatMap strC) hx (by rw [flat_lenX, Nat.mul_one]) (fun j u hj => ?_) (one_allX zs) (by unfold maxLen; omega) (by omega) hB (fun v' w' h1 h2 _ => h v' w' ?_ h2)
  · have hlt : j < zs.length := by
      have := (List.getElem?_eq_some_iff.1 hj).1
      rwa [flat_lenX] at this
    rw [flat_tx, List.getElem?_map, List.getElem?_eq_getElem hlt] at hj
    rw [show (⟨g, off, none⟩ : Addr).add j = ⟨g, off + j, none⟩ by unfold Addr.add; split <;> simp_all, hcells j hlt]
    exact hj
  · show w'.ownsRow B _ 1 v' (ys ++ zs).length ((ys ++ zs).flatMap strC)
    rw [List.length_append, List.flatMap_append]
    exact h1
theorem wp_app_oneX {o : Oper} {a : Act} {w : World} {K : Act → World → Prop} {Q : Exit → Act → World → Prop} (s x : Operand)
    (ho : o.op = .call { callee := .builtin .append, args := #[s, x], argTypes := #[23, 23] })
    (B : Nat) (v : Value) (ys : List ByteArray) (hs : a.eval s = v) (hown : OwnC strC w B 9 1 v ys) (g : Nat) (z : ByteArray) (hx : a.eval x = .slice (some ⟨g, 0, none⟩) 1 1) (hA : Arr w g 9 [.string z])
    (hlen : ys.length ≤ 1000000) (hB : B ≤ w.heap.size) (h : ∀ v' w', OwnC strC w' B 9 1 v' (ys ++ [z]) → w.grownBy w' v.ownBlock → K (a.put o.dst v') w') : o.wp Try.prog a w K Q :=
  wp_app_subX s x ho B v ys hs hown g 0 1 1 [z] hx rfl (fun i hi => by
    have h0 : i = 0 := by simp at hi; omega
    subst h0
    exact hA.cell 0) (by show ys.length + 1 ≤ 2000000; omega) hB h
theorem fresh2X (W : World) (o : Obj) (j : ByteArray) : Arr ((W.alloc o).alloc (.cells #[.string j] 9)) (W.heap.size + 1) 9 [.string j] := by
  have := Arr.fresh (W.alloc o) 9 [.string j]
  rw [World.size_alloc] at this
  exact this
/-- append(v, nothing...). -/
theorem wp_app_nilX {o : Oper} {a : Act} {w : World} {K : Act → World → Prop} {Q : Exit → Act → World → Prop} (s x : Operand)
    (ho : o.op = .call { callee := .builtin .append, args := #[s, x], argTypes := #[23, 23] })
    (B : Nat) (v : Value) (ys : List ByteArray) (hs : a.eval s = v) (hown : OwnC strC w B 9 1 v ys) (hx : a.eval x = .slice none 0 0)
    (h : K (a.put o.dst v) w) : o.wp Try.prog a w K Q := by
  obtain ⟨i0, hi, hz0, hz1, hz2⟩ := info_parts info_tx
  have hr := run_append_owned_none (P := Try.prog) (w := w) B 23 o.type 9 i0 1 Try.underlying23 hi v ys.length (ys.flatMap strC) hown
  unfold Oper.wp execOp
  simp only [ho, resolve, invoke, builtin, Sem.run_bind, Sem.run_pure, Result.andThen_ok, List.map_toArray, List.map_cons, List.map_nil, hs, hx, hr]
  exact h
theorem spec_inX (xs : List ByteArray) (j : ByteArray) (p : Option Addr) (c : Nat) (w : World) (hn : xs.length ≤ 1000) (hR : RowC strC 1 w p xs) :
    Calls Try.prog 50 #[.slice p xs.length c, .string j] w fun e w' => e = .returned (.bool (xs.any fun x => x.toList == j.toList)) ∧ Below w.heap.size w w' := by
  obtain ⟨n, hxn⟩ : ∃ n, xs.length = n := ⟨_, rfl⟩
  have HP := Lib.hid (fun W (h : Below w.heap.size w W) => hR.on h)
  have HN := Lib.hid hxn
  obtain ⟨Z, hZ⟩ : ∃ Z, (xs.any fun x => x.toList == j.toList) = Z := ⟨_, rfl⟩
  have HZ := Lib.hid hZ
  rw [hxn] at hn ⊢
  rw [hZ]
  clear hR hxn hZ
  go_enter Try.func50, Try.ntmps50
  go_wp2
  go_loopw [5] (fun iq wr => ∃ k : Nat, k ≤ n ∧ iq = .int .i64 k ∧ (∀ i (h : i < xs.length), i < k → (xs[i].toList == j.toList) = false) ∧ Below w.heap.size w wr) (fun i _ => n - (intOf i).toNat)
  case atStart => exact ⟨0, Nat.zero_le _, rfl, fun i _ h => absurd h (Nat.not_lt_zero _), Below.refl _ _⟩
  case round =>
    obtain ⟨k, hk, rfl, hA, hb⟩ := hrel
    have HA := Lib.hid hA
    have HB := Lib.hid hb
    clear hA
    by_cases hlt : k < n
    · have hlt1 : k < xs.length := by rw [HN.out]; exact hlt
      obtain ⟨g, rfl, hg, a0⟩ := row_tx (HP.out _ hb) hlt1
      obtain ⟨x, hx⟩ : ∃ x, xs[k] = x := ⟨_, rfl⟩
      have HX := Lib.hid hx
      rw [hx] at a0
      obtain ⟨b, hbx⟩ : ∃ b, (x.toList == j.toList) = b := ⟨_, rfl⟩
      have HBX := Lib.hid hbx
      clear hb hx
      cases b
      · go_wp2
        go_roundw
        case rel =>
          refine ⟨k + 1, by omega, by go_num, fun i hi h => ?_, HB.out⟩
          by_cases e : i = k
          · subst e; rw [HX.out]; exact HBX.out
          · exact HA.out i hi (by omega)
        case measure => simp [intOf]; omega
      · have HL : Hid (Z = true) := Lib.hid (by
          rw [← HZ.out, List.any_eq_true]
          exact ⟨xs[k], List.getElem_mem _, by rw [HX.out]; exact HBX.out⟩)
        go_wp2
        go_ret
        exact ⟨ret_bool HL.out.symm, HB.out⟩
    · have HL : Hid (Z = false) := Lib.hid (by
        rw [← HZ.out, List.any_eq_false]
        intro x hx
        obtain ⟨i, hi, rfl⟩ := List.mem_iff_getElem.1 hx
        rw [HA.out i hi (by rw [HN.out] at hi; omega)]
        decide)
      clear hb
      go_wp2
      go_ret
      exact ⟨ret_bool HL.out.symm, HB.out⟩
set_option maxRecDepth 100000 in
set_option maxHeartbeats 2000000 in
theorem spec_putX (xs : List ByteArray) (j : ByteArray) (n P : Nat) (p : Option Addr) (c B0 : Nat) (w : World) (hxn : xs.length = n) (hn : n ≤ 8) (hP : posT j xs = P) (hO : OwnC strC w B0 9 1 (.slice p n c) xs) :
    Calls Try.prog 51 #[.slice p n c, .string j] w fun e w' => (∃ q k, e = .returned (.slice q (n + 1) k) ∧ OwnC strC w' w.heap.size 9 1 (.slice q (n + 1) k) (xs.take P ++ [j] ++ xs.drop P)) ∧ Below w.heap.size w w' := by
  have HO := Lib.hid (fun W (h : Below w.heap.size w W) => hO.on h)
  have HN := Lib.hid hxn
  have hple : P ≤ n := by rw [← hP, ← hxn]; exact posT_le j xs
  have HLO : Hid (∀ k (hk : k < xs.length), k < P → Op.bytesLess xs[k].toList j.toList = true) := Lib.hid (by subst hP; exact fun k hk h => posT_lo hk h)
  have HAT : Hid (∀ (h : P < xs.length), Op.bytesLess xs[P].toList j.toList = false) := Lib.hid (by subst hP; exact fun h => posT_at h)
  have HTL : Hid ((xs.take P).length = P ∧ (xs.drop P).length = n - P) := Lib.hid ⟨by rw [List.length_take]; omega, by rw [List.length_drop, hxn]⟩
  have HM : Hid ((xs.take P ++ [j] ++ xs.drop P).length = n + 1) := Lib.hid (by rw [List.length_append, List.length_append, List.length_take, List.length_drop, hxn]; simp; omega)
  have hpg : (p = none ∧ c = 0 ∧ xs = []) ∨ (∃ g, p = some ⟨g, 0, none⟩) ∧ n ≤ c := by
    rcases hO.2 with ⟨h0, h0'⟩ | ⟨g', cap', cur, q1, _, _, q4, _⟩
    · injection h0 with e1 e2 e3
      exact .inl ⟨e1, e3, List.eq_nil_of_length_eq_zero h0'⟩
    · injection q1 with q1 _ q3
      subst q3
      rw [hxn] at q4
      exact .inr ⟨⟨g', q1⟩, q4⟩
  clear hO hP
  rcases hpg with ⟨rfl, rfl, hx0⟩ | ⟨⟨g, rfl⟩, hcap⟩
  · have HX0 := Lib.hid hx0
    obtain rfl : n = 0 := by rw [hx0] at hxn; exact hxn.symm
    obtain rfl : P = 0 := by omega
    clear hx0 hxn
    go_enter Try.func51, Try.ntmps51
    go_wp2
    go_loopw [5] (fun iq wr => iq = .int .i64 0 ∧ Below w.heap.size w wr) (fun i _ => 0)
    case atStart => exact ⟨rfl, Below.refl _ _⟩
    case round =>
      obtain ⟨rfl, hb⟩ := hrel
      have HB := Lib.hid hb
      have HBa := Lib.hid (hb.alloc hb.size (.cells #[] 9))
      clear hb
      go_wp2_with (first
        | (at_builtin; have _ := HV3; refine wpList_plain rfl fun K hK => ?_; refine wp_app_nilX _ _ rfl wr.heap.size v3 _ rfl HV3.out rfl ?_; refine hK _ _ ?_)
        | (at_builtin; have _ := HVn; refine wpList_plain rfl fun K hK => ?_; refine wp_app_oneX _ _ rfl wr.heap.size _ [] rfl ((empty_rowX wr).alloc _) (wr.heap.size + 1) j rfl (fresh2X wr _ j) (by simp) (by simp; omega) ?_; intro v3 w3 hv3 hg3; have HV3 := Lib.hid hv3; have HB3 : Hid (Below w.heap.size w w3) := Lib.hid ((HBa.out.alloc HBa.out.size _).grown hg3 (HBa.out.alloc HBa.out.size _).size (fun k hk => by have := own_base (empty_rowX wr) k hk; have := HB.out.size; omega)); clear hv3 hg3; refine hK _ _ ?_)
        | (at_builtin; refine wpList_plain rfl fun K hK => ?_; refine wp_app_nilX _ _ rfl wr.heap.size _ [] rfl (empty_rowX wr) rfl ?_; have HVn := Lib.hid (empty_rowX wr); refine hK _ _ ?_))
      obtain ⟨q4, k4, e4⟩ := own_lenX HV3.out
      subst e4
      go_ret
      have hv := HV3.out.mono HB.out.size
      rw [HX0.out]
      exact ⟨⟨q4, k4, rfl, hv⟩, HB3.out⟩
  · have q2 : (P : Int) ≤ (n : Int) := by omega
    have q4 : (0 : Int) ≤ (P : Int) := by omega
    have q6 : (n : Int) ≤ (c : Int) := by omega
    have q7 : (P : Int) ≤ (c : Int) := by omega
    clear hxn
    go_enter Try.func51, Try.ntmps51
    go_wp2
    go_loopw [5] (fun iq wr => ∃ k : Nat, k ≤ P ∧ iq = .int .i64 k ∧ Below w.heap.size w wr) (fun i _ => P - (intOf i).toNat)
    case atStart => exact ⟨0, Nat.zero_le _, rfl, Below.refl _ _⟩
    case round =>
      obtain ⟨k, hk, rfl, hb⟩ := hrel
      have HB := Lib.hid hb
      by_cases hlt : k < P
      · have hlt1 : k < xs.length := by rw [HN.out]; omega
        obtain ⟨g', hgg, hg, a0⟩ := row_tx (row_ownX (HO.out _ hb)) hlt1
        injection hgg with hgg
        injection hgg with hgg
        subst hgg
        have hbl := HLO.out k hlt1 hlt
        obtain ⟨x, hx⟩ : ∃ x, xs[k] = x := ⟨_, rfl⟩
        rw [hx] at a0 hbl
        clear hb hx
        go_wp2
        go_roundw
        case rel => exact ⟨k + 1, by omega, by go_num, HB.out⟩
        case measure => simp [intOf]; omega
      · have hkP : k = P := by omega
        subst hkP
        clear hlt
        have HBa := Lib.hid (hb.alloc hb.size (.cells #[] 9))
        have HC : Hid (∀ W, Below w.heap.size w W → ∀ i (h : i < xs.length), W.cell? ⟨g, i, none⟩ = some (.string xs[i])) := Lib.hid (fun W h i hi => by
          obtain ⟨g', hgg, hg, a0⟩ := row_tx (row_ownX (HO.out _ h)) hi
          injection hgg with hgg
          injection hgg with hgg
          subst hgg
          exact a0)
        by_cases hpn : k < n
        · have hlt1 : k < xs.length := by rw [HN.out]; omega
          have a0 := HC.out _ hb k hlt1
          have hbl := HAT.out hlt1
          obtain ⟨x, hx⟩ : ∃ x, xs[k] = x := ⟨_, rfl⟩
          rw [hx] at a0 hbl
          have q8 : ¬ k = c := by omega
          have q9 : ¬ (c = k) := by omega
          have q10 : ¬ ((c : Int) = (k : Int)) := by omega
          clear hb hx
          go_wp2_with (first
            | (at_builtin; have _ := HV3; refine wpList_plain rfl fun K hK => ?_; refine wp_app_subX _ _ rfl wr.heap.size v3 _ rfl HV3.out g k (n - k) _ (xs.drop k) rfl HTL.out.2 (fun i hi => by rw [List.getElem_drop]; exact HC.out _ HB3.out _ (by rw [List.length_drop] at hi; omega)) (by rw [List.length_append, HTL.out.1, HTL.out.2]; show k + 1 + (n - k) ≤ 2000000; omega) HS3.out ?_; intro v4 w4 hv4 hg4; have HV4 := Lib.hid hv4; have HB4 : Hid (Below w.heap.size w w4) := Lib.hid (HB3.out.grown hg4 HB3.out.size (fun q hq => by have := own_base HV3.out q hq; have := HB.out.size; omega)); clear hv4 hg4; obtain ⟨q4, k4, e4⟩ := own_lenX HV4.out; rw [HM.out] at e4; subst e4; refine hK _ _ ?_)
            | (at_builtin; have _ := HV2; refine wpList_plain rfl fun K hK => ?_; refine wp_app_oneX _ _ rfl wr.heap.size v2 _ rfl (HV2.out.alloc _) w2.heap.size j rfl (Arr.fresh w2 9 [.string j]) (by rw [HTL.out.1]; omega) (by rw [World.size_alloc]; have := HS2.out; omega) ?_; intro v3 w3 hv3 hg3; have HV3 := Lib.hid hv3; have HB3 : Hid (Below w.heap.size w w3) := Lib.hid ((HB2.out.alloc HB2.out.size _).grown hg3 (HB2.out.alloc HB2.out.size _).size (fun q hq => by have := own_base HV2.out q hq; have := HB.out.size; omega)); have HS3 : Hid (wr.heap.size ≤ w3.heap.size) := Lib.hid (Nat.le_trans HS2.out (Nat.le_trans (by simp) hg3.size)); clear hv3 hg3; refine hK _ _ ?_)
            | (at_builtin; refine wpList_plain rfl fun K hK => ?_; refine wp_app_subX _ _ rfl wr.heap.size _ [] rfl (empty_rowX wr) g 0 k c (xs.take k) rfl HTL.out.1 (fun i hi => by rw [List.length_take] at hi; rw [Nat.zero_add, List.getElem_take]; exact HC.out _ HBa.out i (by omega)) (by rw [HTL.out.1, List.length_nil]; omega) (by simp) ?_; intro v2 w2 hv2 hg2; rw [List.nil_append] at hv2; have HV2 := Lib.hid hv2; have HB2 : Hid (Below w.heap.size w w2) := Lib.hid (HBa.out.grown hg2 HBa.out.size (fun q hq => by have := own_base (empty_rowX wr) q hq; have := HB.out.size; omega)); have HS2 : Hid (wr.heap.size ≤ w2.heap.size) := Lib.hid (Nat.le_trans (by simp) hg2.size); clear hv2 hg2; refine hK _ _ ?_))
          go_ret
          exact ⟨⟨q4, k4, rfl, HV4.out.mono HB.out.size⟩, HB4.out⟩
        · have hkn : k = n := by omega
          subst hkn
          by_cases hc : k = c
          · subst hc
            clear hb
            go_wp2_with (first
              | (at_builtin; have _ := HV3; refine wpList_plain rfl fun K hK => ?_; refine wp_app_subX _ _ rfl wr.heap.size v3 _ rfl HV3.out g 0 0 _ (xs.drop k) rfl (by rw [HTL.out.2]; omega) (fun i hi => by exfalso; rw [HTL.out.2] at hi; omega) (by rw [List.length_append, HTL.out.1, HTL.out.2]; show k + 1 + (k - k) ≤ 2000000; omega) HS3.out ?_; intro v4 w4 hv4 hg4; have HV4 := Lib.hid hv4; have HB4 : Hid (Below w.heap.size w w4) := Lib.hid (HB3.out.grown hg4 HB3.out.size (fun q hq => by have := own_base HV3.out q hq; have := HB.out.size; omega)); clear hv4 hg4; obtain ⟨q4, k4, e4⟩ := own_lenX HV4.out; rw [HM.out] at e4; subst e4; refine hK _ _ ?_)
              | (at_builtin; have _ := HV2; refine wpList_plain rfl fun K hK => ?_; refine wp_app_oneX _ _ rfl wr.heap.size v2 _ rfl (HV2.out.alloc _) w2.heap.size j rfl (Arr.fresh w2 9 [.string j]) (by rw [HTL.out.1]; omega) (by rw [World.size_alloc]; have := HS2.out; omega) ?_; intro v3 w3 hv3 hg3; have HV3 := Lib.hid hv3; have HB3 : Hid (Below w.heap.size w w3) := Lib.hid ((HB2.out.alloc HB2.out.size _).grown hg3 (HB2.out.alloc HB2.out.size _).size (fun q hq => by have := own_base HV2.out q hq; have := HB.out.size; omega)); have HS3 : Hid (wr.heap.size ≤ w3.heap.size) := Lib.hid (Nat.le_trans HS2.out (Nat.le_trans (by simp) hg3.size)); clear hv3 hg3; refine hK _ _ ?_)
              | (at_builtin; refine wpList_plain rfl fun K hK => ?_; refine wp_app_subX _ _ rfl wr.heap.size _ [] rfl (empty_rowX wr) g 0 k k (xs.take k) rfl HTL.out.1 (fun i hi => by rw [List.length_take] at hi; rw [Nat.zero_add, List.getElem_take]; exact HC.out _ HBa.out i (by omega)) (by rw [HTL.out.1, List.length_nil]; omega) (by simp) ?_; intro v2 w2 hv2 hg2; rw [List.nil_append] at hv2; have HV2 := Lib.hid hv2; have HB2 : Hid (Below w.heap.size w w2) := Lib.hid (HBa.out.grown hg2 HBa.out.size (fun q hq => by have := own_base (empty_rowX wr) q hq; have := HB.out.size; omega)); have HS2 : Hid (wr.heap.size ≤ w2.heap.size) := Lib.hid (Nat.le_trans (by simp) hg2.size); clear hv2 hg2; refine hK _ _ ?_))
            go_ret
            exact ⟨⟨q4, k4, rfl, HV4.out.mono HB.out.size⟩, HB4.out⟩
          · have q9 : ¬ (c = k) := fun e => hc e.symm
            have q10 : ¬ ((c : Int) = (k : Int)) := by omega
            clear hb
            go_wp2_with (first
              | (at_builtin; have _ := HV3; refine wpList_plain rfl fun K hK => ?_; refine wp_app_subX _ _ rfl wr.heap.size v3 _ rfl HV3.out g k 0 _ (xs.drop k) rfl (by rw [HTL.out.2]; omega) (fun i hi => by rw [List.getElem_drop]; exact HC.out _ HB3.out _ (by rw [List.length_drop] at hi; omega)) (by rw [List.length_append, HTL.out.1, HTL.out.2]; show k + 1 + (k - k) ≤ 2000000; omega) HS3.out ?_; intro v4 w4 hv4 hg4; have HV4 := Lib.hid hv4; have HB4 : Hid (Below w.heap.size w w4) := Lib.hid (HB3.out.grown hg4 HB3.out.size (fun q hq => by have := own_base HV3.out q hq; have := HB.out.size; omega)); clear hv4 hg4; obtain ⟨q4, k4, e4⟩ := own_lenX HV4.out; rw [HM.out] at e4; subst e4; refine hK _ _ ?_)
              | (at_builtin; have _ := HV2; refine wpList_plain rfl fun K hK => ?_; refine wp_app_oneX _ _ rfl wr.heap.size v2 _ rfl (HV2.out.alloc _) w2.heap.size j rfl (Arr.fresh w2 9 [.string j]) (by rw [HTL.out.1]; omega) (by rw [World.size_alloc]; have := HS2.out; omega) ?_; intro v3 w3 hv3 hg3; have HV3 := Lib.hid hv3; have HB3 : Hid (Below w.heap.size w w3) := Lib.hid ((HB2.out.alloc HB2.out.size _).grown hg3 (HB2.out.alloc HB2.out.size _).size (fun q hq => by have := own_base HV2.out q hq; have := HB.out.size; omega)); have HS3 : Hid (wr.heap.size ≤ w3.heap.size) := Lib.hid (Nat.le_trans HS2.out (Nat.le_trans (by simp) hg3.size)); clear hv3 hg3; refine hK _ _ ?_)
              | (at_builtin; refine wpList_plain rfl fun K hK => ?_; refine wp_app_subX _ _ rfl wr.heap.size _ [] rfl (empty_rowX wr) g 0 k c (xs.take k) rfl HTL.out.1 (fun i hi => by rw [List.length_take] at hi; rw [Nat.zero_add, List.getElem_take]; exact HC.out _ HBa.out i (by omega)) (by rw [HTL.out.1, List.length_nil]; omega) (by simp) ?_; intro v2 w2 hv2 hg2; rw [List.nil_append] at hv2; have HV2 := Lib.hid hv2; have HB2 : Hid (Below w.heap.size w w2) := Lib.hid (HBa.out.grown hg2 HBa.out.size (fun q hq => by have := own_base (empty_rowX wr) q hq; have := HB.out.size; omega)); have HS2 : Hid (wr.heap.size ≤ w2.heap.size) := Lib.hid (Nat.le_trans (by simp) hg2.size); clear hv2 hg2; refine hK _ _ ?_))
            go_ret
            exact ⟨⟨q4, k4, rfl, HV4.out.mono HB.out.size⟩, HB4.out⟩
end Go.Proofs.Ytpjmcpfmnlfmdaa

namespace Go.Proofs.Ytpjmcpfmnlfmdaa
set_option linter.unusedSimpArgs false
set_option linter.unusedVariables false
open Go.RowKit Go.Joins

set_option maxRecDepth 100000 in
set_option maxHeartbeats 4000000 in
theorem spec_blockadd (xs : List ByteArray) (j : ByteArray) (p : Option Addr) (c B0 : Nat) (w : World) (hn : xs.length ≤ 1048576) (hj : j.size ≤ 1048576) (hw : ∀ x ∈ xs, x.size ≤ 1048576) (hO : OwnC strC w B0 9 1 (.slice p xs.length c) xs) :
    Calls Try.prog 14 #[.slice p xs.length c, .string j] w fun e w' => BoIs w.heap.size (addR xs j) e w' ∧ Below w.heap.size w w' := by
  have HA0 : Hid (Arr (w.alloc (.cells #[.slice none 0 0, .int .i64 0] 27)) w.heap.size 27 [.slice none 0 0, .int .i64 0]) := Lib.hid (Arr.fresh w _ [.slice none 0 0, .int .i64 0])
  have HB0 : Hid (Below w.heap.size w (w.alloc (.cells #[.slice none 0 0, .int .i64 0] 27))) := Lib.hid ((Below.refl _ _).alloc (Nat.le_refl _) _)
  have HO := Lib.hid (fun W (h : Below w.heap.size w W) => hO.on h)
  have i1 := fun W h => spec_bkright xs p c W hn (tx_two hw) h
  have i2 := fun W => spec_l11jid j W (by omega)
  have i3 := fun W (h : xs.length ≤ 1000) hr => spec_inX xs j p c W h hr
  obtain ⟨n, hxn⟩ : ∃ n, xs.length = n := ⟨_, rfl⟩
  have HN := Lib.hid hxn
  by_cases hs : 400 < xs.length ∨ 20000 < j.size
  · rw [show addR xs j = illB 2 by unfold addR; exact if_pos hs]
    rw [hxn] at hs ⊢
    clear hO hw i1 i2 i3 hxn hn
    by_cases h2 : 400 < n
    · clear hs
      go_enter Try.func14, Try.ntmps14
      go_wp2
      exact bodyPost_ret (v := .agg #[.slice none 0 0, .int .i64 2]) (results_cell_row (P := Try.prog) Try.results14 _ _ w.heap.size 27 _ (0, 0) _ rfl (Arr.fresh w _ [.slice none 0 0, .int .i64 2]) Try.underlying27 rfl (by kernel_rfl)) rfl
        ⟨bo_ill _ _ _, (Below.refl _ _).alloc (Nat.le_refl _) _⟩
    · have h3 : 20000 < j.size := by omega
      clear hs
      go_enter Try.func14, Try.ntmps14
      go_wp2
      exact bodyPost_ret (v := .agg #[.slice none 0 0, .int .i64 2]) (results_cell_row (P := Try.prog) Try.results14 _ _ w.heap.size 27 _ (0, 0) _ rfl (Arr.fresh w _ [.slice none 0 0, .int .i64 2]) Try.underlying27 rfl (by kernel_rfl)) rfl
        ⟨bo_ill _ _ _, (Below.refl _ _).alloc (Nat.le_refl _) _⟩
  have g1 : ¬ 400 < n := by omega
  have g2 : ¬ 20000 < j.size := by omega
  replace i3 := fun W hr => i3 W (by omega) hr
  cases hk : bkB xs
  · rw [show addR xs j = illB 1 by unfold addR; rw [if_neg hs, if_pos (.inl hk)]]
    rw [hk] at i1
    rw [hxn] at hn i1 i3 HO ⊢
    clear hO hw hxn hk hs
    go_enter Try.func14, Try.ntmps14
    go_wp2_with (first
      | (go_at_call 20; go_fit (i1 _ (row_ownX (HO.out _ HB0.out))); rintro e0 w1 ⟨rfl, hb⟩; have HA1 := Lib.hid (arrX_on HA0.out hb); have HB1 := Lib.hid (HB0.out.trans (hb.mono HB0.out.size)); clear hb; obtain ⟨⟨c0, c1⟩, f0, f1⟩ := arrX_two HA1.out))
    have hE : Arr _ w.heap.size 27 [.slice none 0 0, .int .i64 1] := ((HA1.out.put 0 (.slice none 0 0)).put 1 (.int .i64 1))
    exact bodyPost_ret (v := .agg #[.slice none 0 0, .int .i64 1]) (results_cell_row (P := Try.prog) Try.results14 _ _ w.heap.size 27 _ (0, 0) _ rfl hE Try.underlying27 rfl (by kernel_rfl)) rfl
      ⟨bo_ill _ _ _, (HB1.out.setCell (p := ⟨w.heap.size, 0, none⟩) (Nat.le_refl _) _).setCell (p := ⟨w.heap.size, 1, none⟩) (Nat.le_refl _) _⟩
  rw [hk] at i1
  cases ha : addrB j
  · rw [show addR xs j = illB 1 by unfold addR; rw [if_neg hs, if_pos (.inr ha)]]
    rw [ha] at i2
    rw [hxn] at hn i1 i3 HO ⊢
    clear hO hw hxn hk hs ha
    go_enter Try.func14, Try.ntmps14
    go_wp2_with (first
      | (go_at_call 49; have _ := HA1; go_fit (i2 _); rintro e0 w2 ⟨rfl, hb⟩; have HA2 := Lib.hid (arrX_on HA1.out hb); have HB2 := Lib.hid (HB1.out.trans (hb.mono HB1.out.size)); clear hb; obtain ⟨⟨c0, c1⟩, f0, f1⟩ := arrX_two HA2.out)
      | (go_at_call 20; go_fit (i1 _ (row_ownX (HO.out _ HB0.out))); rintro e0 w1 ⟨rfl, hb⟩; have HA1 := Lib.hid (arrX_on HA0.out hb); have HB1 := Lib.hid (HB0.out.trans (hb.mono HB0.out.size)); clear hb; obtain ⟨⟨c0, c1⟩, f0, f1⟩ := arrX_two HA1.out))
    have hE : Arr _ w.heap.size 27 [.slice none 0 0, .int .i64 1] := ((HA2.out.put 0 (.slice none 0 0)).put 1 (.int .i64 1))
    exact bodyPost_ret (v := .agg #[.slice none 0 0, .int .i64 1]) (results_cell_row (P := Try.prog) Try.results14 _ _ w.heap.size 27 _ (0, 0) _ rfl hE Try.underlying27 rfl (by kernel_rfl)) rfl
      ⟨bo_ill _ _ _, (HB2.out.setCell (p := ⟨w.heap.size, 0, none⟩) (Nat.le_refl _) _).setCell (p := ⟨w.heap.size, 1, none⟩) (Nat.le_refl _) _⟩
  rw [ha] at i2
  have hI := (bkB_iff.1 hk).2.1
  have h8 := (bkB_iff.1 hk).1
  have hnf : ¬ (bkB xs = false ∨ addrB j = false) := by rw [hk, ha]; simp
  rw [hereT_any hI] at i3
  cases hh : hereT j xs
  rotate_left
  · rw [show addR xs j = illB 7 by unfold addR; rw [if_neg hs, if_neg hnf, if_pos hh]]
    rw [hh] at i3
    rw [hxn] at hn i1 i3 HO ⊢
    clear hO hw hxn hk hs ha hI hnf hh
    go_enter Try.func14, Try.ntmps14
    go_wp2_with (first
      | (go_at_call 50; have _ := HA2; go_fit (i3 _ (row_ownX (HO.out _ HB2.out))); rintro e0 w3 ⟨rfl, hb⟩; have HA3 := Lib.hid (arrX_on HA2.out hb); have HB3 := Lib.hid (HB2.out.trans (hb.mono HB2.out.size)); clear hb; obtain ⟨⟨c0, c1⟩, f0, f1⟩ := arrX_two HA3.out)
      | (go_at_call 49; have _ := HA1; go_fit (i2 _); rintro e0 w2 ⟨rfl, hb⟩; have HA2 := Lib.hid (arrX_on HA1.out hb); have HB2 := Lib.hid (HB1.out.trans (hb.mono HB1.out.size)); clear hb; obtain ⟨⟨c0, c1⟩, f0, f1⟩ := arrX_two HA2.out)
      | (go_at_call 20; go_fit (i1 _ (row_ownX (HO.out _ HB0.out))); rintro e0 w1 ⟨rfl, hb⟩; have HA1 := Lib.hid (arrX_on HA0.out hb); have HB1 := Lib.hid (HB0.out.trans (hb.mono HB0.out.size)); clear hb; obtain ⟨⟨c0, c1⟩, f0, f1⟩ := arrX_two HA1.out))
    have hE : Arr _ w.heap.size 27 [.slice none 0 0, .int .i64 7] := ((HA3.out.put 0 (.slice none 0 0)).put 1 (.int .i64 7))
    exact bodyPost_ret (v := .agg #[.slice none 0 0, .int .i64 7]) (results_cell_row (P := Try.prog) Try.results14 _ _ w.heap.size 27 _ (0, 0) _ rfl hE Try.underlying27 rfl (by kernel_rfl)) rfl
      ⟨bo_ill _ _ _, (HB3.out.setCell (p := ⟨w.heap.size, 0, none⟩) (Nat.le_refl _) _).setCell (p := ⟨w.heap.size, 1, none⟩) (Nat.le_refl _) _⟩
  rw [hh] at i3
  have hh2 : ¬ hereT j xs = true := by rw [hh]; decide
  by_cases h9 : 8 ≤ xs.length
  · rw [show addR xs j = illB 9 by unfold addR; rw [if_neg hs, if_neg hnf, if_neg hh2, if_pos h9]]
    rw [hxn] at hn i1 i3 HO h9 ⊢
    clear hO hw hxn hk hs ha hI hnf hh hh2
    have q1 : (8 : Int) ≤ (n : Int) := by omega
    go_enter Try.func14, Try.ntmps14
    go_wp2_with (first
      | (go_at_call 50; have _ := HA2; go_fit (i3 _ (row_ownX (HO.out _ HB2.out))); rintro e0 w3 ⟨rfl, hb⟩; have HA3 := Lib.hid (arrX_on HA2.out hb); have HB3 := Lib.hid (HB2.out.trans (hb.mono HB2.out.size)); clear hb; obtain ⟨⟨c0, c1⟩, f0, f1⟩ := arrX_two HA3.out)
      | (go_at_call 49; have _ := HA1; go_fit (i2 _); rintro e0 w2 ⟨rfl, hb⟩; have HA2 := Lib.hid (arrX_on HA1.out hb); have HB2 := Lib.hid (HB1.out.trans (hb.mono HB1.out.size)); clear hb; obtain ⟨⟨c0, c1⟩, f0, f1⟩ := arrX_two HA2.out)
      | (go_at_call 20; go_fit (i1 _ (row_ownX (HO.out _ HB0.out))); rintro e0 w1 ⟨rfl, hb⟩; have HA1 := Lib.hid (arrX_on HA0.out hb); have HB1 := Lib.hid (HB0.out.trans (hb.mono HB0.out.size)); clear hb; obtain ⟨⟨c0, c1⟩, f0, f1⟩ := arrX_two HA1.out))
    have hE : Arr _ w.heap.size 27 [.slice none 0 0, .int .i64 9] := ((HA3.out.put 0 (.slice none 0 0)).put 1 (.int .i64 9))
    exact bodyPost_ret (v := .agg #[.slice none 0 0, .int .i64 9]) (results_cell_row (P := Try.prog) Try.results14 _ _ w.heap.size 27 _ (0, 0) _ rfl hE Try.underlying27 rfl (by kernel_rfl)) rfl
      ⟨bo_ill _ _ _, (HB3.out.setCell (p := ⟨w.heap.size, 0, none⟩) (Nat.le_refl _) _).setCell (p := ⟨w.heap.size, 1, none⟩) (Nat.le_refl _) _⟩
  rw [show addR xs j = ⟨xs.take (posT j xs) ++ [j] ++ xs.drop (posT j xs), 0⟩ by unfold addR; rw [if_neg hs, if_neg hnf, if_neg hh2, if_neg h9]]
  obtain ⟨P, hP⟩ : ∃ P, posT j xs = P := ⟨_, rfl⟩
  have hpl := posT_le j xs
  rw [hP] at hpl ⊢
  have i4 := fun B1 W hO => spec_putX xs j n P p c B1 W hxn (by omega) hP hO
  have HML : Hid ((xs.take P ++ [j] ++ xs.drop P).length = n + 1) := Lib.hid (by simp only [List.length_append, List.length_take, List.length_drop, List.length_cons, List.length_nil]; omega)
  have q1 : ¬ (8 : Int) ≤ (n : Int) := by omega
  have hl1 : w.heap.size < w.heap.size + 1 := Nat.lt_succ_self _
  rw [hxn] at hn i1 i3 HO ⊢
  clear hO hw hxn hk hs ha hI hnf hh hh2 h9 hP hpl
  go_enter Try.func14, Try.ntmps14
  go_wp2_with (first
    | (go_at_call 51; have _ := HA3; go_fit (i4 _ _ (HO.out _ HB3.out)); rintro e0 w4 ⟨⟨q4, k4, rfl, hv⟩, hb⟩; have HV4 := Lib.hid (hv.mono (show w.heap.size + 1 ≤ w3.heap.size from arrX_lt HA3.out)); clear hv; have HA4 := Lib.hid (arrX_on HA3.out hb); have HB4 := Lib.hid (HB3.out.trans (hb.mono HB3.out.size)); clear hb; obtain ⟨⟨c0, c1⟩, f0, f1⟩ := arrX_two HA4.out)
    | (go_at_call 50; have _ := HA2; go_fit (i3 _ (row_ownX (HO.out _ HB2.out))); rintro e0 w3 ⟨rfl, hb⟩; have HA3 := Lib.hid (arrX_on HA2.out hb); have HB3 := Lib.hid (HB2.out.trans (hb.mono HB2.out.size)); clear hb; obtain ⟨⟨c0, c1⟩, f0, f1⟩ := arrX_two HA3.out)
    | (go_at_call 49; have _ := HA1; go_fit (i2 _); rintro e0 w2 ⟨rfl, hb⟩; have HA2 := Lib.hid (arrX_on HA1.out hb); have HB2 := Lib.hid (HB1.out.trans (hb.mono HB1.out.size)); clear hb; obtain ⟨⟨c0, c1⟩, f0, f1⟩ := arrX_two HA2.out)
    | (go_at_call 20; go_fit (i1 _ (row_ownX (HO.out _ HB0.out))); rintro e0 w1 ⟨rfl, hb⟩; have HA1 := Lib.hid (arrX_on HA0.out hb); have HB1 := Lib.hid (HB0.out.trans (hb.mono HB0.out.size)); clear hb; obtain ⟨⟨c0, c1⟩, f0, f1⟩ := arrX_two HA1.out))
  have hv4 := HV4.out
  rw [← HML.out] at hv4
  obtain ⟨hE, hO2, hBl⟩ := passX (R := ⟨xs.take P ++ [j] ++ xs.drop P, 0⟩) HA4.out HB4.out (Nat.le_refl _) hl1 hv4
  rw [HML.out] at hE
  exact bodyPost_ret (v := .agg #[.slice q4 (n + 1) k4, .int .i64 0]) (results_cell_row (P := Try.prog) Try.results14 _ _ w.heap.size 27 _ (0, 0) _ rfl hE Try.underlying27 rfl (by kernel_rfl)) rfl
    ⟨⟨q4, k4, by rw [HML.out], by rw [HML.out] at hO2 ⊢; exact hO2⟩, by rw [HML.out] at hBl; exact hBl⟩
end Go.Proofs.Ytpjmcpfmnlfmdaa

namespace Go.Proofs.Ytpjmcpfmnlfmdaa
set_option linter.unusedSimpArgs false
set_option linter.unusedVariables false
open Go.RowKit Go.Joins

def boC (R : BoL) (p : Option Addr) (k : Nat) : List Value := [.slice p R.l.length k, .int .i64 R.c]
/-- An answer in a box of the law's. -/
def OutX (b B : Nat) (W : World) (R : BoL) (p : Option Addr) (k : Nat) : Prop := Arr W b 27 (boC R p k) ∧ OwnC strC W B 9 1 (.slice p R.l.length k) R.l
theorem OutX.on {b B : Nat} {W W2 : World} {R : BoL} {p : Option Addr} {k : Nat} (h : OutX b B W R p k) (hb : Below W.heap.size W W2) : OutX b B W2 R p k := ⟨arrX_on h.1 hb, h.2.on hb⟩
theorem OutX.new {B : Nat} {W : World} {R : BoL} {p : Option Addr} {k : Nat} (h : OwnC strC W B 9 1 (.slice p R.l.length k) R.l) : OutX W.heap.size B (W.alloc (.cells (boC R p k).toArray 27)) R p k := ⟨Arr.fresh W _ _, h.alloc _⟩
theorem OutX.two {b B : Nat} {W : World} {R : BoL} {p : Option Addr} {k : Nat} (h : OutX b B W R p k) : (W.cell? ⟨b, 0, none⟩ = some (.slice p R.l.length k) ∧ W.cell? ⟨b, 1, none⟩ = some (.int .i64 R.c)) ∧ b < W.heap.size := ⟨(arrX_two h.1).1, arrX_lt h.1⟩
theorem mown_frameX {α : Type} {enc : α → List Value} {B B2 e size : Nat} {v u : Value} {xs : List α} {w W : World} (h : MFrame B v w W) (ho : OwnC enc w B2 e size u xs) (hne : ∀ a b, v.ownBlock = some a → u.ownBlock = some b → b ≠ a) : OwnC enc W B2 e size u xs := by
  refine ⟨ho.1, ?_⟩
  rcases ho.2 with h0 | ⟨g, cap, cur, h1, h2, h3, h4⟩
  · exact .inl h0
  · refine .inr ⟨g, cap, cur, h1, h2, (h.2.2 g (Array.getElem?_eq_some_iff.1 h3).1 (fun a ha => hne a g ha (by rw [h1]; rfl))).trans h3, h4⟩
/-- A row of sessions is no box of an answer. -/
theorem own_neX {w : World} {B b : Nat} {v : Value} {xs : List ByteArray} {cs : List Value} (h : OwnC strC w B 9 1 v xs) (hA : Arr w b 27 cs) : ∀ g, v.ownBlock = some g → b ≠ g := by
  intro g hg e
  subst e
  rcases h.2 with ⟨h0, _⟩ | ⟨g', cap, cur, h1, h2, h3, h4⟩
  · rw [h0] at hg; cases hg
  · rw [h1] at hg
    injection hg with hg
    have hg : g' = b := hg
    subst hg
    unfold Arr at hA
    rw [h3] at hA
    injection hA with hA
    injection hA with _ hA
    cases hA
/-- Another row is marked. -/
theorem OutX.mark {b B B2 B3 : Nat} {W W2 : World} {R : BoL} {p : Option Addr} {k : Nat} {v : Value} {xs : List ByteArray} (h : OutX b B W R p k) (hF : MFrame B3 v W W2) (hv : OwnC strC W B2 9 1 v xs)
    (hne : ∀ a g, v.ownBlock = some a → (Value.slice p R.l.length k).ownBlock = some g → g ≠ a) : OutX b B W2 R p k := ⟨hF.arr h.1 (own_neX hv h.1), mown_frameX hF h.2 hne⟩
end Go.Proofs.Ytpjmcpfmnlfmdaa

namespace Go.Proofs.Ytpjmcpfmnlfmdaa
set_option linter.unusedSimpArgs false
set_option linter.unusedVariables false
open Go.RowKit

/-- The first len cells of a slice are bytes that lie below B. -/
def SrcRow (w : World) (B : Nat) (a : Option Addr) (len : Nat) : Prop :=
  ∀ k, k < len → ∃ (b off : Nat) (z : Int), a = some ⟨b, off, none⟩ ∧ b < B ∧ w.cell? ⟨b, off + k, none⟩ = some (.int .u8 z) ∧ 0 ≤ z ∧ z ≤ 255
theorem lt_of_cell {w : World} {b i : Nat} {v : Value} (h : w.cell? ⟨b, i, none⟩ = some v) : b < w.heap.size := by
  rcases Nat.lt_or_ge b w.heap.size with h1 | h1
  · exact h1
  · simp [World.cell?, Array.getElem?_eq_none h1] at h
theorem SrcRow.grown {w w' : World} {B g : Nat} {a : Option Addr} {len : Nat} (h : SrcRow w B a len) (hg : w.grownBy w' (some g)) (hB : B ≤ g) : SrcRow w' B a len := by
  intro k hk
  obtain ⟨b, off, z, ha, hb, hc, h0, h1⟩ := h k hk
  refine ⟨b, off, z, ha, hb, ?_, h0, h1⟩
  rw [World.cell?_of_block (w := w) (hg.block b (lt_of_cell hc) (by simp; omega))]
  exact hc
theorem grown_set {w w1 : World} {g : Nat} (h : w.grownBy w1 (some g)) (i : Nat) (v : Value) : w.grownBy (w1.setCell ⟨g, i, none⟩ v) (some g) :=
  ⟨h.os, h.tape, h.output, by simpa [World.setCell] using h.size, fun k hk hne => (Below.heap_setCell w1 ⟨g, i, none⟩ v k (fun e => hne (by simp at e; rw [e]))).trans (h.block k hk hne)⟩
theorem grown_drew {w w1 : World} {r : Option Nat} (h : w.grownBy w1 r) : w.grownBy w1.drew r := ⟨h.os, h.tape, h.output, h.size, h.block⟩
theorem grown_drewN {w w1 : World} {r : Option Nat} (h : w.grownBy w1 r) (n : Nat) : w.grownBy (w1.drewN n) r := ⟨h.os, h.tape, h.output, h.size, h.block⟩

/-- Block g (not below B) is a source over bytes that lie below B. -/
def Src (w : World) (B g : Nat) : Prop := B ≤ g ∧ ∃ (a : Option Addr) (len cap : Nat) (at_ mix size : Int),
  Arr w g 86 [.slice a len cap, .int .i64 at_, .int .u64 mix, .int .i64 size] ∧ 0 ≤ at_ ∧ at_ ≤ (len : Int) ∧ 0 ≤ mix ∧ mix ≤ 18446744073709551615 ∧ 0 ≤ size ∧ size ≤ 12 ∧ len ≤ 1048576 ∧
  SrcRow w B a len

/-- A call that draws: it answers some v of which P holds; only the source and what is new have turned. -/
def Drew (B g : Nat) (w : World) (P : Value → Prop) (e : Ending) (w' : World) : Prop := ∃ v, e = .returned v ∧ P v ∧ Src w' B g ∧ w.grownBy w' (some g)
def NumIn (most : Int) (v : Value) : Prop := ∃ r : Int, v = .int .i64 r ∧ 0 ≤ r ∧ (r < most ∨ r = 0)

theorem src_done {w w' : World} {B g : Nat} {P : Value → Prop} {v : Value} {a : Option Addr} {len cap : Nat} {at_ mix size : Int} (hP : P v) (hBg : B ≤ g)
    (hA : Arr w' g 86 [.slice a len cap, .int .i64 at_, .int .u64 mix, .int .i64 size]) (a0 : 0 ≤ at_) (a1 : at_ ≤ (len : Int)) (m0 : 0 ≤ mix) (m1 : mix ≤ 18446744073709551615) (s0 : 0 ≤ size) (s1 : size ≤ 12) (hl : len ≤ 1048576)
    (hr : SrcRow w B a len) (hg : w.grownBy w' (some g)) : Drew B g w P (.returned v) w' :=
  ⟨v, rfl, hP, ⟨hBg, a, len, cap, at_, mix, size, hA, a0, a1, m0, m1, s0, s1, hl, hr.grown hg hBg⟩, hg⟩
theorem rem_in {x most : Int} (_ : 0 ≤ x) (h1 : 1 < most) (hm : most ≤ 9223372036854775807) : 0 ≤ wrap64 (x % most) ∧ (wrap64 (x % most) < most ∨ wrap64 (x % most) = 0) := by
  have a := Int.emod_nonneg x (b := most) (by omega)
  have b := Int.emod_lt_of_pos x (b := most) (by omega)
  rw [IntWalk.wrap64_in _ ⟨by omega, by omega⟩]
  exact ⟨a, .inl b⟩
theorem bits_range {op : BinOp} {a b M : Int} (h : bits op IntKind.u64 a b = M) : 0 ≤ M ∧ M ≤ 18446744073709551615 := by
  have hw := wf_bits (k := .u64) op a b
  rw [h] at hw
  simpa [Lit.wf, IntKind.min, IntKind.max, IntKind.signed, IntKind.bits] using hw

set_option maxRecDepth 100000 in
set_option maxHeartbeats 2000000 in
theorem src_n (B g : Nat) (most : Int) (w : World) (hm : most ≤ 9223372036854775807) (hS : Src w B g) :
    Calls Try.prog 60 #[.pointer (some ⟨g, 0, none⟩), .int .i64 most] w (Drew B g w (NumIn most)) := by
  by_cases h1 : most ≤ 1
  · have HS := Lib.hid hS
    clear hS
    go_enter Try.func60, Try.ntmps60
    go_wp2
    go_ret
    exact ⟨_, rfl, ⟨0, rfl, by omega, .inr rfl⟩, HS.out, World.grownBy.refl w _⟩
  · obtain ⟨hBg, a, len, cap, at_, mix, size, hA, ha0, ha1, hx0, hx1, hz0, hz1, hlen, hrow⟩ := hS
    have k0 : w.cell? ⟨g, 0, none⟩ = some (.slice a len cap) := hA.cell 0
    have k1 : w.cell? ⟨g, 1, none⟩ = some (.int .i64 at_) := hA.cell 1
    have k2 : w.cell? ⟨g, 2, none⟩ = some (.int .u64 mix) := hA.cell 2
    have f1 : w.frozen? ⟨g, 1, none⟩ = false := hA.free 1
    have f2 : w.frozen? ⟨g, 2, none⟩ = false := hA.free 2
    have HA := Lib.hid hA
    have HR := Lib.hid hrow
    clear hA hrow
    obtain ⟨M1, hM1⟩ : ∃ M, bits BinOp.xor IntKind.u64 mix (IntKind.u64.wrap (mix * 8192)) = M := ⟨_, rfl⟩
    obtain ⟨b10, b11⟩ := bits_range hM1
    obtain ⟨M2, hM2⟩ : ∃ M, bits BinOp.xor IntKind.u64 M1 (M1 / 128) = M := ⟨_, rfl⟩
    obtain ⟨b20, b21⟩ := bits_range hM2
    obtain ⟨M3, hM3⟩ : ∃ M, bits BinOp.xor IntKind.u64 M2 (IntKind.u64.wrap (M2 * 131072)) = M := ⟨_, rfl⟩
    obtain ⟨b30, b31⟩ := bits_range hM3
    by_cases hend : at_ < (len : Int)
    · obtain ⟨A, rfl⟩ : ∃ A : Nat, at_ = A := ⟨at_.toNat, by omega⟩
      obtain ⟨b, off, z, rfl, hb, hcz, hz00, hz11⟩ := HR.out A (by omega)
      have hbg : b ≠ g := by omega
      have f1 : w.frozen? ⟨g, 1, none⟩ = false := f1
      have kk : ∀ n, ((w.drewN n).setCell ⟨g, 1, none⟩ (.int .i64 ((A : Int) + 1))).cell? ⟨g, 2, none⟩ = some (.int .u64 mix) := fun n => (World.cell?_setCell_other (w.drewN n) ⟨g, 1, none⟩ ⟨g, 2, none⟩ _ (by simp)).trans k2
      have hk3 : ∀ n, (((((w.drewN n).setCell ⟨g, 1, none⟩ (.int .i64 ((A : Int) + 1))).setCell ⟨g, 2, none⟩ (.int .u64 M1)).setCell ⟨g, 2, none⟩ (.int .u64 M2)).setCell ⟨g, 2, none⟩ (.int .u64 M3)).cell? ⟨g, 2, none⟩ = some (.int .u64 M3) := fun n =>
        World.cell?_setCell_same _ _ _ (World.cell?_setCell_same _ _ _ (World.cell?_setCell_same _ _ _ (kk n)))
      have hk2 : ∀ n, ((((w.drewN n).setCell ⟨g, 1, none⟩ (.int .i64 ((A : Int) + 1))).setCell ⟨g, 2, none⟩ (.int .u64 M1)).setCell ⟨g, 2, none⟩ (.int .u64 M2)).cell? ⟨g, 2, none⟩ = some (.int .u64 M2) := fun n =>
        World.cell?_setCell_same _ _ _ (World.cell?_setCell_same _ _ _ (kk n))
      have hk1 : ∀ n, (((w.drewN n).setCell ⟨g, 1, none⟩ (.int .i64 ((A : Int) + 1))).setCell ⟨g, 2, none⟩ (.int .u64 M1)).cell? ⟨g, 2, none⟩ = some (.int .u64 M1) := fun n =>
        World.cell?_setCell_same _ _ _ (kk n)
      go_enter Try.func60, Try.ntmps60
      go_wp2
      go_quiet (fail)
      go_wp2
      go_quiet (fail)
      go_wp2
      go_region
      go_wp2
      go_region
      go_wp2
      go_region
      go_wp2
      go_ret
      exact src_done ⟨wrap64 ((z + M3 / 1048576) % most), rfl, rem_in (by omega) (by omega) hm⟩ hBg (((Arr.put (w := w.drewN _) HA.out 1 _).put 2 _).put 2 _ |>.put 2 _) (by omega) (by omega) b30 b31 hz0 hz1 hlen HR.out
        (grown_drew (grown_drew (grown_drew (grown_set (grown_set (grown_set (grown_set (grown_drewN (World.grownBy.refl w _) _) _ _) _ _) _ _) _ _))))
    · have hk3 : ∀ n, ((((w.drewN n).setCell ⟨g, 2, none⟩ (.int .u64 M1)).setCell ⟨g, 2, none⟩ (.int .u64 M2)).setCell ⟨g, 2, none⟩ (.int .u64 M3)).cell? ⟨g, 2, none⟩ = some (.int .u64 M3) := fun n =>
        World.cell?_setCell_same _ _ _ (World.cell?_setCell_same _ _ _ (World.cell?_setCell_same (w.drewN n) _ _ k2))
      go_enter Try.func60, Try.ntmps60
      go_wp2
      go_quiet (fail)
      go_wp2
      go_region
      go_wp2
      go_region
      go_wp2
      go_region
      go_wp2
      go_ret
      have hgr : w.grownBy ((((w.drewN (nq + 1)).setCell ⟨g, 2, none⟩ (.int .u64 M1)).setCell ⟨g, 2, none⟩ (.int .u64 M2)).setCell ⟨g, 2, none⟩ (.int .u64 M3)).drew.drew (some g) :=
        grown_drew (grown_drew (grown_set (grown_set (grown_set (grown_drewN (World.grownBy.refl w _) _) _ _) _ _) _ _))
      have hA' : Arr (w.drewN (nq + 1)) g 86 [.slice a len cap, .int .i64 at_, .int .u64 mix, .int .i64 size] := HA.out
      refine ⟨_, rfl, ⟨wrap64 (M3 / 1048576 % most), rfl, ?_⟩, ⟨hBg, a, len, cap, at_, M3, size, ((hA'.put 2 _).put 2 _).put 2 _, ha0, ha1, b30, b31, hz0, hz1, hlen, HR.out.grown hgr hBg⟩, hgr⟩
      exact rem_in (by omega) (by omega) hm

def BoolIn (v : Value) : Prop := ∃ b : Bool, v = .bool b
theorem src_one (B g : Nat) (of : Int) (w : World) (hm : of ≤ 9223372036854775807) (hS : Src w B g) :
    Calls Try.prog 41 #[.pointer (some ⟨g, 0, none⟩), .int .i64 of] w (Drew B g w BoolIn) := by
  have HS := Lib.hid hS
  clear hS
  go_enter Try.func41, Try.ntmps41
  go_wp2_with (go_at_call 60; refine (src_n B g of _ hm HS.out).mono ?_; rintro e w1 ⟨_, rfl, ⟨r, rfl, h0, h1⟩, hS1, hg1⟩)
  all_goals
    go_ret
    exact ⟨_, rfl, ⟨_, rfl⟩, hS1, hg1⟩

theorem SrcRow.below {w w' : World} {B : Nat} {a : Option Addr} {len : Nat} (h : SrcRow w B a len) (hb : Below B w w') : SrcRow w' B a len := by
  intro k hk
  obtain ⟨b, off, z, ha, hB, hc, h0, h1⟩ := h k hk
  exact ⟨b, off, z, ha, hB, (hb.cell (p := ⟨b, off + k, none⟩) hB).trans hc, h0, h1⟩
theorem info_u8d : (Try.prog.info? 5).map (fun i => (i.zero, i.size, i.bytes)) = some (some (.int .u8 0), 1, 1) := by kernel_rfl
theorem grown_alloc {w w1 : World} {r : Option Nat} (h : w.grownBy w1 r) (o : Obj) : w.grownBy (w1.alloc o) r :=
  ⟨h.os, h.tape, h.output, Nat.le_trans h.size (by simp), fun k hk hne => (Below.heap_alloc w1 o k (Nat.lt_of_lt_of_le hk h.size)).trans (h.block k hk hne)⟩
theorem Arr.alloc {w : World} {b t : Nat} {cs : List Value} (h : Arr w b t cs) (o : Obj) : Arr (w.alloc o) b t cs := by
  have hlt : b < w.heap.size := by
    rcases Nat.lt_or_ge b w.heap.size with h1 | h1
    · exact h1
    · unfold Arr at h; rw [Array.getElem?_eq_none h1] at h; cases h
  exact (Below.heap_alloc w o b hlt).trans h
theorem Src.alloc {w : World} {B g : Nat} (h : Src w B g) (o : Obj) : Src (w.alloc o) B g := by
  obtain ⟨hBg, a, len, cap, at_, mix, size, hA, h1, h2, h3, h4, h5, h6, h7, hr⟩ := h
  refine ⟨hBg, a, len, cap, at_, mix, size, hA.alloc o, h1, h2, h3, h4, h5, h6, h7, ?_⟩
  intro k hk
  obtain ⟨b, off, z, ha, hB, hc, h0, h1⟩ := hr k hk
  exact ⟨b, off, z, ha, hB, (World.cell?_alloc_lt w o ⟨b, off + k, none⟩ (lt_of_cell hc)).trans hc, h0, h1⟩
/-- What is owned elsewhere has grown: the source stands. -/
theorem Src.other {w w' : World} {B g : Nat} {r : Option Nat} (h : Src w B g) (hg : w.grownBy w' r) (hne : ∀ q, r = some q → q ≠ g) (hlt : g < w.heap.size) (hr : ∀ q, r = some q → B ≤ q) : Src w' B g := by
  obtain ⟨hBg, a, len, cap, at_, mix, size, hA, h1, h2, h3, h4, h5, h6, h7, hrow⟩ := h
  refine ⟨hBg, a, len, cap, at_, mix, size, (hg.block g hlt (fun e => hne g e.symm rfl)).trans hA, h1, h2, h3, h4, h5, h6, h7, ?_⟩
  intro k hk
  obtain ⟨b, off, z, ha, hB, hc, h0, h1⟩ := hrow k hk
  refine ⟨b, off, z, ha, hB, ?_, h0, h1⟩
  rw [World.cell?_of_block (w := w) (hg.block b (lt_of_cell hc) (fun e => by have := hr b e.symm; omega))]
  exact hc
theorem grown_same {w w1 w2 : World} {r : Option Nat} (h : w.grownBy w1 r) (k : w1.grownBy w2 r) : w.grownBy w2 r :=
  ⟨k.os.trans h.os, k.tape.trans h.tape, k.output.trans h.output, Nat.le_trans h.size k.size, fun i hi hne => (k.block i (Nat.lt_of_lt_of_le hi h.size) hne).trans (h.block i hi hne)⟩
/-- A row of the call's own has grown besides. -/
theorem grown_over {w w1 w2 : World} {r s : Option Nat} (h : w.grownBy w1 r) (k : w1.grownBy w2 s) (hs : ∀ q, s = some q → w.heap.size ≤ q) : w.grownBy w2 r :=
  ⟨k.os.trans h.os, k.tape.trans h.tape, k.output.trans h.output, Nat.le_trans h.size k.size, fun i hi hne => (k.block i (Nat.lt_of_lt_of_le hi h.size) (fun e => by have := hs i e.symm; omega)).trans (h.block i hi hne)⟩
/-- A source has been made. -/
def SrcMade (w : World) (e : Ending) (w' : World) : Prop := e = .returned (.pointer (some ⟨w.heap.size, 0, none⟩)) ∧ Src w' w.heap.size w.heap.size ∧ Below w.heap.size w w'

def SrcMadeB (B : Nat) (w : World) (e : Ending) (w' : World) : Prop := e = .returned (.pointer (some ⟨w.heap.size, 0, none⟩)) ∧ Src w' B w.heap.size ∧ Below w.heap.size w w'
theorem wrap_range {a M : Int} (h : IntKind.u64.wrap a = M) : 0 ≤ M ∧ M ≤ 18446744073709551615 := by
  rw [wrap_u64] at h
  omega

set_option maxRecDepth 100000 in
set_option maxHeartbeats 2000000 in
theorem src_sourceB (B : Nat) (a : Option Addr) (len cap : Nat) (w : World) (hlen : len ≤ 1048576) (hB : B ≤ w.heap.size) (hrow : SrcRow w B a len) :
    Calls Try.prog 39 #[.slice a len cap] w (SrcMadeB B w) := by
  have HR := Lib.hid hrow
  clear hrow
  go_enter Try.func39, Try.ntmps39
  go_wp2
  go_loopw [4] (fun i wr => ∃ (k : Nat) (mix : Int), i = .int .i64 (k : Int) ∧ k ≤ len ∧ k ≤ 64 ∧ 0 ≤ mix ∧ mix ≤ 18446744073709551615 ∧ Arr wr w.heap.size 86 [.slice a len cap, .int .i64 0, .int .u64 mix, .int .i64 0] ∧ Below w.heap.size w wr)
    (fun i _ => 64 - (intOf i).toNat)
  case atStart => exact ⟨0, 88172645463325252, rfl, by omega, by omega, by omega, by omega, Arr.fresh w _ [.slice a len cap, .int .i64 0, .int .u64 88172645463325252, .int .i64 0], (Below.refl _ _).alloc (Nat.le_refl _) _⟩
  case round =>
    obtain ⟨k, mix, rfl, hk, hk64, hm0, hm1, hA, hbel⟩ := hrel
    have k2 : wr.cell? ⟨w.heap.size, 2, none⟩ = some (.int .u64 mix) := hA.cell 2
    have k3 : wr.cell? ⟨w.heap.size, 3, none⟩ = some (.int .i64 0) := hA.cell 3
    have f2 : wr.frozen? ⟨w.heap.size, 2, none⟩ = false := hA.free 2
    have f3 : wr.frozen? ⟨w.heap.size, 3, none⟩ = false := hA.free 3
    have HA := Lib.hid hA
    clear hA
    by_cases hlt : k < len ∧ k < 64
    · obtain ⟨hl, h64⟩ := hlt
      obtain ⟨b, off, z, rfl, hb, hcz, hz0, hz1⟩ := (HR.out.below (hbel.mono hB)) k hl
      have hbne : b ≠ w.heap.size := by omega
      go_wp2
      go_region
      go_wp2
      go_roundw
      case rel =>
        obtain ⟨M, hM⟩ : ∃ M, IntKind.u64.wrap (bits BinOp.xor IntKind.u64 mix z * 1099511628211) = M := ⟨_, rfl⟩
        obtain ⟨r0, r1⟩ := wrap_range hM
        rw [hM]
        exact ⟨k + 1, M, by go_num, by omega, by omega, r0, r1, HA.out.put 2 _, (hbel.setCell (Nat.le_refl _) _).drew⟩
      case measure => simp [intOf]; omega
    · have hA3 : ∀ x : Int, (wr.setCell ⟨w.heap.size, 3, none⟩ (.int .i64 x)).cell? ⟨w.heap.size, 3, none⟩ = some (.int .i64 x) := fun x => World.cell?_setCell_same _ _ _ k3
      by_cases hbig : 12 < (len : Int) / 20
      · by_cases hl : k < len
        · have h64 : ¬ k < 64 := fun h => hlt ⟨hl, h⟩
          clear hlt
          go_wp2
          go_ret
          exact ⟨rfl, ⟨hB, a, len, cap, 0, mix, 12, (HA.out.put 3 _).put 3 _, by omega, by omega, hm0, hm1, by omega, by omega, hlen, HR.out.below (((hbel.setCell (Nat.le_refl _) _).setCell (Nat.le_refl _) _).mono hB)⟩, (hbel.setCell (Nat.le_refl _) _).setCell (Nat.le_refl _) _⟩
        · omega
      · by_cases hl : k < len
        · have h64 : ¬ k < 64 := fun h => hlt ⟨hl, h⟩
          clear hlt
          go_wp2
          go_ret
          exact ⟨rfl, ⟨hB, a, len, cap, 0, mix, _, HA.out.put 3 _, by omega, by omega, hm0, hm1, by omega, by omega, hlen, HR.out.below ((hbel.setCell (Nat.le_refl _) _).mono hB)⟩, hbel.setCell (Nat.le_refl _) _⟩
        · clear hlt
          go_wp2
          go_ret
          exact ⟨rfl, ⟨hB, a, len, cap, 0, mix, _, HA.out.put 3 _, by omega, by omega, hm0, hm1, by omega, by omega, hlen, HR.out.below ((hbel.setCell (Nat.le_refl _) _).mono hB)⟩, hbel.setCell (Nat.le_refl _) _⟩
theorem src_source (a : Option Addr) (len cap : Nat) (w : World) (hlen : len ≤ 1048576) (hrow : SrcRow w w.heap.size a len) :
    Calls Try.prog 39 #[.slice a len cap] w (SrcMade w) := src_sourceB w.heap.size a len cap w hlen (Nat.le_refl _) hrow

/-- Some bytes, at most so many. -/
def StrIn (most : Nat) (v : Value) : Prop := ∃ s : ByteArray, v = .string s ∧ s.size ≤ most

/-- A slice of bytes that came in is a row of bytes. -/
theorem srcRow_of {w : World} {x : Addr} {zs : List Int} {len : Nat} (hl : len ≤ zs.length) (hc : ∀ i, i < zs.length → w.cell? (x.add i) = some (.int .u8 (zs.getD i 0))) (hw : ∀ n ∈ zs, (Lit.int .u8 n).wf = true) : SrcRow w w.heap.size (some x) len := by
  intro k hk
  obtain ⟨b, off, rfl, hcell⟩ := ints_at hc (show 0 < zs.length by omega)
  have hk' : k < zs.length := by omega
  have h1 := hcell k hk'
  have hmem : zs.getD k 0 ∈ zs := by
    rw [List.getD_eq_getElem?_getD, List.getElem?_eq_getElem hk']
    exact List.getElem_mem hk'
  have hb := hw _ hmem
  have hr : 0 ≤ zs.getD k 0 ∧ zs.getD k 0 ≤ 255 := by simpa [Lit.wf, IntKind.min, IntKind.max, IntKind.signed, IntKind.bits] using hb
  exact ⟨b, off, _, rfl, lt_of_cell h1, h1, hr.1, hr.2⟩
theorem srcRow_nil {w : World} {B : Nat} {a : Option Addr} : SrcRow w B a 0 := fun k hk => by omega
end Go.Proofs.Ytpjmcpfmnlfmdaa

namespace Go.Proofs.Ytpjmcpfmnlfmdaa
set_option linter.unusedSimpArgs false
set_option linter.unusedVariables false
open Go.RowKit

theorem Arr.other {w w' : World} {b t : Nat} {cs : List Value} {r : Option Nat} (h : Arr w b t cs) (hg : w.grownBy w' r) (hne : r ≠ some b) : Arr w' b t cs := by
  have hlt : b < w.heap.size := by
    rcases Nat.lt_or_ge b w.heap.size with h1 | h1
    · exact h1
    · unfold Arr at h; rw [Array.getElem?_eq_none h1] at h; cases h
  exact (hg.block b hlt (fun e => hne e.symm)).trans h

theorem madeCells_zero (n : Nat) : (madeCells #[Value.int .u8 0] n).toList = (List.replicate n (0 : UInt8)).map byteV := by
  rw [List.map_replicate]
  apply List.ext_getElem
  · simp [size_madeCells]
  · intro i h1 h2
    simp [madeCells, byteV, Nat.mod_one]
/-- string(make([]byte, n)). -/
theorem run_string_made {P : Program} (w : World) (src dst e n : Nat) (hs : P.underlying src = some (.slice e)) (he : P.underlying e = some (.int .u8)) (hd : P.underlying dst = some .string) :
    (convert src dst (.slice (some ⟨w.heap.size, 0, none⟩) n n)).run P (w.alloc (.cells (madeCells #[.int .u8 0] n) e)) = .ok (.string (strOf (List.replicate n 0))) (w.alloc (.cells (madeCells #[.int .u8 0] n) e)) := by
  have hA : Arr (w.alloc (.cells (madeCells #[.int .u8 0] n) e)) w.heap.size e (madeCells #[.int .u8 0] n).toList := heap_alloc_new w _
  refine run_string_arr (P := P) _ src dst e w.heap.size e n n _ (List.replicate n 0) hA ?_ (by simp) hs he hd
  unfold Heads
  rw [madeCells_zero]
  exact List.take_of_length_le (by simp)
theorem Src.lt {w : World} {B g : Nat} (h : Src w B g) : g < w.heap.size := by
  obtain ⟨_, a, len, cap, at_, mix, size, hA, _⟩ := h
  exact lt_of_cell (hA.cell 0)

theorem SrcRow.heap {w W : World} {B : Nat} {a : Option Addr} {len : Nat} (h : SrcRow w B a len) (hh : W.heap = w.heap) : SrcRow W B a len := by
  intro k hk
  obtain ⟨b, off, z, ha, hB, hc, h0, h1⟩ := h k hk
  exact ⟨b, off, z, ha, hB, by rw [← hc]; unfold World.cell?; rw [hh], h0, h1⟩
end Go.Proofs.Ytpjmcpfmnlfmdaa

namespace Go.Proofs.Ytpjmcpfmnlfmdaa
set_option linter.unusedSimpArgs false
set_option linter.unusedVariables false
open Go.RowKit

/-- A row of strings, each of at most M bytes. -/
def StrRow (w : World) (b n M : Nat) : Prop := ∀ j, j < n → ∃ s : ByteArray, w.cell? ⟨b, j, none⟩ = some (.string s) ∧ s.size ≤ M
theorem strRow_new (w : World) (t M : Nat) (ss : List ByteArray) (h : ∀ s ∈ ss, s.size ≤ M) : StrRow (w.alloc (.cells (ss.map Value.string).toArray t)) w.heap.size ss.length M := by
  intro j hj
  refine ⟨ss[j], ?_, h _ (List.getElem_mem hj)⟩
  rw [(Arr.fresh w t (ss.map Value.string)).cell]
  simp [List.getElem?_eq_getElem hj]
set_option maxHeartbeats 1000000 in
theorem src_pick (B g b n M : Nat) (w : World) (hn0 : 1 ≤ n) (hn : n ≤ 100) (hS : Src w B g) (hbg : b ≠ g) (hrow : StrRow w b n M) :
    Calls Try.prog 42 #[.pointer (some ⟨g, 0, none⟩), .slice (some ⟨b, 0, none⟩) n n] w (Drew B g w (StrIn M)) := by
  have HS := Lib.hid hS
  have HR := Lib.hid hrow
  clear hS hrow
  go_enter Try.func42, Try.ntmps42
  go_wp2_with fail
  refine (src_n B g (n : Int) _ (by omega) HS.out).mono ?_
  rintro e w1 ⟨_, rfl, ⟨r, rfl, h0, h1⟩, hS1, hg1⟩
  obtain ⟨R, rfl⟩ : ∃ R : Nat, r = R := ⟨r.toNat, by omega⟩
  have hR : R < n := by omega
  obtain ⟨s, hs, hM⟩ := HR.out R hR
  have hc : w1.cell? ⟨b, R, none⟩ = some (.string s) := by
    rw [World.cell?_of_block (w := w) (hg1.block b (lt_of_cell hs) (fun e => hbg (by injection e)))]
    exact hs
  clear h1
  go_wp2
  go_ret
  exact ⟨_, rfl, ⟨s, rfl, hM⟩, hS1, hg1⟩
theorem grown_new {w w1 : World} {r : Option Nat} (h : w.grownBy w1 r) (b i : Nat) (v : Value) (hb : w.heap.size ≤ b) : w.grownBy (w1.setCell ⟨b, i, none⟩ v) r :=
  ⟨h.os, h.tape, h.output, by simpa [World.setCell] using h.size, fun k hk hne => (Below.heap_setCell w1 ⟨b, i, none⟩ v k (by simp; omega)).trans (h.block k hk hne)⟩
theorem grown_setb (w : World) (b i : Nat) (v : Value) : w.grownBy (w.setCell ⟨b, i, none⟩ v) (some b) := grown_set (World.grownBy.refl w _) i v
theorem Src.set {w : World} {B g : Nat} (h : Src w B g) (b i : Nat) (v : Value) (hne : b ≠ g) (hB : B ≤ b) : Src (w.setCell ⟨b, i, none⟩ v) B g :=
  h.other (grown_setb w b i v) (fun q e => by injection e; omega) h.lt (fun q e => by injection e; omega)
theorem Src.on {w w1 : World} {B g : Nat} (h : Src w B g) (hb : Below w.heap.size w w1) : Src w1 B g := by
  obtain ⟨hBg, a, len, cap, at_, mix, size, hA, h1, h2, h3, h4, h5, h6, h7, hrow⟩ := id h
  refine ⟨hBg, a, len, cap, at_, mix, size, arr_below hA hb, h1, h2, h3, h4, h5, h6, h7, ?_⟩
  intro k hk
  obtain ⟨b, off, z, ha, hB, hc, h0, h1⟩ := hrow k hk
  exact ⟨b, off, z, ha, hB, (hb.cell (p := ⟨b, off + k, none⟩) (lt_of_cell hc)).trans hc, h0, h1⟩
theorem grown_on {w w1 w2 : World} {r : Option Nat} (h : w.grownBy w1 r) (hb : Below w1.heap.size w1 w2) : w.grownBy w2 r :=
  ⟨hb.os.trans h.os, hb.tape.trans h.tape, hb.output.trans h.output, Nat.le_trans h.size hb.size, fun k hk hne => (hb.block k (Nat.lt_of_lt_of_le hk h.size)).trans (h.block k hk hne)⟩
theorem strRow_at (w : World) (t M b : Nat) (ss : List ByteArray) (hb : b = w.heap.size) (h : ∀ s ∈ ss, s.size ≤ M) : StrRow (w.alloc (.cells (ss.map Value.string).toArray t)) b ss.length M := by
  subst hb
  exact strRow_new w t M ss h
theorem below_grown {B g : Nat} {w w1 w2 : World} (hb : Below B w w1) (hB : B ≤ w1.heap.size) (hg : w1.grownBy w2 (some g)) (hg' : B ≤ g) : Below B w w2 :=
  hb.grown hg hB (fun k hk => by simp at hk; omega)
end Go.Proofs.Ytpjmcpfmnlfmdaa

namespace Go.Proofs.Ytpjmcpfmnlfmdaa
set_option linter.unusedSimpArgs false
set_option linter.unusedVariables false
open Go.RowKit Go.Joins

/-- Small lists. -/
def TxW (xs : List ByteArray) : Prop := xs.length ≤ 8 ∧ ∀ x ∈ xs, x.size ≤ 100
theorem txw_ill (c : Int) : TxW (illB c).l := ⟨Nat.zero_le _, fun x hx => by cases hx⟩
theorem txw_add {xs : List ByteArray} {r : ByteArray} (h : TxW xs) (hr : r.size ≤ 100) : TxW (addR xs r).l := by
  unfold addR
  split
  · exact txw_ill _
  · split
    · exact txw_ill _
    · split
      · exact txw_ill _
      · split
        · exact txw_ill _
        · rename_i h5
          have hl := h.1
          refine ⟨?_, fun x hx => ?_⟩
          · show (xs.take _ ++ [r] ++ xs.drop _).length ≤ 8
            simp only [List.length_append, List.length_take, List.length_drop, List.length_cons, List.length_nil]
            omega
          · rcases List.mem_append.1 hx with hx | hx
            · rcases List.mem_append.1 hx with hx | hx
              · exact h.2 x (List.mem_of_mem_take hx)
              · obtain rfl := List.mem_singleton.1 hx
                exact hr
            · exact h.2 x (List.mem_of_mem_drop hx)
theorem who_small : ∀ s ∈ [(⟨#[97, 110, 110, 64, 97]⟩ : ByteArray), ⟨#[98, 111, 98, 64, 98, 47, 104, 111, 109, 101]⟩, ⟨#[97]⟩, ⟨#[97, 110, 110, 64, 97, 47, 120]⟩, ⟨#[99, 64, 97, 46, 98]⟩, ⟨#[98]⟩, ⟨#[98, 111, 98, 64, 98]⟩], s.size ≤ 100 := by
  intro s hs
  simp at hs
  rcases hs with rfl | rfl | rfl | rfl | rfl | rfl | rfl <;> decide
theorem odd_small : ∀ s ∈ [(⟨#[65]⟩ : ByteArray), ⟨#[97]⟩, ⟨#[122, 122]⟩], s.size ≤ 100 := by
  intro s hs
  simp at hs
  rcases hs with rfl | rfl | rfl <;> decide
set_option maxRecDepth 100000 in
set_option maxHeartbeats 1000000 in
theorem draw_bwho (B g : Nat) (w : World) (hS : Src w B g) : Calls Try.prog 43 #[.pointer (some ⟨g, 0, none⟩)] w (Drew B g w (StrIn 100)) := by
  have hlt := hS.lt
  have hBg := hS.1
  have HS := Lib.hid hS
  clear hS
  go_enter Try.func43, Try.ntmps43
  go_wp2_with fail
  refine (src_pick B g w.heap.size 7 100 _ (by omega) (by omega) (HS.out.alloc _) (by omega) (strRow_at w 9 100 _ [⟨#[97, 110, 110, 64, 97]⟩, ⟨#[98, 111, 98, 64, 98, 47, 104, 111, 109, 101]⟩, ⟨#[97]⟩, ⟨#[97, 110, 110, 64, 97, 47, 120]⟩, ⟨#[99, 64, 97, 46, 98]⟩, ⟨#[98]⟩, ⟨#[98, 111, 98, 64, 98]⟩] rfl who_small)).mono ?_
  rintro e w1 ⟨_, rfl, ⟨x, rfl, hx⟩, hS1, hg1⟩
  go_wp2
  go_ret
  exact ⟨_, rfl, ⟨x, rfl, hx⟩, hS1, grown_same (World.grownBy_alloc w _ (some g)) hg1⟩
theorem own_grownX {α : Type} {enc : α → List Value} {W W2 : World} {g B e size : Nat} {v : Value} {xs : List α} (ho : OwnC enc W B e size v xs) (hg : W.grownBy W2 (some g)) (hB : g < B) : OwnC enc W2 B e size v xs := by
  refine ⟨ho.1, ?_⟩
  rcases ho.2 with h0 | ⟨j, c, cur, h1, h2, h3, h4⟩
  · exact .inl h0
  · exact .inr ⟨j, c, cur, h1, h2, (hg.block j (Array.getElem?_eq_some_iff.1 h3).1 (fun e => by have := Option.some.inj e; omega)).trans h3, h4⟩
/-- The source, and texts that lie in a row of the call's own. -/
def TdS (w W : World) (B g : Nat) (xs : List ByteArray) (p : Option Addr) (k : Nat) : Prop :=
  Src W B g ∧ w.grownBy W (some g) ∧ OwnC strC W w.heap.size 9 1 (.slice p xs.length k) xs
theorem TdS.on {w W W2 : World} {B g : Nat} {xs : List ByteArray} {p : Option Addr} {k : Nat} (h : TdS w W B g xs p k) (hb : Below W.heap.size W W2) : TdS w W2 B g xs p k := ⟨h.1.on hb, grown_on h.2.1 hb, h.2.2.on hb⟩
theorem TdS.src {w W W2 : World} {B g : Nat} {xs : List ByteArray} {p : Option Addr} {k : Nat} (h : TdS w W B g xs p k) (hS : Src W2 B g) (hg : W.grownBy W2 (some g)) (hlt : g < w.heap.size) : TdS w W2 B g xs p k :=
  ⟨hS, grown_same h.2.1 hg, own_grownX h.2.2 hg hlt⟩
theorem tds_app {w W W2 : World} {B g : Nat} {xs ys : List ByteArray} {p : Option Addr} {k : Nat} {o : Obj} {v : Value} (h : TdS w W B g xs p k) (hlt : g < w.heap.size) (hv : OwnC strC W2 w.heap.size 9 1 v ys) (hg : (W.alloc o).grownBy W2 (Value.slice p xs.length k).ownBlock) :
    ∃ p4 k4, v = .slice p4 ys.length k4 ∧ TdS w W2 B g ys p4 k4 := by
  obtain ⟨p4, k4, e⟩ := own_lenX hv
  have hb := own_base h.2.2
  have hB := h.1.1
  have hl := h.1.lt
  exact ⟨p4, k4, e, (h.1.alloc o).other hg (fun q hq => by have := hb q hq; omega) (by rw [World.size_alloc]; omega) (fun q hq => by have := hb q hq; omega), grown_over (grown_alloc h.2.1 o) hg hb, e ▸ hv⟩
set_option maxRecDepth 100000 in
set_option maxHeartbeats 4000000 in
theorem draw_blocks (B g : Nat) (w : World) (hS : Src w B g) :
    Calls Try.prog 40 #[.pointer (some ⟨g, 0, none⟩)] w fun e w' => ∃ xs p k, e = .returned (.slice p xs.length k) ∧ TdS w w' B g xs p k ∧ (xs.length ≤ 9 ∧ ∀ x ∈ xs, x.size ≤ 100) := by
  have hlt := hS.lt
  have hBg := hS.1
  have HS0 : Hid (TdS w (w.alloc (.cells #[] 9)) B g [] (some ⟨w.heap.size, 0, none⟩) 0) := Lib.hid ⟨hS.alloc _, World.grownBy_alloc w _ _, empty_rowX w⟩
  clear hS
  go_enter Try.func40, Try.ntmps40
  go_wp2_with fail
  refine (src_n B g 7 _ (by omega) HS0.out.1).mono ?_
  rintro e w1 ⟨_, rfl, ⟨z0, rfl, hz0, hz1⟩, hS1, hg1⟩
  have HS1 := Lib.hid (HS0.out.src hS1 hg1 hlt)
  clear hS1 hg1
  go_wp2_with fail
  go_loopw [3, 4] (fun lq kq wr => ∃ (xs : List ByteArray) (p : Option Addr) (k m : Nat) (z : Int), lq = .slice p m k ∧ m = xs.length ∧ kq = .int .i64 z ∧ 0 ≤ z ∧ z ≤ 7 ∧ TdS w wr B g xs p k ∧ TxW xs) (fun _ z _ => (intOf z).toNat)
  case atStart => exact ⟨[], _, _, 0, z0, rfl, rfl, rfl, hz0, by omega, HS1.out, Nat.zero_le _, fun x hx => by cases hx⟩
  case round =>
    obtain ⟨xs, p, k, m, z, rfl, hm, rfl, hz, hz9, hs, hw⟩ := hrel
    have HS := Lib.hid hs
    have HW := Lib.hid hw
    have HM := Lib.hid hm
    have i1 := fun (r : ByteArray) (hr : r.size ≤ 100) W hO => spec_blockadd xs r p k w.heap.size W (by have := HW.out.1; omega) (by omega) (fun x hx => by have := HW.out.2 x hx; omega) hO
    unfold BoIs at i1
    rw [← hm] at i1
    clear hs hw hm
    by_cases h0 : 0 < z
    · go_wp2_with fail
      refine (draw_bwho B g wr HS.out.1).mono ?_
      rintro e w2 ⟨_, rfl, ⟨r, rfl, hr⟩, hS2, hg2⟩
      have HS2 := Lib.hid (HS.out.src hS2 hg2 hlt)
      have hww := Lib.hid HS2.out.2.1.size
      clear hS2 hg2 HS
      go_wp2_with fail
      go_fit (i1 r hr w2 (by rw [HM.out]; exact HS2.out.2.2))
      rintro e w3 ⟨⟨q, l, rfl, ho⟩, hb⟩
      have HS3 := Lib.hid (HS2.out.on hb)
      have HO3 := Lib.hid (ho.mono hww.out)
      have hRW := txw_add HW.out hr
      clear ho hb HS2 hww
      obtain ⟨R, hR⟩ : ∃ R, addR xs r = R := ⟨_, rfl⟩
      rw [hR] at HO3 hRW ⊢
      have HRW := Lib.hid hRW
      have HS4 := Lib.hid (HS3.out.on ((Below.refl _ _).alloc (Nat.le_refl _) (.cells #[.slice q R.l.length l, .int .i64 R.c] 27)))
      have HO4 := Lib.hid (HO3.out.alloc (.cells #[.slice q R.l.length l, .int .i64 R.c] 27))
      clear hR hRW
      by_cases hc : R.c = 0
      · have hsb := HS4.out
        have hob := HO4.out
        rw [hc] at hsb hob
        have HSB := Lib.hid hsb
        have HOB := Lib.hid hob
        clear hsb hob
        go_wp2_with fail
        go_roundw
        case rel => exact ⟨R.l, q, l, R.l.length, z - 1, rfl, rfl, by go_num, by omega, by omega, ⟨HSB.out.1, HSB.out.2.1, HOB.out⟩, HRW.out⟩
        case measure => simp [intOf]; omega
      · go_wp2_with fail
        go_roundw
        case rel => exact ⟨xs, _, k, m, z - 1, rfl, HM.out, by go_num, by omega, by omega, HS4.out, HW.out⟩
        case measure => simp [intOf]; omega
    · have hz00 : z = 0 := by omega
      subst hz00
      go_wp2_with fail
      refine (src_one B g 20 wr (by omega) HS.out.1).mono ?_
      rintro e w2 ⟨_, rfl, ⟨b, rfl⟩, hS2, hg2⟩
      have HS2 := Lib.hid (HS.out.src hS2 hg2 hlt)
      clear hS2 hg2 HS
      cases b
      · go_wp2_with fail
        go_ret
        have h := HM.out
        subst h
        exact ⟨xs, p, k, rfl, HS2.out, by have := HW.out.1; omega, HW.out.2⟩
      · go_wp2_with fail
        have hgw2 : g < w2.heap.size := by have := HS2.out.2.1.size; omega
        refine (src_pick B g w2.heap.size 3 100 _ (by omega) (by omega) (HS2.out.1.alloc _) (by omega) (strRow_at w2 9 100 _ [⟨#[65]⟩, ⟨#[97]⟩, ⟨#[122, 122]⟩] rfl odd_small)).mono ?_
        rintro e w3 ⟨_, rfl, ⟨sh, rfl, hsh⟩, hS3, hg3⟩
        have HS3 := Lib.hid ((HS2.out.on ((Below.refl _ _).alloc (Nat.le_refl _) _)).src hS3 hg3 hlt)
        clear hS3 hg3 HS2
        have h := HM.out
        subst h
        go_wp2_with (at_builtin; refine wpList_plain rfl fun K hK => ?_; refine wp_app_oneX _ _ rfl w.heap.size _ xs rfl (HS3.out.2.2.alloc _) w3.heap.size sh rfl (Arr.fresh w3 9 [.string sh]) (by have := HW.out.1; omega) (by rw [World.size_alloc]; have := HS3.out.2.1.size; omega) ?_; intro v4 w4 hv4 hg4; have HS4 := Lib.hid (tds_app HS3.out hlt hv4 hg4); clear hv4 hg4; refine hK _ _ ?_)
        obtain ⟨p4, k4, e4, hs4⟩ := HS4.out
        subst e4
        go_ret
        exact ⟨_, p4, k4, rfl, hs4, by have := HW.out.1; rw [List.length_append]; show _ + 1 ≤ 9; omega, fun x hx => by
          rcases List.mem_append.1 hx with hx | hx
          · exact HW.out.2 x hx
          · obtain rfl := List.mem_singleton.1 hx
            exact hsh⟩
end Go.Proofs.Ytpjmcpfmnlfmdaa
