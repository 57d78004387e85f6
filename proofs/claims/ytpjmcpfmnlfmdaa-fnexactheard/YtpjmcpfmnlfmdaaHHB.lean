/- Several parts in one text: StHand, StForms, StEscMath, StTextMath, StEscS, StTextS, MarkText, RowMk, RwStr, SeRow, BkArg, StSmall, JidReadMore, StAddr, SeCmp, HandQ, SmJoin, BkRight, BkLawR, MbRow, SeFrame, ArMsg, EqMsg, SeMath, SeSmall, SeRightI, SeRightS, ArSession, EqSession, SeLawR, SeAt, SeCopy, SeWithI, SeStrs, SeAny, SeBestM, SeSel, SeWithS, BkMath, BkOutL, RwMsg. -/
import Derived.Test.YtpjmcpfmnlfmdaaHHA
import Derived.Deep.RegionHeld3
import Derived.Test.YtpjmcpfmnlfmdaaChecked
import Derived.Maps.OwnSet
import Derived.Maps.RangeWalk
import Derived.Maps.Ext
import Derived.WalkKit
import Derived.ProofKit
import Derived.Deep.DeepFit
import Derived.Lib.ItoaNum
import Derived.Lib.AppendStr
import Derived.Lib.SmallJoins
import Derived.OpenShut
import Derived.ShutString
import Derived.Deep.Slices
import Derived.Deep.MidRow
import Derived.Laws.CopyOwn
import Derived.Lib.OthersKept
import Derived.Laws.RangeAny
import Derived.IntWalk
import Derived.Laws.Cover1
import Derived.OwnWalk
import Derived.Laws.AppendOwn
import Derived.Lib.SliceRun
namespace Go.Proofs.Ytpjmcpfmnlfmdaa
set_option linter.unusedSimpArgs false
set_option linter.unusedVariables false
open Go.RowKit

theorem takeH {P : Program} {ops : Array Oper} {Q : Exit → Act → World → Prop} {md : Region.Mode} {S : World → Prop} {i k : Nat} {oi : Oper} {v : Value} {fuel : Nat} {listed : Array Bool} {a : Act} {w : World} (hi : ops[i]? = some oi) (hd : oi.dst = some k)
    (hs : Region.noSelect ops = true) (hf : Region.free md ops listed i = true) (hr : (Region.ready md ops listed).contains i = true) (hQ : ∀ c a w, Q (.panic c) (a.put (some k) v) w → Q (.panic c) a w)
    (hw : Region.wanted oi (yielded ops a.tmps) = true) (hv : ∀ w, S w → (execOp a.eval oi).run P w = .ok (.value v) w) (hS : S w) (h : wpAnyH P md ops Q S fuel (listed.setIfInBounds i true) (a.put (some k) v) w) : wpAnyH P md ops Q S (fuel + 1) listed a w := by
  rw [← hd] at hQ h
  exact wpAnyH_take hi hs hf hr hQ (Or.inl ⟨hw, hv⟩) hS h
theorem skipH {P : Program} {ops : Array Oper} {Q : Exit → Act → World → Prop} {md : Region.Mode} {S : World → Prop} {i k : Nat} {oi : Oper} {fuel : Nat} {listed : Array Bool} {a : Act} {w : World} (hi : ops[i]? = some oi) (hd : oi.dst = some k)
    (hs : Region.noSelect ops = true) (hf : Region.free md ops listed i = true) (hr : (Region.ready md ops listed).contains i = true) (hQ : ∀ c a w, Q (.panic c) (a.put (some k) undef) w → Q (.panic c) a w)
    (hw : Region.wanted oi (yielded ops a.tmps) = false) (hS : S w) (h : wpAnyH P md ops Q S fuel (listed.setIfInBounds i true) (a.put (some k) undef) w) : wpAnyH P md ops Q S (fuel + 1) listed a w := by
  rw [← hd] at hQ h
  exact wpAnyH_take hi hs hf hr hQ (Or.inr ⟨hw, rfl⟩) hS h
theorem heldOn {S : Prop} {W0 X w2 : World} (h : S ∧ Below W0.heap.size W0 X) (h2 : Below X.heap.size X w2) : Below W0.heap.size W0 w2 := h.2.trans (h2.mono h.2.size)
/-- A box of six cells that was laid ahead of a call stands behind it. -/
theorem box_six {w w1 : World} {a b c d e f : Value} {t : Nat} (h : Below (w.alloc (.cells #[a, b, c, d, e, f] t)).heap.size (w.alloc (.cells #[a, b, c, d, e, f] t)) w1) :
    (w1.cell? ⟨w.heap.size, 0, none⟩ = some a ∧ w1.cell? ⟨w.heap.size, 1, none⟩ = some b ∧ w1.cell? ⟨w.heap.size, 2, none⟩ = some c ∧ w1.cell? ⟨w.heap.size, 3, none⟩ = some d ∧ w1.cell? ⟨w.heap.size, 4, none⟩ = some e ∧ w1.cell? ⟨w.heap.size, 5, none⟩ = some f) ∧
    Below (w.alloc (.cells #[a, b, c, d, e, f] t)).heap.size (w.alloc (.cells #[a, b, c, d, e, f] t)) w1 := by
  have hA : Arr w1 w.heap.size t [a, b, c, d, e, f] := (h.block w.heap.size (by simp)).trans (Arr.fresh w t [a, b, c, d, e, f])
  exact ⟨⟨hA.cell 0, hA.cell 1, hA.cell 2, hA.cell 3, hA.cell 4, hA.cell 5⟩, h⟩
end Go.Proofs.Ytpjmcpfmnlfmdaa

namespace Go.Proofs.Ytpjmcpfmnlfmdaa
set_option linter.unusedSimpArgs false
set_option linter.unusedVariables false
open Go.RowKit Go.Maps

end Go.Proofs.Ytpjmcpfmnlfmdaa

namespace Go.Proofs.Ytpjmcpfmnlfmdaa
set_option linter.unusedSimpArgs false
set_option linter.unusedVariables false

end Go.Proofs.Ytpjmcpfmnlfmdaa

namespace Go.Proofs.Ytpjmcpfmnlfmdaa
set_option linter.unusedSimpArgs false
set_option linter.unusedVariables false

theorem dec_len (m k : Nat) (h : m < 10 ^ (k + 1)) : (Lib.decDigits m).length ≤ k + 1 := by
  induction k generalizing m with
  | zero => rw [Lib.decDigits, dif_pos (by omega)]; simp
  | succ k ih =>
    rw [Lib.decDigits]
    split
    · simp
    · rw [List.length_append]
      have := ih (m / 10) (by rw [Nat.pow_succ] at h; omega)
      simp
      omega
end Go.Proofs.Ytpjmcpfmnlfmdaa

namespace Go.Proofs.Ytpjmcpfmnlfmdaa
set_option linter.unusedSimpArgs false
set_option linter.unusedVariables false
open Go.RowKit

/-- A row of bytes that the call has made. -/
def OwnR (w : World) (B : Nat) (v : Value) (l : List UInt8) : Prop := w.ownsRow B 5 1 v l.length (l.map byteV)
theorem OwnR.alloc {w : World} {B : Nat} {v : Value} {l : List UInt8} (h : OwnR w B v l) (o : Obj) : OwnR (w.alloc o) B v l := World.ownsRow.alloc h o
theorem OwnR.str {w : World} {B : Nat} {v : Value} {l : List UInt8} (h : OwnR w B v l) : (convert 22 9 v).run Try.prog w = .ok (.string (strOf l)) w :=
  run_string_own (P := Try.prog) w 22 9 5 _ _ _ _ h Try.underlying22 Try.underlying5 Try.underlying9
end Go.Proofs.Ytpjmcpfmnlfmdaa

namespace Go.Proofs.Ytpjmcpfmnlfmdaa
set_option linter.unusedSimpArgs false
set_option linter.unusedVariables false
open Go.RowKit

/-- The digits of a number; none of nought. -/
def dgL (m : Nat) : List UInt8 := if m = 0 then [] else Lib.decDigits m
theorem dg_step {m : Nat} (h : 0 < m) : dgL m = dgL (m / 10) ++ [UInt8.ofNat (48 + m % 10)] := by
  unfold dgL
  rw [if_neg (by omega), Lib.decDigits]
  split
  · rw [if_pos (by omega)]
    have : m % 10 = m := by omega
    rw [this]
    rfl
  · rw [if_neg (by omega)]
theorem str_digit (w : World) (x : Int) (b : UInt8) (hx : x = (b.toNat : Int)) : (convert 22 9 (.slice (some ⟨w.heap.size, 0, none⟩) 1 1)).run Try.prog (w.alloc (.cells #[.int .u8 x] 5)) = .ok (.string (strOf [b])) (w.alloc (.cells #[.int .u8 x] 5)) := by
  subst hx
  exact run_string_arr (P := Try.prog) _ 22 9 5 w.heap.size 5 1 1 [byteV b] [b] (Arr.fresh w _ [byteV b]) rfl rfl Try.underlying22 Try.underlying5 Try.underlying9
theorem strOf_app (l m : List UInt8) : strOf (l ++ m) = strOf l ++ strOf m := by
  apply WideShapes.bytes_inj
  simp [strOf, ByteArray.data_append]
end Go.Proofs.Ytpjmcpfmnlfmdaa

namespace Go.Proofs.Ytpjmcpfmnlfmdaa
set_option linter.unusedSimpArgs false
set_option linter.unusedVariables false
open Go.RowKit

/-- The mark of a number. -/
def mkT (k : Nat) : ByteArray := strOf (109 :: dgL k)
theorem dg_len2 (m : Nat) (h : m ≤ 1000000000000) : (dgL m).length ≤ 13 := by
  unfold dgL
  split
  · simp
  · exact dec_len m 12 (by omega)
set_option maxRecDepth 100000 in
set_option maxHeartbeats 1000000 in
theorem mark_text (N : Nat) (w : World) (h0 : 0 < N) (h1 : N ≤ 1000000000000) :
    Calls Try.prog 69 #[.int .i64 (N : Int)] w fun e w' => e = .returned (.string (mkT N)) ∧ Below w.heap.size w w' := by
  have hz : ¬ ((N : Int) ≤ 0) := by omega
  unfold mkT
  go_enter Try.func69, Try.ntmps69
  go_wp2
  clear hz
  go_loopw [0, 3] (fun q s W => ∃ (m : Nat) (l : List UInt8), m ≤ N ∧ q = .int .i64 m ∧ s = .string (strOf l) ∧ dgL N = dgL m ++ l ∧ Below w.heap.size w W) (fun q _ _ => (intOf q).toNat)
  case atStart => exact ⟨N, [], Nat.le_refl _, rfl, rfl, by simp, Below.refl _ _⟩
  case round =>
    obtain ⟨m, l, hm, rfl, rfl, hd, hB⟩ := hrel
    have hs2 : (strOf l).size ≤ 13 := by
      rw [strOf_size]
      have e := congrArg List.length hd
      rw [List.length_append] at e
      have := dg_len2 N (by omega)
      omega
    by_cases hz : 0 < m
    · have hmod : (0 : Int) ≤ (m : Int) % 10 := by omega
      have hmod2 : (m : Int) % 10 ≤ 9 := by omega
      have hdig : (48 : Int) + (m : Int) % 10 = ((UInt8.ofNat (48 + m % 10)).toNat : Int) := by
        rw [UInt8.toNat_ofNat']
        omega
      obtain ⟨b, hb0⟩ : ∃ b : UInt8, b = UInt8.ofNat (48 + m % 10) := ⟨_, rfl⟩
      have HD : Hid (dgL N = dgL (m / 10) ++ ([b] ++ l)) := Lib.hid (by rw [hd, dg_step hz, hb0]; simp)
      have hcv := str_digit wr ((48 : Int) + (m : Int) % 10) b (by rw [hb0]; exact hdig)
      have hq : (m : Int) / 10 = ((m / 10 : Nat) : Int) := by omega
      have HQ := Lib.hid hq
      have hs1 : (strOf [b]).size = 1 := rfl
      clear hd hdig hb0 hq
      go_wp2
      go_roundw
      case rel => exact ⟨m / 10, [b] ++ l, by omega, by rw [HQ.out], by rw [strOf_app], HD.out, hB.alloc hB.size _⟩
      case measure => simp [intOf]; omega
    · obtain rfl : m = 0 := by omega
      have HD : Hid (dgL N = l) := Lib.hid (by rw [hd]; simp [dgL])
      clear hd
      go_wp2
      go_ret
      exact ⟨ret_str (by rw [HD.out]; exact (strOf_app [109] l).symm), hB⟩
end Go.Proofs.Ytpjmcpfmnlfmdaa

namespace Go.Proofs.Ytpjmcpfmnlfmdaa
set_option linter.unusedSimpArgs false
set_option linter.unusedVariables false
open Go.RowKit

theorem mark_textI (z : Int) (w : World) (h0 : 0 < z) (h1 : z ≤ 1000000000000) :
    Calls Try.prog 69 #[.int .i64 z] w fun e w' => e = .returned (.string (mkT z.toNat)) ∧ Below w.heap.size w w' := by
  obtain ⟨N, rfl⟩ : ∃ N : Nat, z = (N : Int) := ⟨z.toNat, by omega⟩
  rw [Int.toNat_natCast]
  exact mark_text N w (by omega) (by omega)
end Go.Proofs.Ytpjmcpfmnlfmdaa

namespace Go.Proofs.Ytpjmcpfmnlfmdaa
set_option linter.unusedSimpArgs false
set_option linter.unusedVariables false
open Go.RowKit

def strC (s : ByteArray) : List Value := [.string s]
theorem strC_len (s : ByteArray) : (strC s).length = 1 := rfl
def mk_ss (q k : Nat) : Value := .string (mkT k)
theorem mk_ss_s {q k : Nat} {z : Int} (hz : z.toNat = k) : Value.string (mkT z.toNat) = mk_ss q k := by unfold mk_ss; rw [hz]
set_option maxRecDepth 100000 in
set_option maxHeartbeats 1000000 in
theorem mark_ss (B g n cap k0 : Nat) (w : World) (hk : 0 < k0) (hk1 : k0 ≤ 1000000) (hn : n ≤ 2000000) (h : MRow mk_ss k0 w B 9 1 g n cap w 0) :
    Calls Try.prog 31 #[.slice (some ⟨g, 0, none⟩) n cap, .int .i64 (k0 : Int)] w fun e w' => e = .returned (.int .i64 ((k0 : Int) + n)) ∧ MRow mk_ss k0 w B 9 1 g n cap w' n := by
  have HH := Lib.hid h
  clear h
  go_enter Try.func31, Try.ntmps31
  go_wp2
  go_loopw [1, 5] (fun kq iq wr => ∃ (i : Nat) (z : Int), i ≤ n ∧ iq = .int .i64 i ∧ kq = .int .i64 z ∧ z = (k0 : Int) + i ∧ MRow mk_ss k0 w B 9 1 g n cap wr i) (fun _ i _ => n - (intOf i).toNat)
  case atStart => exact ⟨0, _, Nat.zero_le _, rfl, rfl, by simp, HH.out⟩
  case round =>
    obtain ⟨i, z, hi, rfl, rfl, hz, hM⟩ := hrel
    have hz0 : 0 < z := by omega
    have hz1 : z ≤ 100000000 := by omega
    have HZ := Lib.hid hz
    have HM := Lib.hid hM
    clear hz hM
    by_cases hlt : i < n
    · clear hk hk1
      go_wp2_with (first
        | (go_at_call 69; go_fit (mark_textI _ _ (by omega) (by omega)); rintro e w0 ⟨rfl, hb0⟩; have HM0 := Lib.hid ((HM.out).on hb0); clear hb0; obtain ⟨⟨u0, c0⟩, f0⟩ := HM0.out.there (q := i) (by omega)))
      go_roundw
      case rel => exact ⟨i + 1, _, by omega, by go_num, rfl, by have := HZ.out; omega, HM0.out.put (by omega) (mk_ss_s (by have := HZ.out; omega))⟩
      case measure => simp [intOf]; omega
    · obtain rfl : i = n := by omega
      go_wp2
      go_ret
      exact ⟨ret_int HZ.out, HM.out⟩
theorem mark_ss_0 (p : Option Addr) (cap k0 : Nat) (w : World) (hk1 : k0 ≤ 1000000) :
    Calls Try.prog 31 #[.slice p 0 cap, .int .i64 (k0 : Int)] w fun e w' => e = .returned (.int .i64 (k0 : Int)) ∧ w = w' := by
  go_enter Try.func31, Try.ntmps31
  go_wp2
  go_loopw [1, 5] (fun kq iq wr => kq = .int .i64 (k0 : Int) ∧ iq = .int .i64 0 ∧ w = wr) (fun _ _ _ => 0)
  case atStart => exact ⟨rfl, rfl, rfl⟩
  case round =>
    obtain ⟨rfl, rfl, rfl⟩ := hrel
    go_wp2
    go_ret
    exact ⟨rfl, rfl⟩
/-- Marking a slice that the call has made. -/
theorem marks_ss (B k0 : Nat) (v : Value) (xs : List ByteArray) (w : World) (hk : 0 < k0) (hk1 : k0 ≤ 1000000) (hn : xs.length ≤ 2000000) (hB : B ≤ w.heap.size) (h : OwnC strC w B 9 1 v xs) :
    Calls Try.prog 31 #[v, .int .i64 (k0 : Int)] w fun e w' => e = .returned (.int .i64 ((k0 : Int) + xs.length)) ∧ MOwn mk_ss k0 B 9 1 v xs.length w' ∧ MFrame B v w w' := by
  obtain ⟨n, hxn⟩ : ∃ n, xs.length = n := ⟨_, rfl⟩
  rcases Nat.eq_zero_or_pos n with h0 | h0
  · subst h0
    have hv : ∃ p cap, v = .slice p 0 cap := by
      rcases h.2 with ⟨e1, _⟩ | ⟨g, cap, cur, e1, _⟩
      · exact ⟨none, 0, e1⟩
      · exact ⟨_, cap, by rw [e1, hxn]⟩
    obtain ⟨p, cap, rfl⟩ := hv
    rw [hxn]
    refine (mark_ss_0 p cap k0 w hk1).mono ?_
    rintro e w' ⟨rfl, rfl⟩
    exact ⟨by simp, ⟨p, cap, rfl, .inl rfl⟩, Below.refl _ _, Nat.le_refl _, fun _ _ _ => rfl⟩
  · obtain ⟨g, cap, rfl⟩ := Joins.ownsRow_form h (by omega)
    rw [hxn] at h hn ⊢
    refine (mark_ss B g n cap k0 w hk hk1 hn (mrow_of h hB)).mono ?_
    rintro e w' ⟨rfl, hM⟩
    exact ⟨rfl, ⟨_, cap, rfl, .inr ⟨g, w, rfl, by rw [Nat.mul_one]; exact hM⟩⟩, hM.2.1, hM.2.2.2.1, fun k hk hne => hM.2.2.2.2 k hk (hne g rfl)⟩
set_option maxRecDepth 100000 in
set_option maxHeartbeats 2000000 in
theorem eqs_ss (xs : List ByteArray) (p q : Option Addr) (c d : Nat) (w : World) (hn : xs.length ≤ 2000000) (hp : RowC strC 1 w p xs) (hq : RowC strC 1 w q xs) :
    Calls Try.prog 29 #[.slice p xs.length c, .slice q xs.length d] w fun e w' => e = .returned (.bool true) ∧ Below w.heap.size w w' := by
  obtain ⟨n, hxn⟩ : ∃ n, xs.length = n := ⟨_, rfl⟩
  have HP := Lib.hid (fun W (h : Below w.heap.size w W) => hp.on h)
  have HQ := Lib.hid (fun W (h : Below w.heap.size w W) => hq.on h)
  have HN := Lib.hid hxn
  rw [hxn] at hn ⊢
  clear hp hq hxn
  go_enter Try.func29, Try.ntmps29
  go_wp2
  go_loopw [5] (fun iq wr => ∃ i : Nat, i ≤ n ∧ iq = .int .i64 i ∧ Below w.heap.size w wr) (fun i _ => n - (intOf i).toNat)
  case atStart => exact ⟨0, Nat.zero_le _, rfl, Below.refl _ _⟩
  case round =>
    obtain ⟨i, hi, rfl, hb⟩ := hrel
    have HB := Lib.hid hb
    by_cases hlt : i < n
    · have hlt1 : i < xs.length := by rw [HN.out]; exact hlt
      obtain ⟨a, rfl, ha, hc⟩ := HP.out _ hb (List.ne_nil_of_length_pos (by omega))
      obtain ⟨b, rfl, hb0, hd⟩ := HQ.out _ hb (List.ne_nil_of_length_pos (by omega))
      have c0 := hc i hlt1 0 (by decide)
      have d0 := hd i hlt1 0 (by decide)
      obtain ⟨x, hx⟩ : ∃ x, xs[i] = x := ⟨_, rfl⟩
      rw [hx, Nat.mul_one, Nat.add_zero] at c0 d0
      replace c0 : wr.cell? ⟨a, i, none⟩ = some (.string x) := c0
      replace d0 : wr.cell? ⟨b, i, none⟩ = some (.string x) := d0
      clear hc hd hx hb
      go_wp2
      go_region
      all_goals (try go_wp2)
      exact ⟨⟨i + 1, by omega, by go_num, HB.out.drew⟩, by simp [intOf]; omega⟩
    · obtain rfl : i = n := by omega
      clear hb
      go_wp2
      go_ret
      exact ⟨rfl, HB.out⟩
end Go.Proofs.Ytpjmcpfmnlfmdaa

namespace Go.Proofs.Ytpjmcpfmnlfmdaa
set_option linter.unusedSimpArgs false
set_option linter.unusedVariables false
open Go.ChangeShapes Go.WideShapes Go.ChangeAt Go.RowKit Go.Joins

/-- A session: resource, on, priority, show. -/
structure SeL where
  r : ByteArray
  o : Bool
  p : Int
  s : ByteArray
instance : Inhabited SeL := ⟨⟨ByteArray.empty, false, 0, ByteArray.empty⟩⟩
def seC (x : SeL) : List Value := [.string x.r, .bool x.o, .int .i64 x.p, .string x.s]
/-- Strings and numbers as the machine has them. -/
def SeL.wf (x : SeL) : Prop := x.r.size ≤ maxLen ∧ (Lit.int .i64 x.p).wf = true ∧ x.s.size ≤ maxLen
theorem cellsStr9 : Try.prog.cellsOf 9 = 1 := by kernel_rfl
theorem cellsI649 : Try.prog.cellsOf 2 = 1 := by kernel_rfl
theorem cellsBo9 : Try.prog.cellsOf 4 = 1 := by kernel_rfl
/-- The elements of a slice that came in lie at a stretch of a block. -/
def RowA {α : Type} (enc : α → List Value) (size : Nat) (w : World) (p : Option Addr) (xs : List α) : Prop := xs ≠ [] → ∃ g o, p = some ⟨g, o, none⟩ ∧ g < w.heap.size ∧ ∀ i (h : i < xs.length) j, j < size → w.cell? ⟨g, o + (i * size + j), none⟩ = (enc xs[i])[j]?
theorem RowA.below {α : Type} {enc : α → List Value} {size : Nat} {w w' : World} {p : Option Addr} {xs : List α} (h : RowA enc size w p xs) (hb : Below w.heap.size w w') : RowA enc size w' p xs := by
  intro hx
  obtain ⟨g, o, h1, h2, h3⟩ := h hx
  exact ⟨g, o, h1, Nat.lt_of_lt_of_le h2 hb.size, fun i hi j hj => (hb.cell (p := ⟨g, o + (i * size + j), none⟩) h2).trans (h3 i hi j hj)⟩
end Go.Proofs.Ytpjmcpfmnlfmdaa

namespace Go.Proofs.Ytpjmcpfmnlfmdaa
set_option linter.unusedSimpArgs false
set_option linter.unusedVariables false
open Go.ChangeShapes Go.WideShapes Go.ChangeAt Go.RowKit

theorem rowA_tx {w : World} {p : Option Addr} {xs : List ByteArray} (h : RowA strC 1 w p xs) {i : Nat} (hi : i < xs.length) : ∃ g o, p = some ⟨g, o, none⟩ ∧ g < w.heap.size ∧ w.cell? ⟨g, o + i, none⟩ = some (.string xs[i]) := by
  obtain ⟨g, o, h1, h2, h3⟩ := h (List.ne_nil_of_length_pos (by omega))
  refine ⟨g, o, h1, h2, ?_⟩
  have := h3 i hi 0 (by decide)
  rw [Nat.mul_one, Nat.add_zero] at this
  exact this
set_option maxRecDepth 100000 in
set_option maxHeartbeats 1000000 in
theorem szs_tx (xs : List ByteArray) (p : Option Addr) (cap : Nat) (left : Int) (w : World) (hl : xs.length ≤ 9223372036854775807) (hw : ∀ x ∈ xs, x.size ≤ 9223372036854775807) (l0 : 0 ≤ left) (l1 : left ≤ 1048576) (hR : RowA strC 1 w p xs) :
    Calls Try.prog 27 #[.slice p xs.length cap, .int .i64 left] w fun e w' => (∃ z, e = .returned (.int .i64 z) ∧ (z = -1 ∨ 0 ≤ z ∧ z ≤ left ∧ (xs.length : Int) ≤ left ∧ ∀ x ∈ xs, (x.size : Int) ≤ left)) ∧ Below w.heap.size w w' := by
  obtain ⟨n, hxn⟩ : ∃ n, xs.length = n := ⟨_, rfl⟩
  have HR := Lib.hid hR
  have HW := Lib.hid hw
  have HN := Lib.hid hxn
  rw [hxn] at hl ⊢
  clear hR hw hxn
  by_cases hbig : left < (n : Int)
  · go_enter Try.func27, Try.ntmps27
    go_wp2
    go_ret
    exact ⟨⟨_, rfl, .inl rfl⟩, Below.refl _ _⟩
  · go_enter Try.func27, Try.ntmps27
    go_wp2
    go_loopw [1, 5] (fun lq iq wr => ∃ (i : Nat) (l : Int), i ≤ n ∧ iq = .int .i64 i ∧ lq = .int .i64 l ∧ 0 ≤ l ∧ l ≤ left ∧ (∀ j (hj : j < xs.length), j < i → (xs[j].size : Int) ≤ left) ∧ Below w.heap.size w wr) (fun _ i _ => n - (intOf i).toNat)
    case atStart => exact ⟨0, _, Nat.zero_le _, rfl, rfl, by omega, by omega, fun j _ hj => absurd hj (Nat.not_lt_zero _), Below.refl _ _⟩
    case round =>
      obtain ⟨i, l, hi, rfl, rfl, hl0, hl1, hall, hb⟩ := hrel
      have HA := Lib.hid hall
      have HB := Lib.hid hb
      by_cases hlt : i < n
      · have hlt' : i < xs.length := by rw [HN.out]; exact hlt
        obtain ⟨g, o, rfl, hg, a0⟩ := rowA_tx (HR.out.below hb) hlt'
        obtain ⟨x, hx⟩ : ∃ x, xs[i] = x := ⟨_, rfl⟩
        have hxw := HW.out _ (List.getElem_mem hlt')
        have HX := Lib.hid hx
        rw [hx] at a0 hxw
        clear hall hb hx
        by_cases hneg : l - x.size < 0
        · go_wp2
          go_ret
          exact ⟨⟨_, rfl, .inl rfl⟩, HB.out⟩
        · go_wp2
          go_roundw
          case rel =>
            refine ⟨i + 1, _, by omega, by go_num, rfl, by omega, by omega, fun j hj hji => ?_, HB.out⟩
            by_cases e : j = i
            · subst e
              rw [HX.out]
              omega
            · exact HA.out j hj (by omega)
          case measure => simp [intOf]; omega
      · obtain rfl : i = n := by omega
        go_wp2
        go_ret
        refine ⟨⟨_, rfl, .inr ⟨hl0, hl1, by omega, fun x hx => ?_⟩⟩, HB.out⟩
        obtain ⟨j, hj, rfl⟩ := List.mem_iff_getElem.1 hx
        exact HA.out j hj (by rw [← HN.out]; exact hj)
/-- So many texts have been copied. -/
def Cop_tx (xs : List ByteArray) (g n i : Nat) (W : World) : Prop := ∃ L, Arr W g 9 L ∧ L.length = n ∧ ∀ i' (h : i' < xs.length), i' < i → L[i']? = some (.string xs[i'])
theorem Cop_tx.there {xs : List ByteArray} {g n i q : Nat} {W : World} (h : Cop_tx xs g n i W) (hq : q < n) : (∃ u, W.cell? ⟨g, q, none⟩ = some u) ∧ W.frozen? ⟨g, q, none⟩ = false := by
  obtain ⟨L, h1, h2, _⟩ := h
  rw [h1.cell, h1.free]
  exact ⟨⟨L[q]'(by omega), List.getElem?_eq_getElem _⟩, rfl⟩
theorem Cop_tx.step {xs : List ByteArray} {g n i : Nat} {W : World} (h : Cop_tx xs g n i W) (hi : i < n) {x : ByteArray} (hx : xs[i]? = some x) : Cop_tx xs g n (i + 1) (W.setCell ⟨g, i, none⟩ (.string x)) := by
  obtain ⟨L, h1, h2, h3⟩ := h
  refine ⟨_, h1.put i _, by simpa using h2, fun i' hi' hlt => ?_⟩
  by_cases e : i' = i
  · subst e
    have ex : xs[i'] = x := by rw [List.getElem?_eq_getElem hi'] at hx; exact Option.some.inj hx
    rw [ex, List.getElem?_set_self (by omega)]
  · rw [List.getElem?_set_ne (by omega)]
    exact h3 i' hi' (by omega)
theorem Cop_tx.own {xs : List ByteArray} {g n B : Nat} {W : World} (h : Cop_tx xs g n n W) (hn : xs.length = n) (hB : B ≤ g) (hm : n ≤ 1048576) : OwnC strC W B 9 1 (.slice (some ⟨g, 0, none⟩) n n) xs := by
  obtain ⟨L, h1, h2, h3⟩ := h
  have e : L = xs.flatMap strC := by
    apply List.ext_getElem?
    intro q
    by_cases hq : q < n
    · have h4 := h3 q (by omega) hq
      rw [h4]
      have h5 := flat_at (enc := strC) (size := 1) (fun _ => rfl) xs q 0 (by omega) (by decide)
      rw [Nat.mul_one, Nat.add_zero] at h5
      exact h5.symm
    · rw [List.getElem?_eq_none (by omega), List.getElem?_eq_none]
      rw [flat_len (enc := strC) (size := 1) (fun _ => rfl), hn]
      omega
  refine ⟨by rw [flat_len (enc := strC) (size := 1) (fun _ => rfl)], .inr ⟨g, n, L.toArray, by rw [hn], hB, h1, by omega, by unfold maxLen; omega, by simpa using h2, ?_⟩⟩
  rw [← e, List.take_of_length_le (by simp; omega)]
theorem cop_tx_start {xs : List ByteArray} {w w1 : World} {z : Array Value} {n B : Nat} (h : w1.ownsRow B 9 1 (.slice (some ⟨w.heap.size, 0, none⟩) n n) n (madeCells z (n * 1)).toList) : Cop_tx xs w.heap.size n 0 w1 := by
  rcases h.2 with ⟨h0, _⟩ | ⟨g, cap, cur, h1, h2, h3, h4, h5, h6, h7⟩
  · cases h0
  · injection h1 with e1 e2 e3
    injection e1 with e1
    injection e1 with e1
    subst e1 e3
    exact ⟨cur.toList, h3, by simpa using h6, fun i' _ hi' => absurd hi' (Nat.not_lt_zero _)⟩
theorem info_tx : (Try.prog.info? 9).map (fun i => (i.zero, i.size, i.bytes)) = some (some (.string ⟨#[]⟩), 1, 16) := by kernel_rfl
set_option maxRecDepth 100000 in
set_option maxHeartbeats 1000000 in
theorem tos_tx (xs : List ByteArray) (p : Option Addr) (cap : Nat) (w : World) (hl : xs.length ≤ 1048576) (hR : RowA strC 1 w p xs) :
    Calls Try.prog 28 #[.slice p xs.length cap] w fun e w' => (∃ v, e = .returned v ∧ OwnC strC w' w.heap.size 9 1 v xs) ∧ Below w.heap.size w w' := by
  obtain ⟨n, hxn⟩ : ∃ n, xs.length = n := ⟨_, rfl⟩
  have HR := Lib.hid hR
  have HN := Lib.hid hxn
  rw [hxn] at hl ⊢
  clear hR hxn
  obtain ⟨i0, hi, hz0, hz1, hz2⟩ := info_parts info_tx
  go_enter Try.func28, Try.ntmps28
  go_wp2_with (refine wpList_make_full _ rfl (.tmp 6) (.tmp 6) 23 rfl w.heap.size 9 i0 (.string ⟨#[]⟩) 1 Try.underlying23 hi hz0 hz1 .i64 .i64 _ _ n rfl rfl rfl rfl (by rw [hz2]; omega) (by unfold maxLen; omega) (Nat.le_refl _) ?_; intro w1 ho1 hg1)
  have HC0 : Hid (Cop_tx xs w.heap.size n 0 w1) := Lib.hid (cop_tx_start ho1)
  have HB0 : Hid (Below w.heap.size w w1) := Lib.hid ((Below.refl _ _).grown hg1 (Nat.le_refl _) (fun k hk => by cases hk))
  have hsz0 := HB0.out.size
  have hgz : w.heap.size < w1.heap.size := (ho1.lt w.heap.size rfl).2
  clear ho1 hg1
  go_loopw [4] (fun iq wr => ∃ i : Nat, i ≤ n ∧ iq = .int .i64 i ∧ Cop_tx xs w.heap.size n i wr ∧ Below w.heap.size w wr) (fun i _ => n - (intOf i).toNat)
  case atStart => exact ⟨0, Nat.zero_le _, rfl, HC0.out, HB0.out⟩
  case round =>
    obtain ⟨i, hi', rfl, hC, hb⟩ := hrel
    have HC := Lib.hid hC
    have HB := Lib.hid hb
    by_cases hlt : i < n
    · have hlt' : i < xs.length := by rw [HN.out]; exact hlt
      obtain ⟨g, o, rfl, hg, a0⟩ := rowA_tx HR.out hlt'
      obtain ⟨x, hx⟩ : ∃ x, xs[i] = x := ⟨_, rfl⟩
      have HX : Hid (xs[i]? = some x) := Lib.hid (by rw [List.getElem?_eq_getElem hlt', hx])
      rw [hx] at a0
      replace a0 := (hb.cell (p := ⟨g, o + i, none⟩) hg).trans a0
      obtain ⟨⟨v0, d0⟩, f0⟩ := hC.there (q := i) hlt
      clear hb hC hx
      go_wp2
      go_roundw
      case rel => exact ⟨i + 1, by omega, by go_num, HC.out.step hlt HX.out, HB.out.setCell (p := ⟨w.heap.size, i, none⟩) (Nat.le_refl _) _⟩
      case measure => simp [intOf]; omega
    · obtain rfl : i = n := by omega
      go_wp2
      go_ret
      exact ⟨⟨_, rfl, HC.out.own HN.out (Nat.le_refl _) hl⟩, HB.out⟩
/-- A slice of texts among the arguments. -/
def TxArg (W : World) (a : Option Addr) (len : Nat) (ps : List ByteArray) : Prop := ps.length = len ∧ len ≤ maxLen ∧ (∀ p ∈ ps, p.size ≤ maxLen) ∧ RowA strC 1 W a ps
theorem TxArg.below {W W2 : World} {a : Option Addr} {len : Nat} {ps : List ByteArray} (h : TxArg W a len ps) (hb : Below W.heap.size W W2) : TxArg W2 a len ps := ⟨h.1, h.2.1, h.2.2.1, h.2.2.2.below hb⟩
theorem addr_plainX {w : World} {x : Addr} {v : Value} (h : w.cell? x = some v) : x = ⟨x.block, x.off, none⟩ := by
  obtain ⟨b, off, sp⟩ := x
  cases sp with
  | none => rfl
  | some s =>
    simp [World.cell?] at h
    split at h <;> cases h
theorem cells_oneX {W : World} {base : Nat} {a : Addr} {cs : List Value} (h : W.cells? base a 1 = some cs) : ∃ c0, cs = [c0] ∧ W.cell? (a.add 0) = some c0 := by
  unfold World.cells? at h
  split at h
  · rw [show List.range 1 = [0] from rfl] at h
    simp only [List.mapM_cons, List.mapM_nil, Option.bind_eq_bind, Option.pure_def] at h
    cases h0 : W.cell? (a.add 0) with
    | none => rw [h0] at h; simp at h
    | some c0 =>
      rw [h0] at h
      simp at h
      exact ⟨c0, h.symm, rfl⟩
  · cases h
set_option maxRecDepth 100000 in
theorem texts_trod {H : Type} {enc : TypeId × Value → H} {W : World} {base : Nat} {sp : Nat → Bool} {held : Bool} {fuel : Nat} {c : Value} {x : DataW H × List MemPlace}
    (hf : DataW.trod enc Try.prog W base sp held fuel 23 [c] = some x) : ∃ a len cap ps, c = .slice a len cap ∧ TxArg W a len ps := by
  rcases Deep.open_slice Try.underlying23 hf with ⟨hcs, _⟩ | ⟨a, len, cap, m, n, D, Pl, hcs, hb, hl, hm, hmm, hx, hall⟩
  · injection hcs with h1
    exact ⟨none, 0, 0, [], h1, rfl, Nat.zero_le _, fun p hp => (by cases hp), fun h => absurd rfl h⟩
  · injection hcs with h1
    have hlm : len ≤ m := by rw [hmm]; split <;> omega
    have each : ∀ i, i < len → ∃ p : ByteArray, p.size ≤ maxLen ∧ W.cell? ((a.add (i * 1)).add 0) = some (.string p) := by
      intro i hi
      obtain ⟨cs', hc, ht⟩ := hall i (by omega)
      rw [cellsStr9] at hc
      obtain ⟨c0, rfl, e0⟩ := cells_oneX hc
      obtain ⟨d, e1, _, w0⟩ := DataW.trod_string Try.underlying9 ht
      simp at e1
      subst e1
      exact ⟨d, w0, e0⟩
    obtain ⟨P, hP⟩ := Deep.choose_lt each
    refine ⟨some a, len, cap, (List.range len).map P, h1, by simp, by omega, fun p hp => ?_, fun hne => ?_⟩
    · obtain ⟨i, hi, rfl⟩ := List.mem_map.1 hp
      exact (hP i (List.mem_range.1 hi)).1
    · have h0 : 0 < len := by
        rcases Nat.eq_zero_or_pos len with h | h
        · subst h; exact absurd rfl hne
        · exact h
      have hc0 := (hP 0 h0).2
      simp only [Nat.zero_mul] at hc0
      have ha : W.cell? a = some (.string (P 0)) := hc0
      have hap := addr_plainX ha
      refine ⟨a.block, a.off, by rw [← hap], ?_, fun i hi j hj => ?_⟩
      · exact block_lt_of_cell ha
      · obtain rfl : j = 0 := by omega
        have hi' : i < len := by simpa using hi
        have h2 := (hP i hi').2
        rw [Deep.add_add, hap] at h2
        simp only [List.getElem_map, List.getElem_range]
        show _ = some (Value.string (P i))
        rw [← h2]
        congr 1
        unfold Addr.add
        split
        · rename_i h3; rw [h3]; rfl
        · rfl
set_option maxRecDepth 100000 in
theorem texts_open {H : Type} {enc : TypeId × Value → H} {W : World} {base : Nat} {sp : Nat → Bool} {held : Bool} {a : Option Addr} {len cap : Nat} {D : DataW H} {p : List MemPlace}
    (h : DataW.Trod enc Try.prog W base sp held 23 (.slice a len cap) D p) : ∃ ps, TxArg W a len ps := by
  obtain ⟨fuel, hf⟩ := h
  have hf' : DataW.trod enc Try.prog W base sp held fuel 23 [.slice a len cap] = some (D, p) := hf
  obtain ⟨a2, len2, cap2, ps, e, hp⟩ := texts_trod hf'
  injection e with e1 e2 e3
  subst e1 e2 e3
  exact ⟨ps, hp⟩
end Go.Proofs.Ytpjmcpfmnlfmdaa

namespace Go.Proofs.Ytpjmcpfmnlfmdaa
set_option linter.unusedSimpArgs false
set_option linter.unusedVariables false
open Go.RowKit

def kPres : ByteArray := ⟨#[112, 114, 101, 115, 101, 110, 99, 101]⟩
def kMess : ByteArray := ⟨#[109, 101, 115, 115, 97, 103, 101]⟩
def kIq : ByteArray := ⟨#[105, 113]⟩
def kDb : ByteArray := ⟨#[100, 98]⟩
/-- A kind. -/
def kindB (k : ByteArray) : Bool := (k.toList == kPres.toList) || (k.toList == kMess.toList) || (k.toList == kIq.toList) || (k.toList == kDb.toList)
def timeB (n : Int) : Bool := decide (0 ≤ n ∧ n ≤ 1000000000)
def printC (c : Nat) : Bool := decide (32 ≤ c ∧ c ≤ 126)

theorem impl_kind (k : ByteArray) (w : World) : Calls Try.prog 88 #[.string k] w (SaysB (kindB k) w) := by
  unfold kindB
  obtain ⟨b1, h1⟩ : ∃ b, (k.toList == kPres.toList) = b := ⟨_, rfl⟩
  obtain ⟨b2, h2⟩ : ∃ b, (k.toList == kMess.toList) = b := ⟨_, rfl⟩
  obtain ⟨b3, h3⟩ : ∃ b, (k.toList == kIq.toList) = b := ⟨_, rfl⟩
  obtain ⟨b4, h4⟩ : ∃ b, (k.toList == kDb.toList) = b := ⟨_, rfl⟩
  rw [h1, h2, h3, h4]
  unfold kPres at h1
  unfold kMess at h2
  unfold kIq at h3
  unfold kDb at h4
  cases b1
  · cases b2
    · cases b3
      · go_enter Try.func88, Try.ntmps88
        go_wp2
        all_goals (go_ret; exact ⟨ret_bool (by simp_all), rfl⟩)
      · go_enter Try.func88, Try.ntmps88
        go_wp2
        all_goals (go_ret; exact ⟨ret_bool (by simp_all), rfl⟩)
    · go_enter Try.func88, Try.ntmps88
      go_wp2
      all_goals (go_ret; exact ⟨ret_bool (by simp_all), rfl⟩)
  · go_enter Try.func88, Try.ntmps88
    go_wp2
    all_goals (go_ret; exact ⟨ret_bool (by simp_all), rfl⟩)
theorem impl_time (n : Int) (w : World) : Calls Try.prog 90 #[.int .i64 n] w (SaysB (timeB n) w) := by
  go_enter Try.func90, Try.ntmps90
  go_wp2
  all_goals (go_ret; refine ⟨ret_bool ?_, rfl⟩; unfold timeB; simp; try omega)
theorem spec_is (n : Int) (w : World) : Calls Try.prog 67 #[.int .i64 n, .int .i64 0, .int .i64 1000000000] w (SaysB (timeB n) w) := by
  go_enter Try.func67, Try.ntmps67
  go_wp2
  all_goals (go_ret; refine ⟨ret_bool ?_, rfl⟩; unfold timeB; simp; try omega)

set_option maxRecDepth 100000 in
set_option maxHeartbeats 1000000 in
theorem spec_body (s : ByteArray) (w : World) (hs : s.size ≤ maxLen) : Calls Try.prog 68 #[.string s] w (SaysB (allC printC s && decide (s.size ≤ 400)) w) := by
  unfold maxLen at hs
  go_enter Try.func68, Try.ntmps68
  go_wp2
  go_loop [3] (fun i => ∃ k : Nat, k ≤ s.size ∧ i = .int .i64 k ∧ Upto printC s k) (fun i => s.size - (intOf i).toNat)
  case atStart => exact ⟨0, Nat.zero_le _, rfl, upto_zero _ _⟩
  case round =>
    obtain ⟨k, hk, rfl, hup⟩ := hrel
    by_cases hlt : k < s.size
    · have hc := byte_le s[k]
      obtain ⟨b, hb⟩ : ∃ b, printC s[k].toNat = b := ⟨_, rfl⟩
      cases b
      · have h1 : (s[k].toNat : Int) < 32 ∨ 126 < (s[k].toNat : Int) := by unfold printC at hb; simp at hb; omega
        have HB := Lib.hid (all_no hlt hb)
        go_wp2
        all_goals (go_ret; refine ⟨ret_bool ?_, rfl⟩; rw [HB.out]; rfl)
      · have h1 : 32 ≤ (s[k].toNat : Int) ∧ (s[k].toNat : Int) ≤ 126 := by unfold printC at hb; simp at hb; omega
        go_wp2
        exact ⟨⟨k + 1, hlt, rfl, upto_succ hup hlt hb⟩, by simp [intOf]; omega⟩
    · have HB := Lib.hid (upto_all hup hlt)
      go_wp2
      go_ret
      refine ⟨ret_bool ?_, rfl⟩
      rw [HB.out]
      simp
      try omega

set_option maxRecDepth 100000 in
set_option maxHeartbeats 1000000 in
theorem impl_printable (s : ByteArray) (w : World) (hs : s.size ≤ maxLen) : Calls Try.prog 91 #[.string s] w fun e w' => e = .returned (.bool (allC printC s)) ∧ Below w.heap.size w w' := by
  unfold maxLen at hs
  go_enter Try.func91, Try.ntmps91
  go_wp2
  go_loopw [] (fun wr => ∃ pos : Nat, pos ≤ s.size ∧ wr = w.iter s pos ∧ Upto printC s pos) (fun wr => s.size - wr.iterPos w.heap.size)
  case atStart => exact ⟨0, Nat.zero_le _, rfl, upto_zero _ _⟩
  case round =>
    obtain ⟨pos, hk, rfl, hup⟩ := hrel
    have hB : ∀ p, Below w.heap.size w (w.iter s p) := fun p => (Below.refl _ _).alloc (Nat.le_refl _) _
    by_cases hlt : pos < s.size
    · obtain ⟨b, hb⟩ : ∃ b, printC s[pos].toNat = b := ⟨_, rfl⟩
      by_cases ha : s[pos].toNat < 128
      · have hnx := fun ty => run_next_ascii (P := Try.prog) w s pos ty hlt ha
        have hc := byte_le s[pos]
        cases b
        · have h1 : (s[pos].toNat : Int) < 32 ∨ 126 < (s[pos].toNat : Int) := by unfold printC at hb; simp at hb; omega
          have HB := Lib.hid (all_no hlt hb)
          go_wp2
          all_goals (go_ret; refine ⟨ret_bool ?_, hB _⟩; rw [HB.out])
        · have h1 : 32 ≤ (s[pos].toNat : Int) ∧ (s[pos].toNat : Int) ≤ 126 := by unfold printC at hb; simp at hb; omega
          go_wp2
          go_roundw
          case rel => exact ⟨pos + 1, hlt, rfl, upto_succ hup hlt hb⟩
          case measure => simp; omega
      · have hnx := fun ty => run_next_any (P := Try.prog) w s pos ty hlt
        have hd := (decode_high s pos hlt (by omega)).1
        have hl := decode_le s pos
        have h1 : 126 < ((Utf8.decode s pos).1 : Int) := by omega
        have h2 : ¬ ((Utf8.decode s pos).1 : Int) < 32 := by omega
        have HB := Lib.hid (all_no hlt (show printC s[pos].toNat = false by unfold printC; simp; omega))
        go_wp2
        all_goals (go_ret; refine ⟨ret_bool ?_, hB _⟩; rw [HB.out])
    · have hnx := fun ty => run_next_end (P := Try.prog) w s pos ty hlt
      have HB := Lib.hid (upto_all hup hlt)
      go_wp2
      go_ret
      refine ⟨ret_bool ?_, hB _⟩
      rw [HB.out]

theorem spec_kinds (w : World) : Calls Try.prog 64 #[] w fun e w' => e = .returned (.slice (some ⟨w.heap.size, 0, none⟩) 4 4) ∧ w' = w.alloc (.cells #[.string kPres, .string kMess, .string kIq, .string kDb] 9) := by
  go_enter Try.func64, Try.ntmps64
  go_wp2
  go_ret
  exact ⟨rfl, rfl⟩

set_option maxRecDepth 100000 in
set_option maxHeartbeats 1000000 in
theorem spec_in (b c : Nat) (ks : List ByteArray) (k : ByteArray) (w : World) (hlen : ks.length ≤ 1000) (hc : ∀ j (h : j < ks.length), w.cell? ⟨b, j, none⟩ = some (.string ks[j])) :
    Calls Try.prog 50 #[.slice (some ⟨b, 0, none⟩) ks.length c, .string k] w (SaysB (ks.any fun x => x.toList == k.toList) w) := by
  have HC := Lib.hid hc
  clear hc
  go_enter Try.func50, Try.ntmps50
  go_wp2
  go_loop [5] (fun i => ∃ j : Nat, j ≤ ks.length ∧ i = .int .i64 j ∧ ∀ m (h : m < ks.length), m < j → (ks[m].toList == k.toList) = false) (fun i => ks.length - (intOf i).toNat)
  case atStart => exact ⟨0, Nat.zero_le _, rfl, fun _ _ h => absurd h (Nat.not_lt_zero _)⟩
  case round =>
    obtain ⟨j, hj, rfl, hno⟩ := hrel
    have HN := Lib.hid hno
    clear hno
    by_cases hlt : j < ks.length
    · have hcell := HC.out j hlt
      obtain ⟨x, hx⟩ : ∃ x, x = ks[j] := ⟨_, rfl⟩
      rw [← hx] at hcell
      obtain ⟨b1, h1⟩ : ∃ b, (x.toList == k.toList) = b := ⟨_, rfl⟩
      have HX := Lib.hid hx
      clear hx
      cases b1
      · go_wp2
        refine ⟨⟨j + 1, hlt, rfl, fun m hm h => ?_⟩, by simp [intOf]; omega⟩
        by_cases e : m < j
        · exact HN.out m hm e
        · obtain rfl : m = j := by omega
          rw [← HX.out]
          exact h1
      · have HA : Hid ((ks.any fun x => x.toList == k.toList) = true) := Lib.hid (List.any_eq_true.2 ⟨x, by rw [HX.out]; exact List.getElem_mem hlt, h1⟩)
        go_wp2
        go_ret
        exact ⟨ret_bool HA.out.symm, rfl⟩
    · have HA : Hid ((ks.any fun x => x.toList == k.toList) = false) := Lib.hid (by
        rw [List.any_eq_false]
        intro x hx
        obtain ⟨m, hm, rfl⟩ := List.getElem_of_mem hx
        rw [HN.out m hm (by omega)]
        exact Bool.false_ne_true)
      go_wp2
      go_ret
      exact ⟨ret_bool HA.out.symm, rfl⟩
theorem any_kind (k : ByteArray) : ([kPres, kMess, kIq, kDb].any fun x => x.toList == k.toList) = kindB k := by
  have e : ∀ x : ByteArray, (x.toList == k.toList) = (k.toList == x.toList) := fun x => Bool.eq_iff_iff.2 (by rw [beq_iff_eq, beq_iff_eq]; exact eq_comm)
  simp only [List.any_cons, List.any_nil, e, Bool.or_false, kindB, Bool.or_assoc]
/-- isAddress, and l04Address of what is not empty. -/
noncomputable def addrB (t : ByteArray) : Bool := goodR t.data.toList && ((jidT (strOf (readL t.data.toList).1) (strOf (readL t.data.toList).2.1) (strOf (readL t.data.toList).2.2)).toList == t.toList)
end Go.Proofs.Ytpjmcpfmnlfmdaa

namespace Go.Proofs.Ytpjmcpfmnlfmdaa
set_option linter.unusedSimpArgs false
set_option linter.unusedVariables false
open Go.RowKit

theorem text_some {l d r : ByteArray} (h : jidB l d r = true) : 0 < (jidT l d r).size ∧ (jidT l d r).size ≤ 100 := by
  obtain ⟨b1, b2, b3⟩ := right_le h
  unfold jidB jidB' at h
  simp only [Bool.and_eq_true] at h
  have hd := (domB_iff.1 h.1.2).1
  unfold jidT
  rw [strOf_size, flat_five]
  simp only [List.length_append, size_data]
  have e1 := mark_le atS l (by decide)
  have e2 := mark_le slS r (by decide)
  omega
end Go.Proofs.Ytpjmcpfmnlfmdaa

namespace Go.Proofs.Ytpjmcpfmnlfmdaa
set_option linter.unusedSimpArgs false
set_option linter.unusedVariables false
open Go.RowKit

theorem addr_big {t : ByteArray} (h : 20000 < t.size) : addrB t = false := by
  cases hA : addrB t
  · rfl
  · exfalso
    unfold addrB goodR at hA
    simp only [Bool.and_eq_true] at hA
    obtain ⟨⟨_, hj⟩, he⟩ := hA
    have h1 := (text_some hj).2
    have h2 := beq_iff_eq.1 he
    rw [ByteArray.toList_eq, ByteArray.toList_eq] at h2
    have h3 := congrArg List.length h2
    rw [size_data, size_data] at h3
    omega
theorem addr_bad {t : ByteArray} (h : goodR t.data.toList = false) : addrB t = false := by unfold addrB; rw [h]; rfl

set_option maxRecDepth 100000 in
set_option maxHeartbeats 2000000 in
theorem impl_address (s : ByteArray) (w : World) (hs : s.size ≤ maxLen) (hm : MaxL w) :
    Calls Try.prog 45 #[.string s] w fun e w' => e = .returned (.bool (addrB s)) ∧ Below w.heap.size w w' := by
  have i1 := impl_read s w hs hm
  unfold jidReadV at i1
  by_cases hbig : 20000 < s.size
  · rw [if_pos hbig] at i1
    unfold jo at i1
    rw [addr_big hbig]
    clear hm
    go_enter Try.func45, Try.ntmps45
    go_wp2_with (go_at_call 56; go_fit i1; rintro e w1 ⟨rfl, hb⟩)
    go_ret
    exact ⟨rfl, hb.alloc hb.size _⟩
  · rw [if_neg hbig] at i1
    cases hg : goodR s.data.toList
    · rw [hg, if_neg Bool.false_ne_true] at i1
      unfold jo at i1
      rw [addr_bad hg]
      clear hm hg
      go_enter Try.func45, Try.ntmps45
      go_wp2_with (go_at_call 56; go_fit i1; rintro e w1 ⟨rfl, hb⟩)
      go_ret
      exact ⟨rfl, hb.alloc hb.size _⟩
    · rw [hg, if_pos rfl] at i1
      unfold addrB
      rw [hg, Bool.true_and]
      have hj : jidB (strOf (readL s.data.toList).1) (strOf (readL s.data.toList).2.1) (strOf (readL s.data.toList).2.2) = true := by
        unfold goodR at hg
        simp only [Bool.and_eq_true] at hg
        exact hg.2
      obtain ⟨l, hl⟩ : ∃ l, l = strOf (readL s.data.toList).1 := ⟨_, rfl⟩
      obtain ⟨d, hd⟩ : ∃ d, d = strOf (readL s.data.toList).2.1 := ⟨_, rfl⟩
      obtain ⟨r, hr⟩ : ∃ r, r = strOf (readL s.data.toList).2.2 := ⟨_, rfl⟩
      rw [← hl, ← hd, ← hr] at i1 hj ⊢
      unfold jo at i1
      obtain ⟨z1, z2, z3⟩ := right_le hj
      have i2 := fun w => impl_text l d r w (by unfold maxLen; omega) (by unfold maxLen; omega) (by unfold maxLen; omega)
      rw [jidTextS_yes hj] at i2
      obtain ⟨X, hX⟩ : ∃ X, X = jidT l d r := ⟨_, rfl⟩
      rw [← hX] at i2 ⊢
      obtain ⟨b, hb0⟩ : ∃ b, (X.toList == s.toList) = b := ⟨_, rfl⟩
      rw [hb0]
      have HM := Lib.hid (fun W (h : Below w.heap.size w W) => hm.below h hm.pos)
      clear hm hg hj hl hd hr hX
      cases b <;>
      · go_enter Try.func45, Try.ntmps45
        go_wp2_with (first
          | (go_at_call 56; go_fit i1; rintro e w1 ⟨rfl, hb⟩)
          | (go_at_call 75; go_fit (i2 _ (HM.out _ (hb.alloc hb.size _))); rintro e w2 ⟨rfl, hb2⟩; replace hb := hb.trans ((below_one hb2).mono hb.size)))
        go_ret
        exact ⟨rfl, hb⟩

/-- What stands while a result of three cells, at ra, is set from a box of three, at rb. -/
abbrev CopyS (w : World) (ra rb : Nat) (x y z : ByteArray) (W : World) : Prop :=
  (W.cell? ⟨rb, 0, none⟩ = some (.string x) ∧ W.cell? ⟨rb, 1, none⟩ = some (.string y) ∧ W.cell? ⟨rb, 2, none⟩ = some (.string z) ∧
   W.cell? ⟨ra, 0, none⟩ = some (cellAt W ra 0) ∧ W.cell? ⟨ra, 1, none⟩ = some (cellAt W ra 1) ∧ W.cell? ⟨ra, 2, none⟩ = some (cellAt W ra 2) ∧
   W.frozen? ⟨ra, 0, none⟩ = false ∧ W.frozen? ⟨ra, 1, none⟩ = false ∧ W.frozen? ⟨ra, 2, none⟩ = false) ∧
  (Below w.heap.size w W ∧ Arr W rb 69 [.string x, .string y, .string z] ∧ Res W ra)
theorem copyS {w W : World} {ra rb : Nat} {x y z : ByteArray} (hb : Below w.heap.size w W) (hA : Arr W rb 69 [.string x, .string y, .string z]) (hr : Res W ra) : CopyS w ra rb x y z W := by
  obtain ⟨c0, c1, c2, _, _, _⟩ := arr_three hA
  obtain ⟨a, b, c, hR⟩ := id hr
  have e : ∀ i v, W.cell? ⟨ra, i, none⟩ = some v → W.cell? ⟨ra, i, none⟩ = some (cellAt W ra i) := fun i v h => by unfold cellAt; rw [h]; rfl
  exact ⟨⟨c0, c1, c2, e 0 a (hR.cell 0), e 1 b (hR.cell 1), e 2 c (hR.cell 2), hR.free 0, hR.free 1, hR.free 2⟩, hb, hA, hr⟩
theorem copyS_on {w W w2 : World} {ra rb : Nat} {x y z : ByteArray} {S : Prop} (h : S ∧ (Below w.heap.size w W ∧ Arr W rb 69 [.string x, .string y, .string z] ∧ Res W ra)) (h2 : Below W.heap.size W w2) : CopyS w ra rb x y z w2 :=
  copyS (h.2.1.trans (h2.mono h.2.1.size)) (arr_below h.2.2.1 h2) (by obtain ⟨a, b, c, hA⟩ := h.2.2.2; exact ⟨a, b, c, arr_below hA h2⟩)
theorem copyS_store {w W : World} {ra rb : Nat} {x y z : ByteArray} {S : Prop} {u v t : Value} (hne : rb ≠ ra) (hle : w.heap.size ≤ ra) (h : S ∧ (Below w.heap.size w W ∧ Arr W rb 69 [.string x, .string y, .string z] ∧ Res W ra)) :
    CopyS w ra rb x y z (((W.setCell ⟨ra, 0, none⟩ u).setCell ⟨ra, 1, none⟩ v).setCell ⟨ra, 2, none⟩ t) :=
  copyS (below_three h.2.1 hle u v t) (arr_other (arr_other (arr_other h.2.2.1 _ _ _ hne) _ _ _ hne) _ _ _ hne) (by obtain ⟨a, b, c, hA⟩ := h.2.2.2; exact ⟨u, v, t, ((hA.put 0 u).put 1 v).put 2 t⟩)

set_option maxRecDepth 100000 in
set_option maxHeartbeats 2000000 in
theorem spec_l04jidP (s : ByteArray) (w : World) (hs : s.size ≤ 2000000) :
    Calls Try.prog 78 #[.string s] w fun e w' => (∃ x y z, e = .returned (.tuple #[.agg #[.string x, .string y, .string z], .bool (addrB s)]) ∧ (addrB s = true → x = strOf (readL s.data.toList).1 ∧ y = strOf (readL s.data.toList).2.1 ∧ z = strOf (readL s.data.toList).2.2)) ∧ Below w.heap.size w w' := by
  have i1 := fun w => spec_l03read s w hs
  go_enter Try.func78, Try.ntmps78
  go_wp2_with (go_at_call 95; go_fit (i1 _); rintro e w1 ⟨⟨x, y, z, b, rfl, hg, hx⟩, hb⟩)
  rw [← hg]
  have hlt : w.heap.size < w1.heap.size := by have := hb.size; simp at this; omega
  have hne : w1.heap.size ≠ w.heap.size := by omega
  have hS : CopyS w w.heap.size w1.heap.size x y z (w1.alloc (.cells #[.string x, .string y, .string z] 69)).drew :=
    copyS (Below.drew ((below_one hb).alloc (by omega) _)) (Arr.fresh w1 _ _) ⟨_, _, _, arr_alloc (arr_below (Arr.fresh w _ _) hb) _⟩
  obtain ⟨W1, hW1⟩ : ∃ W1, W1 = w1.alloc (.cells #[.string x, .string y, .string z] 69) := ⟨_, rfl⟩
  rw [← hW1] at hS ⊢
  have HS := Lib.hid hS
  clear hS hb i1 hW1
  cases b
  · have HA := Lib.hid (addr_bad hg.symm)
    clear hg hx
    refine wp_region_held_drew (S := (fun W => (W.cell? ⟨w1.heap.size, 0, none⟩ = some (.string x) ∧ W.cell? ⟨w1.heap.size, 1, none⟩ = some (.string y) ∧ W.cell? ⟨w1.heap.size, 2, none⟩ = some (.string z) ∧
   W.cell? ⟨w.heap.size, 0, none⟩ = some (cellAt W w.heap.size 0) ∧ W.cell? ⟨w.heap.size, 1, none⟩ = some (cellAt W w.heap.size 1) ∧ W.cell? ⟨w.heap.size, 2, none⟩ = some (cellAt W w.heap.size 2) ∧
   W.frozen? ⟨w.heap.size, 0, none⟩ = false ∧ W.frozen? ⟨w.heap.size, 1, none⟩ = false ∧ W.frozen? ⟨w.heap.size, 2, none⟩ = false) ∧
  (Below w.heap.size w W ∧ Arr W w1.heap.size 69 [.string x, .string y, .string z] ∧ Res W w.heap.size))) (by kernel_rfl) HS.out (fun hHeld => ?_)
    generalize W1.drew = V at hHeld ⊢
    refine takeH (i := 0) (k := 11) (v := .agg #[.string x, .string y, .string z]) rfl (by rfl) (by kernel_rfl) (by kernel_rfl) (by kernel_rfl) (fun _ _ _ h => h) (by rfl) ?_ hHeld ?_
    · intro w hSw; (try dsimp only at hSw); go_simp
    (try simp only [Act.put, List.setIfInBounds_toArray, List.set_cons_zero, List.set_cons_succ])
    refine takeH (i := 1) (k := 12) (v := .bool false) rfl (by rfl) (by kernel_rfl) (by kernel_rfl) (by kernel_rfl) (fun _ _ _ h => h) (by rfl) ?_ hHeld ?_
    · intro w hSw; (try dsimp only at hSw); go_simp
    (try simp only [Act.put, List.setIfInBounds_toArray, List.set_cons_zero, List.set_cons_succ])
    refine takeH (i := 2) (k := 13) (v := .bool false) rfl (by rfl) (by kernel_rfl) (by kernel_rfl) (by kernel_rfl) (fun _ _ _ h => h) (by rfl) ?_ hHeld ?_
    · intro w hSw; (try dsimp only at hSw); go_simp
    (try simp only [Act.put, List.setIfInBounds_toArray, List.set_cons_zero, List.set_cons_succ])
    refine skipH (i := 3) (k := 14) rfl (by rfl) (by kernel_rfl) (by kernel_rfl) (by kernel_rfl) (fun _ _ _ h => h) (by rfl) hHeld ?_
    (try simp only [Act.put, List.setIfInBounds_toArray, List.set_cons_zero, List.set_cons_succ])
    refine skipH (i := 4) (k := 15) rfl (by rfl) (by kernel_rfl) (by kernel_rfl) (by kernel_rfl) (fun _ _ _ h => h) (by rfl) hHeld ?_
    (try simp only [Act.put, List.setIfInBounds_toArray, List.set_cons_zero, List.set_cons_succ])
    refine skipH (i := 5) (k := 16) rfl (by rfl) (by kernel_rfl) (by kernel_rfl) (by kernel_rfl) (fun _ _ _ h => h) (by rfl) hHeld ?_
    (try simp only [Act.put, List.setIfInBounds_toArray, List.set_cons_zero, List.set_cons_succ])
    refine skipH (i := 6) (k := 17) rfl (by rfl) (by kernel_rfl) (by kernel_rfl) (by kernel_rfl) (fun _ _ _ h => h) (by rfl) hHeld ?_
    (try simp only [Act.put, List.setIfInBounds_toArray, List.set_cons_zero, List.set_cons_succ])
    refine takeH (i := 7) (k := 18) (v := .bool false) rfl (by rfl) (by kernel_rfl) (by kernel_rfl) (by kernel_rfl) (fun _ _ _ h => h) (by rfl) ?_ hHeld ?_
    · intro w hSw; (try dsimp only at hSw); go_simp
    (try simp only [Act.put, List.setIfInBounds_toArray, List.set_cons_zero, List.set_cons_succ])
    have hrN := hHeld.2.2.2
    obtain ⟨⟨p0, p1, p2, p3, p4, p5, p6, p7, p8⟩, -⟩ := id hHeld
    refine wpAnyH_ready (rs := [8]) (by kernel_rfl) (by simp) ?_
    refine AllReadyH.cons rfl (fun K hK => ?_) AllReadyH.nil
    rw [if_pos (by rfl)]
    go_simp
    refine hK.out _ _ (copyS_store hne (Nat.le_refl _) hHeld) (fun hHeld => ?_)
    clear hK K
    (try simp only [Act.put, List.setIfInBounds_toArray, List.set_cons_zero, List.set_cons_succ])
    refine takeH (i := 9) (k := 3) (v := .bool false) rfl (by rfl) (by kernel_rfl) (by kernel_rfl) (by kernel_rfl) (fun _ _ _ h => h) (by rfl) ?_ hHeld ?_
    · intro w hSw; (try dsimp only at hSw); go_simp
    (try simp only [Act.put, List.setIfInBounds_toArray, List.set_cons_zero, List.set_cons_succ])
    refine wpAnyH_done (by kernel_rfl) ?_ _
    obtain ⟨a, b, c, hA⟩ := hrN
    have hF : Arr _ w.heap.size 69 [.string x, .string y, .string z] := ((hA.put 0 (.string x)).put 1 (.string y)).put 2 (.string z)
    have hz := arr_lt hF
    obtain ⟨c0, c1, c2, _, _, _⟩ := arr_three hF
    have HB := Lib.hid hHeld.2.1
    clear hA hF hHeld
    go_wp2
    exact bodyPost_ret (v := .tuple #[.agg #[.string x, .string y, .string z], .bool false]) (by simp [results, Try.results78, go_sem, c0, c1, c2] at hz ⊢; try omega) rfl ⟨⟨x, y, z, by rw [HA.out], fun h => by rw [HA.out] at h; cases h⟩, HB.out⟩
  · obtain ⟨e1, e2, e3⟩ := hx rfl
    have HE := Lib.hid (And.intro e1 (And.intro e2 e3))
    have hj : jidB x y z = true := by
      have h := hg.symm
      unfold goodR at h
      simp only [Bool.and_eq_true] at h
      rw [e1, e2, e3]
      exact h.2
    obtain ⟨z1, z2, z3⟩ := right_le hj
    have i2 := fun w => spec_addr x y z w (by omega) (by omega) (by omega)
    obtain ⟨X, hX⟩ : ∃ X, X = jidT x y z := ⟨_, rfl⟩
    rw [← hX] at i2
    obtain ⟨v, hv⟩ : ∃ v, (X.toList == s.toList) = v := ⟨_, rfl⟩
    have HA : Hid (addrB s = v) := Lib.hid (by unfold addrB; rw [← hg, ← e1, ← e2, ← e3, ← hX, hv]; rfl)
    clear hg hx e1 e2 e3 hj z1 z2 z3 hX
    go_region_held3 (fun W => (W.cell? ⟨w1.heap.size, 0, none⟩ = some (.string x) ∧ W.cell? ⟨w1.heap.size, 1, none⟩ = some (.string y) ∧ W.cell? ⟨w1.heap.size, 2, none⟩ = some (.string z) ∧
   W.cell? ⟨w.heap.size, 0, none⟩ = some (cellAt W w.heap.size 0) ∧ W.cell? ⟨w.heap.size, 1, none⟩ = some (cellAt W w.heap.size 1) ∧ W.cell? ⟨w.heap.size, 2, none⟩ = some (cellAt W w.heap.size 2) ∧
   W.frozen? ⟨w.heap.size, 0, none⟩ = false ∧ W.frozen? ⟨w.heap.size, 1, none⟩ = false ∧ W.frozen? ⟨w.heap.size, 2, none⟩ = false) ∧
  (Below w.heap.size w W ∧ Arr W w1.heap.size 69 [.string x, .string y, .string z] ∧ Res W w.heap.size))
      (with_reducible first | assumption | exact HS.out | exact copyS_on (by assumption) hbN | exact copyS_store hne (Nat.le_refl _) (by assumption))
      (first
        | (go_at_call 96; go_fit (i2 _); rintro e w2 ⟨rfl, hbN⟩; have hrN := (copyS_on (by assumption) hbN).2.2.2))
    all_goals
      obtain ⟨a, b, c, hA⟩ := hrN
      have hF : Arr _ w.heap.size 69 [.string x, .string y, .string z] := ((hA.put 0 (.string x)).put 1 (.string y)).put 2 (.string z)
      have hz := arr_lt hF
      obtain ⟨c0, c1, c2, _, _, _⟩ := arr_three hF
      obtain ⟨_, hbF, _, _⟩ := copyS_on (by assumption) (Below.refl _ _)
      have HB := Lib.hid hbF
      clear hA hF hbF
      go_wp2
      exact bodyPost_ret (v := .tuple #[.agg #[.string x, .string y, .string z], .bool v]) (by simp [results, Try.results78, go_sem, c0, c1, c2] at hz ⊢; try omega) rfl ⟨⟨x, y, z, by rw [HA.out], fun _ => HE.out⟩, HB.out⟩
theorem spec_l04jid (s : ByteArray) (w : World) (hs : s.size ≤ 2000000) :
    Calls Try.prog 78 #[.string s] w fun e w' => (∃ x y z, e = .returned (.tuple #[.agg #[.string x, .string y, .string z], .bool (addrB s)])) ∧ Below w.heap.size w w' :=
  (spec_l04jidP s w hs).mono fun e w' ⟨⟨x, y, z, h, _⟩, hb⟩ => ⟨⟨x, y, z, h⟩, hb⟩
/-- An address, or nothing. -/
noncomputable def addrE (s : ByteArray) : Bool := decide (s.size = 0) || addrB s
set_option maxHeartbeats 1000000 in
theorem spec_address (s : ByteArray) (w : World) (hs : s.size ≤ 2000000) :
    Calls Try.prog 66 #[.string s] w fun e w' => e = .returned (.bool (addrE s)) ∧ Below w.heap.size w w' := by
  have i1 := spec_l04jid s w hs
  unfold addrE
  obtain ⟨v, hv⟩ : ∃ v, addrB s = v := ⟨_, rfl⟩
  rw [hv] at i1 ⊢
  clear hv
  rcases Nat.eq_zero_or_pos s.size with h1 | h1
  · obtain ⟨n1, e1⟩ := empty_of h1
    rw [decide_eq_true h1]
    go_enter Try.func66, Try.ntmps66
    go_wp2_with (go_at_call 78; go_fit i1; rintro e w1 ⟨⟨x, y, z, rfl⟩, hb⟩)
    go_ret
    exact ⟨rfl, hb.alloc hb.size _⟩
  · have n1 := ne_nil h1
    have e1 := not_empty h1
    rw [decide_eq_false (by omega)]
    go_enter Try.func66, Try.ntmps66
    go_wp2_with (go_at_call 78; go_fit i1; rintro e w1 ⟨⟨x, y, z, rfl⟩, hb⟩)
    go_ret
    exact ⟨ret_bool (by simp), hb.alloc hb.size _⟩
end Go.Proofs.Ytpjmcpfmnlfmdaa

namespace Go.Proofs.Ytpjmcpfmnlfmdaa
set_option linter.unusedSimpArgs false
set_option linter.unusedVariables false
open Go.RowKit

theorem nan_str (s : ByteArray) (w : World) : Calls Try.prog 86 #[.string s] w fun e w' => e = .returned (.bool false) ∧ w = w' := by
  go_enter Try.func86, Try.ntmps86
  go_wp2
  go_ret
  exact ⟨ret_bool (by simp), rfl⟩
/-- What comparing two texts answers. -/
def cmpI (a b : ByteArray) : Int := if Op.bytesLess a.toList b.toList then -1 else if a.toList == b.toList then 0 else 1
theorem cmp_str (a b : ByteArray) (w : World) : Calls Try.prog 59 #[.string a, .string b] w fun e w' => e = .returned (.int .i64 (cmpI a b)) ∧ w = w' := by
  obtain ⟨b1, h1⟩ : ∃ b1, Op.bytesLess a.toList b.toList = b1 := ⟨_, rfl⟩
  obtain ⟨b2, h2⟩ : ∃ b2, (a.toList == b.toList) = b2 := ⟨_, rfl⟩
  unfold cmpI
  rw [h1, h2]
  have H1 := h1
  have H2 := h2
  cases b1 <;> cases b2 <;>
    (go_enter Try.func59, Try.ntmps59
     go_wp2_with (go_at_call 86; go_fit (nan_str _ _); rintro e w' ⟨rfl, rfl⟩)
     go_ret
     exact ⟨rfl, rfl⟩)
theorem cmp_neg {a b : ByteArray} : (cmpI a b < 0) ↔ Op.bytesLess a.toList b.toList = true := by
  unfold cmpI
  cases Op.bytesLess a.toList b.toList <;> cases a.toList == b.toList <;> simp
end Go.Proofs.Ytpjmcpfmnlfmdaa

namespace Go.Proofs.Ytpjmcpfmnlfmdaa
set_option linter.unusedSimpArgs false
set_option linter.unusedVariables false
open Go.RowKit

theorem takeQ {P : Program} {ops : Array Oper} {Q : Exit → Act → World → Prop} {md : Region.Mode} {S : World → Prop} {i k : Nat} {oi : Oper} {v : Value} {fuel : Nat} {listed : Array Bool} {a : Act} {w : World} (hi : ops[i]? = some oi) (hd : oi.dst = some k)
    (hs : Region.noSelect ops = true) (hf : Region.free md ops listed i = true) (hr : (Region.ready md ops listed).contains i = true) (hQ : ∀ c a w, Q (.panic c) (a.put (some k) v) w → Q (.panic c) a w)
    (hw : Region.wanted oi (yielded ops a.tmps) = true) (hv : ∀ w, S w → (execOp a.eval oi).run P w = .ok (.value v) w) (hS : S w) (h : wpAnyH P md ops Q S fuel (listed.setIfInBounds i true) (a.put (some k) v) w) : wpAnyH P md ops Q S (fuel + 1) listed a w := by
  rw [← hd] at hQ h
  exact wpAnyH_take hi hs hf hr hQ (Or.inl ⟨hw, hv⟩) hS h
theorem skipQ {P : Program} {ops : Array Oper} {Q : Exit → Act → World → Prop} {md : Region.Mode} {S : World → Prop} {i k : Nat} {oi : Oper} {fuel : Nat} {listed : Array Bool} {a : Act} {w : World} (hi : ops[i]? = some oi) (hd : oi.dst = some k)
    (hs : Region.noSelect ops = true) (hf : Region.free md ops listed i = true) (hr : (Region.ready md ops listed).contains i = true) (hQ : ∀ c a w, Q (.panic c) (a.put (some k) undef) w → Q (.panic c) a w)
    (hw : Region.wanted oi (yielded ops a.tmps) = false) (hS : S w) (h : wpAnyH P md ops Q S fuel (listed.setIfInBounds i true) (a.put (some k) undef) w) : wpAnyH P md ops Q S (fuel + 1) listed a w := by
  rw [← hd] at hQ h
  exact wpAnyH_take hi hs hf hr hQ (Or.inr ⟨hw, rfl⟩) hS h
end Go.Proofs.Ytpjmcpfmnlfmdaa

namespace Go.Proofs.Ytpjmcpfmnlfmdaa
set_option linter.unusedSimpArgs false
set_option linter.unusedVariables false
open Go.RowKit

/-- Slots are written. -/
def putAll (a : Act) : List Nat → (Nat → Value) → Act
  | [], _ => a
  | s :: r, vs => putAll (a.put (some s) (vs s)) r vs
/-- A post that bears no panic. -/
def NormalOnly (R : Act → World → Prop) : Exit → Act → World → Prop
  | .normal, a, w => R a w
  | _, _, _ => False
/-- Whatever way a region goes: the slots that it writes hold some values, and R holds of them and of the world. -/
theorem region_join {P : Program} {c : Code} {Q : Exit → Act → World → Prop} {a : Act} {w : World} (slots : List Nat) (R : (Nat → Value) → World → Prop)
    (h1 : c.wp P (NormalOnly fun a' w' => R (fun k => a'.tmps.getD k undef) w' ∧ a' = putAll a slots (fun k => a'.tmps.getD k undef)) a w)
    (h2 : ∀ vs w', R vs w' → Q .normal (putAll a slots vs) w') : c.wp P Q a w := by
  refine Code.wp_mono (fun e a' w' h => ?_) h1
  cases e with
  | normal =>
    obtain ⟨hR, e⟩ := h
    rw [e]
    exact h2 _ _ hR
  | _ => exact (h : False).elim
end Go.Proofs.Ytpjmcpfmnlfmdaa

namespace Go.Proofs.Ytpjmcpfmnlfmdaa
set_option linter.unusedSimpArgs false
set_option linter.unusedVariables false
open Go.RowKit Go.Joins

theorem row_tx {w : World} {p : Option Addr} {xs : List ByteArray} (h : RowC strC 1 w p xs) {i : Nat} (hi : i < xs.length) : ∃ g, p = some ⟨g, 0, none⟩ ∧ g < w.heap.size ∧ w.cell? ⟨g, i, none⟩ = some (.string xs[i]) := by
  obtain ⟨g, h1, h2, h3⟩ := h (List.ne_nil_of_length_pos (by omega))
  refine ⟨g, h1, h2, ?_⟩
  have := h3 i hi 0 (by decide)
  rw [Nat.mul_one, Nat.add_zero] at this
  exact this
def IncT (xs : List ByteArray) (n : Nat) : Prop := ∀ i (h : i < xs.length), 0 < i → i < n → ∀ h' : i - 1 < xs.length, Op.bytesLess xs[i - 1].toList xs[i].toList = true
def AllT (xs : List ByteArray) (n : Nat) : Prop := ∀ i (h : i < xs.length), i < n → addrB xs[i] = true
theorem incT_zero (xs : List ByteArray) : IncT xs 1 := fun i _ h0 h1 => by omega
theorem incT_0 (xs : List ByteArray) : IncT xs 0 := fun i _ h0 h1 => by omega
theorem allT_0 (xs : List ByteArray) : AllT xs 0 := fun i _ h1 => by omega
theorem incT_succ {xs : List ByteArray} {k : Nat} (h : IncT xs k) (hk : k < xs.length) (hl : 0 < k → ∀ h' : k - 1 < xs.length, Op.bytesLess xs[k - 1].toList xs[k].toList = true) : IncT xs (k + 1) := by
  intro i hi h0 h1 h'
  by_cases e : i = k
  · subst e; exact hl h0 h'
  · exact h i hi h0 (by omega) h'
theorem allT_succ {xs : List ByteArray} {k : Nat} (h : AllT xs k) (hk : k < xs.length) (hl : addrB xs[k] = true) : AllT xs (k + 1) := by
  intro i hi h1
  by_cases e : i = k
  · subst e; exact hl
  · exact h i hi (by omega)
open Classical in
noncomputable def incTB (xs : List ByteArray) : Bool := decide (IncT xs xs.length)
theorem incTB_true {xs : List ByteArray} (h : IncT xs xs.length) : incTB xs = true := by unfold incTB; simpa using h
theorem incTB_false {xs : List ByteArray} (h : ¬ IncT xs xs.length) : incTB xs = false := by unfold incTB; simpa using h
theorem incTB_iff {xs : List ByteArray} : incTB xs = true ↔ IncT xs xs.length := by unfold incTB; simp
def BkR (xs : List ByteArray) : Prop := xs.length ≤ 8 ∧ IncT xs xs.length ∧ AllT xs xs.length
open Classical in
noncomputable def bkB (xs : List ByteArray) : Bool := decide (BkR xs)
theorem bkB_true {xs : List ByteArray} (h : BkR xs) : bkB xs = true := by unfold bkB; simpa using h
theorem bkB_false {xs : List ByteArray} (h : ¬ BkR xs) : bkB xs = false := by unfold bkB; simpa using h
theorem bkB_iff {xs : List ByteArray} : bkB xs = true ↔ BkR xs := by unfold bkB; simp
theorem cmp_strB (a b : ByteArray) (w : World) : Calls Try.prog 59 #[.string a, .string b] w fun e w' => e = .returned (.int .i64 (cmpI a b)) ∧ Below w.heap.size w w' :=
  (cmp_str a b w).mono fun e w' ⟨h1, h2⟩ => ⟨h1, by rw [← h2]; exact Below.refl _ _⟩
abbrev Two_tx (g k : Nat) (x y : ByteArray) (wr W : World) : Prop := (W.cell? ⟨g, k, none⟩ = some (.string x) ∧ W.cell? ⟨g, k + 1, none⟩ = some (.string y)) ∧ (Below wr.heap.size wr W ∧ g < wr.heap.size)
theorem two_tx_on {g k : Nat} {x y : ByteArray} {wr W W2 : World} (h : Two_tx g k x y wr W) (hb : Below W.heap.size W W2) : Two_tx g k x y wr W2 := by
  obtain ⟨⟨c0, d0⟩, h1, h2⟩ := h
  have ha : g < W.heap.size := Nat.lt_of_lt_of_le h2 h1.size
  exact ⟨⟨(hb.cell (p := ⟨g, k, none⟩) ha).trans c0, (hb.cell (p := ⟨g, k + 1, none⟩) ha).trans d0⟩, h1.trans (hb.mono h1.size), h2⟩
theorem two_tx_drew {g k : Nat} {x y : ByteArray} {wr W : World} (h : Two_tx g k x y wr W) : Two_tx g k x y wr W.drew := two_tx_on h (Below.refl _ _).drew
set_option maxRecDepth 100000 in
set_option maxHeartbeats 2000000 in
theorem impl_incT (xs : List ByteArray) (p : Option Addr) (c : Nat) (w : World) (hn : xs.length ≤ 1048576) (hR : RowC strC 1 w p xs) :
    Calls Try.prog 58 #[.slice p xs.length c, .func (.func 59) #[] #[]] w fun e w' => e = .returned (.bool (incTB xs)) ∧ Below w.heap.size w w' := by
  obtain ⟨n, hxn⟩ : ∃ n, xs.length = n := ⟨_, rfl⟩
  have HP := Lib.hid (fun W (h : Below w.heap.size w W) => hR.on h)
  have HN := Lib.hid hxn
  obtain ⟨Z, hZ⟩ : ∃ Z, incTB xs = Z := ⟨_, rfl⟩
  have HZ := Lib.hid hZ
  rw [hxn] at hn ⊢
  rw [hZ]
  clear hR hxn hZ
  go_enter Try.func58, Try.ntmps58
  go_wp2
  go_loopw [5] (fun iq wr => ∃ k : Nat, (k + 1 ≤ n ∨ k = 0) ∧ iq = .int .i64 ((k : Int) + 1) ∧ IncT xs (k + 1) ∧ Below w.heap.size w wr) (fun i _ => n + 1 - (intOf i).toNat)
  case atStart => exact ⟨0, .inr rfl, rfl, incT_zero xs, Below.refl _ _⟩
  case round =>
    obtain ⟨k, hk, rfl, hI, hb⟩ := hrel
    have HI := Lib.hid hI
    have HB := Lib.hid hb
    clear hI
    have hk2 : (k : Int) ≤ 1048576 := by omega
    by_cases hlt : k + 1 < n
    · have hlt1 : k < xs.length := by rw [HN.out]; omega
      have hlt2 : k + 1 < xs.length := by rw [HN.out]; exact hlt
      obtain ⟨g, rfl, hg, a0⟩ := row_tx (HP.out _ hb) hlt1
      obtain ⟨g', he, hg', b0⟩ := row_tx (HP.out _ hb) hlt2
      injection he with he
      injection he with he
      subst he
      obtain ⟨x, hx⟩ : ∃ x, xs[k] = x := ⟨_, rfl⟩
      obtain ⟨y, hy⟩ : ∃ y, xs[k + 1] = y := ⟨_, rfl⟩
      have HX := Lib.hid hx
      have HY := Lib.hid hy
      rw [hx] at a0
      rw [hy] at b0
      have HS : Hid (Two_tx g k x y wr wr) := Lib.hid ⟨⟨a0, b0⟩, Below.refl _ _, hg⟩
      have i1 := fun W => cmp_strB x y W
      obtain ⟨z, hz⟩ : ∃ z, cmpI x y = z := ⟨_, rfl⟩
      have HC := Lib.hid hz
      rw [hz] at i1
      clear hb a0 b0 hx hy hg hg' hz
      have hw1 : IntKind.i64.wrap ((k : Int) + 1 - 1) = (k : Int) := by rw [IntWalk.i64_in _ (by omega)]; omega
      have hw2 : IntKind.i64.wrap (k : Int) = (k : Int) := IntWalk.i64_in _ (by omega)
      have q1 : (0 : Int) ≤ (k : Int) := by omega
      have q2 : (k : Int) < (n : Int) := by omega
      have q3 : (0 : Int) ≤ (k : Int) + 1 := by omega
      have q4 : (k : Int) + 1 < (n : Int) := by omega
      go_wp2
      go_region_held3 (fun W => (W.cell? ⟨g, k, none⟩ = some (.string x) ∧ W.cell? ⟨g, k + 1, none⟩ = some (.string y)) ∧ (Below wr.heap.size wr W ∧ g < wr.heap.size))
        (with_reducible first | assumption | exact two_tx_drew HS.out | exact two_tx_on (by assumption) hbN)
        (first | (go_at_call 59; go_fit (i1 _); rintro e wn ⟨rfl, hbN⟩; have HF := Lib.hid (two_tx_on (g := g) (k := k) (wr := wr) (by assumption) hbN)))
      have HB2 := Lib.hid (HB.out.trans (HF.out.2.1.mono HB.out.size))
      by_cases hneg : z < 0
      · have hn0 : ¬ (0 : Int) ≤ z := by omega
        have hl := cmp_neg.1 (show cmpI x y < 0 by rw [HC.out]; exact hneg)
        have HL := Lib.hid hl
        clear hl
        go_wp2
        go_roundw
        case rel => exact ⟨k + 1, .inl (by omega), by go_num, incT_succ HI.out hlt2 (fun _ h' => by
          simp only [Nat.add_sub_cancel]
          rw [HX.out, HY.out]
          exact HL.out), HB2.out⟩
        case measure => simp [intOf]; omega
      · have hn0 : (0 : Int) ≤ z := by omega
        have HN0 := Lib.hid hneg
        clear hneg
        have HL : Hid (Z = false) := Lib.hid (by
          rw [← HZ.out]
          refine incTB_false (fun h => HN0.out ?_)
          rw [← HC.out]
          have := h (k + 1) hlt2 (by omega) hlt2 hlt1
          simp only [Nat.add_sub_cancel] at this
          rw [HX.out, HY.out] at this
          exact cmp_neg.2 this)
        go_wp2
        go_ret
        exact ⟨ret_bool HL.out.symm, HB2.out⟩
    · have HL : Hid (Z = true) := Lib.hid (by
        rw [← HZ.out]
        exact incTB_true (fun i hi h0 h1 h' => HI.out i hi h0 (by rw [HN.out] at hi; omega) h'))
      clear hb
      go_wp2
      go_ret
      exact ⟨ret_bool HL.out.symm, HB.out⟩
theorem spec_l11jid (s : ByteArray) (w : World) (hs : s.size ≤ 2000000) :
    Calls Try.prog 49 #[.string s] w fun e w' => e = .returned (.bool (addrB s)) ∧ Below w.heap.size w w' := by
  have i1 := fun W => spec_l04jid s W hs
  obtain ⟨b, hb⟩ : ∃ b, addrB s = b := ⟨_, rfl⟩
  rw [hb] at i1 ⊢
  clear hb
  go_enter Try.func49, Try.ntmps49
  go_wp2_with (go_at_call 78; go_fit (i1 _); rintro e w1 ⟨⟨x, y, z, rfl⟩, hb1⟩; have HB := Lib.hid hb1; clear hb1)
  go_ret
  exact ⟨rfl, HB.out.alloc HB.out.size _⟩
set_option maxRecDepth 100000 in
set_option maxHeartbeats 2000000 in
theorem impl_bkright (xs : List ByteArray) (p : Option Addr) (c : Nat) (w : World) (hn : xs.length ≤ 1048576) (hw : ∀ x ∈ xs, x.size ≤ maxLen) (hR : RowC strC 1 w p xs) (hm : MaxL w) :
    Calls Try.prog 19 #[.slice p xs.length c] w fun e w' => e = .returned (.bool (bkB xs)) ∧ Below w.heap.size w w' := by
  have i1 := fun W h => impl_incT xs p c W hn h
  obtain ⟨n, hxn⟩ : ∃ n, xs.length = n := ⟨_, rfl⟩
  have HP := Lib.hid (fun W (h : Below w.heap.size w W) => hR.on h)
  have HM := Lib.hid (fun W (h : Below w.heap.size w W) => hm.below h hm.pos)
  have HN := Lib.hid hxn
  have HW := Lib.hid hw
  obtain ⟨Z, hZ⟩ : ∃ Z, bkB xs = Z := ⟨_, rfl⟩
  have HZ := Lib.hid hZ
  obtain ⟨I, hI⟩ : ∃ I, incTB xs = I := ⟨_, rfl⟩
  have HI := Lib.hid hI
  rw [hxn, hI] at i1
  rw [hxn] at hn ⊢
  rw [hZ]
  clear hR hxn hZ hm hw hI
  by_cases h8 : 8 < n
  · have HL : Hid (Z = false) := Lib.hid (by rw [← HZ.out]; exact bkB_false (fun h => by have := h.1; rw [HN.out] at this; omega))
    go_enter Try.func19, Try.ntmps19
    go_wp2
    go_ret
    exact ⟨ret_bool HL.out.symm, Below.refl _ _⟩
  cases I
  · have HL : Hid (Z = false) := Lib.hid (by rw [← HZ.out]; exact bkB_false (fun h => by have := incTB_true h.2.1; rw [HI.out] at this; cases this))
    go_enter Try.func19, Try.ntmps19
    go_wp2_with (go_at_call 58; go_fit (i1 _ (HP.out _ (Below.refl _ _))); rintro e w1 ⟨rfl, hb1⟩; have HB := Lib.hid hb1; clear hb1)
    go_ret
    exact ⟨ret_bool HL.out.symm, HB.out⟩
  go_enter Try.func19, Try.ntmps19
  go_wp2_with (go_at_call 58; go_fit (i1 _ (HP.out _ (Below.refl _ _))); rintro e w1 ⟨rfl, hb1⟩; have HB := Lib.hid hb1; clear hb1)
  go_loopw [15] (fun iq wr => ∃ k : Nat, k ≤ n ∧ iq = .int .i64 k ∧ AllT xs k ∧ Below w.heap.size w wr) (fun i _ => n - (intOf i).toNat)
  case atStart => exact ⟨0, Nat.zero_le _, rfl, allT_0 xs, HB.out⟩
  case round =>
    obtain ⟨k, hk, rfl, hA, hb⟩ := hrel
    have HA := Lib.hid hA
    have HB1 := Lib.hid hb
    clear hA
    by_cases hlt : k < n
    · have hlt1 : k < xs.length := by rw [HN.out]; exact hlt
      obtain ⟨g, rfl, hg, a0⟩ := row_tx (HP.out _ hb) hlt1
      have hxw := HW.out _ (List.getElem_mem hlt1)
      obtain ⟨x, hx⟩ : ∃ x, xs[k] = x := ⟨_, rfl⟩
      have HX := Lib.hid hx
      rw [hx] at a0 hxw
      have i2 := fun W hm => impl_address x W hxw hm
      obtain ⟨A, hAd⟩ : ∃ A, addrB x = A := ⟨_, rfl⟩
      have HAD := Lib.hid hAd
      rw [hAd] at i2
      clear hb hx hAd hxw
      cases A
      · have HL : Hid (Z = false) := Lib.hid (by
          rw [← HZ.out]
          refine bkB_false (fun h => ?_)
          have := h.2.2 k hlt1 hlt1
          rw [HX.out, HAD.out] at this
          cases this)
        go_wp2_with (go_at_call 45; go_fit (i2 _ (HM.out _ HB1.out)); rintro e w2 ⟨rfl, hb2⟩; have HB2 := Lib.hid (HB1.out.trans (hb2.mono HB1.out.size)); clear hb2)
        go_ret
        exact ⟨ret_bool HL.out.symm, HB2.out⟩
      · go_wp2_with (go_at_call 45; go_fit (i2 _ (HM.out _ HB1.out)); rintro e w2 ⟨rfl, hb2⟩; have HB2 := Lib.hid (HB1.out.trans (hb2.mono HB1.out.size)); clear hb2)
        go_roundw
        case rel => exact ⟨k + 1, by omega, by go_num, allT_succ HA.out hlt1 (by rw [HX.out]; exact HAD.out), HB2.out⟩
        case measure => simp [intOf]; omega
    · have HL : Hid (Z = true) := Lib.hid (by
        rw [← HZ.out]
        exact bkB_true ⟨by rw [HN.out]; omega, incTB_iff.1 HI.out, fun i hi h1 => HA.out i hi (by rw [HN.out] at hi; omega)⟩)
      clear hb
      go_wp2
      go_ret
      exact ⟨ret_bool HL.out.symm, HB1.out⟩
/-- Is the element ahead less? -/
def ltT (xs : List ByteArray) (k : Nat) (r : ByteArray) : Bool := match k with
  | 0 => true
  | m + 1 => match xs[m]? with
    | some y => Op.bytesLess y.toList r.toList
    | none => true
set_option maxRecDepth 100000 in
set_option maxHeartbeats 8000000 in
theorem spec_bkright (xs : List ByteArray) (p0 : Option Addr) (c : Nat) (w : World) (hn : xs.length ≤ 1048576) (hw : ∀ x ∈ xs, x.size ≤ 2000000) (hR : RowC strC 1 w p0 xs) :
    Calls Try.prog 20 #[.slice p0 xs.length c] w fun e w' => e = .returned (.bool (bkB xs)) ∧ Below w.heap.size w w' := by
  obtain ⟨n, hxn⟩ : ∃ n, xs.length = n := ⟨_, rfl⟩
  have HP := Lib.hid (fun W (h : Below w.heap.size w W) => hR.on h)
  have HW := Lib.hid hw
  have HN := Lib.hid hxn
  rw [hxn] at hn ⊢
  obtain ⟨Z, hZ⟩ : ∃ Z, bkB xs = Z := ⟨_, rfl⟩
  have HZ := Lib.hid hZ
  rw [hZ]
  clear hR hw hxn hZ
  go_enter Try.func20, Try.ntmps20
  go_wp2
  go_loopw [3] (fun iq wr => ∃ k : Nat, k ≤ n ∧ iq = .int .i64 k ∧ IncT xs k ∧ AllT xs k ∧ Below w.heap.size w wr) (fun i _ => n - (intOf i).toNat)
  case atStart => exact ⟨0, Nat.zero_le _, rfl, incT_0 xs, allT_0 xs, Below.refl _ _⟩
  case round =>
    obtain ⟨k, hk, rfl, hI, hA, hb⟩ := hrel
    have HI := Lib.hid hI
    have HA := Lib.hid hA
    have HB := Lib.hid hb
    clear hA hI
    by_cases hlt : k < n
    · have hlt1 : k < xs.length := by rw [HN.out]; exact hlt
      have HRr := HP.out _ hb
      obtain ⟨g, rfl, hg, a0⟩ := row_tx HRr hlt1
      have hxw := HW.out _ (List.getElem_mem hlt1)
      obtain ⟨x, hx⟩ : ∃ x, xs[k] = x := ⟨_, rfl⟩
      have HX := Lib.hid hx
      rw [hx] at a0 hxw
      have jA := fun W => spec_l11jid x W hxw
      obtain ⟨b1, h1⟩ : ∃ b, addrB x = b := ⟨_, rfl⟩
      have HA1 := Lib.hid h1
      rw [h1] at jA
      obtain ⟨lt0, h6⟩ : ∃ b, ltT xs k x = b := ⟨_, rfl⟩
      obtain ⟨bad, hbad⟩ : ∃ b, (!(b1 && lt0)) = b := ⟨_, rfl⟩
      have HBAD : Hid (bad = !(b1 && lt0)) := Lib.hid hbad.symm
      have HLT0 : Hid (k = 0 → lt0 = true) := Lib.hid (fun h => by subst h; rw [← h6]; rfl)
      have HLT1 : Hid (∀ m, k = m + 1 → ∀ h : m < xs.length, lt0 = Op.bytesLess xs[m].toList x.toList) := Lib.hid (fun m h hm => by
        subst h
        rw [← h6]
        show (match xs[m]? with | some y => Op.bytesLess y.toList x.toList | none => true) = _
        rw [List.getElem?_eq_getElem hm])
      have HS0 : Hid (RowC strC 1 wr.drew (some ⟨g, 0, none⟩) xs ∧ Below w.heap.size w wr.drew) := Lib.hid ⟨HRr.on (Below.refl _ _).drew, hb.drew⟩
      clear hb hx hxw h1 h6 hbad HRr a0 hg
      go_wp2
      refine region_join [10, 11, 12, 13, 14, 15, 16, 17, 18, 19, 20, 21, 22, 23, 24, 25, 26, 27, 28, 29, 30, 31] (fun vs W => vs 31 = .bool bad ∧ (RowC strC 1 W (some ⟨g, 0, none⟩) xs ∧ Below w.heap.size w W)) ?_ ?_
      · refine wp_region_held_drew (S := fun W => (RowC strC 1 W (some ⟨g, 0, none⟩) xs ∧ Below w.heap.size w W)) (by kernel_rfl) HS0.out (fun hHeld => ?_)
        generalize wr.drew = Wd at hHeld ⊢
        clear HS0
        refine takeQ (i := 0) (k := 10) (v := .slice (some ⟨g, 0, none⟩) n c) rfl (by rfl) (by kernel_rfl) (by kernel_rfl) (by kernel_rfl) (fun _ _ _ h => h) (by rfl) ?_ hHeld ?_
        · intro w1 hSw; go_simp
        (try simp only [Act.put, List.setIfInBounds_toArray, List.set_cons_zero, List.set_cons_succ])
        refine takeQ (i := 1) (k := 11) (v := .int .i64 k) rfl (by rfl) (by kernel_rfl) (by kernel_rfl) (by kernel_rfl) (fun _ _ _ h => h) (by rfl) ?_ hHeld ?_
        · intro w1 hSw; go_simp
        (try simp only [Act.put, List.setIfInBounds_toArray, List.set_cons_zero, List.set_cons_succ])
        refine takeQ (i := 2) (k := 12) (v := .pointer (some ⟨g, k, none⟩)) rfl (by rfl) (by kernel_rfl) (by kernel_rfl) (by kernel_rfl) (fun _ _ _ h => h) (by rfl) ?_ hHeld ?_
        · intro w1 hSw; go_simp
        (try simp only [Act.put, List.setIfInBounds_toArray, List.set_cons_zero, List.set_cons_succ])
        refine takeQ (i := 3) (k := 13) (v := .string x) rfl (by rfl) (by kernel_rfl) (by kernel_rfl) (by kernel_rfl) (fun _ _ _ h => h) (by rfl) ?_ hHeld ?_
        · intro w1 hSw; (obtain ⟨g2, hgg, _, y0⟩ := row_tx hSw.1 hlt1); (injection hgg with hgg); (injection hgg with hgg); subst hgg; rw [HX.out] at y0; go_simp
        (try simp only [Act.put, List.setIfInBounds_toArray, List.set_cons_zero, List.set_cons_succ])
        refine wpAnyH_ready (rs := [4]) (by kernel_rfl) (by simp) ?_
        refine AllReadyH.cons rfl (fun K hK => ?_) AllReadyH.nil
        rw [if_pos (by rfl)]
        go_simp
        go_fit (jA _)
        rintro e0 wz ⟨rfl, hbz⟩
        refine hK.out _ _ ⟨hHeld.1.on hbz, hHeld.2.trans (hbz.mono hHeld.2.size)⟩ (fun hHeld => ?_)
        clear hK K
        (try simp only [Act.put, List.setIfInBounds_toArray, List.set_cons_zero, List.set_cons_succ])
        cases b1
        · skip
          refine takeQ (i := 5) (k := 15) (v := .bool true) rfl (by rfl) (by kernel_rfl) (by kernel_rfl) (by kernel_rfl) (fun _ _ _ h => h) (by rfl) ?_ hHeld ?_
          · intro w1 hSw; go_simp
          (try simp only [Act.put, List.setIfInBounds_toArray, List.set_cons_zero, List.set_cons_succ])
          refine takeQ (i := 6) (k := 16) (v := .bool true) rfl (by rfl) (by kernel_rfl) (by kernel_rfl) (by kernel_rfl) (fun _ _ _ h => h) (by rfl) ?_ hHeld ?_
          · intro w1 hSw; go_simp
          (try simp only [Act.put, List.setIfInBounds_toArray, List.set_cons_zero, List.set_cons_succ])
          refine skipQ (i := 7) (k := 17) rfl (by rfl) (by kernel_rfl) (by kernel_rfl) (by kernel_rfl) (fun _ _ _ h => h) (by rfl) hHeld ?_
          (try simp only [Act.put, List.setIfInBounds_toArray, List.set_cons_zero, List.set_cons_succ])
          refine skipQ (i := 8) (k := 18) rfl (by rfl) (by kernel_rfl) (by kernel_rfl) (by kernel_rfl) (fun _ _ _ h => h) (by rfl) hHeld ?_
          (try simp only [Act.put, List.setIfInBounds_toArray, List.set_cons_zero, List.set_cons_succ])
          refine skipQ (i := 9) (k := 19) rfl (by rfl) (by kernel_rfl) (by kernel_rfl) (by kernel_rfl) (fun _ _ _ h => h) (by rfl) hHeld ?_
          (try simp only [Act.put, List.setIfInBounds_toArray, List.set_cons_zero, List.set_cons_succ])
          refine skipQ (i := 10) (k := 20) rfl (by rfl) (by kernel_rfl) (by kernel_rfl) (by kernel_rfl) (fun _ _ _ h => h) (by rfl) hHeld ?_
          (try simp only [Act.put, List.setIfInBounds_toArray, List.set_cons_zero, List.set_cons_succ])
          refine skipQ (i := 11) (k := 21) rfl (by rfl) (by kernel_rfl) (by kernel_rfl) (by kernel_rfl) (fun _ _ _ h => h) (by rfl) hHeld ?_
          (try simp only [Act.put, List.setIfInBounds_toArray, List.set_cons_zero, List.set_cons_succ])
          refine skipQ (i := 12) (k := 22) rfl (by rfl) (by kernel_rfl) (by kernel_rfl) (by kernel_rfl) (fun _ _ _ h => h) (by rfl) hHeld ?_
          (try simp only [Act.put, List.setIfInBounds_toArray, List.set_cons_zero, List.set_cons_succ])
          refine skipQ (i := 13) (k := 23) rfl (by rfl) (by kernel_rfl) (by kernel_rfl) (by kernel_rfl) (fun _ _ _ h => h) (by rfl) hHeld ?_
          (try simp only [Act.put, List.setIfInBounds_toArray, List.set_cons_zero, List.set_cons_succ])
          refine skipQ (i := 14) (k := 24) rfl (by rfl) (by kernel_rfl) (by kernel_rfl) (by kernel_rfl) (fun _ _ _ h => h) (by rfl) hHeld ?_
          (try simp only [Act.put, List.setIfInBounds_toArray, List.set_cons_zero, List.set_cons_succ])
          refine skipQ (i := 15) (k := 25) rfl (by rfl) (by kernel_rfl) (by kernel_rfl) (by kernel_rfl) (fun _ _ _ h => h) (by rfl) hHeld ?_
          (try simp only [Act.put, List.setIfInBounds_toArray, List.set_cons_zero, List.set_cons_succ])
          refine skipQ (i := 16) (k := 26) rfl (by rfl) (by kernel_rfl) (by kernel_rfl) (by kernel_rfl) (fun _ _ _ h => h) (by rfl) hHeld ?_
          (try simp only [Act.put, List.setIfInBounds_toArray, List.set_cons_zero, List.set_cons_succ])
          refine skipQ (i := 17) (k := 27) rfl (by rfl) (by kernel_rfl) (by kernel_rfl) (by kernel_rfl) (fun _ _ _ h => h) (by rfl) hHeld ?_
          (try simp only [Act.put, List.setIfInBounds_toArray, List.set_cons_zero, List.set_cons_succ])
          refine skipQ (i := 18) (k := 28) rfl (by rfl) (by kernel_rfl) (by kernel_rfl) (by kernel_rfl) (fun _ _ _ h => h) (by rfl) hHeld ?_
          (try simp only [Act.put, List.setIfInBounds_toArray, List.set_cons_zero, List.set_cons_succ])
          refine skipQ (i := 19) (k := 29) rfl (by rfl) (by kernel_rfl) (by kernel_rfl) (by kernel_rfl) (fun _ _ _ h => h) (by rfl) hHeld ?_
          (try simp only [Act.put, List.setIfInBounds_toArray, List.set_cons_zero, List.set_cons_succ])
          refine skipQ (i := 20) (k := 30) rfl (by rfl) (by kernel_rfl) (by kernel_rfl) (by kernel_rfl) (fun _ _ _ h => h) (by rfl) hHeld ?_
          (try simp only [Act.put, List.setIfInBounds_toArray, List.set_cons_zero, List.set_cons_succ])
          refine takeQ (i := 21) (k := 31) (v := .bool true) rfl (by rfl) (by kernel_rfl) (by kernel_rfl) (by kernel_rfl) (fun _ _ _ h => h) (by rfl) ?_ hHeld ?_
          · intro w1 hSw; go_simp
          (try simp only [Act.put, List.setIfInBounds_toArray, List.set_cons_zero, List.set_cons_succ])
          refine wpAnyH_done (by kernel_rfl) ?_ _
          exact ⟨⟨congrArg Value.bool (show true = bad by rw [HBAD.out]; simp), hHeld⟩, by simp only [putAll, Act.put, List.setIfInBounds_toArray, List.set_cons_zero, List.set_cons_succ]; rfl⟩
        · skip
          refine takeQ (i := 5) (k := 15) (v := .bool false) rfl (by rfl) (by kernel_rfl) (by kernel_rfl) (by kernel_rfl) (fun _ _ _ h => h) (by rfl) ?_ hHeld ?_
          · intro w1 hSw; go_simp
          (try simp only [Act.put, List.setIfInBounds_toArray, List.set_cons_zero, List.set_cons_succ])
          refine takeQ (i := 6) (k := 16) (v := .bool false) rfl (by rfl) (by kernel_rfl) (by kernel_rfl) (by kernel_rfl) (fun _ _ _ h => h) (by rfl) ?_ hHeld ?_
          · intro w1 hSw; go_simp
          (try simp only [Act.put, List.setIfInBounds_toArray, List.set_cons_zero, List.set_cons_succ])
          rcases Nat.eq_zero_or_pos k with hk0 | hk0
          · obtain rfl := HLT0.out hk0
            subst hk0
            refine takeQ (i := 7) (k := 17) (v := .int .i64 0) rfl (by rfl) (by kernel_rfl) (by kernel_rfl) (by kernel_rfl) (fun _ _ _ h => h) (by rfl) ?_ hHeld ?_
            · intro w1 hSw; go_simp
            (try simp only [Act.put, List.setIfInBounds_toArray, List.set_cons_zero, List.set_cons_succ])
            refine takeQ (i := 8) (k := 18) (v := .bool false) rfl (by rfl) (by kernel_rfl) (by kernel_rfl) (by kernel_rfl) (fun _ _ _ h => h) (by rfl) ?_ hHeld ?_
            · intro w1 hSw; go_simp
            (try simp only [Act.put, List.setIfInBounds_toArray, List.set_cons_zero, List.set_cons_succ])
            refine takeQ (i := 9) (k := 19) (v := .bool false) rfl (by rfl) (by kernel_rfl) (by kernel_rfl) (by kernel_rfl) (fun _ _ _ h => h) (by rfl) ?_ hHeld ?_
            · intro w1 hSw; go_simp
            (try simp only [Act.put, List.setIfInBounds_toArray, List.set_cons_zero, List.set_cons_succ])
            refine skipQ (i := 10) (k := 20) rfl (by rfl) (by kernel_rfl) (by kernel_rfl) (by kernel_rfl) (fun _ _ _ h => h) (by rfl) hHeld ?_
            (try simp only [Act.put, List.setIfInBounds_toArray, List.set_cons_zero, List.set_cons_succ])
            refine skipQ (i := 11) (k := 21) rfl (by rfl) (by kernel_rfl) (by kernel_rfl) (by kernel_rfl) (fun _ _ _ h => h) (by rfl) hHeld ?_
            (try simp only [Act.put, List.setIfInBounds_toArray, List.set_cons_zero, List.set_cons_succ])
            refine skipQ (i := 12) (k := 22) rfl (by rfl) (by kernel_rfl) (by kernel_rfl) (by kernel_rfl) (fun _ _ _ h => h) (by rfl) hHeld ?_
            (try simp only [Act.put, List.setIfInBounds_toArray, List.set_cons_zero, List.set_cons_succ])
            refine skipQ (i := 13) (k := 23) rfl (by rfl) (by kernel_rfl) (by kernel_rfl) (by kernel_rfl) (fun _ _ _ h => h) (by rfl) hHeld ?_
            (try simp only [Act.put, List.setIfInBounds_toArray, List.set_cons_zero, List.set_cons_succ])
            refine skipQ (i := 14) (k := 24) rfl (by rfl) (by kernel_rfl) (by kernel_rfl) (by kernel_rfl) (fun _ _ _ h => h) (by rfl) hHeld ?_
            (try simp only [Act.put, List.setIfInBounds_toArray, List.set_cons_zero, List.set_cons_succ])
            refine skipQ (i := 15) (k := 25) rfl (by rfl) (by kernel_rfl) (by kernel_rfl) (by kernel_rfl) (fun _ _ _ h => h) (by rfl) hHeld ?_
            (try simp only [Act.put, List.setIfInBounds_toArray, List.set_cons_zero, List.set_cons_succ])
            refine skipQ (i := 16) (k := 26) rfl (by rfl) (by kernel_rfl) (by kernel_rfl) (by kernel_rfl) (fun _ _ _ h => h) (by rfl) hHeld ?_
            (try simp only [Act.put, List.setIfInBounds_toArray, List.set_cons_zero, List.set_cons_succ])
            refine skipQ (i := 17) (k := 27) rfl (by rfl) (by kernel_rfl) (by kernel_rfl) (by kernel_rfl) (fun _ _ _ h => h) (by rfl) hHeld ?_
            (try simp only [Act.put, List.setIfInBounds_toArray, List.set_cons_zero, List.set_cons_succ])
            refine skipQ (i := 18) (k := 28) rfl (by rfl) (by kernel_rfl) (by kernel_rfl) (by kernel_rfl) (fun _ _ _ h => h) (by rfl) hHeld ?_
            (try simp only [Act.put, List.setIfInBounds_toArray, List.set_cons_zero, List.set_cons_succ])
            refine skipQ (i := 19) (k := 29) rfl (by rfl) (by kernel_rfl) (by kernel_rfl) (by kernel_rfl) (fun _ _ _ h => h) (by rfl) hHeld ?_
            (try simp only [Act.put, List.setIfInBounds_toArray, List.set_cons_zero, List.set_cons_succ])
            refine takeQ (i := 20) (k := 30) (v := .bool false) rfl (by rfl) (by kernel_rfl) (by kernel_rfl) (by kernel_rfl) (fun _ _ _ h => h) (by rfl) ?_ hHeld ?_
            · intro w1 hSw; go_simp
            (try simp only [Act.put, List.setIfInBounds_toArray, List.set_cons_zero, List.set_cons_succ])
            refine takeQ (i := 21) (k := 31) (v := .bool false) rfl (by rfl) (by kernel_rfl) (by kernel_rfl) (by kernel_rfl) (fun _ _ _ h => h) (by rfl) ?_ hHeld ?_
            · intro w1 hSw; go_simp
            (try simp only [Act.put, List.setIfInBounds_toArray, List.set_cons_zero, List.set_cons_succ])
            refine wpAnyH_done (by kernel_rfl) ?_ _
            exact ⟨⟨congrArg Value.bool (show false = bad by rw [HBAD.out]; simp), hHeld⟩, by simp only [putAll, Act.put, List.setIfInBounds_toArray, List.set_cons_zero, List.set_cons_succ]; rfl⟩
          · obtain ⟨m, rfl⟩ : ∃ m, k = m + 1 := ⟨k - 1, by omega⟩
            have hm1 : m < xs.length := by omega
            obtain ⟨y, hy⟩ : ∃ y, xs[m] = y := ⟨_, rfl⟩
            have HY := Lib.hid hy
            have hlm := HLT1.out m rfl hm1
            rw [hy] at hlm
            clear hy
            have q1 : (0 : Int) ≤ (m : Int) := by omega
            have q2 : (m : Int) < (n : Int) := by omega
            have q3 : (0 : Int) < (m : Int) + 1 := by omega
            have hw2 : IntKind.i64.wrap (m : Int) = (m : Int) := IntWalk.i64_in _ (by omega)
            have q4 : (m : Int) + 1 < (n : Int) := by omega
            have q5 : (0 : Int) ≤ (m : Int) + 1 := by omega
            have hw1 : IntKind.i64.wrap ((m : Int) + 1 - 1) = (m : Int) := by rw [IntWalk.i64_in _ (by omega)]; omega
            refine takeQ (i := 7) (k := 17) (v := .int .i64 ((m : Int) + 1)) rfl (by rfl) (by kernel_rfl) (by kernel_rfl) (by kernel_rfl) (fun _ _ _ h => h) (by rfl) ?_ hHeld ?_
            · intro w1 hSw; go_simp
            (try simp only [Act.put, List.setIfInBounds_toArray, List.set_cons_zero, List.set_cons_succ])
            refine takeQ (i := 8) (k := 18) (v := .bool true) rfl (by rfl) (by kernel_rfl) (by kernel_rfl) (by kernel_rfl) (fun _ _ _ h => h) (by rfl) ?_ hHeld ?_
            · intro w1 hSw; go_simp
            (try simp only [Act.put, List.setIfInBounds_toArray, List.set_cons_zero, List.set_cons_succ])
            refine takeQ (i := 9) (k := 19) (v := .bool true) rfl (by rfl) (by kernel_rfl) (by kernel_rfl) (by kernel_rfl) (fun _ _ _ h => h) (by rfl) ?_ hHeld ?_
            · intro w1 hSw; go_simp
            (try simp only [Act.put, List.setIfInBounds_toArray, List.set_cons_zero, List.set_cons_succ])
            refine takeQ (i := 10) (k := 20) (v := .slice (some ⟨g, 0, none⟩) n c) rfl (by rfl) (by kernel_rfl) (by kernel_rfl) (by kernel_rfl) (fun _ _ _ h => h) (by rfl) ?_ hHeld ?_
            · intro w1 hSw; go_simp
            (try simp only [Act.put, List.setIfInBounds_toArray, List.set_cons_zero, List.set_cons_succ])
            refine takeQ (i := 11) (k := 21) (v := .int .i64 ((m : Int) + 1)) rfl (by rfl) (by kernel_rfl) (by kernel_rfl) (by kernel_rfl) (fun _ _ _ h => h) (by rfl) ?_ hHeld ?_
            · intro w1 hSw; go_simp
            (try simp only [Act.put, List.setIfInBounds_toArray, List.set_cons_zero, List.set_cons_succ])
            refine takeQ (i := 12) (k := 22) (v := .int .i64 (m : Int)) rfl (by rfl) (by kernel_rfl) (by kernel_rfl) (by kernel_rfl) (fun _ _ _ h => h) (by rfl) ?_ hHeld ?_
            · intro w1 hSw; go_simp
            (try simp only [Act.put, List.setIfInBounds_toArray, List.set_cons_zero, List.set_cons_succ])
            refine takeQ (i := 13) (k := 23) (v := .pointer (some ⟨g, m, none⟩)) rfl (by rfl) (by kernel_rfl) (by kernel_rfl) (by kernel_rfl) (fun _ _ _ h => h) (by rfl) ?_ hHeld ?_
            · intro w1 hSw; go_simp
            (try simp only [Act.put, List.setIfInBounds_toArray, List.set_cons_zero, List.set_cons_succ])
            refine takeQ (i := 14) (k := 24) (v := .string y) rfl (by rfl) (by kernel_rfl) (by kernel_rfl) (by kernel_rfl) (fun _ _ _ h => h) (by rfl) ?_ hHeld ?_
            · intro w1 hSw; (obtain ⟨g2, hgg, _, y0⟩ := row_tx hSw.1 hm1); (injection hgg with hgg); (injection hgg with hgg); subst hgg; rw [HY.out] at y0; go_simp
            (try simp only [Act.put, List.setIfInBounds_toArray, List.set_cons_zero, List.set_cons_succ])
            refine takeQ (i := 15) (k := 25) (v := .slice (some ⟨g, 0, none⟩) n c) rfl (by rfl) (by kernel_rfl) (by kernel_rfl) (by kernel_rfl) (fun _ _ _ h => h) (by rfl) ?_ hHeld ?_
            · intro w1 hSw; go_simp
            (try simp only [Act.put, List.setIfInBounds_toArray, List.set_cons_zero, List.set_cons_succ])
            refine takeQ (i := 16) (k := 26) (v := .int .i64 ((m : Int) + 1)) rfl (by rfl) (by kernel_rfl) (by kernel_rfl) (by kernel_rfl) (fun _ _ _ h => h) (by rfl) ?_ hHeld ?_
            · intro w1 hSw; go_simp
            (try simp only [Act.put, List.setIfInBounds_toArray, List.set_cons_zero, List.set_cons_succ])
            refine takeQ (i := 17) (k := 27) (v := .pointer (some ⟨g, m + 1, none⟩)) rfl (by rfl) (by kernel_rfl) (by kernel_rfl) (by kernel_rfl) (fun _ _ _ h => h) (by rfl) ?_ hHeld ?_
            · intro w1 hSw; go_simp
            (try simp only [Act.put, List.setIfInBounds_toArray, List.set_cons_zero, List.set_cons_succ])
            refine takeQ (i := 18) (k := 28) (v := .string x) rfl (by rfl) (by kernel_rfl) (by kernel_rfl) (by kernel_rfl) (fun _ _ _ h => h) (by rfl) ?_ hHeld ?_
            · intro w1 hSw; (obtain ⟨g2, hgg, _, y0⟩ := row_tx hSw.1 hlt1); (injection hgg with hgg); (injection hgg with hgg); subst hgg; rw [HX.out] at y0; go_simp
            (try simp only [Act.put, List.setIfInBounds_toArray, List.set_cons_zero, List.set_cons_succ])
            refine takeQ (i := 19) (k := 29) (v := .bool (!lt0)) rfl (by rfl) (by kernel_rfl) (by kernel_rfl) (by kernel_rfl) (fun _ _ _ h => h) (by rfl) ?_ hHeld ?_
            · intro w1 hSw; rw [hlm]; go_simp
            (try simp only [Act.put, List.setIfInBounds_toArray, List.set_cons_zero, List.set_cons_succ])
            refine takeQ (i := 20) (k := 30) (v := .bool (!lt0)) rfl (by rfl) (by kernel_rfl) (by kernel_rfl) (by kernel_rfl) (fun _ _ _ h => h) (by rfl) ?_ hHeld ?_
            · intro w1 hSw; go_simp
            (try simp only [Act.put, List.setIfInBounds_toArray, List.set_cons_zero, List.set_cons_succ])
            refine takeQ (i := 21) (k := 31) (v := .bool (!lt0)) rfl (by rfl) (by kernel_rfl) (by kernel_rfl) (by kernel_rfl) (fun _ _ _ h => h) (by rfl) ?_ hHeld ?_
            · intro w1 hSw; go_simp
            (try simp only [Act.put, List.setIfInBounds_toArray, List.set_cons_zero, List.set_cons_succ])
            refine wpAnyH_done (by kernel_rfl) ?_ _
            exact ⟨⟨congrArg Value.bool (show (!lt0) = bad by rw [HBAD.out]; simp), hHeld⟩, by simp only [putAll, Act.put, List.setIfInBounds_toArray, List.set_cons_zero, List.set_cons_succ]; rfl⟩
      · rintro vs W2 ⟨hv, hS⟩
        simp only [putAll, Act.put, List.setIfInBounds_toArray, List.set_cons_zero, List.set_cons_succ, hv]
        have HS := Lib.hid hS.2
        clear hv hS jA
        cases bad
        · have hall : b1 = true ∧ lt0 = true := by
            have h := HBAD.out
            revert h
            cases b1 <;> cases lt0 <;> decide
          have HALL := Lib.hid hall
          clear hall
          go_wp2
          go_roundw
          case rel =>
            refine ⟨k + 1, by omega, by go_num, incT_succ HI.out hlt1 (fun h0 h' => ?_), allT_succ HA.out hlt1 ?_, HS.out⟩
            · have h := HLT1.out (k - 1) (by omega) h'
              rw [HALL.out.2] at h
              rw [HX.out]
              exact h.symm
            · rw [HX.out, HA1.out, HALL.out.1]
          case measure => simp [intOf]; omega
        · have HL : Hid (Z = false) := Lib.hid (by
            rw [← HZ.out]
            refine bkB_false (fun h => ?_)
            have q1 := h.2.2 k hlt1 hlt1
            rw [HX.out, HA1.out] at q1
            have q2 : lt0 = true := by
              rcases Nat.eq_zero_or_pos k with h0 | h0
              · exact HLT0.out h0
              · have hk1 : k - 1 < xs.length := by omega
                rw [HLT1.out (k - 1) (by omega) hk1, ← HX.out]
                exact h.2.1 k hlt1 h0 hlt1 hk1
            have q3 := HBAD.out
            rw [q2, q1] at q3
            cases q3)
          go_wp2
          go_ret
          exact ⟨ret_bool HL.out.symm, HS.out⟩
    · have HL : Hid (Z = decide (n ≤ 8)) := Lib.hid (by
        rw [← HZ.out]
        by_cases h5 : n ≤ 8
        · rw [decide_eq_true h5]
          exact bkB_true ⟨by rw [HN.out]; exact h5, fun i hi h0 h1 h' => HI.out i hi h0 (by rw [HN.out] at hi; omega) h', fun i hi h0 => HA.out i hi (by rw [HN.out] at hi; omega)⟩
        · rw [decide_eq_false h5]
          exact bkB_false (fun h => h5 (by have := h.1; rw [HN.out] at this; exact this)))
      clear hb
      go_wp2
      go_ret
      exact ⟨ret_bool (by rw [HL.out]; simp; omega), HB.out⟩
end Go.Proofs.Ytpjmcpfmnlfmdaa

namespace Go.Proofs.Ytpjmcpfmnlfmdaa
set_option linter.unusedSimpArgs false
set_option linter.unusedVariables false
open Go.RowKit Go.Joins

theorem row_ownX {W : World} {B : Nat} {p : Option Addr} {k n : Nat} {xs : List ByteArray} (h : OwnC strC W B 9 1 (.slice p n k) xs) : RowC strC 1 W p xs := by
  obtain ⟨p', k', e, hR⟩ := h.row strC_len
  injection e with e1 e2 e3
  rw [e1]
  exact hR
theorem own_lenX {W : World} {B : Nat} {v : Value} {xs : List ByteArray} (h : OwnC strC W B 9 1 v xs) : ∃ p k, v = .slice p xs.length k := by
  obtain ⟨p', k', e, hR⟩ := h.row strC_len
  exact ⟨p', k', e⟩
theorem sz_argX {w : World} {a : Option Addr} {len cap : Nat} {xs : List ByteArray} (x0 : TxArg w a len xs) (W : World) (hb : Below w.heap.size w W) :
    Calls Try.prog 27 #[.slice a len cap, .int .i64 1048576] W fun e w' => (∃ z, e = .returned (.int .i64 z) ∧ (z = -1 ∨ (0 ≤ z ∧ z ≤ 1048576) ∧ len ≤ 1048576 ∧ (∀ x ∈ xs, x.size ≤ 1048576))) ∧ Below W.heap.size W w' := by
  obtain ⟨rfl, h2, h3, h4⟩ := x0
  refine (szs_tx xs a cap 1048576 W (by unfold maxLen at h2; omega) (fun x hx => ?_) (by omega) (by omega) (h4.below hb)).mono ?_
  · have := h3 x hx
    unfold maxLen at this
    omega
  · rintro e w' ⟨⟨z, rfl, hz⟩, hb'⟩
    refine ⟨⟨z, rfl, ?_⟩, hb'⟩
    rcases hz with h | ⟨h5, h5b, h6, h7⟩
    · exact .inl h
    · exact .inr ⟨⟨h5, h5b⟩, by omega, fun x hx => by have := h7 x hx; omega⟩
theorem to_argX {w : World} {a : Option Addr} {len cap : Nat} {xs : List ByteArray} (x0 : TxArg w a len xs) (hl : len ≤ 1048576) (W : World) (hb : Below w.heap.size w W) :
    Calls Try.prog 28 #[.slice a len cap] W fun e w' => (∃ p k, e = .returned (.slice p len k) ∧ OwnC strC w' W.heap.size 9 1 (.slice p len k) xs) ∧ Below W.heap.size W w' := by
  obtain ⟨rfl, h2, h3, h4⟩ := x0
  refine (tos_tx xs a cap W hl (h4.below hb)).mono ?_
  rintro e w' ⟨⟨v, rfl, ho⟩, hb'⟩
  obtain ⟨p, k, rfl⟩ := own_lenX ho
  exact ⟨⟨p, k, rfl, ho⟩, hb'⟩
theorem tx_max {xs : List ByteArray} (h : ∀ x ∈ xs, x.size ≤ 1048576) : ∀ x ∈ xs, x.size ≤ maxLen := fun x hx => by have := h x hx; unfold maxLen; omega
theorem tx_two {xs : List ByteArray} (h : ∀ x ∈ xs, x.size ≤ 1048576) : ∀ x ∈ xs, x.size ≤ 2000000 := fun x hx => by have := h x hx; omega
end Go.Proofs.Ytpjmcpfmnlfmdaa

namespace Go.Proofs.Ytpjmcpfmnlfmdaa
set_option linter.unusedSimpArgs false
set_option linter.unusedVariables false
open Go.ChangeShapes Go.WideShapes Go.ChangeAt Go.RowKit Go.Joins

/-- A stanza: kind, type, from, to, id, body. -/
structure MsL where
  k : ByteArray
  t : ByteArray
  f : ByteArray
  o : ByteArray
  n : Int
  b : ByteArray
instance : Inhabited MsL := ⟨⟨ByteArray.empty, ByteArray.empty, ByteArray.empty, ByteArray.empty, 0, ByteArray.empty⟩⟩
def msC (x : MsL) : List Value := [.string x.k, .string x.t, .string x.f, .string x.o, .int .i64 x.n, .string x.b]
theorem msC_len (x : MsL) : (msC x).length = 6 := rfl
theorem msC_one (x : MsL) : ∀ u ∈ msC x, u.oneCell' = true := by
  intro u hu
  simp [msC] at hu
  rcases hu with rfl | rfl | rfl | rfl | rfl | rfl <;> rfl
/-- Strings and numbers as the machine has them. -/
def MsL.wf (x : MsL) : Prop := x.k.size ≤ maxLen ∧ x.t.size ≤ maxLen ∧ x.f.size ≤ maxLen ∧ x.o.size ≤ maxLen ∧ (Lit.int .i64 x.n).wf = true ∧ x.b.size ≤ maxLen
/-- Texts that a law lets in. -/
def MsL.le (m : Nat) (x : MsL) : Prop := x.k.size ≤ m ∧ x.t.size ≤ m ∧ x.f.size ≤ m ∧ x.o.size ≤ m ∧ x.b.size ≤ m
theorem row_ms6 {w : World} {p : Option Addr} {xs : List MsL} (h : RowC msC 6 w p xs) {i : Nat} (hi : i < xs.length) : ∃ g, p = some ⟨g, 0, none⟩ ∧ g < w.heap.size ∧ w.cell? ⟨g, i * 6, none⟩ = some (.string xs[i].k) ∧ w.cell? ⟨g, i * 6 + 1, none⟩ = some (.string xs[i].t) ∧ w.cell? ⟨g, i * 6 + 2, none⟩ = some (.string xs[i].f) ∧ w.cell? ⟨g, i * 6 + 3, none⟩ = some (.string xs[i].o) ∧ w.cell? ⟨g, i * 6 + 4, none⟩ = some (.int .i64 xs[i].n) ∧ w.cell? ⟨g, i * 6 + 5, none⟩ = some (.string xs[i].b) := by
  obtain ⟨g, h1, h2, h3⟩ := h (List.ne_nil_of_length_pos (by omega))
  exact ⟨g, h1, h2, h3 i hi 0 (by decide), h3 i hi 1 (by decide), h3 i hi 2 (by decide), h3 i hi 3 (by decide), h3 i hi 4 (by decide), h3 i hi 5 (by decide)⟩
end Go.Proofs.Ytpjmcpfmnlfmdaa

namespace Go.Proofs.Ytpjmcpfmnlfmdaa
set_option linter.unusedSimpArgs false
set_option linter.unusedVariables false
open Go.ChangeShapes Go.WideShapes Go.ChangeAt Go.RowKit Go.Joins

/-- A slice of sessions among the arguments. -/
def SsArg (W : World) (a : Option Addr) (len : Nat) (ps : List SeL) : Prop := ps.length = len ∧ len ≤ maxLen ∧ (∀ p ∈ ps, p.wf) ∧ RowA seC 4 W a ps
theorem SsArg.below {W W2 : World} {a : Option Addr} {len : Nat} {ps : List SeL} (h : SsArg W a len ps) (hb : Below W.heap.size W W2) : SsArg W2 a len ps := ⟨h.1, h.2.1, h.2.2.1, h.2.2.2.below hb⟩
theorem addr_plainS {w : World} {x : Addr} {v : Value} (h : w.cell? x = some v) : x = ⟨x.block, x.off, none⟩ := by
  obtain ⟨b, off, sp⟩ := x
  cases sp with
  | none => rfl
  | some s =>
    simp [World.cell?] at h
    split at h <;> cases h
theorem mapM_fourS {f : Nat → Option Value} {cs : List Value} (h : (List.range 4).mapM f = some cs) : ∃ c0 c1 c2 c3, cs = [c0, c1, c2, c3] ∧ f 0 = some c0 ∧ f 1 = some c1 ∧ f 2 = some c2 ∧ f 3 = some c3 := by
  rw [show List.range 4 = [0, 1, 2, 3] from rfl] at h
  simp only [List.mapM_cons, List.mapM_nil, Option.bind_eq_bind, Option.pure_def] at h
  cases h0 : f 0 with
  | none => rw [h0] at h; simp at h
  | some c0 =>
    cases h1 : f 1 with
    | none => rw [h0, h1] at h; simp at h
    | some c1 =>
      cases h2 : f 2 with
      | none => rw [h0, h1, h2] at h; simp at h
      | some c2 =>
        cases h3 : f 3 with
        | none => rw [h0, h1, h2, h3] at h; simp at h
        | some c3 =>
          rw [h0, h1, h2, h3] at h
          simp at h
          exact ⟨c0, c1, c2, c3, h.symm, rfl, rfl, rfl, rfl⟩
theorem cells_fourS {W : World} {base : Nat} {a : Addr} {cs : List Value} (h : W.cells? base a 4 = some cs) : ∃ c0 c1 c2 c3, cs = [c0, c1, c2, c3] ∧ W.cell? (a.add 0) = some c0 ∧ W.cell? (a.add 1) = some c1 ∧ W.cell? (a.add 2) = some c2 ∧ W.cell? (a.add 3) = some c3 := by
  unfold World.cells? at h
  split at h
  · exact mapM_fourS h
  · cases h
end Go.Proofs.Ytpjmcpfmnlfmdaa

namespace Go.Proofs.Ytpjmcpfmnlfmdaa
set_option linter.unusedSimpArgs false
set_option linter.unusedVariables false
open Go.RowKit

set_option maxHeartbeats 1000000 in
theorem sz_ms (x : MsL) (left : Int) (w : World) (h0 : (x.k).size ≤ 9223372036854775807) (h1 : (x.t).size ≤ 9223372036854775807) (h2 : (x.f).size ≤ 9223372036854775807) (h3 : (x.o).size ≤ 9223372036854775807) (h4 : (x.b).size ≤ 9223372036854775807) (l0 : 0 ≤ left) (l1 : left ≤ 1048576) :
    Calls Try.prog 71 #[.agg #[.string x.k, .string x.t, .string x.f, .string x.o, .int .i64 x.n, .string x.b], .int .i64 left] w fun e w' => (∃ z, e = .returned (.int .i64 z) ∧ (z = -1 ∨ 0 ≤ z ∧ z = left - (x.k).size - (x.t).size - (x.f).size - (x.o).size - (x.b).size)) ∧ Below w.heap.size w w' := by
  by_cases k0 : left - (x.k).size < 0
  · go_enter Try.func71, Try.ntmps71
    go_wp2
    all_goals (go_ret; exact ⟨⟨_, rfl, .inl rfl⟩, (Below.refl _ _).alloc (Nat.le_refl _) _⟩)
  by_cases k1 : left - (x.k).size - (x.t).size < 0
  · go_enter Try.func71, Try.ntmps71
    go_wp2
    all_goals (go_ret; exact ⟨⟨_, rfl, .inl rfl⟩, (Below.refl _ _).alloc (Nat.le_refl _) _⟩)
  by_cases k2 : left - (x.k).size - (x.t).size - (x.f).size < 0
  · go_enter Try.func71, Try.ntmps71
    go_wp2
    all_goals (go_ret; exact ⟨⟨_, rfl, .inl rfl⟩, (Below.refl _ _).alloc (Nat.le_refl _) _⟩)
  by_cases k3 : left - (x.k).size - (x.t).size - (x.f).size - (x.o).size < 0
  · go_enter Try.func71, Try.ntmps71
    go_wp2
    all_goals (go_ret; exact ⟨⟨_, rfl, .inl rfl⟩, (Below.refl _ _).alloc (Nat.le_refl _) _⟩)
  by_cases k4 : left - (x.k).size - (x.t).size - (x.f).size - (x.o).size - (x.b).size < 0
  · go_enter Try.func71, Try.ntmps71
    go_wp2
    all_goals (go_ret; exact ⟨⟨_, rfl, .inl rfl⟩, (Below.refl _ _).alloc (Nat.le_refl _) _⟩)
  go_enter Try.func71, Try.ntmps71
  go_wp2
  all_goals (go_ret; exact ⟨⟨_, rfl, .inr ⟨by omega, by omega⟩⟩, (Below.refl _ _).alloc (Nat.le_refl _) _⟩)
set_option maxHeartbeats 1000000 in
theorem to_ms (x : MsL) (w : World) : Calls Try.prog 72 #[.agg #[.string x.k, .string x.t, .string x.f, .string x.o, .int .i64 x.n, .string x.b]] w fun e w' => e = .returned (.agg #[.string x.k, .string x.t, .string x.f, .string x.o, .int .i64 x.n, .string x.b]) ∧ Below w.heap.size w w' := by
  go_enter Try.func72, Try.ntmps72
  go_wp2
  exact bodyPost_ret (v := .agg #[.string x.k, .string x.t, .string x.f, .string x.o, .int .i64 x.n, .string x.b]) (by simp [results, Try.results72, go_sem]) rfl ⟨rfl, (((Below.refl _ _).alloc (Nat.le_refl _) _).alloc (by simp) _).alloc (by simp; omega) _⟩
theorem rowA_ms {w : World} {p : Option Addr} {xs : List MsL} (h : RowA msC 6 w p xs) {i : Nat} (hi : i < xs.length) : ∃ g o, p = some ⟨g, o, none⟩ ∧ g < w.heap.size ∧ w.cell? ⟨g, o + i * 6, none⟩ = (msC xs[i])[0]? ∧ w.cell? ⟨g, o + i * 6 + 1, none⟩ = (msC xs[i])[1]? ∧ w.cell? ⟨g, o + i * 6 + 2, none⟩ = (msC xs[i])[2]? ∧ w.cell? ⟨g, o + i * 6 + 3, none⟩ = (msC xs[i])[3]? ∧ w.cell? ⟨g, o + i * 6 + 4, none⟩ = (msC xs[i])[4]? ∧ w.cell? ⟨g, o + i * 6 + 5, none⟩ = (msC xs[i])[5]? := by
  obtain ⟨g, o, h1, h2, h3⟩ := h (List.ne_nil_of_length_pos (by omega))
  refine ⟨g, o, h1, h2, ?_, ?_, ?_, ?_, ?_, ?_⟩
  · exact h3 i hi 0 (by decide)
  · have := h3 i hi 1 (by decide)
    rwa [← Nat.add_assoc] at this
  · have := h3 i hi 2 (by decide)
    rwa [← Nat.add_assoc] at this
  · have := h3 i hi 3 (by decide)
    rwa [← Nat.add_assoc] at this
  · have := h3 i hi 4 (by decide)
    rwa [← Nat.add_assoc] at this
  · have := h3 i hi 5 (by decide)
    rwa [← Nat.add_assoc] at this
def Sz_ms (x : MsL) : Prop := (x.k).size ≤ 9223372036854775807 ∧ (x.t).size ≤ 9223372036854775807 ∧ (x.f).size ≤ 9223372036854775807 ∧ (x.o).size ≤ 9223372036854775807 ∧ (x.b).size ≤ 9223372036854775807
def Le_ms (left : Int) (x : MsL) : Prop := ((x.k).size : Int) ≤ left ∧ ((x.t).size : Int) ≤ left ∧ ((x.f).size : Int) ≤ left ∧ ((x.o).size : Int) ≤ left ∧ ((x.b).size : Int) ≤ left
set_option maxRecDepth 100000 in
set_option maxHeartbeats 1000000 in
theorem szs_ms (xs : List MsL) (p : Option Addr) (cap : Nat) (left : Int) (w : World) (hl : xs.length ≤ 9223372036854775807) (hw : ∀ x ∈ xs, Sz_ms x) (l0 : 0 ≤ left) (l1 : left ≤ 1048576) (hR : RowA msC 6 w p xs) :
    Calls Try.prog 34 #[.slice p xs.length cap, .int .i64 left] w fun e w' => (∃ z, e = .returned (.int .i64 z) ∧ (z = -1 ∨ 0 ≤ z ∧ z ≤ left ∧ (xs.length : Int) ≤ left ∧ ∀ x ∈ xs, Le_ms left x)) ∧ Below w.heap.size w w' := by
  obtain ⟨n, hxn⟩ : ∃ n, xs.length = n := ⟨_, rfl⟩
  have HR := Lib.hid hR
  have HW := Lib.hid hw
  have HN := Lib.hid hxn
  rw [hxn] at hl ⊢
  clear hR hw hxn
  by_cases hbig : left < (n : Int)
  · go_enter Try.func34, Try.ntmps34
    go_wp2
    go_ret
    exact ⟨⟨_, rfl, .inl rfl⟩, Below.refl _ _⟩
  · go_enter Try.func34, Try.ntmps34
    go_wp2
    go_loopw [1, 5] (fun lq iq wr => ∃ (i : Nat) (l : Int), i ≤ n ∧ iq = .int .i64 i ∧ lq = .int .i64 l ∧ 0 ≤ l ∧ l ≤ left ∧ (∀ j (hj : j < xs.length), j < i → Le_ms left xs[j]) ∧ Below w.heap.size w wr) (fun _ i _ => n - (intOf i).toNat)
    case atStart => exact ⟨0, _, Nat.zero_le _, rfl, rfl, by omega, by omega, fun j _ hj => absurd hj (Nat.not_lt_zero _), Below.refl _ _⟩
    case round =>
      obtain ⟨i, l, hi, rfl, rfl, hl0, hl1, hall, hb⟩ := hrel
      have HA := Lib.hid hall
      have HB := Lib.hid hb
      by_cases hlt : i < n
      · have hlt' : i < xs.length := by rw [HN.out]; exact hlt
        obtain ⟨g, o, rfl, hg, a0, a1, a2, a3, a4, a5⟩ := rowA_ms (HR.out.below hb) hlt'
        obtain ⟨x, hx⟩ : ∃ x, xs[i] = x := ⟨_, rfl⟩
        have hxw := HW.out _ (List.getElem_mem hlt')
        have HX := Lib.hid hx
        rw [hx] at a0 a1 a2 a3 a4 a5 hxw
        unfold msC at a0 a1 a2 a3 a4 a5
        simp only [List.getElem?_cons_zero, List.getElem?_cons_succ] at a0 a1 a2 a3 a4 a5
        unfold Sz_ms at hxw
        clear hall hb hx
        go_wp2_with (go_at_call 71; go_fit (sz_ms x _ _ (by omega) (by omega) (by omega) (by omega) (by omega) (by omega) (by omega)); (rintro e w1 ⟨⟨z, rfl, hz⟩, hb1⟩); (rcases hz with rfl | ⟨hz0, hz1⟩))
        · go_ret
          exact ⟨⟨_, rfl, .inl rfl⟩, HB.out.trans (hb1.mono HB.out.size)⟩
        · go_roundw
          case rel =>
            refine ⟨i + 1, _, by omega, by go_num, rfl, by omega, by omega, fun j hj hji => ?_, HB.out.trans (hb1.mono HB.out.size)⟩
            by_cases e : j = i
            · subst e
              rw [HX.out]
              unfold Le_ms
              omega
            · exact HA.out j hj (by omega)
          case measure => simp [intOf]; omega
      · obtain rfl : i = n := by omega
        go_wp2
        go_ret
        refine ⟨⟨_, rfl, .inr ⟨hl0, hl1, by omega, fun x hx => ?_⟩⟩, HB.out⟩
        obtain ⟨j, hj, rfl⟩ := List.mem_iff_getElem.1 hx
        exact HA.out j hj (by rw [← HN.out]; exact hj)
/-- So many elements have been copied. -/
def Cop_ms (xs : List MsL) (g n i : Nat) (W : World) : Prop := ∃ L, Arr W g 41 L ∧ L.length = n * 6 ∧ ∀ i' (h : i' < xs.length), i' < i → ∀ j, j < 6 → L[i' * 6 + j]? = (msC xs[i'])[j]?
theorem Cop_ms.on {xs : List MsL} {g n i : Nat} {W W2 : World} (h : Cop_ms xs g n i W) (hb : Below W.heap.size W W2) : Cop_ms xs g n i W2 := by
  obtain ⟨L, h1, h2⟩ := h
  exact ⟨L, (hb.block g (Array.getElem?_eq_some_iff.1 h1).1).trans h1, h2⟩
theorem Cop_ms.there {xs : List MsL} {g n i q : Nat} {W : World} (h : Cop_ms xs g n i W) (hq : q < n * 6) : (∃ u, W.cell? ⟨g, q, none⟩ = some u) ∧ W.frozen? ⟨g, q, none⟩ = false := by
  obtain ⟨L, h1, h2, _⟩ := h
  rw [h1.cell, h1.free]
  exact ⟨⟨L[q]'(by omega), List.getElem?_eq_getElem _⟩, rfl⟩
theorem Cop_ms.step {xs : List MsL} {g n i : Nat} {W : World} (h : Cop_ms xs g n i W) (hi : i < n) {x : MsL} (hx : xs[i]? = some x) : Cop_ms xs g n (i + 1) ((((((W.setCell ⟨g, i * 6, none⟩ (.string x.k)).setCell ⟨g, i * 6 + 1, none⟩ (.string x.t)).setCell ⟨g, i * 6 + 2, none⟩ (.string x.f)).setCell ⟨g, i * 6 + 3, none⟩ (.string x.o)).setCell ⟨g, i * 6 + 4, none⟩ (.int .i64 x.n)).setCell ⟨g, i * 6 + 5, none⟩ (.string x.b)) := by
  obtain ⟨L, h1, h2, h3⟩ := h
  refine ⟨_, (((((h1.put (i * 6) _).put (i * 6 + 1) _).put (i * 6 + 2) _).put (i * 6 + 3) _).put (i * 6 + 4) _).put (i * 6 + 5) _, by simpa using h2, fun i' hi' hlt j hj => ?_⟩
  by_cases e : i' = i
  · subst e
    have ex : xs[i'] = x := by rw [List.getElem?_eq_getElem hi'] at hx; exact Option.some.inj hx
    rw [ex]
    match j, hj with
    | 0, _ => rw [show i' * 6 + 0 = i' * 6 from rfl]; rw [List.getElem?_set_ne (by omega)]; rw [List.getElem?_set_ne (by omega)]; rw [List.getElem?_set_ne (by omega)]; rw [List.getElem?_set_ne (by omega)]; rw [List.getElem?_set_ne (by omega)]; rw [List.getElem?_set_self (by first | omega | (simp; omega))]; rfl
    | 1, _ => rw [List.getElem?_set_ne (by omega)]; rw [List.getElem?_set_ne (by omega)]; rw [List.getElem?_set_ne (by omega)]; rw [List.getElem?_set_ne (by omega)]; rw [List.getElem?_set_self (by first | omega | (simp; omega))]; rfl
    | 2, _ => rw [List.getElem?_set_ne (by omega)]; rw [List.getElem?_set_ne (by omega)]; rw [List.getElem?_set_ne (by omega)]; rw [List.getElem?_set_self (by first | omega | (simp; omega))]; rfl
    | 3, _ => rw [List.getElem?_set_ne (by omega)]; rw [List.getElem?_set_ne (by omega)]; rw [List.getElem?_set_self (by first | omega | (simp; omega))]; rfl
    | 4, _ => rw [List.getElem?_set_ne (by omega)]; rw [List.getElem?_set_self (by first | omega | (simp; omega))]; rfl
    | 5, _ => rw [List.getElem?_set_self (by first | omega | (simp; omega))]; rfl
  · have := h3 i' hi' (by omega) j hj
    rw [List.getElem?_set_ne (by omega), List.getElem?_set_ne (by omega), List.getElem?_set_ne (by omega), List.getElem?_set_ne (by omega), List.getElem?_set_ne (by omega), List.getElem?_set_ne (by omega)]
    exact this
theorem Cop_ms.own {xs : List MsL} {g n B : Nat} {W : World} (h : Cop_ms xs g n n W) (hn : xs.length = n) (hB : B ≤ g) (hm : n ≤ 1048576) : OwnC msC W B 41 6 (.slice (some ⟨g, 0, none⟩) n n) xs := by
  obtain ⟨L, h1, h2, h3⟩ := h
  have e : L = xs.flatMap msC := by
    apply List.ext_getElem?
    intro q
    by_cases hq : q < n * 6
    · have h4 := h3 (q / 6) (by rw [hn]; omega) (by omega) (q % 6) (by omega)
      rw [show q / 6 * 6 + q % 6 = q by omega] at h4
      rw [h4]
      have h5 := flat_at (enc := msC) (size := 6) (fun _ => rfl) xs (q / 6) (q % 6) (by rw [hn]; omega) (by omega)
      rw [show q / 6 * 6 + q % 6 = q by omega] at h5
      exact h5.symm
    · rw [List.getElem?_eq_none (by omega), List.getElem?_eq_none]
      rw [flat_len (enc := msC) (size := 6) (fun _ => rfl), hn]
      omega
  refine ⟨by rw [flat_len (enc := msC) (size := 6) (fun _ => rfl)], .inr ⟨g, n, L.toArray, by rw [hn], hB, h1, by omega, by unfold maxLen; omega, by simpa using h2, ?_⟩⟩
  rw [← e, List.take_of_length_le (by simp; rw [h2, hn]; omega)]
theorem cop_ms_start {xs : List MsL} {w w1 : World} {z : Array Value} {n B : Nat} (h : w1.ownsRow B 41 6 (.slice (some ⟨w.heap.size, 0, none⟩) n n) n (madeCells z (n * 6)).toList) : Cop_ms xs w.heap.size n 0 w1 := by
  rcases h.2 with ⟨h0, _⟩ | ⟨g, cap, cur, h1, h2, h3, h4, h5, h6, h7⟩
  · cases h0
  · injection h1 with e1 e2 e3
    injection e1 with e1
    injection e1 with e1
    subst e1 e3
    exact ⟨cur.toList, h3, by simpa using h6, fun i' _ hi' => absurd hi' (Nat.not_lt_zero _)⟩
theorem info_ms : (Try.prog.info? 41).map (fun i => (i.zero, i.size, i.bytes)) = some (some (.agg #[.string ⟨#[]⟩, .string ⟨#[]⟩, .string ⟨#[]⟩, .string ⟨#[]⟩, .int .i64 0, .string ⟨#[]⟩]), 6, 88) := by kernel_rfl
set_option maxRecDepth 100000 in
set_option maxHeartbeats 1000000 in
theorem tos_ms (xs : List MsL) (p : Option Addr) (cap : Nat) (w : World) (hl : xs.length ≤ 1048576) (hR : RowA msC 6 w p xs) :
    Calls Try.prog 35 #[.slice p xs.length cap] w fun e w' => (∃ v, e = .returned v ∧ OwnC msC w' w.heap.size 41 6 v xs) ∧ Below w.heap.size w w' := by
  obtain ⟨n, hxn⟩ : ∃ n, xs.length = n := ⟨_, rfl⟩
  have HR := Lib.hid hR
  have HN := Lib.hid hxn
  rw [hxn] at hl ⊢
  clear hR hxn
  obtain ⟨i0, hi, hz0, hz1, hz2⟩ := info_parts info_ms
  go_enter Try.func35, Try.ntmps35
  go_wp2_with (refine wpList_make_full _ rfl (.tmp 6) (.tmp 6) 34 rfl w.heap.size 41 i0 (.agg #[.string ⟨#[]⟩, .string ⟨#[]⟩, .string ⟨#[]⟩, .string ⟨#[]⟩, .int .i64 0, .string ⟨#[]⟩]) 6 Try.underlying34 hi hz0 hz1 .i64 .i64 _ _ n rfl rfl rfl rfl (by rw [hz2]; omega) (by unfold maxLen; omega) (Nat.le_refl _) ?_; intro w1 ho1 hg1)
  have HC0 : Hid (Cop_ms xs w.heap.size n 0 w1) := Lib.hid (cop_ms_start ho1)
  have HB0 : Hid (Below w.heap.size w w1) := Lib.hid ((Below.refl _ _).grown hg1 (Nat.le_refl _) (fun k hk => by cases hk))
  have hsz0 := HB0.out.size
  have hgz : w.heap.size < w1.heap.size := (ho1.lt w.heap.size rfl).2
  clear ho1 hg1
  go_loopw [4] (fun iq wr => ∃ i : Nat, i ≤ n ∧ iq = .int .i64 i ∧ Cop_ms xs w.heap.size n i wr ∧ Below w.heap.size w wr) (fun i _ => n - (intOf i).toNat)
  case atStart => exact ⟨0, Nat.zero_le _, rfl, HC0.out, HB0.out⟩
  case round =>
    obtain ⟨i, hi', rfl, hC, hb⟩ := hrel
    have HC := Lib.hid hC
    have HB := Lib.hid hb
    by_cases hlt : i < n
    · have hlt' : i < xs.length := by rw [HN.out]; exact hlt
      obtain ⟨g, o, rfl, hg, a0, a1, a2, a3, a4, a5⟩ := rowA_ms HR.out hlt'
      obtain ⟨x, hx⟩ : ∃ x, xs[i] = x := ⟨_, rfl⟩
      have HX : Hid (xs[i]? = some x) := Lib.hid (by rw [List.getElem?_eq_getElem hlt', hx])
      rw [hx] at a0 a1 a2 a3 a4 a5
      replace a0 := (hb.cell (p := ⟨g, o + i * 6, none⟩) hg).trans a0; replace a1 := (hb.cell (p := ⟨g, o + i * 6 + 1, none⟩) hg).trans a1; replace a2 := (hb.cell (p := ⟨g, o + i * 6 + 2, none⟩) hg).trans a2; replace a3 := (hb.cell (p := ⟨g, o + i * 6 + 3, none⟩) hg).trans a3; replace a4 := (hb.cell (p := ⟨g, o + i * 6 + 4, none⟩) hg).trans a4; replace a5 := (hb.cell (p := ⟨g, o + i * 6 + 5, none⟩) hg).trans a5
      unfold msC at a0 a1 a2 a3 a4 a5
      simp only [List.getElem?_cons_zero, List.getElem?_cons_succ] at a0 a1 a2 a3 a4 a5
      clear hb hC hx
      go_wp2_with (go_at_call 72; go_fit (to_ms x _); rintro e w2 ⟨rfl, hb2⟩; have HC1 := Lib.hid (HC.out.on hb2); have HB1 := Lib.hid (HB.out.trans (hb2.mono HB.out.size)); clear hb2; obtain ⟨⟨v0, d0⟩, f0⟩ := HC1.out.there (q := i * 6) (by omega); obtain ⟨⟨v1, d1⟩, f1⟩ := HC1.out.there (q := i * 6 + 1) (by omega); obtain ⟨⟨v2, d2⟩, f2⟩ := HC1.out.there (q := i * 6 + 2) (by omega); obtain ⟨⟨v3, d3⟩, f3⟩ := HC1.out.there (q := i * 6 + 3) (by omega); obtain ⟨⟨v4, d4⟩, f4⟩ := HC1.out.there (q := i * 6 + 4) (by omega); obtain ⟨⟨v5, d5⟩, f5⟩ := HC1.out.there (q := i * 6 + 5) (by omega))
      go_roundw
      case rel => exact ⟨i + 1, by omega, by go_num, HC1.out.step hlt HX.out, (((((HB1.out.setCell (p := ⟨w.heap.size, i * 6, none⟩) (Nat.le_refl _) _).setCell (p := ⟨w.heap.size, i * 6 + 1, none⟩) (Nat.le_refl _) _).setCell (p := ⟨w.heap.size, i * 6 + 2, none⟩) (Nat.le_refl _) _).setCell (p := ⟨w.heap.size, i * 6 + 3, none⟩) (Nat.le_refl _) _).setCell (p := ⟨w.heap.size, i * 6 + 4, none⟩) (Nat.le_refl _) _).setCell (p := ⟨w.heap.size, i * 6 + 5, none⟩) (Nat.le_refl _) _⟩
      case measure => simp [intOf]; omega
    · obtain rfl : i = n := by omega
      go_wp2
      go_ret
      exact ⟨⟨_, rfl, HC.out.own HN.out (Nat.le_refl _) hl⟩, HB.out⟩
end Go.Proofs.Ytpjmcpfmnlfmdaa

namespace Go.Proofs.Ytpjmcpfmnlfmdaa
set_option linter.unusedSimpArgs false
set_option linter.unusedVariables false
open Go.RowKit

set_option maxRecDepth 100000 in
set_option maxHeartbeats 1000000 in
theorem eq_ms (x : MsL) (w : World) : Calls Try.prog 73 #[.agg #[.string x.k, .string x.t, .string x.f, .string x.o, .int .i64 x.n, .string x.b], .agg #[.string x.k, .string x.t, .string x.f, .string x.o, .int .i64 x.n, .string x.b]] w fun e w' => e = .returned (.bool true) ∧ Below w.heap.size w w' := by
  go_enter Try.func73, Try.ntmps73
  go_wp2
  go_ret
  exact ⟨rfl, ((Below.refl _ _).alloc (Nat.le_refl _) _).alloc (by simp) _⟩
abbrev Both_ms (a b i : Nat) (x : MsL) (wr W : World) : Prop := ((W.cell? ⟨a, i * 6, none⟩ = some (.string x.k) ∧ W.cell? ⟨a, i * 6 + 1, none⟩ = some (.string x.t) ∧ W.cell? ⟨a, i * 6 + 2, none⟩ = some (.string x.f) ∧ W.cell? ⟨a, i * 6 + 3, none⟩ = some (.string x.o) ∧ W.cell? ⟨a, i * 6 + 4, none⟩ = some (.int .i64 x.n) ∧ W.cell? ⟨a, i * 6 + 5, none⟩ = some (.string x.b)) ∧ (W.cell? ⟨b, i * 6, none⟩ = some (.string x.k) ∧ W.cell? ⟨b, i * 6 + 1, none⟩ = some (.string x.t) ∧ W.cell? ⟨b, i * 6 + 2, none⟩ = some (.string x.f) ∧ W.cell? ⟨b, i * 6 + 3, none⟩ = some (.string x.o) ∧ W.cell? ⟨b, i * 6 + 4, none⟩ = some (.int .i64 x.n) ∧ W.cell? ⟨b, i * 6 + 5, none⟩ = some (.string x.b))) ∧ (Below wr.heap.size wr W ∧ a < wr.heap.size ∧ b < wr.heap.size)
theorem both_ms_on {a b i : Nat} {x : MsL} {wr W W2 : World} (h : Both_ms a b i x wr W) (hb : Below W.heap.size W W2) : Both_ms a b i x wr W2 := by
  obtain ⟨⟨⟨c0, c1, c2, c3, c4, c5⟩, d0, d1, d2, d3, d4, d5⟩, h1, h2, h3⟩ := h
  have ha : a < W.heap.size := Nat.lt_of_lt_of_le h2 h1.size
  have hb0 : b < W.heap.size := Nat.lt_of_lt_of_le h3 h1.size
  exact ⟨⟨⟨(hb.cell (p := ⟨a, i * 6, none⟩) ha).trans c0, (hb.cell (p := ⟨a, i * 6 + 1, none⟩) ha).trans c1, (hb.cell (p := ⟨a, i * 6 + 2, none⟩) ha).trans c2, (hb.cell (p := ⟨a, i * 6 + 3, none⟩) ha).trans c3, (hb.cell (p := ⟨a, i * 6 + 4, none⟩) ha).trans c4, (hb.cell (p := ⟨a, i * 6 + 5, none⟩) ha).trans c5⟩, (hb.cell (p := ⟨b, i * 6, none⟩) hb0).trans d0, (hb.cell (p := ⟨b, i * 6 + 1, none⟩) hb0).trans d1, (hb.cell (p := ⟨b, i * 6 + 2, none⟩) hb0).trans d2, (hb.cell (p := ⟨b, i * 6 + 3, none⟩) hb0).trans d3, (hb.cell (p := ⟨b, i * 6 + 4, none⟩) hb0).trans d4, (hb.cell (p := ⟨b, i * 6 + 5, none⟩) hb0).trans d5⟩, h1.trans (hb.mono h1.size), h2, h3⟩
theorem both_ms_drew {a b i : Nat} {x : MsL} {wr W : World} (h : Both_ms a b i x wr W) : Both_ms a b i x wr W.drew := both_ms_on h (Below.refl _ _).drew
theorem row_ms {w : World} {p : Option Addr} {xs : List MsL} (h : RowC msC 6 w p xs) {i : Nat} (hi : i < xs.length) : ∃ g, p = some ⟨g, 0, none⟩ ∧ g < w.heap.size ∧ w.cell? ⟨g, i * 6, none⟩ = (msC xs[i])[0]? ∧ w.cell? ⟨g, i * 6 + 1, none⟩ = (msC xs[i])[1]? ∧ w.cell? ⟨g, i * 6 + 2, none⟩ = (msC xs[i])[2]? ∧ w.cell? ⟨g, i * 6 + 3, none⟩ = (msC xs[i])[3]? ∧ w.cell? ⟨g, i * 6 + 4, none⟩ = (msC xs[i])[4]? ∧ w.cell? ⟨g, i * 6 + 5, none⟩ = (msC xs[i])[5]? := by
  obtain ⟨g, h1, h2, h3⟩ := h (List.ne_nil_of_length_pos (by omega))
  exact ⟨g, h1, h2, h3 i hi 0 (by decide), h3 i hi 1 (by decide), h3 i hi 2 (by decide), h3 i hi 3 (by decide), h3 i hi 4 (by decide), h3 i hi 5 (by decide)⟩
set_option maxRecDepth 100000 in
set_option maxHeartbeats 2000000 in
theorem eqs_ms (xs : List MsL) (p q : Option Addr) (c d : Nat) (w : World) (hn : xs.length ≤ 2000000) (hp : RowC msC 6 w p xs) (hq : RowC msC 6 w q xs) :
    Calls Try.prog 36 #[.slice p xs.length c, .slice q xs.length d] w fun e w' => e = .returned (.bool true) ∧ Below w.heap.size w w' := by
  obtain ⟨n, hxn⟩ : ∃ n, xs.length = n := ⟨_, rfl⟩
  have HP := Lib.hid hp
  have HQ := Lib.hid hq
  have HN := Lib.hid hxn
  rw [hxn] at hn ⊢
  clear hp hq hxn
  go_enter Try.func36, Try.ntmps36
  go_wp2
  go_loopw [5] (fun iq wr => ∃ i : Nat, i ≤ n ∧ iq = .int .i64 i ∧ Below w.heap.size w wr) (fun i _ => n - (intOf i).toNat)
  case atStart => exact ⟨0, Nat.zero_le _, rfl, Below.refl _ _⟩
  case round =>
    obtain ⟨i, hi, rfl, hb⟩ := hrel
    have HB := Lib.hid hb
    by_cases hlt : i < n
    · obtain ⟨a, rfl, ha, a0, a1, a2, a3, a4, a5⟩ := row_ms HP.out (i := i) (by rw [HN.out]; exact hlt)
      obtain ⟨b, rfl, hb0, b0, b1, b2, b3, b4, b5⟩ := row_ms HQ.out (i := i) (by rw [HN.out]; exact hlt)
      obtain ⟨x, hx⟩ : ∃ x, xs[i]'(by rw [HN.out]; exact hlt) = x := ⟨_, rfl⟩
      rw [hx] at a0 b0 a1 b1 a2 b2 a3 b3 a4 b4 a5 b5
      have HS : Hid (Both_ms a b i x wr wr) := Lib.hid ⟨⟨⟨(hb.cell (p := ⟨a, i * 6, none⟩) ha).trans a0, (hb.cell (p := ⟨a, i * 6 + 1, none⟩) ha).trans a1, (hb.cell (p := ⟨a, i * 6 + 2, none⟩) ha).trans a2, (hb.cell (p := ⟨a, i * 6 + 3, none⟩) ha).trans a3, (hb.cell (p := ⟨a, i * 6 + 4, none⟩) ha).trans a4, (hb.cell (p := ⟨a, i * 6 + 5, none⟩) ha).trans a5⟩, (hb.cell (p := ⟨b, i * 6, none⟩) hb0).trans b0, (hb.cell (p := ⟨b, i * 6 + 1, none⟩) hb0).trans b1, (hb.cell (p := ⟨b, i * 6 + 2, none⟩) hb0).trans b2, (hb.cell (p := ⟨b, i * 6 + 3, none⟩) hb0).trans b3, (hb.cell (p := ⟨b, i * 6 + 4, none⟩) hb0).trans b4, (hb.cell (p := ⟨b, i * 6 + 5, none⟩) hb0).trans b5⟩, Below.refl _ _, Nat.lt_of_lt_of_le ha hb.size, Nat.lt_of_lt_of_le hb0 hb.size⟩
      clear hb a0 b0 a1 b1 a2 b2 a3 b3 a4 b4 a5 b5 hx ha hb0
      go_wp2
      go_region_held3 (fun W => ((W.cell? ⟨a, i * 6, none⟩ = some (.string x.k) ∧ W.cell? ⟨a, i * 6 + 1, none⟩ = some (.string x.t) ∧ W.cell? ⟨a, i * 6 + 2, none⟩ = some (.string x.f) ∧ W.cell? ⟨a, i * 6 + 3, none⟩ = some (.string x.o) ∧ W.cell? ⟨a, i * 6 + 4, none⟩ = some (.int .i64 x.n) ∧ W.cell? ⟨a, i * 6 + 5, none⟩ = some (.string x.b)) ∧ (W.cell? ⟨b, i * 6, none⟩ = some (.string x.k) ∧ W.cell? ⟨b, i * 6 + 1, none⟩ = some (.string x.t) ∧ W.cell? ⟨b, i * 6 + 2, none⟩ = some (.string x.f) ∧ W.cell? ⟨b, i * 6 + 3, none⟩ = some (.string x.o) ∧ W.cell? ⟨b, i * 6 + 4, none⟩ = some (.int .i64 x.n) ∧ W.cell? ⟨b, i * 6 + 5, none⟩ = some (.string x.b))) ∧ (Below wr.heap.size wr W ∧ a < wr.heap.size ∧ b < wr.heap.size))
        (with_reducible first | assumption | exact both_ms_drew HS.out | exact both_ms_on (by assumption) hbN)
        (first | (go_at_call 73; go_fit (eq_ms x _); rintro e wn ⟨rfl, hbN⟩; have HF := Lib.hid (both_ms_on (i := i) (wr := wr) (by assumption) hbN)))
      go_wp2
      go_roundw
      case rel => exact ⟨i + 1, by omega, by go_num, HB.out.trans (HF.out.2.1.mono HB.out.size)⟩
      case measure => simp [intOf]; omega
    · obtain rfl : i = n := by omega
      go_wp2
      go_ret
      exact ⟨rfl, HB.out⟩
end Go.Proofs.Ytpjmcpfmnlfmdaa

namespace Go.Proofs.Ytpjmcpfmnlfmdaa
set_option linter.unusedSimpArgs false
set_option linter.unusedVariables false
open Go.RowKit

end Go.Proofs.Ytpjmcpfmnlfmdaa

namespace Go.Proofs.Ytpjmcpfmnlfmdaa
set_option linter.unusedSimpArgs false
set_option linter.unusedVariables false
open Go.RowKit

end Go.Proofs.Ytpjmcpfmnlfmdaa

namespace Go.Proofs.Ytpjmcpfmnlfmdaa
set_option linter.unusedSimpArgs false
set_option linter.unusedVariables false
open Go.RowKit

end Go.Proofs.Ytpjmcpfmnlfmdaa

namespace Go.Proofs.Ytpjmcpfmnlfmdaa
set_option linter.unusedSimpArgs false
set_option linter.unusedVariables false
open Go.RowKit

end Go.Proofs.Ytpjmcpfmnlfmdaa

namespace Go.Proofs.Ytpjmcpfmnlfmdaa
set_option linter.unusedSimpArgs false
set_option linter.unusedVariables false
open Go.RowKit

end Go.Proofs.Ytpjmcpfmnlfmdaa

namespace Go.Proofs.Ytpjmcpfmnlfmdaa
set_option linter.unusedSimpArgs false
set_option linter.unusedVariables false
open Go.RowKit

end Go.Proofs.Ytpjmcpfmnlfmdaa

namespace Go.Proofs.Ytpjmcpfmnlfmdaa
set_option linter.unusedSimpArgs false
set_option linter.unusedVariables false
open Go.RowKit Go.Joins

end Go.Proofs.Ytpjmcpfmnlfmdaa

namespace Go.Proofs.Ytpjmcpfmnlfmdaa
set_option linter.unusedSimpArgs false
set_option linter.unusedVariables false
open Go.RowKit

end Go.Proofs.Ytpjmcpfmnlfmdaa

namespace Go.Proofs.Ytpjmcpfmnlfmdaa
set_option linter.unusedSimpArgs false
set_option linter.unusedVariables false
open Go.RowKit Go.Joins

theorem arr9_on {w w1 : World} {b t : Nat} {cs : List Value} (h : Arr w b t cs) (hb : Below w.heap.size w w1) : Arr w1 b t cs := (hb.block b (Array.getElem?_eq_some_iff.1 h).1).trans h
end Go.Proofs.Ytpjmcpfmnlfmdaa

namespace Go.Proofs.Ytpjmcpfmnlfmdaa
set_option linter.unusedSimpArgs false
set_option linter.unusedVariables false
open Go.RowKit Go.Joins

theorem arr9_lt {w : World} {b t : Nat} {cs : List Value} (h : Arr w b t cs) : b < w.heap.size := (Array.getElem?_eq_some_iff.1 h).1
/-- An element is stored. -/
def put9 (W : World) (g i : Nat) (y : SeL) : World := (((W.setCell ⟨g, i * 4, none⟩ (.string y.r)).setCell ⟨g, i * 4 + 1, none⟩ (.bool y.o)).setCell ⟨g, i * 4 + 2, none⟩ (.int .i64 y.p)).setCell ⟨g, i * 4 + 3, none⟩ (.string y.s)
end Go.Proofs.Ytpjmcpfmnlfmdaa

namespace Go.Proofs.Ytpjmcpfmnlfmdaa
set_option linter.unusedSimpArgs false
set_option linter.unusedVariables false
open Go.RowKit Go.Joins

end Go.Proofs.Ytpjmcpfmnlfmdaa

namespace Go.Proofs.Ytpjmcpfmnlfmdaa
set_option linter.unusedSimpArgs false
set_option linter.unusedVariables false
open Go.RowKit

end Go.Proofs.Ytpjmcpfmnlfmdaa

namespace Go.Proofs.Ytpjmcpfmnlfmdaa
set_option linter.unusedSimpArgs false
set_option linter.unusedVariables false
open Go.RowKit Go.Joins

end Go.Proofs.Ytpjmcpfmnlfmdaa

namespace Go.Proofs.Ytpjmcpfmnlfmdaa
set_option linter.unusedSimpArgs false
set_option linter.unusedVariables false
open Go.RowKit Go.Joins

end Go.Proofs.Ytpjmcpfmnlfmdaa

namespace Go.Proofs.Ytpjmcpfmnlfmdaa
set_option linter.unusedSimpArgs false
set_option linter.unusedVariables false
open Go.RowKit Go.Joins

end Go.Proofs.Ytpjmcpfmnlfmdaa

namespace Go.Proofs.Ytpjmcpfmnlfmdaa
set_option linter.unusedSimpArgs false
set_option linter.unusedVariables false
open Go.RowKit Go.Joins

/-- An answer: texts, code. -/
structure BoL where
  l : List ByteArray
  c : Int
theorem arrX_two {w : World} {b t : Nat} {a0 a1 : Value} (h : Arr w b t [a0, a1]) : (w.cell? ⟨b, 0, none⟩ = some a0 ∧ w.cell? ⟨b, 1, none⟩ = some a1) ∧ w.frozen? ⟨b, 0, none⟩ = false ∧ w.frozen? ⟨b, 1, none⟩ = false := ⟨⟨h.cell 0, h.cell 1⟩, h.free 0, h.free 1⟩
theorem arrX_lt {w : World} {b t : Nat} {cs : List Value} (h : Arr w b t cs) : b < w.heap.size := (Array.getElem?_eq_some_iff.1 h).1
theorem arrX_on {w w1 : World} {b t : Nat} {cs : List Value} (h : Arr w b t cs) (hb : Below w.heap.size w w1) : Arr w1 b t cs := (hb.block b (arrX_lt h)).trans h
end Go.Proofs.Ytpjmcpfmnlfmdaa

namespace Go.Proofs.Ytpjmcpfmnlfmdaa
set_option linter.unusedSimpArgs false
set_option linter.unusedVariables false
open Go.RowKit Go.Joins

def boC (R : BoL) (p : Option Addr) (k : Nat) : List Value := [.slice p R.l.length k, .int .i64 R.c]
theorem mark_xsX (xs : List ByteArray) (n : Nat) (hxn : xs.length = n) (p : Option Addr) (k B : Nat) (w : World) (hn : n ≤ 1048576) (hB : B ≤ w.heap.size) (h : OwnC strC w B 9 1 (.slice p n k) xs) :
    Calls Try.prog 31 #[.slice p n k, .int .i64 1] w fun e w' => e = .returned (.int .i64 (1 + n)) ∧ MFrame B (.slice p n k) w w' := by
  subst hxn
  refine (marks_ss B 1 (.slice p xs.length k) xs w (by decide) (by decide) (by omega) hB h).mono ?_
  rintro e w' ⟨rfl, _, hF⟩
  exact ⟨rfl, hF⟩
/-- An answer in a box of the law's. -/
def OutX (b B : Nat) (W : World) (R : BoL) (p : Option Addr) (k : Nat) : Prop := Arr W b 27 (boC R p k) ∧ OwnC strC W B 9 1 (.slice p R.l.length k) R.l
theorem OutX.on {b B : Nat} {W W2 : World} {R : BoL} {p : Option Addr} {k : Nat} (h : OutX b B W R p k) (hb : Below W.heap.size W W2) : OutX b B W2 R p k := ⟨arrX_on h.1 hb, h.2.on hb⟩
theorem OutX.new {B : Nat} {W : World} {R : BoL} {p : Option Addr} {k : Nat} (h : OwnC strC W B 9 1 (.slice p R.l.length k) R.l) : OutX W.heap.size B (W.alloc (.cells (boC R p k).toArray 27)) R p k := ⟨Arr.fresh W _ _, h.alloc _⟩
theorem OutX.two {b B : Nat} {W : World} {R : BoL} {p : Option Addr} {k : Nat} (h : OutX b B W R p k) : (W.cell? ⟨b, 0, none⟩ = some (.slice p R.l.length k) ∧ W.cell? ⟨b, 1, none⟩ = some (.int .i64 R.c)) ∧ b < W.heap.size := ⟨(arrX_two h.1).1, arrX_lt h.1⟩
theorem mown_frameX {α : Type} {enc : α → List Value} {B B2 e size : Nat} {v u : Value} {xs : List α} {w W : World} (h : MFrame B v w W) (ho : OwnC enc w B2 e size u xs) (hne : ∀ a b, v.ownBlock = some a → u.ownBlock = some b → b ≠ a) : OwnC enc W B2 e size u xs := by
  refine ⟨ho.1, ?_⟩
  rcases ho.2 with h0 | ⟨g, cap, cur, h1, h2, h3, h4⟩
  · exact .inl h0
  · refine .inr ⟨g, cap, cur, h1, h2, (h.2.2 g (Array.getElem?_eq_some_iff.1 h3).1 (fun a ha => hne a g ha (by rw [h1]; rfl))).trans h3, h4⟩
/-- A row of sessions is no box of an answer. -/
theorem own_neX {w : World} {B b : Nat} {v : Value} {xs : List ByteArray} {cs : List Value} (h : OwnC strC w B 9 1 v xs) (hA : Arr w b 27 cs) : ∀ g, v.ownBlock = some g → b ≠ g := by
  intro g hg e
  subst e
  rcases h.2 with ⟨h0, _⟩ | ⟨g', cap, cur, h1, h2, h3, h4⟩
  · rw [h0] at hg; cases hg
  · rw [h1] at hg
    injection hg with hg
    have hg : g' = b := hg
    subst hg
    unfold Arr at hA
    rw [h3] at hA
    injection hA with hA
    injection hA with _ hA
    cases hA
/-- Another row is marked. -/
theorem OutX.mark {b B B2 B3 : Nat} {W W2 : World} {R : BoL} {p : Option Addr} {k : Nat} {v : Value} {xs : List ByteArray} (h : OutX b B W R p k) (hF : MFrame B3 v W W2) (hv : OwnC strC W B2 9 1 v xs)
    (hne : ∀ a g, v.ownBlock = some a → (Value.slice p R.l.length k).ownBlock = some g → g ≠ a) : OutX b B W2 R p k := ⟨hF.arr h.1 (own_neX hv h.1), mown_frameX hF h.2 hne⟩
end Go.Proofs.Ytpjmcpfmnlfmdaa

namespace Go.Proofs.Ytpjmcpfmnlfmdaa
set_option linter.unusedSimpArgs false
set_option linter.unusedVariables false
open Go.RowKit

def mk_ms (q k : Nat) : Value := if q % 6 = 4 then .int .i64 (k : Int) else .string (mkT k)
theorem mk_ms_s {q k : Nat} {z : Int} (h4 : q % 6 ≠ 4) (hz : z.toNat = k) : Value.string (mkT z.toNat) = mk_ms q k := by
  unfold mk_ms
  rw [if_neg h4, hz]
theorem mk_ms_4 {q k : Nat} {z : Int} (h : q % 6 = 4) (hz : z = (k : Int)) : Value.int .i64 z = mk_ms q k := by
  unfold mk_ms
  rw [if_pos h, hz]
theorem MRow.ms {f : Nat → Nat → Value} {k B e g n cap m : Nat} {w W : World} (h : MRow f k w B e 6 g n cap W m) {i : Nat} (hi : i < n) : ∃ u0 u1 u2 u3 u4 u5, (W.cell? ⟨g, i * 6, none⟩ = some u0 ∧ W.cell? ⟨g, i * 6 + 1, none⟩ = some u1 ∧ W.cell? ⟨g, i * 6 + 2, none⟩ = some u2 ∧ W.cell? ⟨g, i * 6 + 3, none⟩ = some u3 ∧ W.cell? ⟨g, i * 6 + 4, none⟩ = some u4 ∧ W.cell? ⟨g, i * 6 + 5, none⟩ = some u5) ∧ W.frozen? ⟨g, i * 6, none⟩ = false ∧ W.frozen? ⟨g, i * 6 + 1, none⟩ = false ∧ W.frozen? ⟨g, i * 6 + 2, none⟩ = false ∧ W.frozen? ⟨g, i * 6 + 3, none⟩ = false ∧ W.frozen? ⟨g, i * 6 + 4, none⟩ = false ∧ W.frozen? ⟨g, i * 6 + 5, none⟩ = false := by
  obtain ⟨⟨u0, c0⟩, f0⟩ := h.there (q := i * 6) (by omega)
  obtain ⟨⟨u1, c1⟩, f1⟩ := h.there (q := i * 6 + 1) (by omega)
  obtain ⟨⟨u2, c2⟩, f2⟩ := h.there (q := i * 6 + 2) (by omega)
  obtain ⟨⟨u3, c3⟩, f3⟩ := h.there (q := i * 6 + 3) (by omega)
  obtain ⟨⟨u4, c4⟩, f4⟩ := h.there (q := i * 6 + 4) (by omega)
  obtain ⟨⟨u5, c5⟩, f5⟩ := h.there (q := i * 6 + 5) (by omega)
  exact ⟨u0, u1, u2, u3, u4, u5, ⟨c0, c1, c2, c3, c4, c5⟩, f0, f1, f2, f3, f4, f5⟩
set_option maxRecDepth 100000 in
set_option maxHeartbeats 1000000 in
theorem mark_ms (B g n cap k0 : Nat) (w : World) (hk : 0 < k0) (hk1 : k0 ≤ 10000000) (hn : n ≤ 2000000) (h : MRow mk_ms k0 w B 41 6 g n cap w 0) :
    Calls Try.prog 37 #[.slice (some ⟨g, 0, none⟩) n cap, .int .i64 (k0 : Int)] w fun e w' => e = .returned (.int .i64 ((k0 : Int) + n * 6)) ∧ MRow mk_ms k0 w B 41 6 g n cap w' (n * 6) := by
  have HH := Lib.hid h
  clear h
  go_enter Try.func37, Try.ntmps37
  go_wp2
  go_loopw [1, 5] (fun kq iq wr => ∃ (i : Nat) (z : Int), i ≤ n ∧ iq = .int .i64 i ∧ kq = .int .i64 z ∧ z = (k0 : Int) + i * 6 ∧ MRow mk_ms k0 w B 41 6 g n cap wr (i * 6)) (fun _ i _ => n - (intOf i).toNat)
  case atStart => exact ⟨0, _, Nat.zero_le _, rfl, rfl, by simp, by simpa using HH.out⟩
  case round =>
    obtain ⟨i, z, hi, rfl, rfl, hz, hM⟩ := hrel
    have hz0 : 0 < z := by omega
    have hz1 : z ≤ 100000000 := by omega
    have HZ := Lib.hid hz
    have HM := Lib.hid hM
    clear hz hM
    by_cases hlt : i < n
    · clear hk hk1
      go_wp2_with (first
        | (go_at_call 69; have _ := HM3; go_fit (mark_textI _ _ (by omega) (by omega)); rintro e w5 ⟨rfl, hb5⟩; have HM5 := Lib.hid ((((HM3.out.put (by omega) (mk_ms_s (by omega) (by have := HZ.out; omega))).put (by omega) (mk_ms_4 (by omega) (by have := HZ.out; omega)))).on hb5); clear hb5; obtain ⟨u0, u1, u2, u3, u4, u5, ⟨c0, c1, c2, c3, c4, c5⟩, f0, f1, f2, f3, f4, f5⟩ := HM5.out.ms hlt)
        | (go_at_call 69; have _ := HM2; go_fit (mark_textI _ _ (by omega) (by omega)); rintro e w3 ⟨rfl, hb3⟩; have HM3 := Lib.hid (((HM2.out.put (by omega) (mk_ms_s (by omega) (by have := HZ.out; omega)))).on hb3); clear hb3; obtain ⟨u0, u1, u2, u3, u4, u5, ⟨c0, c1, c2, c3, c4, c5⟩, f0, f1, f2, f3, f4, f5⟩ := HM3.out.ms hlt)
        | (go_at_call 69; have _ := HM1; go_fit (mark_textI _ _ (by omega) (by omega)); rintro e w2 ⟨rfl, hb2⟩; have HM2 := Lib.hid (((HM1.out.put (by omega) (mk_ms_s (by omega) (by have := HZ.out; omega)))).on hb2); clear hb2; obtain ⟨u0, u1, u2, u3, u4, u5, ⟨c0, c1, c2, c3, c4, c5⟩, f0, f1, f2, f3, f4, f5⟩ := HM2.out.ms hlt)
        | (go_at_call 69; have _ := HM0; go_fit (mark_textI _ _ (by omega) (by omega)); rintro e w1 ⟨rfl, hb1⟩; have HM1 := Lib.hid (((HM0.out.put (by omega) (mk_ms_s (by omega) (by have := HZ.out; omega)))).on hb1); clear hb1; obtain ⟨u0, u1, u2, u3, u4, u5, ⟨c0, c1, c2, c3, c4, c5⟩, f0, f1, f2, f3, f4, f5⟩ := HM1.out.ms hlt)
        | (go_at_call 69; go_fit (mark_textI _ _ (by omega) (by omega)); rintro e w0 ⟨rfl, hb0⟩; have HM0 := Lib.hid ((HM.out).on hb0); clear hb0; obtain ⟨u0, u1, u2, u3, u4, u5, ⟨c0, c1, c2, c3, c4, c5⟩, f0, f1, f2, f3, f4, f5⟩ := HM0.out.ms hlt))
      go_roundw
      case rel => exact ⟨i + 1, _, by omega, by go_num, rfl, by have := HZ.out; omega, by rw [show (i + 1) * 6 = i * 6 + 5 + 1 by omega]; exact (HM5.out.put (by omega) (mk_ms_s (by omega) (by have := HZ.out; omega)))⟩
      case measure => simp [intOf]; omega
    · obtain rfl : i = n := by omega
      go_wp2
      go_ret
      exact ⟨ret_int HZ.out, HM.out⟩
theorem mark_ms_0 (p : Option Addr) (cap k0 : Nat) (w : World) (hk1 : k0 ≤ 10000000) :
    Calls Try.prog 37 #[.slice p 0 cap, .int .i64 (k0 : Int)] w fun e w' => e = .returned (.int .i64 (k0 : Int)) ∧ w = w' := by
  go_enter Try.func37, Try.ntmps37
  go_wp2
  go_loopw [1, 5] (fun kq iq wr => kq = .int .i64 (k0 : Int) ∧ iq = .int .i64 0 ∧ w = wr) (fun _ _ _ => 0)
  case atStart => exact ⟨rfl, rfl, rfl⟩
  case round =>
    obtain ⟨rfl, rfl, rfl⟩ := hrel
    go_wp2
    go_ret
    exact ⟨rfl, rfl⟩
theorem held_ms_0 (p : Option Addr) (cap k0 : Nat) (w : World) (hk1 : k0 ≤ 10000000) :
    Calls Try.prog 38 #[.slice p 0 cap, .int .i64 (k0 : Int)] w fun e w' => e = .returned (.int .i64 (k0 : Int)) ∧ w = w' := by
  go_enter Try.func38, Try.ntmps38
  go_wp2
  go_loopw [1, 5] (fun kq iq wr => kq = .int .i64 (k0 : Int) ∧ iq = .int .i64 0 ∧ w = wr) (fun _ _ _ => 0)
  case atStart => exact ⟨rfl, rfl, rfl⟩
  case round =>
    obtain ⟨rfl, rfl, rfl⟩ := hrel
    go_wp2
    go_ret
    exact ⟨rfl, rfl⟩
abbrev Held_ms (g i : Nat) (z : Int) (wr W : World) : Prop := (W.cell? ⟨g, i * 6, none⟩ = some (.string (mkT (z).toNat)) ∧ W.cell? ⟨g, i * 6 + 1, none⟩ = some (.string (mkT (z + 1).toNat)) ∧ W.cell? ⟨g, i * 6 + 2, none⟩ = some (.string (mkT (z + 1 + 1).toNat)) ∧ W.cell? ⟨g, i * 6 + 3, none⟩ = some (.string (mkT (z + 1 + 1 + 1).toNat)) ∧ W.cell? ⟨g, i * 6 + 4, none⟩ = some (.int .i64 (z + 1 + 1 + 1 + 1)) ∧ W.cell? ⟨g, i * 6 + 5, none⟩ = some (.string (mkT (z + 1 + 1 + 1 + 1 + 1).toNat))) ∧ (Below wr.heap.size wr W ∧ g < wr.heap.size)
theorem held_ms_on {g i : Nat} {z : Int} {wr W W2 : World} (h : Held_ms g i z wr W) (hb : Below W.heap.size W W2) : Held_ms g i z wr W2 := by
  obtain ⟨⟨c0, c1, c2, c3, c4, c5⟩, h1, h2⟩ := h
  have hg : g < W.heap.size := Nat.lt_of_lt_of_le h2 h1.size
  exact ⟨⟨(hb.cell (p := ⟨g, i * 6, none⟩) hg).trans c0, (hb.cell (p := ⟨g, i * 6 + 1, none⟩) hg).trans c1, (hb.cell (p := ⟨g, i * 6 + 2, none⟩) hg).trans c2, (hb.cell (p := ⟨g, i * 6 + 3, none⟩) hg).trans c3, (hb.cell (p := ⟨g, i * 6 + 4, none⟩) hg).trans c4, (hb.cell (p := ⟨g, i * 6 + 5, none⟩) hg).trans c5⟩, h1.trans (hb.mono h1.size), h2⟩
theorem held_ms_drew {g i : Nat} {z : Int} {wr W : World} (h : Held_ms g i z wr W) : Held_ms g i z wr W.drew := held_ms_on h (Below.refl _ _).drew
theorem held_ms_of {k0 B g n cap m i : Nat} {z : Int} {w wr : World} (h : MRow mk_ms k0 w B 41 6 g n cap wr m) (hi : i < n) (hm : i * 6 + 6 ≤ m) (hz : z = (k0 : Int) + i * 6) : Held_ms g i z wr wr := by
  refine ⟨⟨?_, ?_, ?_, ?_, ?_, ?_⟩, Below.refl _ _, h.lt.2⟩
  · exact (h.cell (by omega) (by omega)).trans (congrArg some (mk_ms_s (by omega) (by omega)).symm)
  · exact (h.cell (by omega) (by omega)).trans (congrArg some (mk_ms_s (by omega) (by omega)).symm)
  · exact (h.cell (by omega) (by omega)).trans (congrArg some (mk_ms_s (by omega) (by omega)).symm)
  · exact (h.cell (by omega) (by omega)).trans (congrArg some (mk_ms_s (by omega) (by omega)).symm)
  · exact (h.cell (by omega) (by omega)).trans (congrArg some (mk_ms_4 (by omega) (by omega)).symm)
  · exact (h.cell (by omega) (by omega)).trans (congrArg some (mk_ms_s (by omega) (by omega)).symm)
set_option maxRecDepth 100000 in
set_option maxHeartbeats 2000000 in
theorem heldr_ms (B g n cap k0 m : Nat) (w0 w : World) (hk : 0 < k0) (hk1 : k0 ≤ 10000000) (hn : n ≤ 2000000) (h : MRow mk_ms k0 w0 B 41 6 g n cap w m) (hm : m = n * 6) :
    Calls Try.prog 38 #[.slice (some ⟨g, 0, none⟩) n cap, .int .i64 (k0 : Int)] w fun e w' => e = .returned (.int .i64 ((k0 : Int) + n * 6)) ∧ Below w.heap.size w w' := by
  have HH := Lib.hid h
  clear h
  go_enter Try.func38, Try.ntmps38
  go_wp2
  go_loopw [1, 5] (fun kq iq wr => ∃ (i : Nat) (z : Int), i ≤ n ∧ iq = .int .i64 i ∧ kq = .int .i64 z ∧ z = (k0 : Int) + i * 6 ∧ Below w.heap.size w wr) (fun _ i _ => n - (intOf i).toNat)
  case atStart => exact ⟨0, _, Nat.zero_le _, rfl, rfl, by simp, Below.refl _ _⟩
  case round =>
    obtain ⟨i, z, hi, rfl, rfl, hz, hb⟩ := hrel
    have hz0 : 0 < z := by omega
    have hz1 : z ≤ 100000000 := by omega
    have HZ := Lib.hid hz
    have HB := Lib.hid hb
    by_cases hlt : i < n
    · have hS := held_ms_of (HH.out.on hb) hlt (by omega) hz
      have HS := Lib.hid hS
      obtain ⟨⟨c0, c1, c2, c3, c4, c5⟩, _, _⟩ := hS
      clear hz hb hk hk1 hm
      go_wp2
      go_region_held3 (fun W => (W.cell? ⟨g, i * 6, none⟩ = some (.string (mkT (z).toNat)) ∧ W.cell? ⟨g, i * 6 + 1, none⟩ = some (.string (mkT (z + 1).toNat)) ∧ W.cell? ⟨g, i * 6 + 2, none⟩ = some (.string (mkT (z + 1 + 1).toNat)) ∧ W.cell? ⟨g, i * 6 + 3, none⟩ = some (.string (mkT (z + 1 + 1 + 1).toNat)) ∧ W.cell? ⟨g, i * 6 + 4, none⟩ = some (.int .i64 (z + 1 + 1 + 1 + 1)) ∧ W.cell? ⟨g, i * 6 + 5, none⟩ = some (.string (mkT (z + 1 + 1 + 1 + 1 + 1).toNat))) ∧ (Below wr.heap.size wr W ∧ g < wr.heap.size))
        (with_reducible first | assumption | exact held_ms_drew HS.out | exact held_ms_on (by assumption) hbN)
        (first | (go_at_call 69; go_fit (mark_textI _ _ (by omega) (by omega)); rintro e wn0 ⟨rfl, hbN⟩; have HS0 := Lib.hid (held_ms_on (z := z) (i := i) (wr := wr) (by assumption) hbN); obtain ⟨⟨d0, d1, d2, d3, d4, d5⟩, _, _⟩ := HS0.out))
      go_wp2
      go_region_held3 (fun W => (W.cell? ⟨g, i * 6, none⟩ = some (.string (mkT (z).toNat)) ∧ W.cell? ⟨g, i * 6 + 1, none⟩ = some (.string (mkT (z + 1).toNat)) ∧ W.cell? ⟨g, i * 6 + 2, none⟩ = some (.string (mkT (z + 1 + 1).toNat)) ∧ W.cell? ⟨g, i * 6 + 3, none⟩ = some (.string (mkT (z + 1 + 1 + 1).toNat)) ∧ W.cell? ⟨g, i * 6 + 4, none⟩ = some (.int .i64 (z + 1 + 1 + 1 + 1)) ∧ W.cell? ⟨g, i * 6 + 5, none⟩ = some (.string (mkT (z + 1 + 1 + 1 + 1 + 1).toNat))) ∧ (Below wr.heap.size wr W ∧ g < wr.heap.size))
        (with_reducible first | assumption | exact held_ms_drew HS0.out | exact held_ms_on (by assumption) hbN)
        (first | (go_at_call 69; go_fit (mark_textI _ _ (by omega) (by omega)); rintro e wn1 ⟨rfl, hbN⟩; have HS1 := Lib.hid (held_ms_on (z := z) (i := i) (wr := wr) (by assumption) hbN); obtain ⟨⟨d0, d1, d2, d3, d4, d5⟩, _, _⟩ := HS1.out))
      go_wp2
      go_region_held3 (fun W => (W.cell? ⟨g, i * 6, none⟩ = some (.string (mkT (z).toNat)) ∧ W.cell? ⟨g, i * 6 + 1, none⟩ = some (.string (mkT (z + 1).toNat)) ∧ W.cell? ⟨g, i * 6 + 2, none⟩ = some (.string (mkT (z + 1 + 1).toNat)) ∧ W.cell? ⟨g, i * 6 + 3, none⟩ = some (.string (mkT (z + 1 + 1 + 1).toNat)) ∧ W.cell? ⟨g, i * 6 + 4, none⟩ = some (.int .i64 (z + 1 + 1 + 1 + 1)) ∧ W.cell? ⟨g, i * 6 + 5, none⟩ = some (.string (mkT (z + 1 + 1 + 1 + 1 + 1).toNat))) ∧ (Below wr.heap.size wr W ∧ g < wr.heap.size))
        (with_reducible first | assumption | exact held_ms_drew HS1.out | exact held_ms_on (by assumption) hbN)
        (first | (go_at_call 69; go_fit (mark_textI _ _ (by omega) (by omega)); rintro e wn2 ⟨rfl, hbN⟩; have HS2 := Lib.hid (held_ms_on (z := z) (i := i) (wr := wr) (by assumption) hbN); obtain ⟨⟨d0, d1, d2, d3, d4, d5⟩, _, _⟩ := HS2.out))
      go_wp2
      go_region_held3 (fun W => (W.cell? ⟨g, i * 6, none⟩ = some (.string (mkT (z).toNat)) ∧ W.cell? ⟨g, i * 6 + 1, none⟩ = some (.string (mkT (z + 1).toNat)) ∧ W.cell? ⟨g, i * 6 + 2, none⟩ = some (.string (mkT (z + 1 + 1).toNat)) ∧ W.cell? ⟨g, i * 6 + 3, none⟩ = some (.string (mkT (z + 1 + 1 + 1).toNat)) ∧ W.cell? ⟨g, i * 6 + 4, none⟩ = some (.int .i64 (z + 1 + 1 + 1 + 1)) ∧ W.cell? ⟨g, i * 6 + 5, none⟩ = some (.string (mkT (z + 1 + 1 + 1 + 1 + 1).toNat))) ∧ (Below wr.heap.size wr W ∧ g < wr.heap.size))
        (with_reducible first | assumption | exact held_ms_drew HS2.out | exact held_ms_on (by assumption) hbN)
        (first | (go_at_call 69; go_fit (mark_textI _ _ (by omega) (by omega)); rintro e wn3 ⟨rfl, hbN⟩; have HS3 := Lib.hid (held_ms_on (z := z) (i := i) (wr := wr) (by assumption) hbN); obtain ⟨⟨d0, d1, d2, d3, d4, d5⟩, _, _⟩ := HS3.out))
      go_wp2
      go_region_held3 (fun W => (W.cell? ⟨g, i * 6, none⟩ = some (.string (mkT (z).toNat)) ∧ W.cell? ⟨g, i * 6 + 1, none⟩ = some (.string (mkT (z + 1).toNat)) ∧ W.cell? ⟨g, i * 6 + 2, none⟩ = some (.string (mkT (z + 1 + 1).toNat)) ∧ W.cell? ⟨g, i * 6 + 3, none⟩ = some (.string (mkT (z + 1 + 1 + 1).toNat)) ∧ W.cell? ⟨g, i * 6 + 4, none⟩ = some (.int .i64 (z + 1 + 1 + 1 + 1)) ∧ W.cell? ⟨g, i * 6 + 5, none⟩ = some (.string (mkT (z + 1 + 1 + 1 + 1 + 1).toNat))) ∧ (Below wr.heap.size wr W ∧ g < wr.heap.size))
        (with_reducible first | assumption | exact held_ms_drew HS3.out | exact held_ms_on (by assumption) hbN)
        (first | (go_at_call 69; go_fit (mark_textI _ _ (by omega) (by omega)); rintro e wn5 ⟨rfl, hbN⟩; have HS5 := Lib.hid (held_ms_on (z := z) (i := i) (wr := wr) (by assumption) hbN); obtain ⟨⟨d0, d1, d2, d3, d4, d5⟩, _, _⟩ := HS5.out))
      go_wp2
      go_roundw
      case rel => exact ⟨i + 1, _, by omega, by go_num, rfl, by have := HZ.out; omega, HB.out.trans (HS5.out.2.1.mono HB.out.size)⟩
      case measure => simp [intOf]; omega
    · obtain rfl : i = n := by omega
      go_wp2
      go_ret
      exact ⟨ret_int HZ.out, HB.out⟩
/-- Marking a slice that the call has made. -/
theorem marks_ms {α : Type} (enc : α → List Value) (B k0 : Nat) (v : Value) (xs : List α) (w : World) (hk : 0 < k0) (hk1 : k0 ≤ 10000000) (hn : xs.length ≤ 2000000) (hB : B ≤ w.heap.size) (h : OwnC enc w B 41 6 v xs) :
    Calls Try.prog 37 #[v, .int .i64 (k0 : Int)] w fun e w' => e = .returned (.int .i64 ((k0 : Int) + xs.length * 6)) ∧ MOwn mk_ms k0 B 41 6 v xs.length w' ∧ MFrame B v w w' := by
  obtain ⟨n, hxn⟩ : ∃ n, xs.length = n := ⟨_, rfl⟩
  rcases Nat.eq_zero_or_pos n with h0 | h0
  · subst h0
    have hv : ∃ p cap, v = .slice p 0 cap := by
      rcases h.2 with ⟨e1, _⟩ | ⟨g, cap, cur, e1, _⟩
      · exact ⟨none, 0, e1⟩
      · exact ⟨_, cap, by rw [e1, hxn]⟩
    obtain ⟨p, cap, rfl⟩ := hv
    rw [hxn]
    refine (mark_ms_0 p cap k0 w hk1).mono ?_
    rintro e w' ⟨rfl, rfl⟩
    exact ⟨by simp, ⟨p, cap, rfl, .inl rfl⟩, Below.refl _ _, Nat.le_refl _, fun _ _ _ => rfl⟩
  · obtain ⟨g, cap, rfl⟩ := Joins.ownsRow_form h (by omega)
    rw [hxn] at h hn ⊢
    refine (mark_ms B g n cap k0 w hk hk1 hn (mrow_of h hB)).mono ?_
    rintro e w' ⟨rfl, hM⟩
    exact ⟨rfl, ⟨_, cap, rfl, .inr ⟨g, w, rfl, hM⟩⟩, hM.2.1, hM.2.2.2.1, fun k hk hne => hM.2.2.2.2 k hk (hne g rfl)⟩
theorem helds_ms (B k0 n : Nat) (v : Value) (w : World) (hk : 0 < k0) (hk1 : k0 ≤ 10000000) (hn : n ≤ 2000000) (h : MOwn mk_ms k0 B 41 6 v n w) :
    Calls Try.prog 38 #[v, .int .i64 (k0 : Int)] w fun e w' => e = .returned (.int .i64 ((k0 : Int) + n * 6)) ∧ Below w.heap.size w w' := by
  obtain ⟨p, cap, rfl, h1⟩ := h
  rcases h1 with rfl | ⟨g, w0, rfl, hM⟩
  · refine (held_ms_0 p cap k0 w hk1).mono ?_
    rintro e w' ⟨rfl, rfl⟩
    exact ⟨by simp, Below.refl _ _⟩
  · exact heldr_ms B g n cap k0 _ w0 w hk hk1 hn hM rfl
end Go.Proofs.Ytpjmcpfmnlfmdaa
