/- Several parts in one text: StHand, StForms, StEscMath, StTextMath, StEscS, StTextS, MarkText, RowMk, RwSession, SeOutL, RwStr, SeLw, SeLwS, SeUnbI, SeBindS, SeInsI, SeBindI, SeWithP, DrawBase, EdgeBase, PickDraws, SeLw2. -/
import Derived.Test.YtafdjjdmcnlddaaHNC
import Derived.Deep.RegionHeld3
import Derived.Test.YtafdjjdmcnlddaaChecked
import Derived.Test.YtafdjjdmcnlddaaHNA
import Derived.Maps.OwnSet
import Derived.Maps.RangeWalk
import Derived.Maps.Ext
import Derived.WalkKit
import Derived.ProofKit
import Derived.Deep.DeepFit
import Derived.Lib.ItoaNum
import Derived.Lib.AppendStr
import Derived.Lib.SmallJoins
import Derived.Test.YtafdjjdmcnlddaaHNB
import Derived.Shelf.Spec.SlicesInsertGrow
import Derived.Deep.QuietTactic
import Derived.BigQuiet
import Derived.RegionTactic
import Derived.IntWalk
namespace Go.Proofs.Ytafdjjdmcnlddaa
set_option linter.unusedSimpArgs false
set_option linter.unusedVariables false
open Go.RowKit

end Go.Proofs.Ytafdjjdmcnlddaa

namespace Go.Proofs.Ytafdjjdmcnlddaa
set_option linter.unusedSimpArgs false
set_option linter.unusedVariables false
open Go.RowKit Go.Maps

end Go.Proofs.Ytafdjjdmcnlddaa

namespace Go.Proofs.Ytafdjjdmcnlddaa
set_option linter.unusedSimpArgs false
set_option linter.unusedVariables false

end Go.Proofs.Ytafdjjdmcnlddaa

namespace Go.Proofs.Ytafdjjdmcnlddaa
set_option linter.unusedSimpArgs false
set_option linter.unusedVariables false

end Go.Proofs.Ytafdjjdmcnlddaa

namespace Go.Proofs.Ytafdjjdmcnlddaa
set_option linter.unusedSimpArgs false
set_option linter.unusedVariables false
open Go.RowKit

/-- A row of bytes that the call has made. -/
def OwnR (w : World) (B : Nat) (v : Value) (l : List UInt8) : Prop := w.ownsRow B 5 1 v l.length (l.map byteV)
theorem OwnR.alloc {w : World} {B : Nat} {v : Value} {l : List UInt8} (h : OwnR w B v l) (o : Obj) : OwnR (w.alloc o) B v l := World.ownsRow.alloc h o
end Go.Proofs.Ytafdjjdmcnlddaa

namespace Go.Proofs.Ytafdjjdmcnlddaa
set_option linter.unusedSimpArgs false
set_option linter.unusedVariables false
open Go.RowKit

end Go.Proofs.Ytafdjjdmcnlddaa

namespace Go.Proofs.Ytafdjjdmcnlddaa
set_option linter.unusedSimpArgs false
set_option linter.unusedVariables false
open Go.RowKit

end Go.Proofs.Ytafdjjdmcnlddaa

namespace Go.Proofs.Ytafdjjdmcnlddaa
set_option linter.unusedSimpArgs false
set_option linter.unusedVariables false
open Go.RowKit

end Go.Proofs.Ytafdjjdmcnlddaa

namespace Go.Proofs.Ytafdjjdmcnlddaa
set_option linter.unusedSimpArgs false
set_option linter.unusedVariables false
open Go.RowKit

end Go.Proofs.Ytafdjjdmcnlddaa

namespace Go.Proofs.Ytafdjjdmcnlddaa
set_option linter.unusedSimpArgs false
set_option linter.unusedVariables false
open Go.RowKit Go.Joins

def soC (R : SoL) (p : Option Addr) (k : Nat) : List Value := [.slice p R.l.length k, .int .i64 R.c]
def soV (R : SoL) (p : Option Addr) (k : Nat) : Value := .agg #[.slice p R.l.length k, .int .i64 R.c]
/-- An answer in a box of the law's. -/
def OutS (b B : Nat) (W : World) (R : SoL) (p : Option Addr) (k : Nat) : Prop := Arr W b 27 (soC R p k) ∧ OwnC seC W B 84 4 (.slice p R.l.length k) R.l
theorem OutS.on {b B : Nat} {W W2 : World} {R : SoL} {p : Option Addr} {k : Nat} (h : OutS b B W R p k) (hb : Below W.heap.size W W2) : OutS b B W2 R p k := ⟨arr9_on h.1 hb, h.2.on hb⟩
theorem OutS.new {B : Nat} {W : World} {R : SoL} {p : Option Addr} {k : Nat} (h : OwnC seC W B 84 4 (.slice p R.l.length k) R.l) : OutS W.heap.size B (W.alloc (.cells (soC R p k).toArray 27)) R p k := ⟨Arr.fresh W _ _, h.alloc _⟩
theorem OutS.two {b B : Nat} {W : World} {R : SoL} {p : Option Addr} {k : Nat} (h : OutS b B W R p k) : (W.cell? ⟨b, 0, none⟩ = some (.slice p R.l.length k) ∧ W.cell? ⟨b, 1, none⟩ = some (.int .i64 R.c)) ∧ b < W.heap.size := ⟨(arr9_two h.1).1, arr9_lt h.1⟩
/-- A row of sessions is no box of an answer. -/
theorem own_neS {w : World} {B b : Nat} {v : Value} {xs : List SeL} {cs : List Value} (h : OwnC seC w B 84 4 v xs) (hA : Arr w b 27 cs) : ∀ g, v.ownBlock = some g → b ≠ g := by
  intro g hg e
  subst e
  rcases h.2 with ⟨h0, _⟩ | ⟨g', cap, cur, h1, h2, h3, h4⟩
  · rw [h0] at hg; cases hg
  · rw [h1] at hg
    injection hg with hg
    have hg : g' = b := hg
    subst hg
    unfold Arr at hA
    rw [h3] at hA
    injection hA with hA
    injection hA with _ hA
    cases hA
end Go.Proofs.Ytafdjjdmcnlddaa

namespace Go.Proofs.Ytafdjjdmcnlddaa
set_option linter.unusedSimpArgs false
set_option linter.unusedVariables false
open Go.RowKit

end Go.Proofs.Ytafdjjdmcnlddaa

namespace Go.Proofs.Ytafdjjdmcnlddaa
set_option linter.unusedSimpArgs false
set_option linter.unusedVariables false
open Go.RowKit Go.Joins

end Go.Proofs.Ytafdjjdmcnlddaa

namespace Go.Proofs.Ytafdjjdmcnlddaa
set_option linter.unusedSimpArgs false
set_option linter.unusedVariables false
open Go.RowKit Go.Joins

set_option maxRecDepth 100000 in
set_option maxHeartbeats 2000000 in
theorem lw_sess (xs : List SeL) (p q : Option Addr) (c d : Nat) (w : World) (hn : xs.length ≤ 2000000) (hp : RowC seC 4 w p xs) (hq : RowC seC 4 w q xs) :
    Calls Try.prog 24 #[.slice p xs.length c, .slice q xs.length d] w fun e w' => e = .returned (.bool true) ∧ Below w.heap.size w w' := by
  obtain ⟨n, hxn⟩ : ∃ n, xs.length = n := ⟨_, rfl⟩
  have HP := Lib.hid (fun W (h : Below w.heap.size w W) => hp.on h)
  have HQ := Lib.hid (fun W (h : Below w.heap.size w W) => hq.on h)
  have HN := Lib.hid hxn
  rw [hxn] at hn ⊢
  clear hp hq hxn
  go_enter Try.func24, Try.ntmps24
  go_wp2
  go_loopw [5] (fun iq wr => ∃ i : Nat, i ≤ n ∧ iq = .int .i64 i ∧ Below w.heap.size w wr) (fun i _ => n - (intOf i).toNat)
  case atStart => exact ⟨0, Nat.zero_le _, rfl, Below.refl _ _⟩
  case round =>
    obtain ⟨i, hi, rfl, hb⟩ := hrel
    have HB := Lib.hid hb
    by_cases hlt : i < n
    · have hlt1 : i < xs.length := by rw [HN.out]; exact hlt
      obtain ⟨a, rfl, ha, a0, a1, a2, a3⟩ := row_se4 (HP.out _ hb) hlt1
      obtain ⟨b, rfl, hb0, b0, b1, b2, b3⟩ := row_se4 (HQ.out _ hb) hlt1
      obtain ⟨x, hx⟩ : ∃ x, xs[i] = x := ⟨_, rfl⟩
      rw [hx] at a0 a1 a2 a3 b0 b1 b2 b3
      clear hx hb
      go_wp2
      go_region
      all_goals (try go_wp2)
      exact ⟨⟨i + 1, by omega, by go_num, HB.out.drew⟩, by simp [intOf]; omega⟩
    · obtain rfl : i = n := by omega
      clear hb
      go_wp2
      go_ret
      exact ⟨rfl, HB.out⟩
end Go.Proofs.Ytafdjjdmcnlddaa

namespace Go.Proofs.Ytafdjjdmcnlddaa
set_option linter.unusedSimpArgs false
set_option linter.unusedVariables false
open Go.RowKit Go.Joins

theorem grown_setRow (w : World) (g : Nat) (cs : List Value) : w.grownBy (w.setRow g cs.toArray) (some g) := ⟨rfl, rfl, rfl, by simp [World.setRow], fun k hk hne => setRow_other w g k _ (fun e => hne (by rw [e]))⟩
theorem _root_.Go.World.grownBy.trans9 {w W W2 : World} {g : Nat} (h : w.grownBy W (some g)) (h2 : W.grownBy W2 (some g)) : w.grownBy W2 (some g) := ⟨h2.os.trans h.os, h2.tape.trans h.tape, h2.output.trans h.output, Nat.le_trans h.size h2.size, fun k hk hne => (h2.block k (Nat.lt_of_lt_of_le hk h.size) hne).trans (h.block k hk hne)⟩
/-- append within the capacity. -/
theorem wp_app_room9 {o : Oper} {a : Act} {w : World} {K : Act → World → Prop} {Q : Exit → Act → World → Prop} (s x : Operand)
    (ho : o.op = .call { callee := .builtin .append, args := #[s, x], argTypes := #[23, 23] })
    (g k n off m c : Nat) (cs news : List Value) (hA : Arr w g 84 cs) (hs : a.eval s = .slice (some ⟨g, 0, none⟩) k n) (hx : a.eval x = .slice (some ⟨g, off, none⟩) m c) (hl : news.length = m * 4) (hnews : ∀ j u, news[j]? = some u → cs[off + j]? = some u) (h1 : ∀ u ∈ news, u.oneCell' = true)
    (hroom : k + m ≤ n) (hfit : k * 4 + news.length ≤ cs.length)
    (h : ∀ W, Arr W g 84 (cs.take (k * 4) ++ news ++ cs.drop (k * 4 + news.length)) → w.grownBy W (some g) → K (a.put o.dst (.slice (some ⟨g, 0, none⟩) (k + m) n)) W) : o.wp Try.prog a w K Q := by
  obtain ⟨i0, hi, hz0, hz1, hz2⟩ := info_parts info_sec
  have hrun := run_append_room (P := Try.prog) w 23 o.type 84 i0 Try.underlying23 hi g k n cs.toArray hA ⟨g, off, none⟩ m c news (by rw [hz1]; exact hl) (fun j u hj => by
    rw [show (⟨g, off, none⟩ : Addr).add j = ⟨g, off + j, none⟩ by unfold Addr.add; split <;> simp_all, hA.cell]
    exact hnews j u hj) h1 hroom (by rw [hz1]; simpa using hfit)
  rw [hz1] at hrun
  unfold Oper.wp execOp
  simp only [ho, resolve, invoke, builtin, Sem.run_bind, Sem.run_pure, Result.andThen_ok, List.map_toArray, List.map_cons, List.map_nil, hs, hx, hrun]
  exact h _ (hA.row _) (grown_setRow w g _)
def zero9 : List Value := [.string ⟨#[]⟩, .bool false, .int .i64 0, .string ⟨#[]⟩]
theorem zv9 (w : World) : (zeroValue 84).run Try.prog w = .ok (.agg #[.string ⟨#[]⟩, .bool false, .int .i64 0, .string ⟨#[]⟩]) w := by kernel_rfl
/-- clear(s) at one element. -/
theorem run_clear9 (w : World) (ty g off c : Nat) (cs : List Value) (hA : Arr w g 84 cs) (hfit : off + 4 ≤ cs.length) :
    ∃ W, (Builtin.clear_ #[23] ty #[.slice (some ⟨g, off, none⟩) 1 c]).run Try.prog w = .ok (.tuple #[]) W ∧ Arr W g 84 (cs.take off ++ zero9 ++ cs.drop (off + 4)) ∧ w.grownBy W (some g) := by
  have hst := run_storeCells_at Try.prog g off 84 zero9 0 cs.toArray w hA (by show off + 4 ≤ _; simpa using hfit) (by intro u hu; simp [zero9] at hu; rcases hu with rfl | rfl | rfl | rfl <;> rfl)
  simp only [Nat.add_zero] at hst
  have hz : (Builtin.zeroCells #[.string ⟨#[]⟩, .bool false, .int .i64 0, .string ⟨#[]⟩] 1).toList = zero9 := by kernel_rfl
  refine ⟨w.setRow g (cs.toArray.toList.take off ++ zero9 ++ cs.toArray.toList.drop (off + zero9.length)).toArray, ?_, hA.row _, grown_setRow w g _⟩
  simp [Builtin.clear_, run_underlying Try.underlying23, zv9, Value.cells, hz, hst]
theorem flat_take9 : ∀ (xs : List SeL) (k : Nat), (xs.flatMap seC).take (k * 4) = (xs.take k).flatMap seC
  | [], k => by simp
  | x :: xs, 0 => by simp
  | x :: xs, k + 1 => by
    rw [List.flatMap_cons, List.take_succ_cons, List.flatMap_cons, List.take_append, seC_len, List.take_of_length_le (by rw [seC_len]; omega), show (k + 1) * 4 - 4 = k * 4 by omega, flat_take9 xs k]
theorem flat_drop9 : ∀ (xs : List SeL) (k : Nat), (xs.flatMap seC).drop (k * 4) = (xs.drop k).flatMap seC
  | [], k => by simp
  | x :: xs, 0 => by simp
  | x :: xs, k + 1 => by
    rw [List.flatMap_cons, List.drop_succ_cons, List.drop_append, seC_len, List.drop_eq_nil_of_le (by rw [seC_len]; omega), List.nil_append, show (k + 1) * 4 - 4 = k * 4 by omega, flat_drop9 xs k]
/-- A row without spare capacity holds its elements alone. -/
theorem own_full9 {w : World} {B g n : Nat} {xs : List SeL} (h : OwnC seC w B 84 4 (.slice (some ⟨g, 0, none⟩) n n) xs) : Arr w g 84 (xs.flatMap seC) ∧ B ≤ g ∧ n = xs.length ∧ n ≤ maxLen := by
  rcases h.2 with ⟨h0, _⟩ | ⟨g', cap, cur, h1, h2, h3, h4, h5, h6, h7⟩
  · cases h0
  · injection h1 with e1 e2 e3
    injection e1 with e1
    injection e1 with e1
    subst e1 e3
    refine ⟨?_, h2, e2, h5⟩
    rw [← h7, List.take_of_length_le (by rw [Array.length_toList, h6, e2]; exact Nat.le_refl _)]
    unfold Arr
    simpa using h3
theorem cut9 (Y Z : List Value) {m : Nat} (h1 : Y.length = m) (h2 : Z.length ≤ 4) : (Y ++ Z).take m ++ zero9 ++ (Y ++ Z).drop (m + 4) = Y ++ zero9 := by
  rw [List.take_append_of_le_length (by omega), List.take_of_length_le (by omega), List.drop_eq_nil_of_le (by rw [List.length_append]; omega), List.append_nil]
theorem del_own {W : World} {B g M P : Nat} {xs : List SeL} (hx : xs.length = M + 1) (hP : P ≤ M) (hB : B ≤ g) (hm : M + 1 ≤ maxLen) (hA : Arr W g 84 (((xs.flatMap seC).take (P * 4) ++ (xs.drop (P + 1)).flatMap seC ++ (xs.flatMap seC).drop (P * 4 + ((xs.drop (P + 1)).flatMap seC).length)).take (M * 4) ++ zero9 ++ ((xs.flatMap seC).take (P * 4) ++ (xs.drop (P + 1)).flatMap seC ++ (xs.flatMap seC).drop (P * 4 + ((xs.drop (P + 1)).flatMap seC).length)).drop (M * 4 + 4))) :
    OwnC seC W B 84 4 (.slice (some ⟨g, 0, none⟩) M (M + 1)) (xs.take P ++ xs.drop (P + 1)) := by
  have hl1 : ((xs.take P ++ xs.drop (P + 1)).flatMap seC).length = M * 4 := by rw [flat_len9, List.length_append, List.length_take, List.length_drop, hx]; omega
  have hl3 : (((xs.flatMap seC).drop (P * 4 + ((xs.drop (P + 1)).flatMap seC).length))).length ≤ 4 := by rw [List.length_drop, flat_len9, flat_len9, List.length_drop, hx]; omega
  rw [flat_take9, ← List.flatMap_append, cut9 _ _ hl1 hl3] at hA
  have hn : (xs.take P ++ xs.drop (P + 1)).length = M := by rw [List.length_append, List.length_take, List.length_drop, hx]; omega
  refine ⟨by rw [flat_len9], .inr ⟨g, M + 1, ((xs.take P ++ xs.drop (P + 1)).flatMap seC ++ zero9).toArray, by rw [hn], hB, hA, by omega, hm, by simp only [List.size_toArray, List.length_append, hl1]; show _ + 4 = _; omega, ?_⟩⟩
  rw [hn]
  show ((xs.take P ++ xs.drop (P + 1)).flatMap seC ++ zero9).take (M * 4) = _
  rw [List.take_append_of_le_length (by omega), List.take_of_length_le (by omega)]
set_option maxRecDepth 100000 in
set_option maxHeartbeats 2000000 in
theorem impl_delete (xs : List SeL) (M P g B : Nat) (w : World) (hx : xs.length = M + 1) (hM : M ≤ 5) (hP : P ≤ M) (hO : OwnC seC w B 84 4 (.slice (some ⟨g, 0, none⟩) (M + 1) (M + 1)) xs) :
    Calls Try.prog 74 #[.slice (some ⟨g, 0, none⟩) (M + 1) (M + 1), .int .i64 (P : Int), .int .i64 ((P : Int) + 1)] w fun e w' => e = .returned (.slice (some ⟨g, 0, none⟩) M (M + 1)) ∧ OwnC seC w' B 84 4 (.slice (some ⟨g, 0, none⟩) M (M + 1)) (xs.take P ++ xs.drop (P + 1)) ∧ w.grownBy w' (some g) := by
  obtain ⟨hA, hB, hn, hm⟩ := own_full9 hO
  have HA := Lib.hid hA
  have HX := Lib.hid hx
  have HBB := Lib.hid (And.intro hB hm)
  have HFL : Hid ((xs.flatMap seC).length = (M + 1) * 4) := Lib.hid (by rw [flat_len9, hx])
  have HFD : Hid (((xs.drop (P + 1)).flatMap seC).length = (M - P) * 4) := Lib.hid (by rw [flat_len9, List.length_drop, hx]; congr 1; omega)
  clear hO hA hB hn hm hx
  have q1 : (0 : Int) ≤ (P : Int) := by omega
  have q2 : (P : Int) ≤ (M : Int) := by omega
  have q3 : ((P : Int) == (P : Int) + 1) = false := by rw [beq_eq_false_iff_ne]; omega
  have q4 : ¬ ((M : Int) + 1 = (P : Int)) := by omega
  have q5 : ¬ (M + 1 = P) := by omega
  have q6 : ¬ (M + 1 = M) := by omega
  have q7 : (P : Int) + 1 ≤ (M : Int) + 1 := by omega
  have q8 : (0 : Int) ≤ (P : Int) + 1 := by omega
  have q11 : (P : Int) ≤ (M : Int) + 1 := by omega
  have q12 : ¬ ((M : Int) + 1 = (M : Int)) := by omega
  go_enter Try.func74, Try.ntmps74
  go_wp2
  refine wp_region_held_drew (S := fun _ => True) (by kernel_rfl) trivial (fun hHeld => ?_)
  have HAd : Hid (Arr w.drew g 84 (xs.flatMap seC)) := Lib.hid HA.out
  have HGd : Hid (w.grownBy w.drew (some g)) := Lib.hid ⟨rfl, rfl, rfl, Nat.le_refl _, fun _ _ _ => rfl⟩
  generalize w.drew = Wd at hHeld HAd HGd ⊢
  by_cases hc : P = M
  · have HC := Lib.hid hc
    have HDN : Hid ((xs.drop (P + 1)).flatMap seC = []) := Lib.hid (List.eq_nil_of_length_eq_zero (by rw [HFD.out, hc]; simp))
    clear hc
    refine takeQ (i := 0) (k := 20) (v := .slice (some ⟨g, 0, none⟩) (M + 1) (M + 1)) rfl (by rfl) (by kernel_rfl) (by kernel_rfl) (by kernel_rfl) (fun _ _ _ h => h) (by rfl) ?_ hHeld ?_
    · intro w1 hSw; go_simp
    (try simp only [Act.put, List.setIfInBounds_toArray, List.set_cons_zero, List.set_cons_succ])
    refine takeQ (i := 1) (k := 21) (v := .int .i64 (P : Int)) rfl (by rfl) (by kernel_rfl) (by kernel_rfl) (by kernel_rfl) (fun _ _ _ h => h) (by rfl) ?_ hHeld ?_
    · intro w1 hSw; go_simp
    (try simp only [Act.put, List.setIfInBounds_toArray, List.set_cons_zero, List.set_cons_succ])
    refine takeQ (i := 2) (k := 22) (v := .slice (some ⟨g, 0, none⟩) P (M + 1)) rfl (by rfl) (by kernel_rfl) (by kernel_rfl) (by kernel_rfl) (fun _ _ _ h => h) (by rfl) ?_ hHeld ?_
    · intro w1 hSw; go_simp
    (try simp only [Act.put, List.setIfInBounds_toArray, List.set_cons_zero, List.set_cons_succ])
    refine takeQ (i := 3) (k := 23) (v := .slice (some ⟨g, 0, none⟩) (M + 1) (M + 1)) rfl (by rfl) (by kernel_rfl) (by kernel_rfl) (by kernel_rfl) (fun _ _ _ h => h) (by rfl) ?_ hHeld ?_
    · intro w1 hSw; go_simp
    (try simp only [Act.put, List.setIfInBounds_toArray, List.set_cons_zero, List.set_cons_succ])
    refine takeQ (i := 4) (k := 24) (v := .int .i64 ((P : Int) + 1)) rfl (by rfl) (by kernel_rfl) (by kernel_rfl) (by kernel_rfl) (fun _ _ _ h => h) (by rfl) ?_ hHeld ?_
    · intro w1 hSw; go_simp
    (try simp only [Act.put, List.setIfInBounds_toArray, List.set_cons_zero, List.set_cons_succ])
    refine takeQ (i := 5) (k := 25) (v := .slice (some ⟨g, 0, none⟩) 0 0) rfl (by rfl) (by kernel_rfl) (by kernel_rfl) (by kernel_rfl) (fun _ _ _ h => h) (by rfl) ?_ hHeld ?_
    · intro w1 hSw; go_simp; (try (have := HC.out; simp [this]))
    (try simp only [Act.put, List.setIfInBounds_toArray, List.set_cons_zero, List.set_cons_succ])
    refine wpAnyH_ready (rs := [6]) (by kernel_rfl) (by simp) ?_
    refine AllReadyH.cons rfl (fun K hK => ?_) AllReadyH.nil
    rw [if_pos (by rfl)]
    refine wp_app_room9 _ _ rfl g P (M + 1) 0 0 0 (xs.flatMap seC) ((xs.drop (P + 1)).flatMap seC) HAd.out rfl rfl (by rw [HDN.out]; rfl) (fun j u hj => by rw [HDN.out] at hj; cases hj) (one_all9 _) (by omega) (by rw [HFL.out, HFD.out]; omega) ?_
    intro W1 hA1 hg1
    rw [show P + 0 = M by have := HC.out; omega]
    have HA1 := Lib.hid hA1
    have HG1 := Lib.hid (HGd.out.trans9 hg1)
    refine hK.out _ _ trivial (fun hHeld => ?_)
    clear hK K
    (try simp only [Act.put, List.setIfInBounds_toArray, List.set_cons_zero, List.set_cons_succ])
    refine takeQ (i := 7) (k := 0) (v := .slice (some ⟨g, 0, none⟩) M (M + 1)) rfl (by rfl) (by kernel_rfl) (by kernel_rfl) (by kernel_rfl) (fun _ _ _ h => h) (by rfl) ?_ hHeld ?_
    · intro w1 hSw; go_simp
    (try simp only [Act.put, List.setIfInBounds_toArray, List.set_cons_zero, List.set_cons_succ])
    refine wpAnyH_done (by kernel_rfl) ?_ _
    obtain ⟨W2, hcl, hA2, hg2⟩ := run_clear9 W1 0 g (M * 4) 1 _ HA1.out (by simp only [List.length_append, List.length_take, List.length_drop, HFL.out, HFD.out]; omega)
    have HA2 := Lib.hid hA2
    have HG2 := Lib.hid hg2
    clear hA2 hg2
    go_wp2
    go_ret
    exact ⟨rfl, del_own HX.out hP HBB.out.1 HBB.out.2 HA2.out, HG1.out.trans9 HG2.out⟩
  · have q9 : ¬ ((M : Int) = (P : Int)) := by omega
    have q10 : ¬ (M = P) := fun e => hc e.symm
    refine takeQ (i := 0) (k := 20) (v := .slice (some ⟨g, 0, none⟩) (M + 1) (M + 1)) rfl (by rfl) (by kernel_rfl) (by kernel_rfl) (by kernel_rfl) (fun _ _ _ h => h) (by rfl) ?_ hHeld ?_
    · intro w1 hSw; go_simp
    (try simp only [Act.put, List.setIfInBounds_toArray, List.set_cons_zero, List.set_cons_succ])
    refine takeQ (i := 1) (k := 21) (v := .int .i64 (P : Int)) rfl (by rfl) (by kernel_rfl) (by kernel_rfl) (by kernel_rfl) (fun _ _ _ h => h) (by rfl) ?_ hHeld ?_
    · intro w1 hSw; go_simp
    (try simp only [Act.put, List.setIfInBounds_toArray, List.set_cons_zero, List.set_cons_succ])
    refine takeQ (i := 2) (k := 22) (v := .slice (some ⟨g, 0, none⟩) P (M + 1)) rfl (by rfl) (by kernel_rfl) (by kernel_rfl) (by kernel_rfl) (fun _ _ _ h => h) (by rfl) ?_ hHeld ?_
    · intro w1 hSw; go_simp
    (try simp only [Act.put, List.setIfInBounds_toArray, List.set_cons_zero, List.set_cons_succ])
    refine takeQ (i := 3) (k := 23) (v := .slice (some ⟨g, 0, none⟩) (M + 1) (M + 1)) rfl (by rfl) (by kernel_rfl) (by kernel_rfl) (by kernel_rfl) (fun _ _ _ h => h) (by rfl) ?_ hHeld ?_
    · intro w1 hSw; go_simp
    (try simp only [Act.put, List.setIfInBounds_toArray, List.set_cons_zero, List.set_cons_succ])
    refine takeQ (i := 4) (k := 24) (v := .int .i64 ((P : Int) + 1)) rfl (by rfl) (by kernel_rfl) (by kernel_rfl) (by kernel_rfl) (fun _ _ _ h => h) (by rfl) ?_ hHeld ?_
    · intro w1 hSw; go_simp
    (try simp only [Act.put, List.setIfInBounds_toArray, List.set_cons_zero, List.set_cons_succ])
    refine takeQ (i := 5) (k := 25) (v := .slice (some ⟨g, (P + 1) * 4, none⟩) (M - P) (M - P)) rfl (by rfl) (by kernel_rfl) (by kernel_rfl) (by kernel_rfl) (fun _ _ _ h => h) (by rfl) ?_ hHeld ?_
    · intro w1 hSw; go_simp; (try simp)
    (try simp only [Act.put, List.setIfInBounds_toArray, List.set_cons_zero, List.set_cons_succ])
    refine wpAnyH_ready (rs := [6]) (by kernel_rfl) (by simp) ?_
    refine AllReadyH.cons rfl (fun K hK => ?_) AllReadyH.nil
    rw [if_pos (by rfl)]
    refine wp_app_room9 _ _ rfl g P (M + 1) ((P + 1) * 4) (M - P) (M - P) (xs.flatMap seC) ((xs.drop (P + 1)).flatMap seC) HAd.out rfl rfl HFD.out (fun j u hj => by rw [← flat_drop9, List.getElem?_drop] at hj; exact hj) (one_all9 _) (by omega) (by rw [HFL.out, HFD.out]; omega) ?_
    intro W1 hA1 hg1
    rw [show P + (M - P) = M by omega]
    have HA1 := Lib.hid hA1
    have HG1 := Lib.hid (HGd.out.trans9 hg1)
    refine hK.out _ _ trivial (fun hHeld => ?_)
    clear hK K
    (try simp only [Act.put, List.setIfInBounds_toArray, List.set_cons_zero, List.set_cons_succ])
    refine takeQ (i := 7) (k := 0) (v := .slice (some ⟨g, 0, none⟩) M (M + 1)) rfl (by rfl) (by kernel_rfl) (by kernel_rfl) (by kernel_rfl) (fun _ _ _ h => h) (by rfl) ?_ hHeld ?_
    · intro w1 hSw; go_simp
    (try simp only [Act.put, List.setIfInBounds_toArray, List.set_cons_zero, List.set_cons_succ])
    refine wpAnyH_done (by kernel_rfl) ?_ _
    obtain ⟨W2, hcl, hA2, hg2⟩ := run_clear9 W1 0 g (M * 4) 1 _ HA1.out (by simp only [List.length_append, List.length_take, List.length_drop, HFL.out, HFD.out]; omega)
    have HA2 := Lib.hid hA2
    have HG2 := Lib.hid hg2
    clear hA2 hg2
    go_wp2
    go_ret
    exact ⟨rfl, del_own HX.out hP HBB.out.1 HBB.out.2 HA2.out, HG1.out.trans9 HG2.out⟩
theorem at_badU {xs : List SeL} {r : ByteArray} (h : (atR xs r).2 ≠ 0) : unbindR xs r = illS (atR xs r).2 := by
  unfold atR at h ⊢
  unfold unbindR
  split
  · rfl
  · rename_i h1
    rw [if_neg h1] at h
    split
    · rfl
    · rename_i h2
      rw [if_neg h2] at h
      split
      · rfl
      · rename_i h3
        rw [if_neg h3] at h
        exact absurd rfl h
set_option maxRecDepth 100000 in
set_option maxHeartbeats 2000000 in
theorem impl_unbind (xs : List SeL) (r : ByteArray) (p : Option Addr) (c : Nat) (w : World) (hn : xs.length ≤ 1048576) (hr : r.size ≤ 1048576) (hw : ∀ x ∈ xs, x.r.size ≤ 1048576 ∧ x.s.size ≤ 1048576) (hR : RowC seC 4 w p xs) :
    Calls Try.prog 20 #[.slice p xs.length c, .string r] w fun e w' => SoIs w.heap.size (unbindR xs r) e w' ∧ Below w.heap.size w w' := by
  have HR := Lib.hid (fun W (h : Below w.heap.size w W) => hR.on h)
  have i1 := fun W h => impl_at xs r p c W hn hr (fun x hx => by have := (hw x hx).1; unfold maxLen; omega) h
  have i3 := fun W h => impl_sescopy xs p c W hn hw h
  have HA0 : Hid (Arr (w.alloc (.cells #[.slice none 0 0, .int .i64 0] 27)) w.heap.size 27 [.slice none 0 0, .int .i64 0]) := Lib.hid (Arr.fresh w _ [.slice none 0 0, .int .i64 0])
  have HB0 : Hid (Below w.heap.size w (w.alloc (.cells #[.slice none 0 0, .int .i64 0] 27))) := Lib.hid ((Below.refl _ _).alloc (Nat.le_refl _) _)
  obtain ⟨K, hK⟩ : ∃ K, (atR xs r).1 = K := ⟨_, rfl⟩
  obtain ⟨C, hC⟩ : ∃ C, (atR xs r).2 = C := ⟨_, rfl⟩
  rw [hK, hC] at i1
  by_cases h0 : C ≠ 0
  · have hw0 := at_badU (xs := xs) (r := r) (by rw [hC]; exact h0)
    rw [hC] at hw0
    rw [hw0]
    have q1 : (C != 0) = true := by simpa using h0
    clear hR hw hr hK hC h0 hw0 i3
    go_enter Try.func20, Try.ntmps20
    go_wp2_with (go_at_call 64; go_fit (i1 _ (HR.out _ HB0.out)); rintro e w1 ⟨rfl, hb⟩; have HA1 := Lib.hid (arr9_on HA0.out hb); have HB1 := Lib.hid (HB0.out.trans (hb.mono HB0.out.size)); clear hb; obtain ⟨⟨c0, c1⟩, f0, f1⟩ := arr9_two HA1.out)
    have hE : Arr _ w.heap.size 27 [.slice none 0 0, .int .i64 C] := ((HA1.out.put 0 (.slice none 0 0)).put 1 (.int .i64 C))
    exact bodyPost_ret (v := .agg #[.slice none 0 0, .int .i64 C]) (results_cell_row (P := Try.prog) Try.results20 _ _ w.heap.size 27 _ (0, 0) _ rfl hE Try.underlying27 rfl (by kernel_rfl)) rfl
      ⟨so_ill _ _ _, (HB1.out.setCell (p := ⟨w.heap.size, 0, none⟩) (Nat.le_refl _) _).setCell (p := ⟨w.heap.size, 1, none⟩) (Nat.le_refl _) _⟩
  · obtain rfl : C = 0 := by omega
    obtain ⟨g1, g2, g3, g4⟩ := at_ok hC
    have hlt := here_lt g3
    rw [unb_ok g1 g2 g3]
    have h5 := (okB_iff.1 g2).1
    obtain ⟨P, hP⟩ : ∃ P, posS r xs = P := ⟨_, rfl⟩
    rw [hP] at hlt g4 ⊢
    rw [hK] at g4
    subst g4
    obtain ⟨M, hxn⟩ : ∃ M, xs.length = M + 1 := ⟨xs.length - 1, by omega⟩
    have HN := Lib.hid hxn
    have i5 := fun W g B hO => impl_delete xs M P g B W hxn (by omega) (by omega) hO
    rw [hxn] at hn i1 i3 hlt
    rw [hxn]
    have hw1 : IntKind.i64.wrap ((P : Int) + 1) = (P : Int) + 1 := IntWalk.i64_in _ (by omega)
    have HML : Hid ((xs.take P ++ xs.drop (P + 1)).length = M) := Lib.hid (by rw [List.length_append, List.length_take, List.length_drop, hxn]; omega)
    clear hR hw hr hK hC h0 hxn hP g1 g2 g3
    go_enter Try.func20, Try.ntmps20
    go_wp2_with (first
      | (go_at_call 64; go_fit (i1 _ (HR.out _ HB0.out)); rintro e w1 ⟨rfl, hb⟩; have HA1 := Lib.hid (arr9_on HA0.out hb); have HB1 := Lib.hid (HB0.out.trans (hb.mono HB0.out.size)); clear hb)
      | (go_at_call 67; go_fit (i3 _ (HR.out _ HB1.out)); rintro e w3 ⟨⟨rfl, hv⟩, hb⟩; have HA3 := Lib.hid (arr9_on HA1.out hb); have HB3 := Lib.hid (HB1.out.trans (hb.mono HB1.out.size)); have HV3 := Lib.hid hv; have hl1 := arr9_lt HA1.out; clear hb hv)
      | (go_at_call 74; go_fit (i5 _ w1.heap.size w1.heap.size HV3.out); rintro e w4 ⟨rfl, hv, hg⟩; have HV4 := Lib.hid hv; have HA4 : Hid (Arr w4 w.heap.size 27 [.slice none 0 0, .int .i64 0]) := Lib.hid ((hg.block _ (arr9_lt HA3.out) (fun e => by injection e with e; omega)).trans HA3.out); have HB4 : Hid (Below w.heap.size w w4) := Lib.hid (HB3.out.grown hg HB3.out.size (fun k hk => by injection hk with hk; omega)); clear hv hg; obtain ⟨⟨c0, c1⟩, f0, f1⟩ := arr9_two HA4.out))
    have hv4 := HV4.out
    obtain rfl := HML.out
    obtain ⟨hE, hO2, hBl⟩ := pass9 (W2 := w) (R := ⟨xs.take P ++ xs.drop (P + 1), 0⟩) HA4.out HB4.out (Nat.le_refl _) hl1 hv4
    exact bodyPost_ret (v := .agg #[.slice (some ⟨w1.heap.size, 0, none⟩) (xs.take P ++ xs.drop (P + 1)).length ((xs.take P ++ xs.drop (P + 1)).length + 1), .int .i64 0]) (results_cell_row (P := Try.prog) Try.results20 _ _ w.heap.size 27 _ (0, 0) _ rfl hE Try.underlying27 rfl (by kernel_rfl)) rfl
      ⟨⟨_, _, rfl, hO2⟩, hBl⟩
end Go.Proofs.Ytafdjjdmcnlddaa

namespace Go.Proofs.Ytafdjjdmcnlddaa
set_option linter.unusedSimpArgs false
set_option linter.unusedVariables false
open Go.RowKit Go.Joins

theorem bnd_size {xs : List SeL} {r : ByteArray} (h : 400 < xs.length ∨ 20000 < r.size) : bindR xs r = illS 2 := by unfold bindR; exact if_pos h
theorem bnd_form {xs : List SeL} {r : ByteArray} (h : ¬ (400 < xs.length ∨ 20000 < r.size)) (h2 : okB xs = false ∨ resB r = false) : bindR xs r = illS 1 := by unfold bindR; rw [if_neg h, if_pos h2]
theorem bnd_there {xs : List SeL} {r : ByteArray} (h : ¬ (400 < xs.length ∨ 20000 < r.size)) (h2 : ¬ (okB xs = false ∨ resB r = false)) (h3 : hereB r xs = true) : bindR xs r = illS 7 := by unfold bindR; rw [if_neg h, if_neg h2, if_pos h3]
theorem bnd_full {xs : List SeL} {r : ByteArray} (h : ¬ (400 < xs.length ∨ 20000 < r.size)) (h2 : ¬ (okB xs = false ∨ resB r = false)) (h3 : ¬ hereB r xs = true) (h4 : xs.length = 5) : bindR xs r = illS 9 := by unfold bindR; rw [if_neg h, if_neg h2, if_neg h3, if_pos h4]
theorem bnd_ok {xs : List SeL} {r : ByteArray} (h : ¬ (400 < xs.length ∨ 20000 < r.size)) (h2 : ¬ (okB xs = false ∨ resB r = false)) (h3 : ¬ hereB r xs = true) (h4 : ¬ xs.length = 5) : bindR xs r = ⟨(xs.take (posS r xs) ++ [newS r]) ++ xs.drop (posS r xs), 0⟩ := by
  unfold bindR
  rw [if_neg h, if_neg h2, if_neg h3, if_neg h4, List.append_assoc]
  rfl
/-- append(v, session). -/
theorem wp_app_one9 {o : Oper} {a : Act} {w : World} {K : Act → World → Prop} {Q : Exit → Act → World → Prop} (s x : Operand)
    (ho : o.op = .call { callee := .builtin .append, args := #[s, x], argTypes := #[23, 23] })
    (B : Nat) (v : Value) (ys : List SeL) (hs : a.eval s = v) (hown : OwnC seC w B 84 4 v ys) (g : Nat) (z : SeL) (hx : a.eval x = .slice (some ⟨g, 0, none⟩) 1 1) (hA : Arr w g 84 (seC z))
    (hlen : ys.length ≤ 1000000) (hB : B ≤ w.heap.size) (h : ∀ v' w', OwnC seC w' B 84 4 v' (ys ++ [z]) → w.grownBy w' v.ownBlock → K (a.put o.dst v') w') : o.wp Try.prog a w K Q :=
  wp_app_sub9 s x ho B v ys hs hown g 0 1 1 [z] hx rfl (fun i hi j hj => by
    have h0 : i = 0 := by simp at hi; omega
    subst h0
    have e := hA.cell j
    rw [Nat.zero_mul, Nat.zero_add, Nat.zero_add]
    match j, hj with
    | 0, _ => exact hA.cell 0
    | 1, _ => exact hA.cell 1
    | 2, _ => exact hA.cell 2
    | 3, _ => exact hA.cell 3) (by simp; omega) hB h
set_option maxRecDepth 100000 in
set_option maxHeartbeats 8000000 in
theorem spec_bind (xs : List SeL) (r : ByteArray) (p : Option Addr) (c B0 : Nat) (w : World) (hn : xs.length ≤ 1048576) (hr : r.size ≤ 1048576) (hw : ∀ x ∈ xs, x.r.size ≤ 1048576 ∧ x.s.size ≤ 1048576) (hO : OwnC seC w B0 84 4 (.slice p xs.length c) xs) :
    Calls Try.prog 19 #[.slice p xs.length c, .string r] w fun e w' => SoIs w.heap.size (bindR xs r) e w' ∧ Below w.heap.size w w' := by
  have HA0 : Hid (Arr (w.alloc (.cells #[.slice none 0 0, .int .i64 0] 27)) w.heap.size 27 [.slice none 0 0, .int .i64 0]) := Lib.hid (Arr.fresh w _ [.slice none 0 0, .int .i64 0])
  have HB0 : Hid (Below w.heap.size w (w.alloc (.cells #[.slice none 0 0, .int .i64 0] 27))) := Lib.hid ((Below.refl _ _).alloc (Nat.le_refl _) _)
  have HO := Lib.hid (fun W (h : Below w.heap.size w W) => hO.on h)
  have i0 := fun code W => spec_ill9 code W
  have i1 := fun W h => spec_seright xs p c W hn (fun x hx => by have := (hw x hx).1; unfold maxLen; omega) h
  have i2 := fun W (hk : okB xs = true) h => spec_at9 xs r p c W hn (okB_iff.1 hk).2.1 h
  have i3 := fun W => spec_res9 r W (by unfold maxLen; omega)
  unfold SaysB at i3
  obtain ⟨n, hxn⟩ : ∃ n, xs.length = n := ⟨_, rfl⟩
  have HN := Lib.hid hxn
  by_cases h1 : 400 < xs.length ∨ 20000 < r.size
  · rw [bnd_size h1]
    rw [hxn] at h1 hn ⊢
    clear hO hw i1 i2 hxn
    by_cases h2 : 400 < n
    · clear h1
      go_enter Try.func19, Try.ntmps19
      go_wp2_with (first
        | (go_at_call 71; go_fit (i0 _ _); rintro e0 w9 ⟨rfl, hb⟩; have HA9 := Lib.hid (arr9_on HA0.out hb); have HB9 := Lib.hid (HB0.out.trans (hb.mono HB0.out.size)); clear hb; obtain ⟨⟨c0, c1⟩, k0, k1⟩ := arr9_two HA9.out))
      have hE : Arr _ w.heap.size 27 [.slice none 0 0, .int .i64 2] := ((HA9.out.put 0 (.slice none 0 0)).put 1 (.int .i64 2))
      exact bodyPost_ret (v := .agg #[.slice none 0 0, .int .i64 2]) (results_cell_row (P := Try.prog) Try.results19 _ _ w.heap.size 27 _ (0, 0) _ rfl hE Try.underlying27 rfl (by kernel_rfl)) rfl
        ⟨so_ill _ _ _, (HB9.out.setCell (p := ⟨w.heap.size, 0, none⟩) (Nat.le_refl _) _).setCell (p := ⟨w.heap.size, 1, none⟩) (Nat.le_refl _) _⟩
    · have h3 : 20000 < r.size := by omega
      clear h1
      go_enter Try.func19, Try.ntmps19
      go_wp2_with (first
        | (go_at_call 71; go_fit (i0 _ _); rintro e0 w9 ⟨rfl, hb⟩; have HA9 := Lib.hid (arr9_on HA0.out hb); have HB9 := Lib.hid (HB0.out.trans (hb.mono HB0.out.size)); clear hb; obtain ⟨⟨c0, c1⟩, k0, k1⟩ := arr9_two HA9.out))
      have hE : Arr _ w.heap.size 27 [.slice none 0 0, .int .i64 2] := ((HA9.out.put 0 (.slice none 0 0)).put 1 (.int .i64 2))
      exact bodyPost_ret (v := .agg #[.slice none 0 0, .int .i64 2]) (results_cell_row (P := Try.prog) Try.results19 _ _ w.heap.size 27 _ (0, 0) _ rfl hE Try.underlying27 rfl (by kernel_rfl)) rfl
        ⟨so_ill _ _ _, (HB9.out.setCell (p := ⟨w.heap.size, 0, none⟩) (Nat.le_refl _) _).setCell (p := ⟨w.heap.size, 1, none⟩) (Nat.le_refl _) _⟩
  have g1 : ¬ 400 < n := by omega
  have g2 : ¬ 20000 < r.size := by omega
  by_cases h2 : okB xs = true
  rotate_left
  · rw [bnd_form h1 (.inl (by simpa using h2))]
    rw [show okB xs = false by simpa using h2] at i1
    rw [hxn] at hn i1 HO ⊢
    clear hO hw i2 hxn h1 h2
    go_enter Try.func19, Try.ntmps19
    go_wp2_with (first
      | (go_at_call 31; go_fit (i1 _ (row_own9 (HO.out _ HB0.out))); rintro e0 w1 ⟨rfl, hb⟩; have HA1 := Lib.hid (arr9_on HA0.out hb); have HB1 := Lib.hid (HB0.out.trans (hb.mono HB0.out.size)); clear hb)
      | (go_at_call 71; go_fit (i0 _ _); rintro e0 w9 ⟨rfl, hb⟩; have HA9 := Lib.hid (arr9_on HA1.out hb); have HB9 := Lib.hid (HB1.out.trans (hb.mono HB1.out.size)); clear hb; obtain ⟨⟨c0, c1⟩, k0, k1⟩ := arr9_two HA9.out))
    have hE : Arr _ w.heap.size 27 [.slice none 0 0, .int .i64 1] := ((HA9.out.put 0 (.slice none 0 0)).put 1 (.int .i64 1))
    exact bodyPost_ret (v := .agg #[.slice none 0 0, .int .i64 1]) (results_cell_row (P := Try.prog) Try.results19 _ _ w.heap.size 27 _ (0, 0) _ rfl hE Try.underlying27 rfl (by kernel_rfl)) rfl
      ⟨so_ill _ _ _, (HB9.out.setCell (p := ⟨w.heap.size, 0, none⟩) (Nat.le_refl _) _).setCell (p := ⟨w.heap.size, 1, none⟩) (Nat.le_refl _) _⟩
  replace i2 := fun W h => i2 W h2 h
  rw [h2] at i1
  by_cases hres : resB r = true
  rotate_left
  · rw [bnd_form h1 (.inr (by simpa using hres))]
    rw [show resB r = false by simpa using hres] at i3
    rw [hxn] at hn i1 HO ⊢
    clear hO hw i2 hxn h1 h2
    go_enter Try.func19, Try.ntmps19
    go_wp2_with (first
      | (go_at_call 31; go_fit (i1 _ (row_own9 (HO.out _ HB0.out))); rintro e0 w1 ⟨rfl, hb⟩; have HA1 := Lib.hid (arr9_on HA0.out hb); have HB1 := Lib.hid (HB0.out.trans (hb.mono HB0.out.size)); clear hb)
      | (go_at_call 72; go_fit (i3 _); rintro e0 w5 ⟨rfl, h5⟩; subst h5)
      | (go_at_call 71; go_fit (i0 _ _); rintro e0 w9 ⟨rfl, hb⟩; have HA9 := Lib.hid (arr9_on HA1.out hb); have HB9 := Lib.hid (HB1.out.trans (hb.mono HB1.out.size)); clear hb; obtain ⟨⟨c0, c1⟩, k0, k1⟩ := arr9_two HA9.out))
    have hE : Arr _ w.heap.size 27 [.slice none 0 0, .int .i64 1] := ((HA9.out.put 0 (.slice none 0 0)).put 1 (.int .i64 1))
    exact bodyPost_ret (v := .agg #[.slice none 0 0, .int .i64 1]) (results_cell_row (P := Try.prog) Try.results19 _ _ w.heap.size 27 _ (0, 0) _ rfl hE Try.underlying27 rfl (by kernel_rfl)) rfl
      ⟨so_ill _ _ _, (HB9.out.setCell (p := ⟨w.heap.size, 0, none⟩) (Nat.le_refl _) _).setCell (p := ⟨w.heap.size, 1, none⟩) (Nat.le_refl _) _⟩
  have hnf : ¬ (okB xs = false ∨ resB r = false) := by rw [h2, hres]; simp
  rw [hres] at i3
  unfold whereI at i2
  by_cases h3 : hereB r xs = true
  · rw [bnd_there h1 hnf h3]
    rw [if_pos h3] at i2
    have q1 : (0 : Int) ≤ (posS r xs : Int) := by omega
    obtain ⟨P, hP⟩ : ∃ P, posS r xs = P := ⟨_, rfl⟩
    rw [hP] at i2 q1
    rw [hxn] at hn i1 i2 HO ⊢
    clear hO hw hxn h1 h2 hP h3 hnf
    go_enter Try.func19, Try.ntmps19
    go_wp2_with (first
      | (go_at_call 31; go_fit (i1 _ (row_own9 (HO.out _ HB0.out))); rintro e0 w1 ⟨rfl, hb⟩; have HA1 := Lib.hid (arr9_on HA0.out hb); have HB1 := Lib.hid (HB0.out.trans (hb.mono HB0.out.size)); clear hb)
      | (go_at_call 72; go_fit (i3 _); rintro e0 w5 ⟨rfl, h5⟩; subst h5)
      | (go_at_call 73; go_fit (i2 _ (row_own9 (HO.out _ HB1.out))); rintro e0 w2 ⟨rfl, hb⟩; have HA2 := Lib.hid (arr9_on HA1.out hb); have HB2 := Lib.hid (HB1.out.trans (hb.mono HB1.out.size)); clear hb)
      | (go_at_call 71; go_fit (i0 _ _); rintro e0 w9 ⟨rfl, hb⟩; have HA9 := Lib.hid (arr9_on HA2.out hb); have HB9 := Lib.hid (HB2.out.trans (hb.mono HB2.out.size)); clear hb; obtain ⟨⟨c0, c1⟩, k0, k1⟩ := arr9_two HA9.out))
    have hE : Arr _ w.heap.size 27 [.slice none 0 0, .int .i64 7] := ((HA9.out.put 0 (.slice none 0 0)).put 1 (.int .i64 7))
    exact bodyPost_ret (v := .agg #[.slice none 0 0, .int .i64 7]) (results_cell_row (P := Try.prog) Try.results19 _ _ w.heap.size 27 _ (0, 0) _ rfl hE Try.underlying27 rfl (by kernel_rfl)) rfl
      ⟨so_ill _ _ _, (HB9.out.setCell (p := ⟨w.heap.size, 0, none⟩) (Nat.le_refl _) _).setCell (p := ⟨w.heap.size, 1, none⟩) (Nat.le_refl _) _⟩
  rw [if_neg h3] at i2
  by_cases h4 : xs.length = 5
  · rw [bnd_full h1 hnf h3 h4]
    rw [hxn] at hn i1 i2 HO h4 ⊢
    have q1 : (5 : Int) ≤ (n : Int) := by omega
    clear hO hw hxn h1 h2 h3 hnf h4
    go_enter Try.func19, Try.ntmps19
    go_wp2_with (first
      | (go_at_call 31; go_fit (i1 _ (row_own9 (HO.out _ HB0.out))); rintro e0 w1 ⟨rfl, hb⟩; have HA1 := Lib.hid (arr9_on HA0.out hb); have HB1 := Lib.hid (HB0.out.trans (hb.mono HB0.out.size)); clear hb)
      | (go_at_call 72; go_fit (i3 _); rintro e0 w5 ⟨rfl, h5⟩; subst h5)
      | (go_at_call 73; go_fit (i2 _ (row_own9 (HO.out _ HB1.out))); rintro e0 w2 ⟨rfl, hb⟩; have HA2 := Lib.hid (arr9_on HA1.out hb); have HB2 := Lib.hid (HB1.out.trans (hb.mono HB1.out.size)); clear hb)
      | (go_at_call 71; go_fit (i0 _ _); rintro e0 w9 ⟨rfl, hb⟩; have HA9 := Lib.hid (arr9_on HA2.out hb); have HB9 := Lib.hid (HB2.out.trans (hb.mono HB2.out.size)); clear hb; obtain ⟨⟨c0, c1⟩, k0, k1⟩ := arr9_two HA9.out))
    have hE : Arr _ w.heap.size 27 [.slice none 0 0, .int .i64 9] := ((HA9.out.put 0 (.slice none 0 0)).put 1 (.int .i64 9))
    exact bodyPost_ret (v := .agg #[.slice none 0 0, .int .i64 9]) (results_cell_row (P := Try.prog) Try.results19 _ _ w.heap.size 27 _ (0, 0) _ rfl hE Try.underlying27 rfl (by kernel_rfl)) rfl
      ⟨so_ill _ _ _, (HB9.out.setCell (p := ⟨w.heap.size, 0, none⟩) (Nat.le_refl _) _).setCell (p := ⟨w.heap.size, 1, none⟩) (Nat.le_refl _) _⟩
  rw [bnd_ok h1 hnf h3 h4]
  have h5 := (okB_iff.1 h2).1
  have hple := pos_le r xs
  have HTL : Hid ((xs.take (posS r xs)).length ≤ 5) := Lib.hid (by rw [List.length_take]; omega)
  obtain ⟨P, hP⟩ : ∃ P, posS r xs = P := ⟨_, rfl⟩
  rw [hP] at hple HTL ⊢
  have HLO : Hid (∀ k (hk : k < xs.length), k < P → Op.bytesLess xs[k].r.toList r.toList = true) := Lib.hid (by subst hP; exact fun k hk h => pos_lo hk h)
  have HAT : Hid (∀ (h : P < xs.length), Op.bytesLess xs[P].r.toList r.toList = false) := Lib.hid (by subst hP; exact fun h => pos_at h)
  obtain ⟨m, hm⟩ : ∃ m, ((xs.take P ++ [newS r]) ++ xs.drop P).length = m := ⟨_, rfl⟩
  have HM := Lib.hid hm
  obtain ⟨R, hR⟩ : ∃ R, (⟨(xs.take P ++ [newS r]) ++ xs.drop P, 0⟩ : SoL) = R := ⟨_, rfl⟩
  rw [hR]
  have HRR := Lib.hid hR
  clear hR
  have hcap : n ≤ c := by
    rcases hO.2 with ⟨h0, h0'⟩ | ⟨g', cap', cur, q1, _, _, q4, _⟩
    · omega
    · injection q1 with _ q2 q3
      subst q3
      omega
  have hpg : (p = none ∧ c = 0 ∧ xs = []) ∨ ∃ g, p = some ⟨g, 0, none⟩ := by
    rcases hO.2 with ⟨h0, h0'⟩ | ⟨g', cap', cur, q1, _, _, q4, _⟩
    · injection h0 with e1 e2 e3
      exact .inl ⟨e1, e3, List.eq_nil_of_length_eq_zero h0'⟩
    · injection q1 with q1
      exact .inr ⟨g', q1⟩
  rw [hxn] at hn i1 i2 HO h4 h5 hple ⊢
  have h6 : ¬ ((5 : Int) ≤ (n : Int)) := by omega
  have q2 : (P : Int) ≤ (n : Int) := by omega
  have q4 : (0 : Int) ≤ (P : Int) := by omega
  have q6 : (n : Int) ≤ (c : Int) := by omega
  have q7 : (P : Int) ≤ (c : Int) := by omega
  clear hO hw h1 h2 hnf h3 hP hres hm
  rcases hpg with ⟨rfl, rfl, hx0⟩ | ⟨g, rfl⟩
  · have HX0 := Lib.hid hx0
    obtain rfl : n = 0 := by rw [hx0] at hxn; exact hxn.symm
    obtain rfl : P = 0 := by omega
    clear hx0 hxn
    go_enter Try.func19, Try.ntmps19
    go_wp2_with (first
      | (go_at_call 31; go_fit (i1 _ (row_own9 (HO.out _ HB0.out))); rintro e0 w1 ⟨rfl, hb⟩; have HA1 := Lib.hid (arr9_on HA0.out hb); have HB1 := Lib.hid (HB0.out.trans (hb.mono HB0.out.size)); clear hb)
      | (go_at_call 72; go_fit (i3 _); rintro e0 w5 ⟨rfl, h5⟩; subst h5)
      | (go_at_call 73; go_fit (i2 _ (row_own9 (HO.out _ HB1.out))); rintro e0 w2 ⟨rfl, hb⟩; have HA2 := Lib.hid (arr9_on HA1.out hb); have HB2 := Lib.hid (HB1.out.trans (hb.mono HB1.out.size)); clear hb))
    go_loopw [5] (fun iq wr => ∃ k : Nat, k ≤ 0 ∧ iq = .int .i64 k ∧ Arr wr w.heap.size 27 [.slice none 0 0, .int .i64 0] ∧ Below w.heap.size w wr) (fun i _ => 0 - (intOf i).toNat)
    case atStart => exact ⟨0, Nat.zero_le _, rfl, HA2.out, HB2.out⟩
    case round =>
      obtain ⟨k, hk, rfl, hA, hb⟩ := hrel
      have HAr := Lib.hid hA
      have HBr := Lib.hid hb
      have hzd : w.heap.size < wr.heap.size := arr9_lt hA
      clear hA
      obtain rfl : k = 0 := by omega
      clear hb
      go_wp2_with (first
        | (at_builtin; have _ := HV5; refine wpList_plain rfl fun K hK => ?_; refine wp_app_row9 _ _ rfl wr.heap.size v5 (xs.take 0 ++ [newS r]) rfl HV5.out 0 none 0 0 (xs.drop 0) rfl (by rw [HX0.out, List.drop_nil]; exact ownC_nil _ _ _ _ _) (by rw [List.length_append, List.length_take, List.length_drop, HN.out]; first | (simp; done) | (simp; omega)) (by have := HS5.out; omega) ?_; intro v6 w6 hv6 hg6; have HV6 := Lib.hid hv6; have HA6 : Hid (Arr w6 w.heap.size 27 [.slice none 0 0, .int .i64 0]) := Lib.hid ((hg6.block _ (arr9_lt HA5.out) (fun e => by have := HW5.out _ e.symm; omega)).trans HA5.out); have HB6 : Hid (Below w.heap.size w w6) := Lib.hid (HB5.out.grown hg6 HB5.out.size (fun k hk => by have := HW5.out k hk; omega)); clear hv6 hg6; obtain ⟨q6, k6, e6, -⟩ := HV6.out.row seC_len; rw [HM.out] at e6; subst e6; obtain ⟨⟨c0, c1⟩, k0, k1⟩ := arr9_two HA6.out; refine hK _ _ ?_)
        | (at_builtin; have _ := HV4; refine wpList_plain rfl fun K hK => ?_; refine wp_app_one9 _ _ rfl wr.heap.size v4 (xs.take 0) rfl (HV4.out.alloc _) w4.heap.size (newS r) rfl (Arr.fresh w4 84 (seC (newS r))) (by have := HTL.out; omega) (by rw [World.size_alloc]; have := HS4.out; omega) ?_; intro v5 w5 hv5 hg5; have hb4 := own_base HV4.out; have hlt4 := (arr9_lt HA4.out); have HV5 := Lib.hid hv5; have HA5 : Hid (Arr w5 w.heap.size 27 [.slice none 0 0, .int .i64 0]) := Lib.hid ((hg5.block _ (by rw [World.size_alloc]; omega) (fun e => by have := hb4 _ e.symm; omega)).trans (arr9_on HA4.out ((Below.refl _ _).alloc (Nat.le_refl _) _))); have HB5 : Hid (Below w.heap.size w w5) := Lib.hid ((HB4.out.alloc HB4.out.size _).grown hg5 (HB4.out.alloc HB4.out.size _).size (fun k hk => by have := hb4 k hk; omega)); have HW5 := Lib.hid (own_base hv5); have HS5 : Hid (wr.heap.size ≤ w5.heap.size) := Lib.hid (by have := hg5.size; have := HS4.out; rw [World.size_alloc] at *; omega); clear hv5 hg5 hb4; refine hK _ _ ?_)
        | (at_builtin; refine wpList_plain rfl fun K hK => ?_; refine wp_app_row9 _ _ rfl wr.heap.size _ [] rfl (empty_row9 wr) 0 none 0 0 (xs.take 0) rfl (by rw [HX0.out, List.take_nil]; exact ownC_nil _ _ _ _ _) (by have := HTL.out; rw [List.length_nil, Nat.zero_add]; omega) (by simp) ?_; intro v4 w4 hv4 hg4; rw [List.nil_append] at hv4; have HV4 := Lib.hid hv4; have HA4 : Hid (Arr w4 w.heap.size 27 [.slice none 0 0, .int .i64 0]) := Lib.hid ((hg4.block _ (by rw [World.size_alloc]; omega) (fun e => by injection e with e; have e' : wr.heap.size = w.heap.size := e.symm; omega)).trans (arr9_on HAr.out ((Below.refl _ _).alloc (Nat.le_refl _) _))); have HB4 : Hid (Below w.heap.size w w4) := Lib.hid ((HBr.out.alloc HBr.out.size _).grown hg4 (HBr.out.alloc HBr.out.size _).size (fun k hk => by injection hk with hk; have hk' : wr.heap.size = k := hk; omega)); have HS4 : Hid (wr.heap.size ≤ w4.heap.size) := Lib.hid (by have := hg4.size; rw [World.size_alloc] at this; omega); clear hv4 hg4; refine hK _ _ ?_))
      obtain rfl := HM.out
      obtain rfl := HRR.out
      obtain ⟨hE, hO2, hBl⟩ := pass9 (W2 := w) (R := ⟨(xs.take 0 ++ [newS r]) ++ xs.drop 0, 0⟩) HA6.out HB6.out (Nat.le_refl _) hzd HV6.out
      exact bodyPost_ret (v := .agg #[.slice q6 ((xs.take 0 ++ [newS r]) ++ xs.drop 0).length k6, .int .i64 0]) (results_cell_row (P := Try.prog) Try.results19 _ _ w.heap.size 27 _ (0, 0) _ rfl hE Try.underlying27 rfl (by kernel_rfl)) rfl
        ⟨⟨q6, k6, rfl, hO2⟩, hBl⟩
  · clear hxn
    go_enter Try.func19, Try.ntmps19
    go_wp2_with (first
      | (go_at_call 31; go_fit (i1 _ (row_own9 (HO.out _ HB0.out))); rintro e0 w1 ⟨rfl, hb⟩; have HA1 := Lib.hid (arr9_on HA0.out hb); have HB1 := Lib.hid (HB0.out.trans (hb.mono HB0.out.size)); clear hb)
      | (go_at_call 72; go_fit (i3 _); rintro e0 w5 ⟨rfl, h5⟩; subst h5)
      | (go_at_call 73; go_fit (i2 _ (row_own9 (HO.out _ HB1.out))); rintro e0 w2 ⟨rfl, hb⟩; have HA2 := Lib.hid (arr9_on HA1.out hb); have HB2 := Lib.hid (HB1.out.trans (hb.mono HB1.out.size)); clear hb))
    go_loopw [5] (fun iq wr => ∃ k : Nat, k ≤ P ∧ iq = .int .i64 k ∧ Arr wr w.heap.size 27 [.slice none 0 0, .int .i64 0] ∧ Below w.heap.size w wr) (fun i _ => P - (intOf i).toNat)
    case atStart => exact ⟨0, Nat.zero_le _, rfl, HA2.out, HB2.out⟩
    case round =>
      obtain ⟨k, hk, rfl, hA, hb⟩ := hrel
      have HAr := Lib.hid hA
      have HBr := Lib.hid hb
      have hzd : w.heap.size < wr.heap.size := arr9_lt hA
      clear hA
      by_cases hlt : k < P
      · have hlt1 : k < xs.length := by rw [HN.out]; omega
        obtain ⟨g', hgg, hg, a0, -⟩ := row_se4 (row_own9 (HO.out _ hb)) hlt1
        injection hgg with hgg
        injection hgg with hgg
        subst hgg
        have hbl := HLO.out k hlt1 hlt
        obtain ⟨x, hx⟩ : ∃ x, xs[k] = x := ⟨_, rfl⟩
        rw [hx] at a0 hbl
        clear hb hx
        go_wp2
        go_roundw
        case rel => exact ⟨k + 1, by omega, by go_num, HAr.out, HBr.out⟩
        case measure => simp [intOf]; omega
      · have hkP : k = P := by omega
        subst hkP
        clear hlt
        by_cases hpn : k < n
        · have hlt1 : k < xs.length := by rw [HN.out]; omega
          obtain ⟨g', hgg, hg, a0, -⟩ := row_se4 (row_own9 (HO.out _ hb)) hlt1
          injection hgg with hgg
          injection hgg with hgg
          subst hgg
          have hbl := HAT.out hlt1
          obtain ⟨x, hx⟩ : ∃ x, xs[k] = x := ⟨_, rfl⟩
          rw [hx] at a0 hbl
          have hck : ¬ c = k := by omega
          have hck2 : ¬ ((c : Int) = (k : Int)) := by omega
          clear hb hx
          go_wp2_with (first
            | (at_builtin; have _ := HV5; refine wpList_plain rfl fun K hK => ?_; refine wp_app_sub9 _ _ rfl wr.heap.size v5 (xs.take k ++ [newS r]) rfl HV5.out g (k * 4) (n - k) (c - k) (xs.drop k) rfl (by rw [List.length_drop, HN.out] <;> omega) (fun i hi j hj => by rw [List.length_drop, HN.out] at hi; first | (exfalso; omega) | rw [show (k * 4) + (i * 4 + j) = (k + i) * 4 + j by omega, OwnC.cell seC_len (HO.out _ HB5.out) (k + i) j (by rw [HN.out]; omega) hj, List.getElem_drop]) (by rw [List.length_append, List.length_take, List.length_drop, HN.out]; first | (simp; done) | (simp; omega)) (by have := HS5.out; omega) ?_; intro v6 w6 hv6 hg6; have HV6 := Lib.hid hv6; have HA6 : Hid (Arr w6 w.heap.size 27 [.slice none 0 0, .int .i64 0]) := Lib.hid ((hg6.block _ (arr9_lt HA5.out) (fun e => by have := HW5.out _ e.symm; omega)).trans HA5.out); have HB6 : Hid (Below w.heap.size w w6) := Lib.hid (HB5.out.grown hg6 HB5.out.size (fun k hk => by have := HW5.out k hk; omega)); clear hv6 hg6; obtain ⟨q6, k6, e6, -⟩ := HV6.out.row seC_len; rw [HM.out] at e6; subst e6; obtain ⟨⟨c0, c1⟩, k0, k1⟩ := arr9_two HA6.out; refine hK _ _ ?_)
            | (at_builtin; have _ := HV4; refine wpList_plain rfl fun K hK => ?_; refine wp_app_one9 _ _ rfl wr.heap.size v4 (xs.take k) rfl (HV4.out.alloc _) w4.heap.size (newS r) rfl (Arr.fresh w4 84 (seC (newS r))) (by have := HTL.out; omega) (by rw [World.size_alloc]; have := HS4.out; omega) ?_; intro v5 w5 hv5 hg5; have hb4 := own_base HV4.out; have hlt4 := (arr9_lt HA4.out); have HV5 := Lib.hid hv5; have HA5 : Hid (Arr w5 w.heap.size 27 [.slice none 0 0, .int .i64 0]) := Lib.hid ((hg5.block _ (by rw [World.size_alloc]; omega) (fun e => by have := hb4 _ e.symm; omega)).trans (arr9_on HA4.out ((Below.refl _ _).alloc (Nat.le_refl _) _))); have HB5 : Hid (Below w.heap.size w w5) := Lib.hid ((HB4.out.alloc HB4.out.size _).grown hg5 (HB4.out.alloc HB4.out.size _).size (fun k hk => by have := hb4 k hk; omega)); have HW5 := Lib.hid (own_base hv5); have HS5 : Hid (wr.heap.size ≤ w5.heap.size) := Lib.hid (by have := hg5.size; have := HS4.out; rw [World.size_alloc] at *; omega); clear hv5 hg5 hb4; refine hK _ _ ?_)
            | (at_builtin; refine wpList_plain rfl fun K hK => ?_; refine wp_app_sub9 _ _ rfl wr.heap.size _ [] rfl (empty_row9 wr) g 0 k c (xs.take k) rfl (by rw [List.length_take, HN.out]; omega) (fun i hi j hj => by have hi1 : i < k := (by rw [List.length_take] at hi; omega); rw [Nat.zero_add, OwnC.cell seC_len (HO.out _ (HBr.out.alloc HBr.out.size _)) i j (by rw [HN.out]; omega) hj, List.getElem_take]) (by rw [List.length_take, HN.out]; first | (simp; done) | (simp; omega)) (by simp) ?_; intro v4 w4 hv4 hg4; rw [List.nil_append] at hv4; have HV4 := Lib.hid hv4; have HA4 : Hid (Arr w4 w.heap.size 27 [.slice none 0 0, .int .i64 0]) := Lib.hid ((hg4.block _ (by rw [World.size_alloc]; omega) (fun e => by injection e with e; have e' : wr.heap.size = w.heap.size := e.symm; omega)).trans (arr9_on HAr.out ((Below.refl _ _).alloc (Nat.le_refl _) _))); have HB4 : Hid (Below w.heap.size w w4) := Lib.hid ((HBr.out.alloc HBr.out.size _).grown hg4 (HBr.out.alloc HBr.out.size _).size (fun k hk => by injection hk with hk; have hk' : wr.heap.size = k := hk; omega)); have HS4 : Hid (wr.heap.size ≤ w4.heap.size) := Lib.hid (by have := hg4.size; rw [World.size_alloc] at this; omega); clear hv4 hg4; refine hK _ _ ?_))
          obtain rfl := HM.out
          obtain rfl := HRR.out
          obtain ⟨hE, hO2, hBl⟩ := pass9 (W2 := w) (R := ⟨(xs.take k ++ [newS r]) ++ xs.drop k, 0⟩) HA6.out HB6.out (Nat.le_refl _) hzd HV6.out
          exact bodyPost_ret (v := .agg #[.slice q6 ((xs.take k ++ [newS r]) ++ xs.drop k).length k6, .int .i64 0]) (results_cell_row (P := Try.prog) Try.results19 _ _ w.heap.size 27 _ (0, 0) _ rfl hE Try.underlying27 rfl (by kernel_rfl)) rfl
            ⟨⟨q6, k6, rfl, hO2⟩, hBl⟩
        · obtain rfl : k = n := by omega
          clear hb
          by_cases hc : c = k
          · obtain rfl : k = c := hc.symm
            go_wp2_with (first
              | (at_builtin; have _ := HV5; refine wpList_plain rfl fun K hK => ?_; refine wp_app_sub9 _ _ rfl wr.heap.size v5 (xs.take k ++ [newS r]) rfl HV5.out g 0 0 0 (xs.drop k) rfl (by rw [List.length_drop, HN.out] <;> omega) (fun i hi j hj => by rw [List.length_drop, HN.out] at hi; first | (exfalso; omega) | rw [show 0 + (i * 4 + j) = (k + i) * 4 + j by omega, OwnC.cell seC_len (HO.out _ HB5.out) (k + i) j (by rw [HN.out]; omega) hj, List.getElem_drop]) (by rw [List.length_append, List.length_take, List.length_drop, HN.out]; first | (simp; done) | (simp; omega)) (by have := HS5.out; omega) ?_; intro v6 w6 hv6 hg6; have HV6 := Lib.hid hv6; have HA6 : Hid (Arr w6 w.heap.size 27 [.slice none 0 0, .int .i64 0]) := Lib.hid ((hg6.block _ (arr9_lt HA5.out) (fun e => by have := HW5.out _ e.symm; omega)).trans HA5.out); have HB6 : Hid (Below w.heap.size w w6) := Lib.hid (HB5.out.grown hg6 HB5.out.size (fun k hk => by have := HW5.out k hk; omega)); clear hv6 hg6; obtain ⟨q6, k6, e6, -⟩ := HV6.out.row seC_len; rw [HM.out] at e6; subst e6; obtain ⟨⟨c0, c1⟩, k0, k1⟩ := arr9_two HA6.out; refine hK _ _ ?_)
              | (at_builtin; have _ := HV4; refine wpList_plain rfl fun K hK => ?_; refine wp_app_one9 _ _ rfl wr.heap.size v4 (xs.take k) rfl (HV4.out.alloc _) w4.heap.size (newS r) rfl (Arr.fresh w4 84 (seC (newS r))) (by have := HTL.out; omega) (by rw [World.size_alloc]; have := HS4.out; omega) ?_; intro v5 w5 hv5 hg5; have hb4 := own_base HV4.out; have hlt4 := (arr9_lt HA4.out); have HV5 := Lib.hid hv5; have HA5 : Hid (Arr w5 w.heap.size 27 [.slice none 0 0, .int .i64 0]) := Lib.hid ((hg5.block _ (by rw [World.size_alloc]; omega) (fun e => by have := hb4 _ e.symm; omega)).trans (arr9_on HA4.out ((Below.refl _ _).alloc (Nat.le_refl _) _))); have HB5 : Hid (Below w.heap.size w w5) := Lib.hid ((HB4.out.alloc HB4.out.size _).grown hg5 (HB4.out.alloc HB4.out.size _).size (fun k hk => by have := hb4 k hk; omega)); have HW5 := Lib.hid (own_base hv5); have HS5 : Hid (wr.heap.size ≤ w5.heap.size) := Lib.hid (by have := hg5.size; have := HS4.out; rw [World.size_alloc] at *; omega); clear hv5 hg5 hb4; refine hK _ _ ?_)
              | (at_builtin; refine wpList_plain rfl fun K hK => ?_; refine wp_app_sub9 _ _ rfl wr.heap.size _ [] rfl (empty_row9 wr) g 0 k k (xs.take k) rfl (by rw [List.length_take, HN.out]; omega) (fun i hi j hj => by have hi1 : i < k := (by rw [List.length_take] at hi; omega); rw [Nat.zero_add, OwnC.cell seC_len (HO.out _ (HBr.out.alloc HBr.out.size _)) i j (by rw [HN.out]; omega) hj, List.getElem_take]) (by rw [List.length_take, HN.out]; first | (simp; done) | (simp; omega)) (by simp) ?_; intro v4 w4 hv4 hg4; rw [List.nil_append] at hv4; have HV4 := Lib.hid hv4; have HA4 : Hid (Arr w4 w.heap.size 27 [.slice none 0 0, .int .i64 0]) := Lib.hid ((hg4.block _ (by rw [World.size_alloc]; omega) (fun e => by injection e with e; have e' : wr.heap.size = w.heap.size := e.symm; omega)).trans (arr9_on HAr.out ((Below.refl _ _).alloc (Nat.le_refl _) _))); have HB4 : Hid (Below w.heap.size w w4) := Lib.hid ((HBr.out.alloc HBr.out.size _).grown hg4 (HBr.out.alloc HBr.out.size _).size (fun k hk => by injection hk with hk; have hk' : wr.heap.size = k := hk; omega)); have HS4 : Hid (wr.heap.size ≤ w4.heap.size) := Lib.hid (by have := hg4.size; rw [World.size_alloc] at this; omega); clear hv4 hg4; refine hK _ _ ?_))
            obtain rfl := HM.out
            obtain rfl := HRR.out
            obtain ⟨hE, hO2, hBl⟩ := pass9 (W2 := w) (R := ⟨(xs.take k ++ [newS r]) ++ xs.drop k, 0⟩) HA6.out HB6.out (Nat.le_refl _) hzd HV6.out
            exact bodyPost_ret (v := .agg #[.slice q6 ((xs.take k ++ [newS r]) ++ xs.drop k).length k6, .int .i64 0]) (results_cell_row (P := Try.prog) Try.results19 _ _ w.heap.size 27 _ (0, 0) _ rfl hE Try.underlying27 rfl (by kernel_rfl)) rfl
              ⟨⟨q6, k6, rfl, hO2⟩, hBl⟩
          · have hck2 : ¬ ((c : Int) = (k : Int)) := by omega
            go_wp2_with (first
              | (at_builtin; have _ := HV5; refine wpList_plain rfl fun K hK => ?_; refine wp_app_sub9 _ _ rfl wr.heap.size v5 (xs.take k ++ [newS r]) rfl HV5.out g (k * 4) 0 (c - k) (xs.drop k) rfl (by rw [List.length_drop, HN.out] <;> omega) (fun i hi j hj => by rw [List.length_drop, HN.out] at hi; first | (exfalso; omega) | rw [show (k * 4) + (i * 4 + j) = (k + i) * 4 + j by omega, OwnC.cell seC_len (HO.out _ HB5.out) (k + i) j (by rw [HN.out]; omega) hj, List.getElem_drop]) (by rw [List.length_append, List.length_take, List.length_drop, HN.out]; first | (simp; done) | (simp; omega)) (by have := HS5.out; omega) ?_; intro v6 w6 hv6 hg6; have HV6 := Lib.hid hv6; have HA6 : Hid (Arr w6 w.heap.size 27 [.slice none 0 0, .int .i64 0]) := Lib.hid ((hg6.block _ (arr9_lt HA5.out) (fun e => by have := HW5.out _ e.symm; omega)).trans HA5.out); have HB6 : Hid (Below w.heap.size w w6) := Lib.hid (HB5.out.grown hg6 HB5.out.size (fun k hk => by have := HW5.out k hk; omega)); clear hv6 hg6; obtain ⟨q6, k6, e6, -⟩ := HV6.out.row seC_len; rw [HM.out] at e6; subst e6; obtain ⟨⟨c0, c1⟩, k0, k1⟩ := arr9_two HA6.out; refine hK _ _ ?_)
              | (at_builtin; have _ := HV4; refine wpList_plain rfl fun K hK => ?_; refine wp_app_one9 _ _ rfl wr.heap.size v4 (xs.take k) rfl (HV4.out.alloc _) w4.heap.size (newS r) rfl (Arr.fresh w4 84 (seC (newS r))) (by have := HTL.out; omega) (by rw [World.size_alloc]; have := HS4.out; omega) ?_; intro v5 w5 hv5 hg5; have hb4 := own_base HV4.out; have hlt4 := (arr9_lt HA4.out); have HV5 := Lib.hid hv5; have HA5 : Hid (Arr w5 w.heap.size 27 [.slice none 0 0, .int .i64 0]) := Lib.hid ((hg5.block _ (by rw [World.size_alloc]; omega) (fun e => by have := hb4 _ e.symm; omega)).trans (arr9_on HA4.out ((Below.refl _ _).alloc (Nat.le_refl _) _))); have HB5 : Hid (Below w.heap.size w w5) := Lib.hid ((HB4.out.alloc HB4.out.size _).grown hg5 (HB4.out.alloc HB4.out.size _).size (fun k hk => by have := hb4 k hk; omega)); have HW5 := Lib.hid (own_base hv5); have HS5 : Hid (wr.heap.size ≤ w5.heap.size) := Lib.hid (by have := hg5.size; have := HS4.out; rw [World.size_alloc] at *; omega); clear hv5 hg5 hb4; refine hK _ _ ?_)
              | (at_builtin; refine wpList_plain rfl fun K hK => ?_; refine wp_app_sub9 _ _ rfl wr.heap.size _ [] rfl (empty_row9 wr) g 0 k c (xs.take k) rfl (by rw [List.length_take, HN.out]; omega) (fun i hi j hj => by have hi1 : i < k := (by rw [List.length_take] at hi; omega); rw [Nat.zero_add, OwnC.cell seC_len (HO.out _ (HBr.out.alloc HBr.out.size _)) i j (by rw [HN.out]; omega) hj, List.getElem_take]) (by rw [List.length_take, HN.out]; first | (simp; done) | (simp; omega)) (by simp) ?_; intro v4 w4 hv4 hg4; rw [List.nil_append] at hv4; have HV4 := Lib.hid hv4; have HA4 : Hid (Arr w4 w.heap.size 27 [.slice none 0 0, .int .i64 0]) := Lib.hid ((hg4.block _ (by rw [World.size_alloc]; omega) (fun e => by injection e with e; have e' : wr.heap.size = w.heap.size := e.symm; omega)).trans (arr9_on HAr.out ((Below.refl _ _).alloc (Nat.le_refl _) _))); have HB4 : Hid (Below w.heap.size w w4) := Lib.hid ((HBr.out.alloc HBr.out.size _).grown hg4 (HBr.out.alloc HBr.out.size _).size (fun k hk => by injection hk with hk; have hk' : wr.heap.size = k := hk; omega)); have HS4 : Hid (wr.heap.size ≤ w4.heap.size) := Lib.hid (by have := hg4.size; rw [World.size_alloc] at this; omega); clear hv4 hg4; refine hK _ _ ?_))
            obtain rfl := HM.out
            obtain rfl := HRR.out
            obtain ⟨hE, hO2, hBl⟩ := pass9 (W2 := w) (R := ⟨(xs.take k ++ [newS r]) ++ xs.drop k, 0⟩) HA6.out HB6.out (Nat.le_refl _) hzd HV6.out
            exact bodyPost_ret (v := .agg #[.slice q6 ((xs.take k ++ [newS r]) ++ xs.drop k).length k6, .int .i64 0]) (results_cell_row (P := Try.prog) Try.results19 _ _ w.heap.size 27 _ (0, 0) _ rfl hE Try.underlying27 rfl (by kernel_rfl)) rfl
              ⟨⟨q6, k6, rfl, hO2⟩, hBl⟩
end Go.Proofs.Ytafdjjdmcnlddaa

namespace Go.Proofs.Ytafdjjdmcnlddaa
set_option linter.unusedSimpArgs false
set_option linter.unusedVariables false
open Go.RowKit Go.Joins

/-- copy(dst, src). -/
theorem run_copy9 (w : World) (ty g o dLen dCap src so sLen sCap m : Nat) (L cs : List Value) (hA : Arr w g 84 L) (hm : Nat.min sLen dLen = m) (hn : cs.length = m * 4) (hsrc : ∀ j u, cs[j]? = some u → w.cell? ⟨src, so + j, none⟩ = some u) (hfit : o + cs.length ≤ L.length) (h1 : ∀ u ∈ cs, u.oneCell' = true) :
    (Builtin.copy_ #[23, 23] ty #[.slice (some ⟨g, o, none⟩) dLen dCap, .slice (some ⟨src, so, none⟩) sLen sCap]).run Try.prog w = .ok (goInt m) (w.setRow g (L.take o ++ cs ++ L.drop (o + cs.length)).toArray) := by
  obtain ⟨i0, hi, hz0, hz1, hz2⟩ := info_parts info_sec
  have hl := run_loadCells_list (P := Try.prog) w ⟨src, so, none⟩ cs (fun j u hj => by
    rw [show (⟨src, so, none⟩ : Addr).add j = ⟨src, so + j, none⟩ by unfold Addr.add; split <;> simp_all]
    exact hsrc j u hj)
  have hst := run_storeCells_at Try.prog g o 84 cs 0 L.toArray w hA (by simpa using hfit) h1
  rw [hn] at hl
  simp [Builtin.copy_, run_underlying Try.underlying23, Builtin.lenOf, Builtin.firstCells, sizeOf, typeInfo, hi, hz1, hm, hl, hst]
theorem ins_list {A Y Z D : List Value} {a b : Nat} (hA : A.length = a) (hY : Y.length = b) (hfit : a + b + D.length ≤ (A ++ Z).length) :
    ∃ R, (((A ++ Z).take a ++ Y ++ (A ++ Z).drop (a + b)).take (a + b) ++ D ++ ((A ++ Z).take a ++ Y ++ (A ++ Z).drop (a + b)).drop (a + b + D.length)) = A ++ Y ++ D ++ R ∧ (A ++ Y ++ D ++ R).length = (A ++ Z).length := by
  have e1 : (A ++ Z).take a = A := by rw [List.take_append_of_le_length (by omega), List.take_of_length_le (by omega)]
  rw [e1]
  have hl : (A ++ Y).length = a + b := by rw [List.length_append, hA, hY]
  have e2 : (A ++ Y ++ (A ++ Z).drop (a + b)).take (a + b) = A ++ Y := by rw [List.take_append_of_le_length (by omega), List.take_of_length_le (by omega)]
  rw [e2]
  refine ⟨_, rfl, ?_⟩
  simp only [List.length_append, List.length_drop] at *
  omega
set_option maxRecDepth 100000 in
set_option maxHeartbeats 4000000 in
theorem impl_insert_mid (xs : List SeL) (y : SeL) (n P g vb B : Nat) (w : World) (hx : xs.length = n) (hn : n ≤ 5) (hP : P < n) (hO : OwnC seC w B 84 4 (.slice (some ⟨g, 0, none⟩) n n) xs) (hY : Arr w vb 84 (seC y)) :
    Calls Try.prog 66 #[.slice (some ⟨g, 0, none⟩) n n, .int .i64 (P : Int), .slice (some ⟨vb, 0, none⟩) 1 1] w fun e w' =>
      (∃ G, e = .returned (.slice (some ⟨w.heap.size, 0, none⟩) (n + 1) G) ∧ OwnC seC w' w.heap.size 84 4 (.slice (some ⟨w.heap.size, 0, none⟩) (n + 1) G) ((xs.take P ++ [y]) ++ xs.drop P)) ∧ Below w.heap.size w w' := by
  obtain ⟨i0, hi, hz0, hz1, hz2⟩ := info_parts info_sec
  obtain ⟨hS, -, -, -⟩ := own_full9 hO
  have hgw : g < w.heap.size := arr9_lt hS
  have hvw : vb < w.heap.size := arr9_lt hY
  have hAl : ((xs.take P).flatMap seC).length = P * 4 := by rw [flat_len9, List.length_take, hx]; omega
  have hDl : ((xs.drop P).flatMap seC).length = (n - P) * 4 := by rw [flat_len9, List.length_drop, hx]
  have hold : (Builtin.firstCells i0.size P (.slice (some ⟨g, 0, none⟩) P n)).run Try.prog w.drew = .ok ((xs.take P).flatMap seC).toArray w.drew := by
    rw [hz1]
    exact run_firstCells_some w.drew 4 P ⟨g, 0, none⟩ P n _ hAl (fun j u hj => by
      rw [show (⟨g, 0, none⟩ : Addr).add j = ⟨g, 0 + j, none⟩ by unfold Addr.add; split <;> simp_all, Nat.zero_add]
      show w.cell? _ = _
      rw [hS.cell]
      rw [← flat_take9, List.getElem?_take] at hj
      split at hj
      · exact hj
      · cases hj)
  have hk : P + (n + 1 - P) = n + 1 := by omega
  have hkk : (n : Int) + 1 - (P : Int) = ((n + 1 - P : Nat) : Int) := by omega
  obtain ⟨G, hG⟩ : ∃ G, grownCap w (n + 1) n 84 = G := ⟨_, rfl⟩
  have hGn : n + 1 ≤ G := by rw [← hG]; exact grownCap_ge w _ _ _
  have hGm : G ≤ maxLen := by rw [← hG]; exact grownCap_le_maxLen w (n + 1) n 84 (by unfold maxLen; omega)
  obtain ⟨Z, hZ⟩ : ∃ Z : List Value, (Builtin.zeroCells (Value.agg #[.string ⟨#[]⟩, .bool false, .int .i64 0, .string ⟨#[]⟩]).cells (n + 1 - P)).toList ++ (Builtin.zeroCells (Value.agg #[.string ⟨#[]⟩, .bool false, .int .i64 0, .string ⟨#[]⟩]).cells (G - (n + 1))).toList = Z := ⟨_, rfl⟩
  have hZl : Z.length = (G - P) * 4 := by
    rw [← hZ]
    have e : ∀ k, (Builtin.zeroCells (Value.agg #[.string ⟨#[]⟩, .bool false, .int .i64 0, .string ⟨#[]⟩]).cells k).toList.length = k * 4 := fun k => by
      simp [Builtin.zeroCells, Value.cells]
    rw [List.length_append, e, e]
    omega
  have hrz : ∀ ty, (Builtin.append_ #[23, 3] ty #[.slice (some ⟨g, 0, none⟩) P n, .int .i64 ((n : Int) + 1 - (P : Int))]).run Try.prog w =
      .ok (.slice (some ⟨w.heap.size, 0, none⟩) (n + 1) G) (w.drew.alloc (.cells ((xs.take P).flatMap seC ++ Z).toArray 84)) := fun ty => by
    have h := Lib.run_append_grow_zeros (P := Try.prog) w 23 3 ty 84 i0 _ .i64 .i64 Try.underlying23 Try.underlying3 hi hz0 (some ⟨g, 0, none⟩) P n ((xs.take P).flatMap seC) hold (n + 1 - P) (by omega) (by omega) (by omega) (by omega) (by rw [hz2]; omega) (by rw [hz2, hk]; exact growslice_fits (by omega) (by omega))
    rw [hk, hG] at h
    rw [hkk, h, ← hZ]
    congr 3
    apply Array.ext'
    simp
  have hAZ : ((xs.take P).flatMap seC ++ Z).length = G * 4 := by rw [List.length_append, hAl, hZl]; omega
  obtain ⟨A, hAe⟩ : ∃ A, (xs.take P).flatMap seC = A := ⟨_, rfl⟩
  obtain ⟨D, hDe⟩ : ∃ D, (xs.drop P).flatMap seC = D := ⟨_, rfl⟩
  have hD4 : ∀ j u, D[j]? = some u → (xs.flatMap seC)[P * 4 + j]? = some u := fun j u hj => by
    rw [← hDe, ← flat_drop9, List.getElem?_drop] at hj
    exact hj
  have hone : ∀ u ∈ D, u.oneCell' = true := by rw [← hDe]; exact one_all9 _
  have honeY : ∀ u ∈ seC y, u.oneCell' = true := fun u hu => one_all9 [y] u (by simpa using hu)
  have hYl := seC_len y
  rw [hAe] at hAl hAZ hrz
  rw [hDe] at hDl
  obtain ⟨R, hR, hRl⟩ := ins_list (A := A) (Y := seC y) (Z := Z) (D := D) hAl hYl (by rw [hAZ, hDl]; omega)
  have hY1 : (A ++ Z).take (P * 4) ++ seC y ++ (A ++ Z).drop (P * 4 + 4) = (A ++ Z).take (P * 4) ++ seC y ++ (A ++ Z).drop (P * 4 + (seC y).length) := by rw [hYl]
  obtain ⟨L0, hL0⟩ : ∃ L0, A ++ Z = L0 := ⟨_, rfl⟩
  rw [hL0] at hrz hAZ hR hRl hY1
  obtain ⟨L1, hL1⟩ : ∃ L1, L0.take (P * 4) ++ seC y ++ L0.drop (P * 4 + 4) = L1 := ⟨_, rfl⟩
  rw [hL1] at hR
  have hL1l : L1.length = G * 4 := by rw [← hL1]; simp only [List.length_append, List.length_take, List.length_drop, hYl, hAZ]; omega
  have hcpA : ∀ W : World, Arr W w.heap.size 84 L0 → Arr W vb 84 (seC y) → ∀ ty dc sc, (Builtin.copy_ #[23, 23] ty #[.slice (some ⟨w.heap.size, P * 4, none⟩) (n + 1 - P) dc, .slice (some ⟨vb, 0, none⟩) 1 sc]).run Try.prog W = .ok (goInt 1) (W.setRow w.heap.size L1.toArray) := fun W h1 h2 ty dc sc => by
    have h := run_copy9 W ty w.heap.size (P * 4) (n + 1 - P) dc vb 0 1 sc 1 L0 (seC y) h1 (by simp only [Nat.min_def]; split <;> omega) hYl (fun j u hj => by rw [Nat.zero_add, h2.cell]; exact hj) (by rw [hYl, hAZ]; omega) honeY
    rw [← hY1, hL1] at h
    exact h
  have hcpB : ∀ W : World, Arr W w.heap.size 84 L1 → Arr W g 84 (xs.flatMap seC) → ∀ ty dc sc, (Builtin.copy_ #[23, 23] ty #[.slice (some ⟨w.heap.size, (P + 1) * 4, none⟩) (n - P) dc, .slice (some ⟨g, P * 4, none⟩) (n - P) sc]).run Try.prog W = .ok (goInt ((n - P : Nat) : Int)) (W.setRow w.heap.size (A ++ seC y ++ D ++ R).toArray) := fun W h1 h2 ty dc sc => by
    have h := run_copy9 W ty w.heap.size ((P + 1) * 4) (n - P) dc g (P * 4) (n - P) sc (n - P) L1 D h1 (by simp) hDl (fun j u hj => by rw [h2.cell]; exact hD4 j u hj) (by rw [hDl, hL1l]; omega) hone
    rw [show (P + 1) * 4 = P * 4 + 4 by omega, hR] at h
    rw [show (P + 1) * 4 = P * 4 + 4 by omega]
    exact h
  have HFIN : Hid (∀ W : World, Arr W w.heap.size 84 (A ++ seC y ++ D ++ R) → OwnC seC W w.heap.size 84 4 (.slice (some ⟨w.heap.size, 0, none⟩) (n + 1) G) ((xs.take P ++ [y]) ++ xs.drop P)) := Lib.hid (fun W hA => by
    have hlen : ((xs.take P ++ [y]) ++ xs.drop P).length = n + 1 := by simp only [List.length_append, List.length_take, List.length_drop, List.length_cons, List.length_nil, hx]; omega
    have hfl : ((xs.take P ++ [y]) ++ xs.drop P).flatMap seC = A ++ seC y ++ D := by rw [List.flatMap_append, List.flatMap_append, hAe, hDe]; simp
    refine ⟨by rw [flat_len9], .inr ⟨w.heap.size, G, (A ++ seC y ++ D ++ R).toArray, by rw [hlen], Nat.le_refl _, hA, by rw [hlen]; exact hGn, hGm, by rw [List.size_toArray, hRl, hAZ], ?_⟩⟩
    rw [hlen, hfl]
    show (A ++ seC y ++ D ++ R).take ((n + 1) * 4) = _
    have hl : (A ++ seC y ++ D).length = (n + 1) * 4 := by rw [← hfl, flat_len9, hlen]
    rw [List.take_append_of_le_length (by omega), List.take_of_length_le (by omega)])
  have hb1 : Below w.heap.size w (w.drew.alloc (.cells L0.toArray 84)) := (Below.refl w.heap.size w).drew.alloc (Nat.le_refl _) _
  have hA1 : Arr (w.drew.alloc (.cells L0.toArray 84)) w.heap.size 84 L0 := Arr.fresh w.drew 84 L0
  have hS1 := arr9_on hS hb1
  have hY2 := arr9_on hY hb1
  obtain ⟨W1, hW1⟩ : ∃ W1, w.drew.alloc (.cells L0.toArray 84) = W1 := ⟨_, rfl⟩
  rw [hW1] at hrz hb1 hA1 hS1 hY2
  clear hW1
  have hcA := fun ty dc sc => hcpA W1 hA1 hY2 ty dc sc
  have hA2 : Arr (W1.setRow w.heap.size L1.toArray) w.heap.size 84 L1 := hA1.row _
  have hS2 : Arr (W1.setRow w.heap.size L1.toArray) g 84 (xs.flatMap seC) := (setRow_other W1 w.heap.size g _ (by omega)).trans hS1
  have hb2 : Below w.heap.size w (W1.setRow w.heap.size L1.toArray) := hb1.grown (grown_setRow W1 w.heap.size L1) hb1.size (fun k hk => by injection hk with hk; omega)
  obtain ⟨W2, hW2⟩ : ∃ W2, W1.setRow w.heap.size L1.toArray = W2 := ⟨_, rfl⟩
  rw [hW2] at hcA hA2 hS2 hb2
  clear hW2
  have hcB := fun ty dc sc => hcpB W2.drew (arr9_on hA2 (Below.refl _ _).drew) (arr9_on hS2 (Below.refl _ _).drew) ty dc sc
  have hA3 : Arr (W2.drew.setRow w.heap.size (A ++ seC y ++ D ++ R).toArray) w.heap.size 84 (A ++ seC y ++ D ++ R) := Arr.row (arr9_on hA2 (Below.refl _ _).drew) _
  have hb3 : Below w.heap.size w (W2.drew.setRow w.heap.size (A ++ seC y ++ D ++ R).toArray) := hb2.drew.grown (grown_setRow W2.drew w.heap.size _) hb2.drew.size (fun k hk => by injection hk with hk; omega)
  obtain ⟨W3, hW3⟩ : ∃ W3, W2.drew.setRow w.heap.size (A ++ seC y ++ D ++ R).toArray = W3 := ⟨_, rfl⟩
  rw [hW3] at hcB hA3 hb3
  have HO3 := Lib.hid (HFIN.out _ hA3)
  have HB3 := Lib.hid hb3
  clear hW3 hA3 hb3 hA2 hS2 hb2 hA1 hS1 hY2 hb1 hcpA hcpB HFIN
  have q1 : (0 : Int) ≤ (P : Int) := by omega
  have q2 : (P : Int) ≤ (n : Int) := by omega
  have q3 : ¬ ((P : Int) = (n : Int)) := by omega
  have q4 : (n : Int) < (n : Int) + 1 := by omega
  have q5 : (P : Int) + 1 ≤ (n : Int) + 1 := by omega
  have q6 : (0 : Int) ≤ (P : Int) + 1 := by omega
  have q7 : (P : Int) ≤ (n : Int) + 1 := by omega
  have q8 : ¬ (n = P) := by omega
  have q9 : ¬ (G = P) := by omega
  have q10 : ¬ (G = P + 1) := by omega
  have q11 : (n : Int) + 1 ≤ (G : Int) := by omega
  have q12 : (P : Int) ≤ (G : Int) := by omega
  have hw1 : IntKind.i64.wrap ((P : Int) + 1) = (P : Int) + 1 := IntWalk.i64_in _ (by omega)
  have hw2 : IntKind.i64.wrap ((n : Int) + 1) = (n : Int) + 1 := IntWalk.i64_in _ (by omega)
  have hw3 : IntKind.i64.wrap ((n : Int) + 1 - (P : Int)) = (n : Int) + 1 - (P : Int) := IntWalk.i64_in _ (by omega)
  have htn : ((P : Int) + 1).toNat = P + 1 := by omega
  have hg2 : g ≠ w.heap.size := by omega
  have hv2 : vb ≠ w.heap.size := by omega
  have mixed : Try.prog.follows Departure.mixedOrders = true := by kernel_rfl
  obtain ⟨Rr, hRr⟩ : ∃ Rr, (xs.take P ++ [y]) ++ xs.drop P = Rr := ⟨_, rfl⟩
  rw [hRr] at HO3 ⊢
  clear hold hk hkk hG hZ hZl hAl hDl hAe hDe hD4 hone honeY hYl hR hRl hY1 hL0 hL1 hO hS hY hx hAZ hL1l hRr hi hz0 hz1 hz2
  go_enter Try.func66, Try.ntmps66
  go_wp2_with (first
    | (at_builtin; refine Lib.wpList_append_run _ rfl _ _ _ _ rfl _ _ rfl rfl _ _ (hrz _) ?_)
    | (at_builtin; refine wpList_copy_runI _ rfl _ _ 23 23 rfl _ _ rfl rfl (hcA _ _ _) ?_))
  go_region_law_o (refine step_copy_runI rfl _ _ 23 23 rfl (.slice (some ⟨w.heap.size, (P + 1) * 4, none⟩) (n - P) (G - (P + 1))) (.slice (some ⟨g, P * 4, none⟩) (n - P) (n - P)) (by simp [Act.eval, Act.put]) (by simp [Act.eval, Act.put]) (hcB 3 (G - (P + 1)) (n - P)) ?_)
  go_wp2
  go_ret
  exact ⟨⟨G, rfl, HO3.out⟩, HB3.out⟩
end Go.Proofs.Ytafdjjdmcnlddaa

namespace Go.Proofs.Ytafdjjdmcnlddaa
set_option linter.unusedSimpArgs false
set_option linter.unusedVariables false
open Go.RowKit Go.Joins

set_option maxRecDepth 100000 in
set_option maxHeartbeats 4000000 in
theorem impl_insert_end (xs : List SeL) (y : SeL) (n g vb B : Nat) (w : World) (hx : xs.length = n) (hn : n ≤ 5) (hO : OwnC seC w B 84 4 (.slice (some ⟨g, 0, none⟩) n n) xs) (hB : B ≤ w.heap.size) (hY : Arr w vb 84 (seC y)) :
    Calls Try.prog 66 #[.slice (some ⟨g, 0, none⟩) n n, .int .i64 (n : Int), .slice (some ⟨vb, 0, none⟩) 1 1] w fun e w' =>
      (∃ p k, e = .returned (.slice p (n + 1) k) ∧ OwnC seC w' B 84 4 (.slice p (n + 1) k) (xs ++ [y])) ∧ w.grownBy w' (some g) := by
  have HO := Lib.hid hO
  have HY := Lib.hid hY
  have HL : Hid (xs.length ≤ 1000000) := Lib.hid (by omega)
  have HM : Hid ((xs ++ [y]).length = n + 1) := Lib.hid (by simp [hx])
  have HBB := Lib.hid hB
  have q1 : (0 : Int) ≤ (n : Int) := by omega
  clear hO hY hx hB
  go_enter Try.func66, Try.ntmps66
  go_wp2_with (at_builtin; refine wpList_plain rfl fun K hK => ?_; refine wp_app_one9 _ _ rfl B _ xs rfl HO.out vb y rfl HY.out HL.out HBB.out ?_; intro v2 w2 hv2 hg2; obtain ⟨q2, k2, e2, -⟩ := hv2.row seC_len; rw [HM.out] at e2; subst e2; have HV2 := Lib.hid hv2; have HG2 : Hid (w.grownBy w2 (some g)) := Lib.hid hg2; clear hv2 hg2; refine hK _ _ ?_)
  go_ret
  exact ⟨⟨q2, k2, rfl, HV2.out⟩, HG2.out⟩
theorem impl_insert9 (xs : List SeL) (y : SeL) (n P g vb : Nat) (w : World) (hx : xs.length = n) (hn : n ≤ 5) (hP : P ≤ n) (hO : OwnC seC w g 84 4 (.slice (some ⟨g, 0, none⟩) n n) xs) (hY : Arr w vb 84 (seC y)) :
    Calls Try.prog 66 #[.slice (some ⟨g, 0, none⟩) n n, .int .i64 (P : Int), .slice (some ⟨vb, 0, none⟩) 1 1] w fun e w' =>
      (∃ p k, e = .returned (.slice p (n + 1) k) ∧ OwnC seC w' g 84 4 (.slice p (n + 1) k) ((xs.take P ++ [y]) ++ xs.drop P)) ∧ Below g w w' := by
  obtain ⟨hS, -, -, -⟩ := own_full9 hO
  have hgw : g < w.heap.size := arr9_lt hS
  rcases Nat.lt_or_ge P n with h | h
  · refine (impl_insert_mid xs y n P g vb g w hx hn h hO hY).mono ?_
    rintro e w' ⟨⟨G, rfl, h1⟩, h2⟩
    exact ⟨⟨_, G, rfl, h1.mono (Nat.le_of_lt hgw)⟩, h2.mono (Nat.le_of_lt hgw)⟩
  · obtain rfl : P = n := by omega
    refine (impl_insert_end xs y P g vb g w hx hn hO (Nat.le_of_lt hgw) hY).mono ?_
    rintro e w' ⟨⟨p, k, rfl, h1⟩, h2⟩
    refine ⟨⟨p, k, rfl, ?_⟩, (Below.refl g w).grown h2 (Nat.le_of_lt hgw) (fun k hk => by injection hk with hk; omega)⟩
    rw [List.take_of_length_le (by omega), List.drop_eq_nil_of_le (by omega), List.append_nil]
    exact h1
theorem at_badB {xs : List SeL} {r : ByteArray} (h : (atR xs r).2 ≠ 0) (h6 : (atR xs r).2 ≠ 6) : bindR xs r = illS (atR xs r).2 := by
  unfold atR at h h6 ⊢
  unfold bindR
  split
  · rfl
  · rename_i h1
    rw [if_neg h1] at h h6
    split
    · rename_i h2
      by_cases h3 : okB xs = false
      · rw [if_pos h3]
      · rw [if_neg h3] at h h6
        split at h
        · rename_i h4; rw [if_pos h4] at h6; exact absurd rfl h6
        · exact absurd rfl h
    · rename_i h2
      have h3 : ¬ okB xs = false := fun e => h2 (.inl e)
      rw [if_neg h3] at h h6
      split at h
      · rename_i h4; rw [if_pos h4] at h6; exact absurd rfl h6
      · exact absurd rfl h
theorem at_six {xs : List SeL} {r : ByteArray} (h : (atR xs r).2 = 6) : ¬ (400 < xs.length ∨ 20000 < r.size) ∧ okB xs = true ∧ ¬ hereB r xs = true ∧ (atR xs r).1 = (posS r xs : Int) := by
  unfold atR at h ⊢
  split at h
  · cases h
  · rename_i h1
    split at h
    · cases h
    · rename_i h2
      split at h
      · rename_i h3
        refine ⟨h1, by simpa using h2, by rw [h3]; decide, ?_⟩
        rw [if_neg h1, if_neg h2, if_pos h3]
      · cases h
set_option maxRecDepth 100000 in
set_option maxHeartbeats 4000000 in
theorem impl_bind (xs : List SeL) (r : ByteArray) (p : Option Addr) (c : Nat) (w : World) (hn : xs.length ≤ 1048576) (hr : r.size ≤ 1048576) (hw : ∀ x ∈ xs, x.r.size ≤ 1048576 ∧ x.s.size ≤ 1048576) (hR : RowC seC 4 w p xs) :
    Calls Try.prog 12 #[.slice p xs.length c, .string r] w fun e w' => SoIs w.heap.size (bindR xs r) e w' ∧ Below w.heap.size w w' := by
  have HR := Lib.hid (fun W (h : Below w.heap.size w W) => hR.on h)
  have i1 := fun W h => impl_at xs r p c W hn hr (fun x hx => by have := (hw x hx).1; unfold maxLen; omega) h
  have i2 := fun W => impl_res9 r W (by unfold maxLen; omega)
  have i3 := fun W h => impl_sescopy xs p c W hn hw h
  have i4 := fun W b hb => joined_at9 r W (by omega) b hb
  unfold SaysB at i2
  have HA0 : Hid (Arr (w.alloc (.cells #[.slice none 0 0, .int .i64 0] 27)) w.heap.size 27 [.slice none 0 0, .int .i64 0]) := Lib.hid (Arr.fresh w _ [.slice none 0 0, .int .i64 0])
  have HB0 : Hid (Below w.heap.size w (w.alloc (.cells #[.slice none 0 0, .int .i64 0] 27))) := Lib.hid ((Below.refl _ _).alloc (Nat.le_refl _) _)
  obtain ⟨K, hK⟩ : ∃ K, (atR xs r).1 = K := ⟨_, rfl⟩
  obtain ⟨C, hC⟩ : ∃ C, (atR xs r).2 = C := ⟨_, rfl⟩
  rw [hK, hC] at i1
  by_cases h0 : C = 0
  · subst h0
    obtain ⟨g1, g2, g3, g4⟩ := at_ok hC
    rw [bnd_there g1 (by rw [g2, here_res g2 g3]; simp) g3]
    clear hR hw hr hK hC i2 i3 i4 g1 g2 g3 g4
    go_enter Try.func12, Try.ntmps12
    go_wp2_with (first
      | (go_at_call 64; go_fit (i1 _ (HR.out _ HB0.out)); rintro e w1 ⟨rfl, hb⟩; have HA1 := Lib.hid (arr9_on HA0.out hb); have HB1 := Lib.hid (HB0.out.trans (hb.mono HB0.out.size)); clear hb; obtain ⟨⟨c0, c1⟩, f0, f1⟩ := arr9_two HA1.out))
    have hE : Arr _ w.heap.size 27 [.slice none 0 0, .int .i64 7] := ((HA1.out.put 0 (.slice none 0 0)).put 1 (.int .i64 7))
    exact bodyPost_ret (v := .agg #[.slice none 0 0, .int .i64 7]) (results_cell_row (P := Try.prog) Try.results12 _ _ w.heap.size 27 _ (0, 0) _ rfl hE Try.underlying27 rfl (by kernel_rfl)) rfl
      ⟨so_ill _ _ _, (HB1.out.setCell (p := ⟨w.heap.size, 0, none⟩) (Nat.le_refl _) _).setCell (p := ⟨w.heap.size, 1, none⟩) (Nat.le_refl _) _⟩
  by_cases h6 : C = 6
  rotate_left
  · have hw0 := at_badB (xs := xs) (r := r) (by rw [hC]; exact h0) (by rw [hC]; exact h6)
    rw [hC] at hw0
    rw [hw0]
    have q1 : (C == 0) = false := by simpa using h0
    have q2 : (C != 6) = true := by simpa using h6
    clear hR hw hr hK hC hw0 i2 i3 i4
    go_enter Try.func12, Try.ntmps12
    go_wp2_with (first
      | (go_at_call 64; go_fit (i1 _ (HR.out _ HB0.out)); rintro e w1 ⟨rfl, hb⟩; have HA1 := Lib.hid (arr9_on HA0.out hb); have HB1 := Lib.hid (HB0.out.trans (hb.mono HB0.out.size)); clear hb; obtain ⟨⟨c0, c1⟩, f0, f1⟩ := arr9_two HA1.out))
    have hE : Arr _ w.heap.size 27 [.slice none 0 0, .int .i64 C] := ((HA1.out.put 0 (.slice none 0 0)).put 1 (.int .i64 C))
    exact bodyPost_ret (v := .agg #[.slice none 0 0, .int .i64 C]) (results_cell_row (P := Try.prog) Try.results12 _ _ w.heap.size 27 _ (0, 0) _ rfl hE Try.underlying27 rfl (by kernel_rfl)) rfl
      ⟨so_ill _ _ _, (HB1.out.setCell (p := ⟨w.heap.size, 0, none⟩) (Nat.le_refl _) _).setCell (p := ⟨w.heap.size, 1, none⟩) (Nat.le_refl _) _⟩
  subst h6
  obtain ⟨g1, g2, g3, g4⟩ := at_six hC
  rw [hK] at g4
  subst g4
  by_cases hres : resB r = true
  rotate_left
  · rw [bnd_form g1 (.inr (by simpa using hres))]
    rw [show resB r = false by simpa using hres] at i2
    clear hR hw hr hK hC h0 i3 i4 g1 g2 g3 hres
    go_enter Try.func12, Try.ntmps12
    go_wp2_with (first
      | (go_at_call 64; go_fit (i1 _ (HR.out _ HB0.out)); rintro e w1 ⟨rfl, hb⟩; have HA1 := Lib.hid (arr9_on HA0.out hb); have HB1 := Lib.hid (HB0.out.trans (hb.mono HB0.out.size)); clear hb; obtain ⟨⟨c0, c1⟩, f0, f1⟩ := arr9_two HA1.out)
      | (go_at_call 65; go_fit (i2 _); rintro e0 w5 ⟨rfl, h5⟩; subst h5))
    have hE : Arr _ w.heap.size 27 [.slice none 0 0, .int .i64 1] := ((HA1.out.put 0 (.slice none 0 0)).put 1 (.int .i64 1))
    exact bodyPost_ret (v := .agg #[.slice none 0 0, .int .i64 1]) (results_cell_row (P := Try.prog) Try.results12 _ _ w.heap.size 27 _ (0, 0) _ rfl hE Try.underlying27 rfl (by kernel_rfl)) rfl
      ⟨so_ill _ _ _, (HB1.out.setCell (p := ⟨w.heap.size, 0, none⟩) (Nat.le_refl _) _).setCell (p := ⟨w.heap.size, 1, none⟩) (Nat.le_refl _) _⟩
  have hnf : ¬ (okB xs = false ∨ resB r = false) := by rw [g2, hres]; simp
  rw [hres] at i2
  obtain ⟨n, hxn⟩ : ∃ n, xs.length = n := ⟨_, rfl⟩
  have HN := Lib.hid hxn
  by_cases h5 : xs.length = 5
  · rw [bnd_full g1 hnf g3 h5]
    have q1 : ((xs.length : Nat) : Int) = 5 := by omega
    rw [h5] at i1 i3 ⊢
    clear hR hw hr hK hC h0 i3 i4 g1 g2 g3 hres hnf q1 h5 hxn
    go_enter Try.func12, Try.ntmps12
    go_wp2_with (first
      | (go_at_call 64; go_fit (i1 _ (HR.out _ HB0.out)); rintro e w1 ⟨rfl, hb⟩; have HA1 := Lib.hid (arr9_on HA0.out hb); have HB1 := Lib.hid (HB0.out.trans (hb.mono HB0.out.size)); clear hb; obtain ⟨⟨c0, c1⟩, f0, f1⟩ := arr9_two HA1.out)
      | (go_at_call 65; go_fit (i2 _); rintro e0 w5 ⟨rfl, h5⟩; subst h5))
    have hE : Arr _ w.heap.size 27 [.slice none 0 0, .int .i64 9] := ((HA1.out.put 0 (.slice none 0 0)).put 1 (.int .i64 9))
    exact bodyPost_ret (v := .agg #[.slice none 0 0, .int .i64 9]) (results_cell_row (P := Try.prog) Try.results12 _ _ w.heap.size 27 _ (0, 0) _ rfl hE Try.underlying27 rfl (by kernel_rfl)) rfl
      ⟨so_ill _ _ _, (HB1.out.setCell (p := ⟨w.heap.size, 0, none⟩) (Nat.le_refl _) _).setCell (p := ⟨w.heap.size, 1, none⟩) (Nat.le_refl _) _⟩
  rw [bnd_ok g1 hnf g3 h5]
  have h6 := (okB_iff.1 g2).1
  have hple := pos_le r xs
  obtain ⟨P, hP⟩ : ∃ P, posS r xs = P := ⟨_, rfl⟩
  rw [hP] at hple i1 ⊢
  have i5 := fun W g vb hO hY => impl_insert9 xs (newS r) n P g vb W hxn (by omega) (by omega) hO hY
  have HM : Hid (((xs.take P ++ [newS r]) ++ xs.drop P).length = n + 1) := Lib.hid (by simp only [List.length_append, List.length_take, List.length_drop, List.length_cons, List.length_nil]; omega)
  obtain ⟨R, hRR⟩ : ∃ R, (xs.take P ++ [newS r]) ++ xs.drop P = R := ⟨_, rfl⟩
  rw [hRR] at i5 HM ⊢
  obtain ⟨m5, hm5⟩ : ∃ m, n + 1 = m := ⟨_, rfl⟩
  rw [hm5] at i5 HM
  clear hm5
  rw [hxn] at i1 i3 h5 ⊢
  have q1 : ¬ ((n : Int) = 5) := by omega
  clear hR hw hr hK hC h0 g1 g2 g3 hres hnf hP hRR hxn h6 hple
  go_enter Try.func12, Try.ntmps12
  go_wp2_with (first
    | (go_at_call 64; go_fit (i1 _ (HR.out _ HB0.out)); rintro e w1 ⟨rfl, hb⟩; have HA1 := Lib.hid (arr9_on HA0.out hb); have HB1 := Lib.hid (HB0.out.trans (hb.mono HB0.out.size)); clear hb)
    | (go_at_call 65; go_fit (i2 _); rintro e0 w5 ⟨rfl, h5⟩; subst h5)
    | (go_at_call 67; go_fit (i3 _ (HR.out _ HB1.out)); rintro e w3 ⟨⟨rfl, hv⟩, hb⟩; have HA3 := Lib.hid (arr9_on HA1.out hb); have HB3 := Lib.hid (HB1.out.trans (hb.mono HB1.out.size)); have HV3 := Lib.hid hv; have hl1 := arr9_lt HA1.out; clear hb hv)
    | (go_at_call 68; have _ := HV3; go_fit (i4 w3 w3.heap.size rfl); rintro e w4 ⟨rfl, hb⟩; have HA4 := Lib.hid (arr9_on HA3.out hb); have HB4 := Lib.hid (HB3.out.trans (hb.mono HB3.out.size)); have HV4 := Lib.hid (HV3.out.on hb); clear hb)
    | (go_at_call 66; have _ := HV4; go_fit (i5 _ w1.heap.size w4.heap.size (HV4.out.alloc _) (Arr.fresh w4 84 (seC (newS r)))); rintro e w6 ⟨⟨q6, k6, rfl, hv⟩, hb⟩; have HV6 := Lib.hid hv; have HA6 : Hid (Arr w6 w.heap.size 27 [.slice none 0 0, .int .i64 0]) := Lib.hid ((hb.block _ hl1).trans (arr9_on HA4.out ((Below.refl _ _).alloc (Nat.le_refl _) _))); have HB6 : Hid (Below w.heap.size w w6) := Lib.hid ((HB4.out.alloc HB4.out.size _).trans (hb.mono (Nat.le_of_lt hl1))); clear hv hb; obtain ⟨⟨c0, c1⟩, f0, f1⟩ := arr9_two HA6.out))
  have hv6 := HV6.out
  obtain rfl := HM.out
  obtain ⟨hE, hO2, hBl⟩ := pass9 (W2 := w) (R := ⟨R, 0⟩) HA6.out HB6.out (Nat.le_refl _) hl1 hv6
  exact bodyPost_ret (v := .agg #[.slice q6 R.length k6, .int .i64 0]) (results_cell_row (P := Try.prog) Try.results12 _ _ w.heap.size 27 _ (0, 0) _ rfl hE Try.underlying27 rfl (by kernel_rfl)) rfl
    ⟨⟨q6, k6, rfl, hO2⟩, hBl⟩
end Go.Proofs.Ytafdjjdmcnlddaa

namespace Go.Proofs.Ytafdjjdmcnlddaa
set_option linter.unusedSimpArgs false
set_option linter.unusedVariables false
open Go.RowKit Go.Joins

theorem pres_size {xs : List SeL} {r : ByteArray} {p : Int} {s : ByteArray} (h : 400 < xs.length ∨ 20000 < r.size ∨ 20000 < s.size) : presR xs r p s = illS 2 := by
  unfold presR
  by_cases h1 : 20000 < s.size
  · rw [if_pos h1]
  · rw [if_neg h1]
    unfold withR
    rw [if_pos (show 400 < xs.length ∨ 20000 < r.size by omega)]
theorem pres_form {xs : List SeL} {r : ByteArray} {p : Int} {s : ByteArray} (h : ¬ (400 < xs.length ∨ 20000 < r.size ∨ 20000 < s.size)) (h2 : okB xs = false) : presR xs r p s = illS 1 := by
  unfold presR
  rw [if_neg (by omega)]
  unfold withR
  rw [if_neg (show ¬ (400 < xs.length ∨ 20000 < r.size) by omega), if_pos h2]
theorem pres_none {xs : List SeL} {r : ByteArray} {p : Int} {s : ByteArray} (h : ¬ (400 < xs.length ∨ 20000 < r.size ∨ 20000 < s.size)) (h2 : okB xs = true) (h3 : hereB r xs = false) : presR xs r p s = illS 6 := by
  unfold presR
  rw [if_neg (by omega)]
  unfold withR
  rw [if_neg (show ¬ (400 < xs.length ∨ 20000 < r.size) by omega), if_neg (by rw [h2]; decide), if_pos h3]
theorem se_pres {r : ByteArray} {p : Int} {s : ByteArray} (h : resB r = true) : seB ⟨r, true, p, s⟩ = ((decide (-128 ≤ p) && decide (p ≤ 127)) && showB s) := by
  unfold seB
  dsimp only
  rw [h]
  simp
theorem pres_bad {xs : List SeL} {r : ByteArray} {p : Int} {s : ByteArray} (h : ¬ (400 < xs.length ∨ 20000 < r.size ∨ 20000 < s.size)) (h2 : okB xs = true) (h3 : hereB r xs = true) (h4 : ((decide (-128 ≤ p) && decide (p ≤ 127)) && showB s) = false) : presR xs r p s = illS 1 := by
  unfold presR
  rw [if_neg (by omega)]
  unfold withR
  rw [if_neg (show ¬ (400 < xs.length ∨ 20000 < r.size) by omega), if_neg (by rw [h2]; decide), if_neg (show ¬ hereB r xs = false by rw [h3]; decide), if_pos (by rw [se_pres (here_res h2 h3)]; exact h4)]
theorem pres_set {xs : List SeL} {r : ByteArray} {p : Int} {s : ByteArray} (h : ¬ (400 < xs.length ∨ 20000 < r.size ∨ 20000 < s.size)) (h2 : okB xs = true) (h3 : hereB r xs = true) (h4 : ((decide (-128 ≤ p) && decide (p ≤ 127)) && showB s) = true) : presR xs r p s = setR xs ⟨r, true, p, s⟩ := by
  unfold presR
  rw [if_neg (by omega)]
  exact set_with (show ¬ (400 < xs.length ∨ 20000 < r.size) by omega) h2 (fun _ => by rw [se_pres (here_res h2 h3)]; exact h4)
set_option maxRecDepth 100000 in
set_option maxHeartbeats 4000000 in
theorem spec_present (xs : List SeL) (r : ByteArray) (pr : Int) (s : ByteArray) (p : Option Addr) (c B0 : Nat) (w : World) (hn : xs.length ≤ 1048576) (hr : r.size ≤ 1048576) (hs : s.size ≤ 1048576) (hw : ∀ x ∈ xs, x.r.size ≤ 1048576 ∧ x.s.size ≤ 1048576) (hO : OwnC seC w B0 84 4 (.slice p xs.length c) xs) :
    Calls Try.prog 22 #[.slice p xs.length c, .string r, .int .i64 pr, .string s] w fun e w' => SoIs w.heap.size (presR xs r pr s) e w' ∧ Below w.heap.size w w' := by
  have HA0 : Hid (Arr (w.alloc (.cells #[.slice none 0 0, .int .i64 0] 27)) w.heap.size 27 [.slice none 0 0, .int .i64 0]) := Lib.hid (Arr.fresh w _ [.slice none 0 0, .int .i64 0])
  have HB0 : Hid (Below w.heap.size w (w.alloc (.cells #[.slice none 0 0, .int .i64 0] 27))) := Lib.hid ((Below.refl _ _).alloc (Nat.le_refl _) _)
  have HO := Lib.hid (fun W (h : Below w.heap.size w W) => hO.on h)
  have i0 := fun code W => spec_ill9 code W
  have i1 := fun W h => spec_seright xs p c W hn (fun x hx => by have := (hw x hx).1; unfold maxLen; omega) h
  have i2 := fun W (hk : okB xs = true) h => spec_at9 xs r p c W hn (okB_iff.1 hk).2.1 h
  have i3 := fun W => spec_is9 pr (-128) 127 W
  have i4 := fun W => spec_show9 s W
  have i5 := fun W (hk : okB xs = true) h => spec_set9 xs ⟨r, true, pr, s⟩ p c B0 W (okB_iff.1 hk).1 (okB_iff.1 hk).2.1 h
  obtain ⟨n, hxn⟩ : ∃ n, xs.length = n := ⟨_, rfl⟩
  by_cases h1 : 400 < xs.length ∨ 20000 < r.size ∨ 20000 < s.size
  · rw [pres_size h1]
    rw [hxn] at h1 hn ⊢
    clear hO hw i1 i2 i3 i4 i5 hxn
    by_cases h2 : 400 < n
    · clear h1
      go_enter Try.func22, Try.ntmps22
      go_wp2_with (first
        | (go_at_call 71; go_fit (i0 _ _); rintro e0 w9 ⟨rfl, hb⟩; have HA9 := Lib.hid (arr9_on HA0.out hb); have HB9 := Lib.hid (HB0.out.trans (hb.mono HB0.out.size)); clear hb; obtain ⟨⟨c0, c1⟩, k0, k1⟩ := arr9_two HA9.out))
      have hE : Arr _ w.heap.size 27 [.slice none 0 0, .int .i64 2] := ((HA9.out.put 0 (.slice none 0 0)).put 1 (.int .i64 2))
      exact bodyPost_ret (v := .agg #[.slice none 0 0, .int .i64 2]) (results_cell_row (P := Try.prog) Try.results22 _ _ w.heap.size 27 _ (0, 0) _ rfl hE Try.underlying27 rfl (by kernel_rfl)) rfl
        ⟨so_ill _ _ _, (HB9.out.setCell (p := ⟨w.heap.size, 0, none⟩) (Nat.le_refl _) _).setCell (p := ⟨w.heap.size, 1, none⟩) (Nat.le_refl _) _⟩
    · by_cases h3 : 20000 < r.size
      · clear h1
        go_enter Try.func22, Try.ntmps22
        go_wp2_with (first
          | (go_at_call 71; go_fit (i0 _ _); rintro e0 w9 ⟨rfl, hb⟩; have HA9 := Lib.hid (arr9_on HA0.out hb); have HB9 := Lib.hid (HB0.out.trans (hb.mono HB0.out.size)); clear hb; obtain ⟨⟨c0, c1⟩, k0, k1⟩ := arr9_two HA9.out))
        have hE : Arr _ w.heap.size 27 [.slice none 0 0, .int .i64 2] := ((HA9.out.put 0 (.slice none 0 0)).put 1 (.int .i64 2))
        exact bodyPost_ret (v := .agg #[.slice none 0 0, .int .i64 2]) (results_cell_row (P := Try.prog) Try.results22 _ _ w.heap.size 27 _ (0, 0) _ rfl hE Try.underlying27 rfl (by kernel_rfl)) rfl
          ⟨so_ill _ _ _, (HB9.out.setCell (p := ⟨w.heap.size, 0, none⟩) (Nat.le_refl _) _).setCell (p := ⟨w.heap.size, 1, none⟩) (Nat.le_refl _) _⟩
      · have h4 : 20000 < s.size := by omega
        clear h1
        go_enter Try.func22, Try.ntmps22
        go_wp2_with (first
          | (go_at_call 71; go_fit (i0 _ _); rintro e0 w9 ⟨rfl, hb⟩; have HA9 := Lib.hid (arr9_on HA0.out hb); have HB9 := Lib.hid (HB0.out.trans (hb.mono HB0.out.size)); clear hb; obtain ⟨⟨c0, c1⟩, k0, k1⟩ := arr9_two HA9.out))
        have hE : Arr _ w.heap.size 27 [.slice none 0 0, .int .i64 2] := ((HA9.out.put 0 (.slice none 0 0)).put 1 (.int .i64 2))
        exact bodyPost_ret (v := .agg #[.slice none 0 0, .int .i64 2]) (results_cell_row (P := Try.prog) Try.results22 _ _ w.heap.size 27 _ (0, 0) _ rfl hE Try.underlying27 rfl (by kernel_rfl)) rfl
          ⟨so_ill _ _ _, (HB9.out.setCell (p := ⟨w.heap.size, 0, none⟩) (Nat.le_refl _) _).setCell (p := ⟨w.heap.size, 1, none⟩) (Nat.le_refl _) _⟩
  have g1 : ¬ 400 < n := by omega
  have g2 : ¬ 20000 < r.size := by omega
  have g3 : ¬ 20000 < s.size := by omega
  by_cases h2 : okB xs = true
  · replace i2 := fun W h => i2 W h2 h
    replace i5 := fun W h => i5 W h2 h
    rw [h2] at i1
    unfold whereI at i2
    by_cases h3 : hereB r xs = true
    · rw [if_pos h3] at i2
      obtain ⟨P, hP⟩ : ∃ P, posS r xs = P := ⟨_, rfl⟩
      rw [hP] at i2
      have q1 : ¬ ((P : Int) < 0) := by omega
      obtain ⟨d, hd⟩ : ∃ b, (decide (-128 ≤ pr) && decide (pr ≤ 127)) = b := ⟨_, rfl⟩
      obtain ⟨f, hf⟩ : ∃ b, showB s = b := ⟨_, rfl⟩
      rw [hd] at i3
      rw [hf] at i4
      cases d
      · rw [pres_bad h1 h2 h3 (by rw [hd]; rfl)]
        rw [hxn] at hn i1 i2 HO ⊢
        clear hO hw hxn h1 h2 h3 hd hf hP i4 i5
        go_enter Try.func22, Try.ntmps22
        go_wp2_with (first
          | (go_at_call 31; go_fit (i1 _ (row_own9 (HO.out _ HB0.out))); rintro e0 w1 ⟨rfl, hb⟩; have HA1 := Lib.hid (arr9_on HA0.out hb); have HB1 := Lib.hid (HB0.out.trans (hb.mono HB0.out.size)); clear hb)
          | (go_at_call 73; go_fit (i2 _ (row_own9 (HO.out _ HB1.out))); rintro e0 w2 ⟨rfl, hb⟩; have HA2 := Lib.hid (arr9_on HA1.out hb); have HB2 := Lib.hid (HB1.out.trans (hb.mono HB1.out.size)); clear hb)
          | (go_at_call 75; go_fit (i3 _); rintro e0 wz ⟨rfl, hz⟩; subst hz)
          | (go_at_call 71; go_fit (i0 _ _); rintro e0 w9 ⟨rfl, hb⟩; have HA9 := Lib.hid (arr9_on HA2.out hb); have HB9 := Lib.hid (HB2.out.trans (hb.mono HB2.out.size)); clear hb; obtain ⟨⟨c0, c1⟩, k0, k1⟩ := arr9_two HA9.out))
        have hE : Arr _ w.heap.size 27 [.slice none 0 0, .int .i64 1] := ((HA9.out.put 0 (.slice none 0 0)).put 1 (.int .i64 1))
        exact bodyPost_ret (v := .agg #[.slice none 0 0, .int .i64 1]) (results_cell_row (P := Try.prog) Try.results22 _ _ w.heap.size 27 _ (0, 0) _ rfl hE Try.underlying27 rfl (by kernel_rfl)) rfl
          ⟨so_ill _ _ _, (HB9.out.setCell (p := ⟨w.heap.size, 0, none⟩) (Nat.le_refl _) _).setCell (p := ⟨w.heap.size, 1, none⟩) (Nat.le_refl _) _⟩
      · cases f
        · rw [pres_bad h1 h2 h3 (by rw [hd, hf]; rfl)]
          rw [hxn] at hn i1 i2 HO ⊢
          clear hO hw hxn h1 h2 h3 hd hf hP i5
          go_enter Try.func22, Try.ntmps22
          go_wp2_with (first
            | (go_at_call 31; go_fit (i1 _ (row_own9 (HO.out _ HB0.out))); rintro e0 w1 ⟨rfl, hb⟩; have HA1 := Lib.hid (arr9_on HA0.out hb); have HB1 := Lib.hid (HB0.out.trans (hb.mono HB0.out.size)); clear hb)
            | (go_at_call 73; go_fit (i2 _ (row_own9 (HO.out _ HB1.out))); rintro e0 w2 ⟨rfl, hb⟩; have HA2 := Lib.hid (arr9_on HA1.out hb); have HB2 := Lib.hid (HB1.out.trans (hb.mono HB1.out.size)); clear hb)
            | (go_at_call 75; go_fit (i3 _); rintro e0 wz ⟨rfl, hz⟩; subst hz)
            | (go_at_call 76; have _ := HA2; go_fit (i4 _); rintro e0 w4 ⟨rfl, hb⟩; have HA4 := Lib.hid (arr9_on HA2.out hb); have HB4 := Lib.hid (HB2.out.trans (hb.mono HB2.out.size)); clear hb)
            | (go_at_call 71; go_fit (i0 _ _); rintro e0 w9 ⟨rfl, hb⟩; have HA9 := Lib.hid (arr9_on HA4.out hb); have HB9 := Lib.hid (HB4.out.trans (hb.mono HB4.out.size)); clear hb; obtain ⟨⟨c0, c1⟩, k0, k1⟩ := arr9_two HA9.out))
          have hE : Arr _ w.heap.size 27 [.slice none 0 0, .int .i64 1] := ((HA9.out.put 0 (.slice none 0 0)).put 1 (.int .i64 1))
          exact bodyPost_ret (v := .agg #[.slice none 0 0, .int .i64 1]) (results_cell_row (P := Try.prog) Try.results22 _ _ w.heap.size 27 _ (0, 0) _ rfl hE Try.underlying27 rfl (by kernel_rfl)) rfl
            ⟨so_ill _ _ _, (HB9.out.setCell (p := ⟨w.heap.size, 0, none⟩) (Nat.le_refl _) _).setCell (p := ⟨w.heap.size, 1, none⟩) (Nat.le_refl _) _⟩
        · rw [pres_set h1 h2 h3 (by rw [hd, hf]; rfl)]
          obtain ⟨R, hRR⟩ : ∃ R, setR xs ⟨r, true, pr, s⟩ = R := ⟨_, rfl⟩
          rw [hRR] at i5 ⊢
          unfold seV at i5
          dsimp only at i5
          rw [hxn] at hn i1 i2 i5 HO ⊢
          clear hO hw hxn h1 h2 h3 hd hf hP hRR
          go_enter Try.func22, Try.ntmps22
          go_wp2_with (first
            | (go_at_call 31; go_fit (i1 _ (row_own9 (HO.out _ HB0.out))); rintro e0 w1 ⟨rfl, hb⟩; have HA1 := Lib.hid (arr9_on HA0.out hb); have HB1 := Lib.hid (HB0.out.trans (hb.mono HB0.out.size)); clear hb)
            | (go_at_call 73; go_fit (i2 _ (row_own9 (HO.out _ HB1.out))); rintro e0 w2 ⟨rfl, hb⟩; have HA2 := Lib.hid (arr9_on HA1.out hb); have HB2 := Lib.hid (HB1.out.trans (hb.mono HB1.out.size)); clear hb)
            | (go_at_call 75; go_fit (i3 _); rintro e0 wz ⟨rfl, hz⟩; subst hz)
            | (go_at_call 76; have _ := HA2; go_fit (i4 _); rintro e0 w4 ⟨rfl, hb⟩; have HA4 := Lib.hid (arr9_on HA2.out hb); have HB4 := Lib.hid (HB2.out.trans (hb.mono HB2.out.size)); clear hb)
            | (go_at_call 77; go_fit (i5 _ (HO.out _ HB4.out)); rintro e0 w5 ⟨⟨q, k, rfl, hv⟩, hb⟩; have HV := Lib.hid hv; have HA5 := Lib.hid (arr9_on HA4.out hb); have HB5 := Lib.hid (HB4.out.trans (hb.mono HB4.out.size)); have hlt := arr9_lt HA4.out; clear hb hv; obtain ⟨⟨c0, c1⟩, k0, k1⟩ := arr9_two HA5.out))
          obtain ⟨hE, hO2, hBl⟩ := pass9 (W2 := w) HA5.out HB5.out (Nat.le_refl _) hlt HV.out
          exact bodyPost_ret (v := .agg #[.slice q R.l.length k, .int .i64 R.c]) (results_cell_row (P := Try.prog) Try.results22 _ _ w.heap.size 27 _ (0, 0) _ rfl hE Try.underlying27 rfl (by kernel_rfl)) rfl
            ⟨⟨q, k, rfl, hO2⟩, hBl⟩
    · rw [if_neg h3] at i2
      rw [pres_none h1 h2 (by simpa using h3)]
      rw [hxn] at hn i1 i2 HO ⊢
      clear hO hw hxn h1 h2 h3 i3 i4 i5
      go_enter Try.func22, Try.ntmps22
      go_wp2_with (first
        | (go_at_call 31; go_fit (i1 _ (row_own9 (HO.out _ HB0.out))); rintro e0 w1 ⟨rfl, hb⟩; have HA1 := Lib.hid (arr9_on HA0.out hb); have HB1 := Lib.hid (HB0.out.trans (hb.mono HB0.out.size)); clear hb)
        | (go_at_call 73; go_fit (i2 _ (row_own9 (HO.out _ HB1.out))); rintro e0 w2 ⟨rfl, hb⟩; have HA2 := Lib.hid (arr9_on HA1.out hb); have HB2 := Lib.hid (HB1.out.trans (hb.mono HB1.out.size)); clear hb)
        | (go_at_call 71; go_fit (i0 _ _); rintro e0 w9 ⟨rfl, hb⟩; have HA9 := Lib.hid (arr9_on HA2.out hb); have HB9 := Lib.hid (HB2.out.trans (hb.mono HB2.out.size)); clear hb; obtain ⟨⟨c0, c1⟩, k0, k1⟩ := arr9_two HA9.out))
      have hE : Arr _ w.heap.size 27 [.slice none 0 0, .int .i64 6] := ((HA9.out.put 0 (.slice none 0 0)).put 1 (.int .i64 6))
      exact bodyPost_ret (v := .agg #[.slice none 0 0, .int .i64 6]) (results_cell_row (P := Try.prog) Try.results22 _ _ w.heap.size 27 _ (0, 0) _ rfl hE Try.underlying27 rfl (by kernel_rfl)) rfl
        ⟨so_ill _ _ _, (HB9.out.setCell (p := ⟨w.heap.size, 0, none⟩) (Nat.le_refl _) _).setCell (p := ⟨w.heap.size, 1, none⟩) (Nat.le_refl _) _⟩
  · rw [pres_form h1 (by simpa using h2)]
    rw [show okB xs = false by simpa using h2] at i1
    rw [hxn] at hn i1 HO ⊢
    clear hO hw i2 i3 i4 i5 hxn h1 h2
    go_enter Try.func22, Try.ntmps22
    go_wp2_with (first
      | (go_at_call 31; go_fit (i1 _ (row_own9 (HO.out _ HB0.out))); rintro e0 w1 ⟨rfl, hb⟩; have HA1 := Lib.hid (arr9_on HA0.out hb); have HB1 := Lib.hid (HB0.out.trans (hb.mono HB0.out.size)); clear hb)
      | (go_at_call 71; go_fit (i0 _ _); rintro e0 w9 ⟨rfl, hb⟩; have HA9 := Lib.hid (arr9_on HA1.out hb); have HB9 := Lib.hid (HB1.out.trans (hb.mono HB1.out.size)); clear hb; obtain ⟨⟨c0, c1⟩, k0, k1⟩ := arr9_two HA9.out))
    have hE : Arr _ w.heap.size 27 [.slice none 0 0, .int .i64 1] := ((HA9.out.put 0 (.slice none 0 0)).put 1 (.int .i64 1))
    exact bodyPost_ret (v := .agg #[.slice none 0 0, .int .i64 1]) (results_cell_row (P := Try.prog) Try.results22 _ _ w.heap.size 27 _ (0, 0) _ rfl hE Try.underlying27 rfl (by kernel_rfl)) rfl
      ⟨so_ill _ _ _, (HB9.out.setCell (p := ⟨w.heap.size, 0, none⟩) (Nat.le_refl _) _).setCell (p := ⟨w.heap.size, 1, none⟩) (Nat.le_refl _) _⟩
end Go.Proofs.Ytafdjjdmcnlddaa

namespace Go.Proofs.Ytafdjjdmcnlddaa
set_option linter.unusedSimpArgs false
set_option linter.unusedVariables false
open Go.RowKit

/-- The first len cells of a slice are bytes that lie below B. -/
def SrcRow (w : World) (B : Nat) (a : Option Addr) (len : Nat) : Prop :=
  ∀ k, k < len → ∃ (b off : Nat) (z : Int), a = some ⟨b, off, none⟩ ∧ b < B ∧ w.cell? ⟨b, off + k, none⟩ = some (.int .u8 z) ∧ 0 ≤ z ∧ z ≤ 255
theorem lt_of_cell {w : World} {b i : Nat} {v : Value} (h : w.cell? ⟨b, i, none⟩ = some v) : b < w.heap.size := by
  rcases Nat.lt_or_ge b w.heap.size with h1 | h1
  · exact h1
  · simp [World.cell?, Array.getElem?_eq_none h1] at h
theorem SrcRow.grown {w w' : World} {B g : Nat} {a : Option Addr} {len : Nat} (h : SrcRow w B a len) (hg : w.grownBy w' (some g)) (hB : B ≤ g) : SrcRow w' B a len := by
  intro k hk
  obtain ⟨b, off, z, ha, hb, hc, h0, h1⟩ := h k hk
  refine ⟨b, off, z, ha, hb, ?_, h0, h1⟩
  rw [World.cell?_of_block (w := w) (hg.block b (lt_of_cell hc) (by simp; omega))]
  exact hc
theorem grown_set {w w1 : World} {g : Nat} (h : w.grownBy w1 (some g)) (i : Nat) (v : Value) : w.grownBy (w1.setCell ⟨g, i, none⟩ v) (some g) :=
  ⟨h.os, h.tape, h.output, by simpa [World.setCell] using h.size, fun k hk hne => (Below.heap_setCell w1 ⟨g, i, none⟩ v k (fun e => hne (by simp at e; rw [e]))).trans (h.block k hk hne)⟩
theorem grown_drew {w w1 : World} {r : Option Nat} (h : w.grownBy w1 r) : w.grownBy w1.drew r := ⟨h.os, h.tape, h.output, h.size, h.block⟩
theorem grown_drewN {w w1 : World} {r : Option Nat} (h : w.grownBy w1 r) (n : Nat) : w.grownBy (w1.drewN n) r := ⟨h.os, h.tape, h.output, h.size, h.block⟩

/-- Block g (not below B) is a source over bytes that lie below B. -/
def Src (w : World) (B g : Nat) : Prop := B ≤ g ∧ ∃ (a : Option Addr) (len cap : Nat) (at_ mix size : Int),
  Arr w g 116 [.slice a len cap, .int .i64 at_, .int .u64 mix, .int .i64 size] ∧ 0 ≤ at_ ∧ at_ ≤ (len : Int) ∧ 0 ≤ mix ∧ mix ≤ 18446744073709551615 ∧ 0 ≤ size ∧ size ≤ 12 ∧ len ≤ 1048576 ∧
  SrcRow w B a len

/-- A call that draws: it answers some v of which P holds; only the source and what is new have turned. -/
def Drew (B g : Nat) (w : World) (P : Value → Prop) (e : Ending) (w' : World) : Prop := ∃ v, e = .returned v ∧ P v ∧ Src w' B g ∧ w.grownBy w' (some g)
def NumIn (most : Int) (v : Value) : Prop := ∃ r : Int, v = .int .i64 r ∧ 0 ≤ r ∧ (r < most ∨ r = 0)

theorem src_done {w w' : World} {B g : Nat} {P : Value → Prop} {v : Value} {a : Option Addr} {len cap : Nat} {at_ mix size : Int} (hP : P v) (hBg : B ≤ g)
    (hA : Arr w' g 116 [.slice a len cap, .int .i64 at_, .int .u64 mix, .int .i64 size]) (a0 : 0 ≤ at_) (a1 : at_ ≤ (len : Int)) (m0 : 0 ≤ mix) (m1 : mix ≤ 18446744073709551615) (s0 : 0 ≤ size) (s1 : size ≤ 12) (hl : len ≤ 1048576)
    (hr : SrcRow w B a len) (hg : w.grownBy w' (some g)) : Drew B g w P (.returned v) w' :=
  ⟨v, rfl, hP, ⟨hBg, a, len, cap, at_, mix, size, hA, a0, a1, m0, m1, s0, s1, hl, hr.grown hg hBg⟩, hg⟩
theorem rem_in {x most : Int} (_ : 0 ≤ x) (h1 : 1 < most) (hm : most ≤ 9223372036854775807) : 0 ≤ wrap64 (x % most) ∧ (wrap64 (x % most) < most ∨ wrap64 (x % most) = 0) := by
  have a := Int.emod_nonneg x (b := most) (by omega)
  have b := Int.emod_lt_of_pos x (b := most) (by omega)
  rw [IntWalk.wrap64_in _ ⟨by omega, by omega⟩]
  exact ⟨a, .inl b⟩
theorem bits_range {op : BinOp} {a b M : Int} (h : bits op IntKind.u64 a b = M) : 0 ≤ M ∧ M ≤ 18446744073709551615 := by
  have hw := wf_bits (k := .u64) op a b
  rw [h] at hw
  simpa [Lit.wf, IntKind.min, IntKind.max, IntKind.signed, IntKind.bits] using hw

set_option maxRecDepth 100000 in
set_option maxHeartbeats 2000000 in
theorem src_n (B g : Nat) (most : Int) (w : World) (hm : most ≤ 9223372036854775807) (hS : Src w B g) :
    Calls Try.prog 69 #[.pointer (some ⟨g, 0, none⟩), .int .i64 most] w (Drew B g w (NumIn most)) := by
  by_cases h1 : most ≤ 1
  · have HS := Lib.hid hS
    clear hS
    go_enter Try.func69, Try.ntmps69
    go_wp2
    go_ret
    exact ⟨_, rfl, ⟨0, rfl, by omega, .inr rfl⟩, HS.out, World.grownBy.refl w _⟩
  · obtain ⟨hBg, a, len, cap, at_, mix, size, hA, ha0, ha1, hx0, hx1, hz0, hz1, hlen, hrow⟩ := hS
    have k0 : w.cell? ⟨g, 0, none⟩ = some (.slice a len cap) := hA.cell 0
    have k1 : w.cell? ⟨g, 1, none⟩ = some (.int .i64 at_) := hA.cell 1
    have k2 : w.cell? ⟨g, 2, none⟩ = some (.int .u64 mix) := hA.cell 2
    have f1 : w.frozen? ⟨g, 1, none⟩ = false := hA.free 1
    have f2 : w.frozen? ⟨g, 2, none⟩ = false := hA.free 2
    have HA := Lib.hid hA
    have HR := Lib.hid hrow
    clear hA hrow
    obtain ⟨M1, hM1⟩ : ∃ M, bits BinOp.xor IntKind.u64 mix (IntKind.u64.wrap (mix * 8192)) = M := ⟨_, rfl⟩
    obtain ⟨b10, b11⟩ := bits_range hM1
    obtain ⟨M2, hM2⟩ : ∃ M, bits BinOp.xor IntKind.u64 M1 (M1 / 128) = M := ⟨_, rfl⟩
    obtain ⟨b20, b21⟩ := bits_range hM2
    obtain ⟨M3, hM3⟩ : ∃ M, bits BinOp.xor IntKind.u64 M2 (IntKind.u64.wrap (M2 * 131072)) = M := ⟨_, rfl⟩
    obtain ⟨b30, b31⟩ := bits_range hM3
    by_cases hend : at_ < (len : Int)
    · obtain ⟨A, rfl⟩ : ∃ A : Nat, at_ = A := ⟨at_.toNat, by omega⟩
      obtain ⟨b, off, z, rfl, hb, hcz, hz00, hz11⟩ := HR.out A (by omega)
      have hbg : b ≠ g := by omega
      have f1 : w.frozen? ⟨g, 1, none⟩ = false := f1
      have kk : ∀ n, ((w.drewN n).setCell ⟨g, 1, none⟩ (.int .i64 ((A : Int) + 1))).cell? ⟨g, 2, none⟩ = some (.int .u64 mix) := fun n => (World.cell?_setCell_other (w.drewN n) ⟨g, 1, none⟩ ⟨g, 2, none⟩ _ (by simp)).trans k2
      have hk3 : ∀ n, (((((w.drewN n).setCell ⟨g, 1, none⟩ (.int .i64 ((A : Int) + 1))).setCell ⟨g, 2, none⟩ (.int .u64 M1)).setCell ⟨g, 2, none⟩ (.int .u64 M2)).setCell ⟨g, 2, none⟩ (.int .u64 M3)).cell? ⟨g, 2, none⟩ = some (.int .u64 M3) := fun n =>
        World.cell?_setCell_same _ _ _ (World.cell?_setCell_same _ _ _ (World.cell?_setCell_same _ _ _ (kk n)))
      have hk2 : ∀ n, ((((w.drewN n).setCell ⟨g, 1, none⟩ (.int .i64 ((A : Int) + 1))).setCell ⟨g, 2, none⟩ (.int .u64 M1)).setCell ⟨g, 2, none⟩ (.int .u64 M2)).cell? ⟨g, 2, none⟩ = some (.int .u64 M2) := fun n =>
        World.cell?_setCell_same _ _ _ (World.cell?_setCell_same _ _ _ (kk n))
      have hk1 : ∀ n, (((w.drewN n).setCell ⟨g, 1, none⟩ (.int .i64 ((A : Int) + 1))).setCell ⟨g, 2, none⟩ (.int .u64 M1)).cell? ⟨g, 2, none⟩ = some (.int .u64 M1) := fun n =>
        World.cell?_setCell_same _ _ _ (kk n)
      go_enter Try.func69, Try.ntmps69
      go_wp2
      go_quiet (fail)
      go_wp2
      go_quiet (fail)
      go_wp2
      go_region
      go_wp2
      go_region
      go_wp2
      go_region
      go_wp2
      go_ret
      exact src_done ⟨wrap64 ((z + M3 / 1048576) % most), rfl, rem_in (by omega) (by omega) hm⟩ hBg (((Arr.put (w := w.drewN _) HA.out 1 _).put 2 _).put 2 _ |>.put 2 _) (by omega) (by omega) b30 b31 hz0 hz1 hlen HR.out
        (grown_drew (grown_drew (grown_drew (grown_set (grown_set (grown_set (grown_set (grown_drewN (World.grownBy.refl w _) _) _ _) _ _) _ _) _ _))))
    · have hk3 : ∀ n, ((((w.drewN n).setCell ⟨g, 2, none⟩ (.int .u64 M1)).setCell ⟨g, 2, none⟩ (.int .u64 M2)).setCell ⟨g, 2, none⟩ (.int .u64 M3)).cell? ⟨g, 2, none⟩ = some (.int .u64 M3) := fun n =>
        World.cell?_setCell_same _ _ _ (World.cell?_setCell_same _ _ _ (World.cell?_setCell_same (w.drewN n) _ _ k2))
      go_enter Try.func69, Try.ntmps69
      go_wp2
      go_quiet (fail)
      go_wp2
      go_region
      go_wp2
      go_region
      go_wp2
      go_region
      go_wp2
      go_ret
      have hgr : w.grownBy ((((w.drewN (nq + 1)).setCell ⟨g, 2, none⟩ (.int .u64 M1)).setCell ⟨g, 2, none⟩ (.int .u64 M2)).setCell ⟨g, 2, none⟩ (.int .u64 M3)).drew.drew (some g) :=
        grown_drew (grown_drew (grown_set (grown_set (grown_set (grown_drewN (World.grownBy.refl w _) _) _ _) _ _) _ _))
      have hA' : Arr (w.drewN (nq + 1)) g 116 [.slice a len cap, .int .i64 at_, .int .u64 mix, .int .i64 size] := HA.out
      refine ⟨_, rfl, ⟨wrap64 (M3 / 1048576 % most), rfl, ?_⟩, ⟨hBg, a, len, cap, at_, M3, size, ((hA'.put 2 _).put 2 _).put 2 _, ha0, ha1, b30, b31, hz0, hz1, hlen, HR.out.grown hgr hBg⟩, hgr⟩
      exact rem_in (by omega) (by omega) hm

def BoolIn (v : Value) : Prop := ∃ b : Bool, v = .bool b
theorem src_one (B g : Nat) (of : Int) (w : World) (hm : of ≤ 9223372036854775807) (hS : Src w B g) :
    Calls Try.prog 61 #[.pointer (some ⟨g, 0, none⟩), .int .i64 of] w (Drew B g w BoolIn) := by
  have HS := Lib.hid hS
  clear hS
  go_enter Try.func61, Try.ntmps61
  go_wp2_with (go_at_call 69; refine (src_n B g of _ hm HS.out).mono ?_; rintro e w1 ⟨_, rfl, ⟨r, rfl, h0, h1⟩, hS1, hg1⟩)
  all_goals
    go_ret
    exact ⟨_, rfl, ⟨_, rfl⟩, hS1, hg1⟩

theorem SrcRow.below {w w' : World} {B : Nat} {a : Option Addr} {len : Nat} (h : SrcRow w B a len) (hb : Below B w w') : SrcRow w' B a len := by
  intro k hk
  obtain ⟨b, off, z, ha, hB, hc, h0, h1⟩ := h k hk
  exact ⟨b, off, z, ha, hB, (hb.cell (p := ⟨b, off + k, none⟩) hB).trans hc, h0, h1⟩
theorem grown_alloc {w w1 : World} {r : Option Nat} (h : w.grownBy w1 r) (o : Obj) : w.grownBy (w1.alloc o) r :=
  ⟨h.os, h.tape, h.output, Nat.le_trans h.size (by simp), fun k hk hne => (Below.heap_alloc w1 o k (Nat.lt_of_lt_of_le hk h.size)).trans (h.block k hk hne)⟩
theorem Arr.alloc {w : World} {b t : Nat} {cs : List Value} (h : Arr w b t cs) (o : Obj) : Arr (w.alloc o) b t cs := by
  have hlt : b < w.heap.size := by
    rcases Nat.lt_or_ge b w.heap.size with h1 | h1
    · exact h1
    · unfold Arr at h; rw [Array.getElem?_eq_none h1] at h; cases h
  exact (Below.heap_alloc w o b hlt).trans h
theorem Src.alloc {w : World} {B g : Nat} (h : Src w B g) (o : Obj) : Src (w.alloc o) B g := by
  obtain ⟨hBg, a, len, cap, at_, mix, size, hA, h1, h2, h3, h4, h5, h6, h7, hr⟩ := h
  refine ⟨hBg, a, len, cap, at_, mix, size, hA.alloc o, h1, h2, h3, h4, h5, h6, h7, ?_⟩
  intro k hk
  obtain ⟨b, off, z, ha, hB, hc, h0, h1⟩ := hr k hk
  exact ⟨b, off, z, ha, hB, (World.cell?_alloc_lt w o ⟨b, off + k, none⟩ (lt_of_cell hc)).trans hc, h0, h1⟩
/-- What is owned elsewhere has grown: the source stands. -/
theorem Src.other {w w' : World} {B g : Nat} {r : Option Nat} (h : Src w B g) (hg : w.grownBy w' r) (hne : ∀ q, r = some q → q ≠ g) (hlt : g < w.heap.size) (hr : ∀ q, r = some q → B ≤ q) : Src w' B g := by
  obtain ⟨hBg, a, len, cap, at_, mix, size, hA, h1, h2, h3, h4, h5, h6, h7, hrow⟩ := h
  refine ⟨hBg, a, len, cap, at_, mix, size, (hg.block g hlt (fun e => hne g e.symm rfl)).trans hA, h1, h2, h3, h4, h5, h6, h7, ?_⟩
  intro k hk
  obtain ⟨b, off, z, ha, hB, hc, h0, h1⟩ := hrow k hk
  refine ⟨b, off, z, ha, hB, ?_, h0, h1⟩
  rw [World.cell?_of_block (w := w) (hg.block b (lt_of_cell hc) (fun e => by have := hr b e.symm; omega))]
  exact hc
theorem grown_same {w w1 w2 : World} {r : Option Nat} (h : w.grownBy w1 r) (k : w1.grownBy w2 r) : w.grownBy w2 r :=
  ⟨k.os.trans h.os, k.tape.trans h.tape, k.output.trans h.output, Nat.le_trans h.size k.size, fun i hi hne => (k.block i (Nat.lt_of_lt_of_le hi h.size) hne).trans (h.block i hi hne)⟩
/-- A row of the call's own has grown besides. -/
theorem grown_over {w w1 w2 : World} {r s : Option Nat} (h : w.grownBy w1 r) (k : w1.grownBy w2 s) (hs : ∀ q, s = some q → w.heap.size ≤ q) : w.grownBy w2 r :=
  ⟨k.os.trans h.os, k.tape.trans h.tape, k.output.trans h.output, Nat.le_trans h.size k.size, fun i hi hne => (k.block i (Nat.lt_of_lt_of_le hi h.size) (fun e => by have := hs i e.symm; omega)).trans (h.block i hi hne)⟩
/-- A source has been made. -/
def SrcMade (w : World) (e : Ending) (w' : World) : Prop := e = .returned (.pointer (some ⟨w.heap.size, 0, none⟩)) ∧ Src w' w.heap.size w.heap.size ∧ Below w.heap.size w w'

def SrcMadeB (B : Nat) (w : World) (e : Ending) (w' : World) : Prop := e = .returned (.pointer (some ⟨w.heap.size, 0, none⟩)) ∧ Src w' B w.heap.size ∧ Below w.heap.size w w'
theorem wrap_range {a M : Int} (h : IntKind.u64.wrap a = M) : 0 ≤ M ∧ M ≤ 18446744073709551615 := by
  rw [wrap_u64] at h
  omega

set_option maxRecDepth 100000 in
set_option maxHeartbeats 2000000 in
theorem src_sourceB (B : Nat) (a : Option Addr) (len cap : Nat) (w : World) (hlen : len ≤ 1048576) (hB : B ≤ w.heap.size) (hrow : SrcRow w B a len) :
    Calls Try.prog 59 #[.slice a len cap] w (SrcMadeB B w) := by
  have HR := Lib.hid hrow
  clear hrow
  go_enter Try.func59, Try.ntmps59
  go_wp2
  go_loopw [4] (fun i wr => ∃ (k : Nat) (mix : Int), i = .int .i64 (k : Int) ∧ k ≤ len ∧ k ≤ 64 ∧ 0 ≤ mix ∧ mix ≤ 18446744073709551615 ∧ Arr wr w.heap.size 116 [.slice a len cap, .int .i64 0, .int .u64 mix, .int .i64 0] ∧ Below w.heap.size w wr)
    (fun i _ => 64 - (intOf i).toNat)
  case atStart => exact ⟨0, 88172645463325252, rfl, by omega, by omega, by omega, by omega, Arr.fresh w _ [.slice a len cap, .int .i64 0, .int .u64 88172645463325252, .int .i64 0], (Below.refl _ _).alloc (Nat.le_refl _) _⟩
  case round =>
    obtain ⟨k, mix, rfl, hk, hk64, hm0, hm1, hA, hbel⟩ := hrel
    have k2 : wr.cell? ⟨w.heap.size, 2, none⟩ = some (.int .u64 mix) := hA.cell 2
    have k3 : wr.cell? ⟨w.heap.size, 3, none⟩ = some (.int .i64 0) := hA.cell 3
    have f2 : wr.frozen? ⟨w.heap.size, 2, none⟩ = false := hA.free 2
    have f3 : wr.frozen? ⟨w.heap.size, 3, none⟩ = false := hA.free 3
    have HA := Lib.hid hA
    clear hA
    by_cases hlt : k < len ∧ k < 64
    · obtain ⟨hl, h64⟩ := hlt
      obtain ⟨b, off, z, rfl, hb, hcz, hz0, hz1⟩ := (HR.out.below (hbel.mono hB)) k hl
      have hbne : b ≠ w.heap.size := by omega
      go_wp2
      go_region
      go_wp2
      go_roundw
      case rel =>
        obtain ⟨M, hM⟩ : ∃ M, IntKind.u64.wrap (bits BinOp.xor IntKind.u64 mix z * 1099511628211) = M := ⟨_, rfl⟩
        obtain ⟨r0, r1⟩ := wrap_range hM
        rw [hM]
        exact ⟨k + 1, M, by go_num, by omega, by omega, r0, r1, HA.out.put 2 _, (hbel.setCell (Nat.le_refl _) _).drew⟩
      case measure => simp [intOf]; omega
    · have hA3 : ∀ x : Int, (wr.setCell ⟨w.heap.size, 3, none⟩ (.int .i64 x)).cell? ⟨w.heap.size, 3, none⟩ = some (.int .i64 x) := fun x => World.cell?_setCell_same _ _ _ k3
      by_cases hbig : 12 < (len : Int) / 20
      · by_cases hl : k < len
        · have h64 : ¬ k < 64 := fun h => hlt ⟨hl, h⟩
          clear hlt
          go_wp2
          go_ret
          exact ⟨rfl, ⟨hB, a, len, cap, 0, mix, 12, (HA.out.put 3 _).put 3 _, by omega, by omega, hm0, hm1, by omega, by omega, hlen, HR.out.below (((hbel.setCell (Nat.le_refl _) _).setCell (Nat.le_refl _) _).mono hB)⟩, (hbel.setCell (Nat.le_refl _) _).setCell (Nat.le_refl _) _⟩
        · omega
      · by_cases hl : k < len
        · have h64 : ¬ k < 64 := fun h => hlt ⟨hl, h⟩
          clear hlt
          go_wp2
          go_ret
          exact ⟨rfl, ⟨hB, a, len, cap, 0, mix, _, HA.out.put 3 _, by omega, by omega, hm0, hm1, by omega, by omega, hlen, HR.out.below ((hbel.setCell (Nat.le_refl _) _).mono hB)⟩, hbel.setCell (Nat.le_refl _) _⟩
        · clear hlt
          go_wp2
          go_ret
          exact ⟨rfl, ⟨hB, a, len, cap, 0, mix, _, HA.out.put 3 _, by omega, by omega, hm0, hm1, by omega, by omega, hlen, HR.out.below ((hbel.setCell (Nat.le_refl _) _).mono hB)⟩, hbel.setCell (Nat.le_refl _) _⟩
theorem src_source (a : Option Addr) (len cap : Nat) (w : World) (hlen : len ≤ 1048576) (hrow : SrcRow w w.heap.size a len) :
    Calls Try.prog 59 #[.slice a len cap] w (SrcMade w) := src_sourceB w.heap.size a len cap w hlen (Nat.le_refl _) hrow

/-- Some bytes, at most so many. -/
def StrIn (most : Nat) (v : Value) : Prop := ∃ s : ByteArray, v = .string s ∧ s.size ≤ most

/-- A slice of bytes that came in is a row of bytes. -/
theorem srcRow_of {w : World} {x : Addr} {zs : List Int} {len : Nat} (hl : len ≤ zs.length) (hc : ∀ i, i < zs.length → w.cell? (x.add i) = some (.int .u8 (zs.getD i 0))) (hw : ∀ n ∈ zs, (Lit.int .u8 n).wf = true) : SrcRow w w.heap.size (some x) len := by
  intro k hk
  obtain ⟨b, off, rfl, hcell⟩ := ints_at hc (show 0 < zs.length by omega)
  have hk' : k < zs.length := by omega
  have h1 := hcell k hk'
  have hmem : zs.getD k 0 ∈ zs := by
    rw [List.getD_eq_getElem?_getD, List.getElem?_eq_getElem hk']
    exact List.getElem_mem hk'
  have hb := hw _ hmem
  have hr : 0 ≤ zs.getD k 0 ∧ zs.getD k 0 ≤ 255 := by simpa [Lit.wf, IntKind.min, IntKind.max, IntKind.signed, IntKind.bits] using hb
  exact ⟨b, off, _, rfl, lt_of_cell h1, h1, hr.1, hr.2⟩
theorem srcRow_nil {w : World} {B : Nat} {a : Option Addr} : SrcRow w B a 0 := fun k hk => by omega
end Go.Proofs.Ytafdjjdmcnlddaa

namespace Go.Proofs.Ytafdjjdmcnlddaa
set_option linter.unusedSimpArgs false
set_option linter.unusedVariables false
open Go.RowKit

theorem Arr.other {w w' : World} {b t : Nat} {cs : List Value} {r : Option Nat} (h : Arr w b t cs) (hg : w.grownBy w' r) (hne : r ≠ some b) : Arr w' b t cs := by
  have hlt : b < w.heap.size := by
    rcases Nat.lt_or_ge b w.heap.size with h1 | h1
    · exact h1
    · unfold Arr at h; rw [Array.getElem?_eq_none h1] at h; cases h
  exact (hg.block b hlt (fun e => hne e.symm)).trans h

theorem Src.lt {w : World} {B g : Nat} (h : Src w B g) : g < w.heap.size := by
  obtain ⟨_, a, len, cap, at_, mix, size, hA, _⟩ := h
  exact lt_of_cell (hA.cell 0)

theorem SrcRow.heap {w W : World} {B : Nat} {a : Option Addr} {len : Nat} (h : SrcRow w B a len) (hh : W.heap = w.heap) : SrcRow W B a len := by
  intro k hk
  obtain ⟨b, off, z, ha, hB, hc, h0, h1⟩ := h k hk
  exact ⟨b, off, z, ha, hB, by rw [← hc]; unfold World.cell?; rw [hh], h0, h1⟩
theorem SrcRow.lift {w w' : World} {B B' : Nat} {a : Option Addr} {len : Nat} (h : SrcRow w B a len) (hb : Below B w w') (hB : B ≤ B') : SrcRow w' B' a len := by
  intro k hk
  obtain ⟨b, off, z, ha, hlt, hc, h0, h1⟩ := h k hk
  exact ⟨b, off, z, ha, by omega, (hb.cell (p := ⟨b, off + k, none⟩) hlt).trans hc, h0, h1⟩

end Go.Proofs.Ytafdjjdmcnlddaa

namespace Go.Proofs.Ytafdjjdmcnlddaa
set_option linter.unusedSimpArgs false
set_option linter.unusedVariables false
open Go.RowKit

/-- A row of strings, each of at most M bytes. -/
def StrRow (w : World) (b n M : Nat) : Prop := ∀ j, j < n → ∃ s : ByteArray, w.cell? ⟨b, j, none⟩ = some (.string s) ∧ s.size ≤ M
theorem strRow_new (w : World) (t M : Nat) (ss : List ByteArray) (h : ∀ s ∈ ss, s.size ≤ M) : StrRow (w.alloc (.cells (ss.map Value.string).toArray t)) w.heap.size ss.length M := by
  intro j hj
  refine ⟨ss[j], ?_, h _ (List.getElem_mem hj)⟩
  rw [(Arr.fresh w t (ss.map Value.string)).cell]
  simp [List.getElem?_eq_getElem hj]
set_option maxHeartbeats 1000000 in
theorem src_pick (B g b n M : Nat) (w : World) (hn0 : 1 ≤ n) (hn : n ≤ 100) (hS : Src w B g) (hbg : b ≠ g) (hrow : StrRow w b n M) :
    Calls Try.prog 62 #[.pointer (some ⟨g, 0, none⟩), .slice (some ⟨b, 0, none⟩) n n] w (Drew B g w (StrIn M)) := by
  have HS := Lib.hid hS
  have HR := Lib.hid hrow
  clear hS hrow
  go_enter Try.func62, Try.ntmps62
  go_wp2_with fail
  refine (src_n B g (n : Int) _ (by omega) HS.out).mono ?_
  rintro e w1 ⟨_, rfl, ⟨r, rfl, h0, h1⟩, hS1, hg1⟩
  obtain ⟨R, rfl⟩ : ∃ R : Nat, r = R := ⟨r.toNat, by omega⟩
  have hR : R < n := by omega
  obtain ⟨s, hs, hM⟩ := HR.out R hR
  have hc : w1.cell? ⟨b, R, none⟩ = some (.string s) := by
    rw [World.cell?_of_block (w := w) (hg1.block b (lt_of_cell hs) (fun e => hbg (by injection e)))]
    exact hs
  clear h1
  go_wp2
  go_ret
  exact ⟨_, rfl, ⟨s, rfl, hM⟩, hS1, hg1⟩
theorem grown_new {w w1 : World} {r : Option Nat} (h : w.grownBy w1 r) (b i : Nat) (v : Value) (hb : w.heap.size ≤ b) : w.grownBy (w1.setCell ⟨b, i, none⟩ v) r :=
  ⟨h.os, h.tape, h.output, by simpa [World.setCell] using h.size, fun k hk hne => (Below.heap_setCell w1 ⟨b, i, none⟩ v k (by simp; omega)).trans (h.block k hk hne)⟩
theorem grown_setb (w : World) (b i : Nat) (v : Value) : w.grownBy (w.setCell ⟨b, i, none⟩ v) (some b) := grown_set (World.grownBy.refl w _) i v
theorem Src.set {w : World} {B g : Nat} (h : Src w B g) (b i : Nat) (v : Value) (hne : b ≠ g) (hB : B ≤ b) : Src (w.setCell ⟨b, i, none⟩ v) B g :=
  h.other (grown_setb w b i v) (fun q e => by injection e; omega) h.lt (fun q e => by injection e; omega)
theorem Src.on {w w1 : World} {B g : Nat} (h : Src w B g) (hb : Below w.heap.size w w1) : Src w1 B g := by
  obtain ⟨hBg, a, len, cap, at_, mix, size, hA, h1, h2, h3, h4, h5, h6, h7, hrow⟩ := id h
  refine ⟨hBg, a, len, cap, at_, mix, size, arr_below hA hb, h1, h2, h3, h4, h5, h6, h7, ?_⟩
  intro k hk
  obtain ⟨b, off, z, ha, hB, hc, h0, h1⟩ := hrow k hk
  exact ⟨b, off, z, ha, hB, (hb.cell (p := ⟨b, off + k, none⟩) (lt_of_cell hc)).trans hc, h0, h1⟩
theorem grown_on {w w1 w2 : World} {r : Option Nat} (h : w.grownBy w1 r) (hb : Below w1.heap.size w1 w2) : w.grownBy w2 r :=
  ⟨hb.os.trans h.os, hb.tape.trans h.tape, hb.output.trans h.output, Nat.le_trans h.size hb.size, fun k hk hne => (hb.block k (Nat.lt_of_lt_of_le hk h.size)).trans (h.block k hk hne)⟩
theorem strRow_at (w : World) (t M b : Nat) (ss : List ByteArray) (hb : b = w.heap.size) (h : ∀ s ∈ ss, s.size ≤ M) : StrRow (w.alloc (.cells (ss.map Value.string).toArray t)) b ss.length M := by
  subst hb
  exact strRow_new w t M ss h
theorem below_grown {B g : Nat} {w w1 w2 : World} (hb : Below B w w1) (hB : B ≤ w1.heap.size) (hg : w1.grownBy w2 (some g)) (hg' : B ≤ g) : Below B w w2 :=
  hb.grown hg hB (fun k hk => by simp at hk; omega)
end Go.Proofs.Ytafdjjdmcnlddaa

namespace Go.Proofs.Ytafdjjdmcnlddaa
set_option linter.unusedSimpArgs false
set_option linter.unusedVariables false
open Go.RowKit Go.Joins

theorem two9 {w w1 : World} {cs ds : List Value} {t : Nat} (h : Below ((w.alloc (.cells cs.toArray t)).alloc (.cells ds.toArray t)).heap.size ((w.alloc (.cells cs.toArray t)).alloc (.cells ds.toArray t)) w1) :
    Arr w1 w.heap.size t cs ∧ Arr w1 (w.heap.size + 1) t ds ∧ Below w.heap.size w w1 := by
  have h2 := Arr.fresh (w.alloc (.cells cs.toArray t)) t ds
  rw [World.size_alloc] at h2
  exact ⟨arr9_on (arr9_on (Arr.fresh w t cs) ((Below.refl _ _).alloc (Nat.le_refl _) _)) h, arr9_on h2 h, ((((Below.refl _ _).alloc (Nat.le_refl _) _).alloc (by simp) _)).trans (h.mono (by simp; omega))⟩
set_option maxRecDepth 100000 in
set_option maxHeartbeats 1000000 in
theorem lw_bound (R : SoL) (p q : Option Addr) (k l : Nat) (w : World) (hn : R.l.length ≤ 1000000) (hz : ∀ x ∈ R.l, x.r.size ≤ maxLen) (hok : R.c = 0 → okB R.l = true) (hp : RowC seC 4 w p R.l) (hq : RowC seC 4 w q R.l) :
    Calls Try.prog 18 #[soV R p k, soV R q l] w fun e w' => e = .returned (.bool true) ∧ Below w.heap.size w w' := by
  have i1 := fun W hp hq => lw_sess R.l p q k l W (by omega) hp hq
  have i2 := fun W h => spec_seright R.l p k W (by omega) hz h
  have HK := Lib.hid (fun w1 (h : Below ((w.alloc (.cells (soC R p k).toArray 27)).alloc (.cells (soC R q l).toArray 27)).heap.size ((w.alloc (.cells (soC R p k).toArray 27)).alloc (.cells (soC R q l).toArray 27)) w1) => two9 h)
  have HP := Lib.hid (hp.on (((Below.refl _ _).alloc (Nat.le_refl _) (.cells (soC R p k).toArray 27)).alloc (by simp) (.cells (soC R q l).toArray 27)))
  have HQ := Lib.hid (hq.on (((Below.refl _ _).alloc (Nat.le_refl _) (.cells (soC R p k).toArray 27)).alloc (by simp) (.cells (soC R q l).toArray 27)))
  have HP0 := Lib.hid (fun W (h : Below w.heap.size w W) => hp.on h)
  clear hp hq
  unfold soV
  by_cases hc : R.c = 0
  · have hb := hok hc
    rw [hb] at i2
    have q1 : (R.c == 0) = true := by rw [hc]; rfl
    have q2 : (R.c != 0) = false := by rw [hc]; rfl
    have HC := Lib.hid hc
    clear hc hok hb
    go_enter Try.func18, Try.ntmps18
    go_wp2_with (first
      | (go_at_call 31; have _ := HB1; go_fit (i2 _ (HP0.out _ HB1.out)); rintro e w2 ⟨rfl, hb2⟩; have HB2 := Lib.hid (HB1.out.trans (hb2.mono HB1.out.size)); clear hb2)
      | (go_at_call 24; go_fit (i1 _ HP.out HQ.out); rintro e w1 ⟨rfl, hb1⟩; obtain ⟨hA, hB, hb⟩ := HK.out _ hb1; have HB1 := Lib.hid hb; obtain ⟨⟨c0, c1⟩, _⟩ := arr9_two hA; obtain ⟨⟨d0, d1⟩, _⟩ := arr9_two hB; clear hA hB hb1 hb))
    go_ret
    exact ⟨rfl, HB2.out⟩
  · have q1 : (R.c != 0) = true := by simpa using hc
    go_enter Try.func18, Try.ntmps18
    go_wp2_with (go_at_call 24; go_fit (i1 _ HP.out HQ.out); rintro e w1 ⟨rfl, hb1⟩; obtain ⟨hA, hB, hb⟩ := HK.out _ hb1; have HB1 := Lib.hid hb; obtain ⟨⟨c0, c1⟩, _⟩ := arr9_two hA; obtain ⟨⟨d0, d1⟩, _⟩ := arr9_two hB; clear hA hB hb1 hb)
    go_ret
    exact ⟨rfl, HB1.out⟩
end Go.Proofs.Ytafdjjdmcnlddaa
