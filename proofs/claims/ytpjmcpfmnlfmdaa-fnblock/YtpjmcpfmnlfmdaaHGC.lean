/- Several parts in one text: BkArg, StSmall, JidReadMore, StAddr, SeCmp, HandQ, SmJoin. -/
import Derived.Test.YtpjmcpfmnlfmdaaHGB
import Derived.Test.YtpjmcpfmnlfmdaaHGA
import Derived.Deep.MidRow
import Derived.Laws.CopyOwn
import Derived.Deep.DeepFit
import Derived.Lib.OthersKept
import Derived.Laws.RangeAny
import Derived.Deep.RegionHeld3
import Derived.IntWalk
import Derived.Laws.Cover1
import Derived.Lib.SmallJoins
import Derived.Test.YtpjmcpfmnlfmdaaChecked
import Derived.WalkKit
namespace Go.Proofs.Ytpjmcpfmnlfmdaa
set_option linter.unusedSimpArgs false
set_option linter.unusedVariables false
open Go.ChangeShapes Go.WideShapes Go.ChangeAt Go.RowKit

/-- So many texts have been copied. -/
def Cop_tx (xs : List ByteArray) (g n i : Nat) (W : World) : Prop := ∃ L, Arr W g 9 L ∧ L.length = n ∧ ∀ i' (h : i' < xs.length), i' < i → L[i']? = some (.string xs[i'])
theorem Cop_tx.there {xs : List ByteArray} {g n i q : Nat} {W : World} (h : Cop_tx xs g n i W) (hq : q < n) : (∃ u, W.cell? ⟨g, q, none⟩ = some u) ∧ W.frozen? ⟨g, q, none⟩ = false := by
  obtain ⟨L, h1, h2, _⟩ := h
  rw [h1.cell, h1.free]
  exact ⟨⟨L[q]'(by omega), List.getElem?_eq_getElem _⟩, rfl⟩
theorem Cop_tx.step {xs : List ByteArray} {g n i : Nat} {W : World} (h : Cop_tx xs g n i W) (hi : i < n) {x : ByteArray} (hx : xs[i]? = some x) : Cop_tx xs g n (i + 1) (W.setCell ⟨g, i, none⟩ (.string x)) := by
  obtain ⟨L, h1, h2, h3⟩ := h
  refine ⟨_, h1.put i _, by simpa using h2, fun i' hi' hlt => ?_⟩
  by_cases e : i' = i
  · subst e
    have ex : xs[i'] = x := by rw [List.getElem?_eq_getElem hi'] at hx; exact Option.some.inj hx
    rw [ex, List.getElem?_set_self (by omega)]
  · rw [List.getElem?_set_ne (by omega)]
    exact h3 i' hi' (by omega)
theorem Cop_tx.own {xs : List ByteArray} {g n B : Nat} {W : World} (h : Cop_tx xs g n n W) (hn : xs.length = n) (hB : B ≤ g) (hm : n ≤ 1048576) : OwnC strC W B 9 1 (.slice (some ⟨g, 0, none⟩) n n) xs := by
  obtain ⟨L, h1, h2, h3⟩ := h
  have e : L = xs.flatMap strC := by
    apply List.ext_getElem?
    intro q
    by_cases hq : q < n
    · have h4 := h3 q (by omega) hq
      rw [h4]
      have h5 := flat_at (enc := strC) (size := 1) (fun _ => rfl) xs q 0 (by omega) (by decide)
      rw [Nat.mul_one, Nat.add_zero] at h5
      exact h5.symm
    · rw [List.getElem?_eq_none (by omega), List.getElem?_eq_none]
      rw [flat_len (enc := strC) (size := 1) (fun _ => rfl), hn]
      omega
  refine ⟨by rw [flat_len (enc := strC) (size := 1) (fun _ => rfl)], .inr ⟨g, n, L.toArray, by rw [hn], hB, h1, by omega, by unfold maxLen; omega, by simpa using h2, ?_⟩⟩
  rw [← e, List.take_of_length_le (by simp; omega)]
theorem info_tx : (Try.prog.info? 9).map (fun i => (i.zero, i.size, i.bytes)) = some (some (.string ⟨#[]⟩), 1, 16) := by kernel_rfl
/-- A slice of texts among the arguments. -/
def TxArg (W : World) (a : Option Addr) (len : Nat) (ps : List ByteArray) : Prop := ps.length = len ∧ len ≤ maxLen ∧ (∀ p ∈ ps, p.size ≤ maxLen) ∧ RowA strC 1 W a ps
theorem TxArg.below {W W2 : World} {a : Option Addr} {len : Nat} {ps : List ByteArray} (h : TxArg W a len ps) (hb : Below W.heap.size W W2) : TxArg W2 a len ps := ⟨h.1, h.2.1, h.2.2.1, h.2.2.2.below hb⟩
theorem addr_plainX {w : World} {x : Addr} {v : Value} (h : w.cell? x = some v) : x = ⟨x.block, x.off, none⟩ := by
  obtain ⟨b, off, sp⟩ := x
  cases sp with
  | none => rfl
  | some s =>
    simp [World.cell?] at h
    split at h <;> cases h
theorem cells_oneX {W : World} {base : Nat} {a : Addr} {cs : List Value} (h : W.cells? base a 1 = some cs) : ∃ c0, cs = [c0] ∧ W.cell? (a.add 0) = some c0 := by
  unfold World.cells? at h
  split at h
  · rw [show List.range 1 = [0] from rfl] at h
    simp only [List.mapM_cons, List.mapM_nil, Option.bind_eq_bind, Option.pure_def] at h
    cases h0 : W.cell? (a.add 0) with
    | none => rw [h0] at h; simp at h
    | some c0 =>
      rw [h0] at h
      simp at h
      exact ⟨c0, h.symm, rfl⟩
  · cases h
set_option maxRecDepth 100000 in
theorem texts_trod {H : Type} {enc : TypeId × Value → H} {W : World} {base : Nat} {sp : Nat → Bool} {held : Bool} {fuel : Nat} {c : Value} {x : DataW H × List MemPlace}
    (hf : DataW.trod enc Try.prog W base sp held fuel 23 [c] = some x) : ∃ a len cap ps, c = .slice a len cap ∧ TxArg W a len ps := by
  rcases Deep.open_slice Try.underlying23 hf with ⟨hcs, _⟩ | ⟨a, len, cap, m, n, D, Pl, hcs, hb, hl, hm, hmm, hx, hall⟩
  · injection hcs with h1
    exact ⟨none, 0, 0, [], h1, rfl, Nat.zero_le _, fun p hp => (by cases hp), fun h => absurd rfl h⟩
  · injection hcs with h1
    have hlm : len ≤ m := by rw [hmm]; split <;> omega
    have each : ∀ i, i < len → ∃ p : ByteArray, p.size ≤ maxLen ∧ W.cell? ((a.add (i * 1)).add 0) = some (.string p) := by
      intro i hi
      obtain ⟨cs', hc, ht⟩ := hall i (by omega)
      rw [cellsStr9] at hc
      obtain ⟨c0, rfl, e0⟩ := cells_oneX hc
      obtain ⟨d, e1, _, w0⟩ := DataW.trod_string Try.underlying9 ht
      simp at e1
      subst e1
      exact ⟨d, w0, e0⟩
    obtain ⟨P, hP⟩ := Deep.choose_lt each
    refine ⟨some a, len, cap, (List.range len).map P, h1, by simp, by omega, fun p hp => ?_, fun hne => ?_⟩
    · obtain ⟨i, hi, rfl⟩ := List.mem_map.1 hp
      exact (hP i (List.mem_range.1 hi)).1
    · have h0 : 0 < len := by
        rcases Nat.eq_zero_or_pos len with h | h
        · subst h; exact absurd rfl hne
        · exact h
      have hc0 := (hP 0 h0).2
      simp only [Nat.zero_mul] at hc0
      have ha : W.cell? a = some (.string (P 0)) := hc0
      have hap := addr_plainX ha
      refine ⟨a.block, a.off, by rw [← hap], ?_, fun i hi j hj => ?_⟩
      · exact block_lt_of_cell ha
      · obtain rfl : j = 0 := by omega
        have hi' : i < len := by simpa using hi
        have h2 := (hP i hi').2
        rw [Deep.add_add, hap] at h2
        simp only [List.getElem_map, List.getElem_range]
        show _ = some (Value.string (P i))
        rw [← h2]
        congr 1
        unfold Addr.add
        split
        · rename_i h3; rw [h3]; rfl
        · rfl
set_option maxRecDepth 100000 in
theorem texts_open {H : Type} {enc : TypeId × Value → H} {W : World} {base : Nat} {sp : Nat → Bool} {held : Bool} {a : Option Addr} {len cap : Nat} {D : DataW H} {p : List MemPlace}
    (h : DataW.Trod enc Try.prog W base sp held 23 (.slice a len cap) D p) : ∃ ps, TxArg W a len ps := by
  obtain ⟨fuel, hf⟩ := h
  have hf' : DataW.trod enc Try.prog W base sp held fuel 23 [.slice a len cap] = some (D, p) := hf
  obtain ⟨a2, len2, cap2, ps, e, hp⟩ := texts_trod hf'
  injection e with e1 e2 e3
  subst e1 e2 e3
  exact ⟨ps, hp⟩
end Go.Proofs.Ytpjmcpfmnlfmdaa

namespace Go.Proofs.Ytpjmcpfmnlfmdaa
set_option linter.unusedSimpArgs false
set_option linter.unusedVariables false
open Go.RowKit

/-- isAddress, and l04Address of what is not empty. -/
noncomputable def addrB (t : ByteArray) : Bool := goodR t.data.toList && ((jidT (strOf (readL t.data.toList).1) (strOf (readL t.data.toList).2.1) (strOf (readL t.data.toList).2.2)).toList == t.toList)
end Go.Proofs.Ytpjmcpfmnlfmdaa

namespace Go.Proofs.Ytpjmcpfmnlfmdaa
set_option linter.unusedSimpArgs false
set_option linter.unusedVariables false
open Go.RowKit

theorem text_some {l d r : ByteArray} (h : jidB l d r = true) : 0 < (jidT l d r).size ∧ (jidT l d r).size ≤ 100 := by
  obtain ⟨b1, b2, b3⟩ := right_le h
  unfold jidB jidB' at h
  simp only [Bool.and_eq_true] at h
  have hd := (domB_iff.1 h.1.2).1
  unfold jidT
  rw [strOf_size, flat_five]
  simp only [List.length_append, size_data]
  have e1 := mark_le atS l (by decide)
  have e2 := mark_le slS r (by decide)
  omega
end Go.Proofs.Ytpjmcpfmnlfmdaa

namespace Go.Proofs.Ytpjmcpfmnlfmdaa
set_option linter.unusedSimpArgs false
set_option linter.unusedVariables false
open Go.RowKit

theorem addr_big {t : ByteArray} (h : 20000 < t.size) : addrB t = false := by
  cases hA : addrB t
  · rfl
  · exfalso
    unfold addrB goodR at hA
    simp only [Bool.and_eq_true] at hA
    obtain ⟨⟨_, hj⟩, he⟩ := hA
    have h1 := (text_some hj).2
    have h2 := beq_iff_eq.1 he
    rw [ByteArray.toList_eq, ByteArray.toList_eq] at h2
    have h3 := congrArg List.length h2
    rw [size_data, size_data] at h3
    omega
theorem addr_bad {t : ByteArray} (h : goodR t.data.toList = false) : addrB t = false := by unfold addrB; rw [h]; rfl

set_option maxRecDepth 100000 in
set_option maxHeartbeats 2000000 in
theorem impl_address (s : ByteArray) (w : World) (hs : s.size ≤ maxLen) (hm : MaxL w) :
    Calls Try.prog 45 #[.string s] w fun e w' => e = .returned (.bool (addrB s)) ∧ Below w.heap.size w w' := by
  have i1 := impl_read s w hs hm
  unfold jidReadV at i1
  by_cases hbig : 20000 < s.size
  · rw [if_pos hbig] at i1
    unfold jo at i1
    rw [addr_big hbig]
    clear hm
    go_enter Try.func45, Try.ntmps45
    go_wp2_with (go_at_call 56; go_fit i1; rintro e w1 ⟨rfl, hb⟩)
    go_ret
    exact ⟨rfl, hb.alloc hb.size _⟩
  · rw [if_neg hbig] at i1
    cases hg : goodR s.data.toList
    · rw [hg, if_neg Bool.false_ne_true] at i1
      unfold jo at i1
      rw [addr_bad hg]
      clear hm hg
      go_enter Try.func45, Try.ntmps45
      go_wp2_with (go_at_call 56; go_fit i1; rintro e w1 ⟨rfl, hb⟩)
      go_ret
      exact ⟨rfl, hb.alloc hb.size _⟩
    · rw [hg, if_pos rfl] at i1
      unfold addrB
      rw [hg, Bool.true_and]
      have hj : jidB (strOf (readL s.data.toList).1) (strOf (readL s.data.toList).2.1) (strOf (readL s.data.toList).2.2) = true := by
        unfold goodR at hg
        simp only [Bool.and_eq_true] at hg
        exact hg.2
      obtain ⟨l, hl⟩ : ∃ l, l = strOf (readL s.data.toList).1 := ⟨_, rfl⟩
      obtain ⟨d, hd⟩ : ∃ d, d = strOf (readL s.data.toList).2.1 := ⟨_, rfl⟩
      obtain ⟨r, hr⟩ : ∃ r, r = strOf (readL s.data.toList).2.2 := ⟨_, rfl⟩
      rw [← hl, ← hd, ← hr] at i1 hj ⊢
      unfold jo at i1
      obtain ⟨z1, z2, z3⟩ := right_le hj
      have i2 := fun w => impl_text l d r w (by unfold maxLen; omega) (by unfold maxLen; omega) (by unfold maxLen; omega)
      rw [jidTextS_yes hj] at i2
      obtain ⟨X, hX⟩ : ∃ X, X = jidT l d r := ⟨_, rfl⟩
      rw [← hX] at i2 ⊢
      obtain ⟨b, hb0⟩ : ∃ b, (X.toList == s.toList) = b := ⟨_, rfl⟩
      rw [hb0]
      have HM := Lib.hid (fun W (h : Below w.heap.size w W) => hm.below h hm.pos)
      clear hm hg hj hl hd hr hX
      cases b <;>
      · go_enter Try.func45, Try.ntmps45
        go_wp2_with (first
          | (go_at_call 56; go_fit i1; rintro e w1 ⟨rfl, hb⟩)
          | (go_at_call 75; go_fit (i2 _ (HM.out _ (hb.alloc hb.size _))); rintro e w2 ⟨rfl, hb2⟩; replace hb := hb.trans ((below_one hb2).mono hb.size)))
        go_ret
        exact ⟨rfl, hb⟩

/-- What stands while a result of three cells, at ra, is set from a box of three, at rb. -/
abbrev CopyS (w : World) (ra rb : Nat) (x y z : ByteArray) (W : World) : Prop :=
  (W.cell? ⟨rb, 0, none⟩ = some (.string x) ∧ W.cell? ⟨rb, 1, none⟩ = some (.string y) ∧ W.cell? ⟨rb, 2, none⟩ = some (.string z) ∧
   W.cell? ⟨ra, 0, none⟩ = some (cellAt W ra 0) ∧ W.cell? ⟨ra, 1, none⟩ = some (cellAt W ra 1) ∧ W.cell? ⟨ra, 2, none⟩ = some (cellAt W ra 2) ∧
   W.frozen? ⟨ra, 0, none⟩ = false ∧ W.frozen? ⟨ra, 1, none⟩ = false ∧ W.frozen? ⟨ra, 2, none⟩ = false) ∧
  (Below w.heap.size w W ∧ Arr W rb 69 [.string x, .string y, .string z] ∧ Res W ra)
theorem copyS {w W : World} {ra rb : Nat} {x y z : ByteArray} (hb : Below w.heap.size w W) (hA : Arr W rb 69 [.string x, .string y, .string z]) (hr : Res W ra) : CopyS w ra rb x y z W := by
  obtain ⟨c0, c1, c2, _, _, _⟩ := arr_three hA
  obtain ⟨a, b, c, hR⟩ := id hr
  have e : ∀ i v, W.cell? ⟨ra, i, none⟩ = some v → W.cell? ⟨ra, i, none⟩ = some (cellAt W ra i) := fun i v h => by unfold cellAt; rw [h]; rfl
  exact ⟨⟨c0, c1, c2, e 0 a (hR.cell 0), e 1 b (hR.cell 1), e 2 c (hR.cell 2), hR.free 0, hR.free 1, hR.free 2⟩, hb, hA, hr⟩
theorem copyS_on {w W w2 : World} {ra rb : Nat} {x y z : ByteArray} {S : Prop} (h : S ∧ (Below w.heap.size w W ∧ Arr W rb 69 [.string x, .string y, .string z] ∧ Res W ra)) (h2 : Below W.heap.size W w2) : CopyS w ra rb x y z w2 :=
  copyS (h.2.1.trans (h2.mono h.2.1.size)) (arr_below h.2.2.1 h2) (by obtain ⟨a, b, c, hA⟩ := h.2.2.2; exact ⟨a, b, c, arr_below hA h2⟩)
theorem copyS_store {w W : World} {ra rb : Nat} {x y z : ByteArray} {S : Prop} {u v t : Value} (hne : rb ≠ ra) (hle : w.heap.size ≤ ra) (h : S ∧ (Below w.heap.size w W ∧ Arr W rb 69 [.string x, .string y, .string z] ∧ Res W ra)) :
    CopyS w ra rb x y z (((W.setCell ⟨ra, 0, none⟩ u).setCell ⟨ra, 1, none⟩ v).setCell ⟨ra, 2, none⟩ t) :=
  copyS (below_three h.2.1 hle u v t) (arr_other (arr_other (arr_other h.2.2.1 _ _ _ hne) _ _ _ hne) _ _ _ hne) (by obtain ⟨a, b, c, hA⟩ := h.2.2.2; exact ⟨u, v, t, ((hA.put 0 u).put 1 v).put 2 t⟩)

set_option maxRecDepth 100000 in
set_option maxHeartbeats 2000000 in
theorem spec_l04jidP (s : ByteArray) (w : World) (hs : s.size ≤ 2000000) :
    Calls Try.prog 78 #[.string s] w fun e w' => (∃ x y z, e = .returned (.tuple #[.agg #[.string x, .string y, .string z], .bool (addrB s)]) ∧ (addrB s = true → x = strOf (readL s.data.toList).1 ∧ y = strOf (readL s.data.toList).2.1 ∧ z = strOf (readL s.data.toList).2.2)) ∧ Below w.heap.size w w' := by
  have i1 := fun w => spec_l03read s w hs
  go_enter Try.func78, Try.ntmps78
  go_wp2_with (go_at_call 95; go_fit (i1 _); rintro e w1 ⟨⟨x, y, z, b, rfl, hg, hx⟩, hb⟩)
  rw [← hg]
  have hlt : w.heap.size < w1.heap.size := by have := hb.size; simp at this; omega
  have hne : w1.heap.size ≠ w.heap.size := by omega
  have hS : CopyS w w.heap.size w1.heap.size x y z (w1.alloc (.cells #[.string x, .string y, .string z] 69)).drew :=
    copyS (Below.drew ((below_one hb).alloc (by omega) _)) (Arr.fresh w1 _ _) ⟨_, _, _, arr_alloc (arr_below (Arr.fresh w _ _) hb) _⟩
  obtain ⟨W1, hW1⟩ : ∃ W1, W1 = w1.alloc (.cells #[.string x, .string y, .string z] 69) := ⟨_, rfl⟩
  rw [← hW1] at hS ⊢
  have HS := Lib.hid hS
  clear hS hb i1 hW1
  cases b
  · have HA := Lib.hid (addr_bad hg.symm)
    clear hg hx
    refine wp_region_held_drew (S := (fun W => (W.cell? ⟨w1.heap.size, 0, none⟩ = some (.string x) ∧ W.cell? ⟨w1.heap.size, 1, none⟩ = some (.string y) ∧ W.cell? ⟨w1.heap.size, 2, none⟩ = some (.string z) ∧
   W.cell? ⟨w.heap.size, 0, none⟩ = some (cellAt W w.heap.size 0) ∧ W.cell? ⟨w.heap.size, 1, none⟩ = some (cellAt W w.heap.size 1) ∧ W.cell? ⟨w.heap.size, 2, none⟩ = some (cellAt W w.heap.size 2) ∧
   W.frozen? ⟨w.heap.size, 0, none⟩ = false ∧ W.frozen? ⟨w.heap.size, 1, none⟩ = false ∧ W.frozen? ⟨w.heap.size, 2, none⟩ = false) ∧
  (Below w.heap.size w W ∧ Arr W w1.heap.size 69 [.string x, .string y, .string z] ∧ Res W w.heap.size))) (by kernel_rfl) HS.out (fun hHeld => ?_)
    generalize W1.drew = V at hHeld ⊢
    refine takeH (i := 0) (k := 11) (v := .agg #[.string x, .string y, .string z]) rfl (by rfl) (by kernel_rfl) (by kernel_rfl) (by kernel_rfl) (fun _ _ _ h => h) (by rfl) ?_ hHeld ?_
    · intro w hSw; (try dsimp only at hSw); go_simp
    (try simp only [Act.put, List.setIfInBounds_toArray, List.set_cons_zero, List.set_cons_succ])
    refine takeH (i := 1) (k := 12) (v := .bool false) rfl (by rfl) (by kernel_rfl) (by kernel_rfl) (by kernel_rfl) (fun _ _ _ h => h) (by rfl) ?_ hHeld ?_
    · intro w hSw; (try dsimp only at hSw); go_simp
    (try simp only [Act.put, List.setIfInBounds_toArray, List.set_cons_zero, List.set_cons_succ])
    refine takeH (i := 2) (k := 13) (v := .bool false) rfl (by rfl) (by kernel_rfl) (by kernel_rfl) (by kernel_rfl) (fun _ _ _ h => h) (by rfl) ?_ hHeld ?_
    · intro w hSw; (try dsimp only at hSw); go_simp
    (try simp only [Act.put, List.setIfInBounds_toArray, List.set_cons_zero, List.set_cons_succ])
    refine skipH (i := 3) (k := 14) rfl (by rfl) (by kernel_rfl) (by kernel_rfl) (by kernel_rfl) (fun _ _ _ h => h) (by rfl) hHeld ?_
    (try simp only [Act.put, List.setIfInBounds_toArray, List.set_cons_zero, List.set_cons_succ])
    refine skipH (i := 4) (k := 15) rfl (by rfl) (by kernel_rfl) (by kernel_rfl) (by kernel_rfl) (fun _ _ _ h => h) (by rfl) hHeld ?_
    (try simp only [Act.put, List.setIfInBounds_toArray, List.set_cons_zero, List.set_cons_succ])
    refine skipH (i := 5) (k := 16) rfl (by rfl) (by kernel_rfl) (by kernel_rfl) (by kernel_rfl) (fun _ _ _ h => h) (by rfl) hHeld ?_
    (try simp only [Act.put, List.setIfInBounds_toArray, List.set_cons_zero, List.set_cons_succ])
    refine skipH (i := 6) (k := 17) rfl (by rfl) (by kernel_rfl) (by kernel_rfl) (by kernel_rfl) (fun _ _ _ h => h) (by rfl) hHeld ?_
    (try simp only [Act.put, List.setIfInBounds_toArray, List.set_cons_zero, List.set_cons_succ])
    refine takeH (i := 7) (k := 18) (v := .bool false) rfl (by rfl) (by kernel_rfl) (by kernel_rfl) (by kernel_rfl) (fun _ _ _ h => h) (by rfl) ?_ hHeld ?_
    · intro w hSw; (try dsimp only at hSw); go_simp
    (try simp only [Act.put, List.setIfInBounds_toArray, List.set_cons_zero, List.set_cons_succ])
    have hrN := hHeld.2.2.2
    obtain ⟨⟨p0, p1, p2, p3, p4, p5, p6, p7, p8⟩, -⟩ := id hHeld
    refine wpAnyH_ready (rs := [8]) (by kernel_rfl) (by simp) ?_
    refine AllReadyH.cons rfl (fun K hK => ?_) AllReadyH.nil
    rw [if_pos (by rfl)]
    go_simp
    refine hK.out _ _ (copyS_store hne (Nat.le_refl _) hHeld) (fun hHeld => ?_)
    clear hK K
    (try simp only [Act.put, List.setIfInBounds_toArray, List.set_cons_zero, List.set_cons_succ])
    refine takeH (i := 9) (k := 3) (v := .bool false) rfl (by rfl) (by kernel_rfl) (by kernel_rfl) (by kernel_rfl) (fun _ _ _ h => h) (by rfl) ?_ hHeld ?_
    · intro w hSw; (try dsimp only at hSw); go_simp
    (try simp only [Act.put, List.setIfInBounds_toArray, List.set_cons_zero, List.set_cons_succ])
    refine wpAnyH_done (by kernel_rfl) ?_ _
    obtain ⟨a, b, c, hA⟩ := hrN
    have hF : Arr _ w.heap.size 69 [.string x, .string y, .string z] := ((hA.put 0 (.string x)).put 1 (.string y)).put 2 (.string z)
    have hz := arr_lt hF
    obtain ⟨c0, c1, c2, _, _, _⟩ := arr_three hF
    have HB := Lib.hid hHeld.2.1
    clear hA hF hHeld
    go_wp2
    exact bodyPost_ret (v := .tuple #[.agg #[.string x, .string y, .string z], .bool false]) (by simp [results, Try.results78, go_sem, c0, c1, c2] at hz ⊢; try omega) rfl ⟨⟨x, y, z, by rw [HA.out], fun h => by rw [HA.out] at h; cases h⟩, HB.out⟩
  · obtain ⟨e1, e2, e3⟩ := hx rfl
    have HE := Lib.hid (And.intro e1 (And.intro e2 e3))
    have hj : jidB x y z = true := by
      have h := hg.symm
      unfold goodR at h
      simp only [Bool.and_eq_true] at h
      rw [e1, e2, e3]
      exact h.2
    obtain ⟨z1, z2, z3⟩ := right_le hj
    have i2 := fun w => spec_addr x y z w (by omega) (by omega) (by omega)
    obtain ⟨X, hX⟩ : ∃ X, X = jidT x y z := ⟨_, rfl⟩
    rw [← hX] at i2
    obtain ⟨v, hv⟩ : ∃ v, (X.toList == s.toList) = v := ⟨_, rfl⟩
    have HA : Hid (addrB s = v) := Lib.hid (by unfold addrB; rw [← hg, ← e1, ← e2, ← e3, ← hX, hv]; rfl)
    clear hg hx e1 e2 e3 hj z1 z2 z3 hX
    go_region_held3 (fun W => (W.cell? ⟨w1.heap.size, 0, none⟩ = some (.string x) ∧ W.cell? ⟨w1.heap.size, 1, none⟩ = some (.string y) ∧ W.cell? ⟨w1.heap.size, 2, none⟩ = some (.string z) ∧
   W.cell? ⟨w.heap.size, 0, none⟩ = some (cellAt W w.heap.size 0) ∧ W.cell? ⟨w.heap.size, 1, none⟩ = some (cellAt W w.heap.size 1) ∧ W.cell? ⟨w.heap.size, 2, none⟩ = some (cellAt W w.heap.size 2) ∧
   W.frozen? ⟨w.heap.size, 0, none⟩ = false ∧ W.frozen? ⟨w.heap.size, 1, none⟩ = false ∧ W.frozen? ⟨w.heap.size, 2, none⟩ = false) ∧
  (Below w.heap.size w W ∧ Arr W w1.heap.size 69 [.string x, .string y, .string z] ∧ Res W w.heap.size))
      (with_reducible first | assumption | exact HS.out | exact copyS_on (by assumption) hbN | exact copyS_store hne (Nat.le_refl _) (by assumption))
      (first
        | (go_at_call 96; go_fit (i2 _); rintro e w2 ⟨rfl, hbN⟩; have hrN := (copyS_on (by assumption) hbN).2.2.2))
    all_goals
      obtain ⟨a, b, c, hA⟩ := hrN
      have hF : Arr _ w.heap.size 69 [.string x, .string y, .string z] := ((hA.put 0 (.string x)).put 1 (.string y)).put 2 (.string z)
      have hz := arr_lt hF
      obtain ⟨c0, c1, c2, _, _, _⟩ := arr_three hF
      obtain ⟨_, hbF, _, _⟩ := copyS_on (by assumption) (Below.refl _ _)
      have HB := Lib.hid hbF
      clear hA hF hbF
      go_wp2
      exact bodyPost_ret (v := .tuple #[.agg #[.string x, .string y, .string z], .bool v]) (by simp [results, Try.results78, go_sem, c0, c1, c2] at hz ⊢; try omega) rfl ⟨⟨x, y, z, by rw [HA.out], fun _ => HE.out⟩, HB.out⟩
theorem spec_l04jid (s : ByteArray) (w : World) (hs : s.size ≤ 2000000) :
    Calls Try.prog 78 #[.string s] w fun e w' => (∃ x y z, e = .returned (.tuple #[.agg #[.string x, .string y, .string z], .bool (addrB s)])) ∧ Below w.heap.size w w' :=
  (spec_l04jidP s w hs).mono fun e w' ⟨⟨x, y, z, h, _⟩, hb⟩ => ⟨⟨x, y, z, h⟩, hb⟩
end Go.Proofs.Ytpjmcpfmnlfmdaa

namespace Go.Proofs.Ytpjmcpfmnlfmdaa
set_option linter.unusedSimpArgs false
set_option linter.unusedVariables false
open Go.RowKit

theorem nan_str (s : ByteArray) (w : World) : Calls Try.prog 86 #[.string s] w fun e w' => e = .returned (.bool false) ∧ w = w' := by
  go_enter Try.func86, Try.ntmps86
  go_wp2
  go_ret
  exact ⟨ret_bool (by simp), rfl⟩
/-- What comparing two texts answers. -/
def cmpI (a b : ByteArray) : Int := if Op.bytesLess a.toList b.toList then -1 else if a.toList == b.toList then 0 else 1
theorem cmp_str (a b : ByteArray) (w : World) : Calls Try.prog 59 #[.string a, .string b] w fun e w' => e = .returned (.int .i64 (cmpI a b)) ∧ w = w' := by
  obtain ⟨b1, h1⟩ : ∃ b1, Op.bytesLess a.toList b.toList = b1 := ⟨_, rfl⟩
  obtain ⟨b2, h2⟩ : ∃ b2, (a.toList == b.toList) = b2 := ⟨_, rfl⟩
  unfold cmpI
  rw [h1, h2]
  have H1 := h1
  have H2 := h2
  cases b1 <;> cases b2 <;>
    (go_enter Try.func59, Try.ntmps59
     go_wp2_with (go_at_call 86; go_fit (nan_str _ _); rintro e w' ⟨rfl, rfl⟩)
     go_ret
     exact ⟨rfl, rfl⟩)
theorem cmp_neg {a b : ByteArray} : (cmpI a b < 0) ↔ Op.bytesLess a.toList b.toList = true := by
  unfold cmpI
  cases Op.bytesLess a.toList b.toList <;> cases a.toList == b.toList <;> simp
end Go.Proofs.Ytpjmcpfmnlfmdaa

namespace Go.Proofs.Ytpjmcpfmnlfmdaa
set_option linter.unusedSimpArgs false
set_option linter.unusedVariables false
open Go.RowKit

theorem takeQ {P : Program} {ops : Array Oper} {Q : Exit → Act → World → Prop} {md : Region.Mode} {S : World → Prop} {i k : Nat} {oi : Oper} {v : Value} {fuel : Nat} {listed : Array Bool} {a : Act} {w : World} (hi : ops[i]? = some oi) (hd : oi.dst = some k)
    (hs : Region.noSelect ops = true) (hf : Region.free md ops listed i = true) (hr : (Region.ready md ops listed).contains i = true) (hQ : ∀ c a w, Q (.panic c) (a.put (some k) v) w → Q (.panic c) a w)
    (hw : Region.wanted oi (yielded ops a.tmps) = true) (hv : ∀ w, S w → (execOp a.eval oi).run P w = .ok (.value v) w) (hS : S w) (h : wpAnyH P md ops Q S fuel (listed.setIfInBounds i true) (a.put (some k) v) w) : wpAnyH P md ops Q S (fuel + 1) listed a w := by
  rw [← hd] at hQ h
  exact wpAnyH_take hi hs hf hr hQ (Or.inl ⟨hw, hv⟩) hS h
theorem skipQ {P : Program} {ops : Array Oper} {Q : Exit → Act → World → Prop} {md : Region.Mode} {S : World → Prop} {i k : Nat} {oi : Oper} {fuel : Nat} {listed : Array Bool} {a : Act} {w : World} (hi : ops[i]? = some oi) (hd : oi.dst = some k)
    (hs : Region.noSelect ops = true) (hf : Region.free md ops listed i = true) (hr : (Region.ready md ops listed).contains i = true) (hQ : ∀ c a w, Q (.panic c) (a.put (some k) undef) w → Q (.panic c) a w)
    (hw : Region.wanted oi (yielded ops a.tmps) = false) (hS : S w) (h : wpAnyH P md ops Q S fuel (listed.setIfInBounds i true) (a.put (some k) undef) w) : wpAnyH P md ops Q S (fuel + 1) listed a w := by
  rw [← hd] at hQ h
  exact wpAnyH_take hi hs hf hr hQ (Or.inr ⟨hw, rfl⟩) hS h
end Go.Proofs.Ytpjmcpfmnlfmdaa

namespace Go.Proofs.Ytpjmcpfmnlfmdaa
set_option linter.unusedSimpArgs false
set_option linter.unusedVariables false
open Go.RowKit

/-- Slots are written. -/
def putAll (a : Act) : List Nat → (Nat → Value) → Act
  | [], _ => a
  | s :: r, vs => putAll (a.put (some s) (vs s)) r vs
/-- A post that bears no panic. -/
def NormalOnly (R : Act → World → Prop) : Exit → Act → World → Prop
  | .normal, a, w => R a w
  | _, _, _ => False
/-- Whatever way a region goes: the slots that it writes hold some values, and R holds of them and of the world. -/
theorem region_join {P : Program} {c : Code} {Q : Exit → Act → World → Prop} {a : Act} {w : World} (slots : List Nat) (R : (Nat → Value) → World → Prop)
    (h1 : c.wp P (NormalOnly fun a' w' => R (fun k => a'.tmps.getD k undef) w' ∧ a' = putAll a slots (fun k => a'.tmps.getD k undef)) a w)
    (h2 : ∀ vs w', R vs w' → Q .normal (putAll a slots vs) w') : c.wp P Q a w := by
  refine Code.wp_mono (fun e a' w' h => ?_) h1
  cases e with
  | normal =>
    obtain ⟨hR, e⟩ := h
    rw [e]
    exact h2 _ _ hR
  | _ => exact (h : False).elim
end Go.Proofs.Ytpjmcpfmnlfmdaa
