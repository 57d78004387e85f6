/- Several parts in one text: BkIter, BkBlk, MbFrame, MbBits, MbMath, MbRight, MbCopyS, MbCopy, BkHear, StDraws, BkHrD, BkHrL. -/
import Derived.RangeFuncNested
import Derived.RangeFuncBound
import Derived.RangeFuncCalls
import Derived.RangeFuncLeaves
import Derived.Shelf.Abstract
import Derived.Shelf.RegionOpen
import Derived.OwnWalkIn
import Derived.TacticsInMore
import Derived.LoopNIn
import Derived.LoopIn
import Derived.Test.YtpjmcpfmnlfmdaaHFB
import Derived.Test.YtpjmcpfmnlfmdaaHFJ
import Derived.Test.YtpjmcpfmnlfmdaaHFI
import Derived.Test.YtpjmcpfmnlfmdaaHFK
import Derived.Test.YtpjmcpfmnlfmdaaHFS
import Derived.BigQuiet
namespace Go.Proofs.Ytpjmcpfmnlfmdaa
set_option linter.unusedSimpArgs false
set_option linter.unusedVariables false
open Go.RowKit Go.Joins
attribute [local go_sem] Oper.semAt_some

/-- The parts of an address that is read. -/
noncomputable def rdL (s : ByteArray) : ByteArray := if 20000 < s.size then ⟨#[]⟩ else if goodR s.data.toList = true then strOf (readL s.data.toList).1 else ⟨#[]⟩
noncomputable def rdD (s : ByteArray) : ByteArray := if 20000 < s.size then ⟨#[]⟩ else if goodR s.data.toList = true then strOf (readL s.data.toList).2.1 else ⟨#[]⟩
noncomputable def rdR (s : ByteArray) : ByteArray := if 20000 < s.size then ⟨#[]⟩ else if goodR s.data.toList = true then strOf (readL s.data.toList).2.2 else ⟨#[]⟩
noncomputable def rdC (s : ByteArray) : Int := if 20000 < s.size then 2 else if goodR s.data.toList = true then 0 else 3
theorem rd_eq (s : ByteArray) : jidReadV s = jo (rdL s) (rdD s) (rdR s) (rdC s) := by
  unfold jidReadV rdL rdD rdR rdC
  split
  · rfl
  · split <;> rfl
theorem str_size (l : List UInt8) : (strOf l).size = l.length := by unfold strOf; simp [ByteArray.size]
theorem rd_sizes (s : ByteArray) : (rdL s).size ≤ maxLen ∧ (rdD s).size ≤ maxLen ∧ (rdR s).size ≤ maxLen := by
  have hz : (⟨#[]⟩ : ByteArray).size ≤ maxLen := Nat.zero_le _
  unfold rdL rdD rdR
  by_cases h : 20000 < s.size
  · rw [if_pos h, if_pos h, if_pos h]; exact ⟨hz, hz, hz⟩
  · rw [if_neg h, if_neg h, if_neg h]
    by_cases h2 : goodR s.data.toList = true
    · rw [if_pos h2, if_pos h2, if_pos h2, str_size, str_size, str_size]
      have := read_le s.data.toList
      rw [size_data] at this
      unfold maxLen
      omega
    · rw [if_neg h2, if_neg h2, if_neg h2]; exact ⟨hz, hz, hz⟩
/-- A pattern. -/
abbrev PtL := { q : ByteArray × ByteArray × ByteArray // q.1.size ≤ maxLen ∧ q.2.1.size ≤ maxLen ∧ q.2.2.size ≤ maxLen }
noncomputable def ptOf (s : ByteArray) : PtL := ⟨(rdL s, rdD s, rdR s), rd_sizes s⟩
def ptV (x : PtL) : Value := .agg #[.string x.1.1, .string x.1.2.1, .string x.1.2.2]
/-- The row of a slice below a bound. -/
def RowB (B : Nat) (W : World) (p : Option Addr) (xs : List ByteArray) : Prop := xs ≠ [] → ∃ g, p = some ⟨g, 0, none⟩ ∧ g < B ∧ ∀ i (h : i < xs.length), W.cell? ⟨g, i, none⟩ = some (.string xs[i])
theorem RowB.below {B : Nat} {W W2 : World} {p : Option Addr} {xs : List ByteArray} (h : RowB B W p xs) (hb : Below B W W2) : RowB B W2 p xs := by
  intro hx
  obtain ⟨g, h1, h2, h3⟩ := h hx
  exact ⟨g, h1, h2, fun i hi => (hb.cell (p := ⟨g, i, none⟩) h2).trans (h3 i hi)⟩
theorem RowB.of {W : World} {p : Option Addr} {xs : List ByteArray} (h : RowC strC 1 W p xs) : RowB W.heap.size W p xs := by
  intro hx
  obtain ⟨g, h1, h2, h3⟩ := h hx
  refine ⟨g, h1, h2, fun i hi => ?_⟩
  have := h3 i hi 0 (by decide)
  rw [Nat.mul_one, Nat.add_zero] at this
  exact this
set_option maxRecDepth 100000 in
set_option maxHeartbeats 2000000 in
theorem jid_field7 (l d r : ByteArray) (c : Int) (W : World) : (Instr.field 71 (.agg #[.string l, .string d, .string r, .int .i64 c]) 0).run Try.prog W = .ok (.agg #[.string l, .string d, .string r]) W := by kernel_rfl
set_option maxRecDepth 100000 in
set_option maxHeartbeats 2000000 in
theorem pat_in (n l Bn n₀ : Nat) (p : Option Addr) (c : Nat) (xs : List ByteArray) (hn : 1 ≤ n) (hl : xs.length ≤ 1048576) (hw : ∀ x ∈ xs, x.size ≤ maxLen) (J Jx : List PtL → World → Prop)
    (hY : ∀ pre x W, J pre W → pre.length < xs.length → YieldAt Fence.wide (n - 1) Try.prog l #[ptV x] W fun e W' =>
      (e = .returned (.bool true) ∧ J (pre ++ [x]) W' ∧ Below n₀ W W') ∨ (e = .returned (.bool false) ∧ Jx (pre ++ [x]) W'))
    (W : World) (hn₀ : n₀ ≤ W.heap.size) (hJ : ∀ pre W1 W2, J pre W1 → W.heap.size ≤ W1.heap.size → Below W1.heap.size W1 W2 → J pre W2) (hBn : W.cell? ⟨Bn, 0, none⟩ = some (.slice p xs.length c)) (hR : RowB n₀ W p xs) (hm : ∀ W1, Below n₀ W W1 → MaxL W1) (h0 : J [] W) :
    CallsIn Fence.wide n Try.prog 97 #[.func (.yield l) #[] #[], .pointer (some ⟨Bn, 0, none⟩)] W fun e W' => (∃ v, e = .returned v) ∧
      ((∃ ys, ys = xs.map ptOf ∧ J ys W') ∨ (∃ pre, pre <+: xs.map ptOf ∧ Jx pre W')) := by
  obtain ⟨m, hxm⟩ : ∃ m, xs.length = m := ⟨_, rfl⟩
  have HN := Lib.hid hxm
  have HR := Lib.hid hR
  have HM := Lib.hid hm
  have HW := Lib.hid hw
  have HJ := Lib.hid hJ
  have HY := Lib.hid hY
  have HK := Lib.hid hn₀
  rw [hxm] at hl hBn
  clear hR hm hw hJ hY hxm hn₀
  refine callsIn_of_wp Try.func97 rfl trivial ?_ rfl
  simp only [Try.ntmps97, List.size_toArray, List.length_cons, List.length_nil, Nat.reduceAdd, Nat.reduceSub, Array.replicate_succ, Array.replicate_zero, List.push_toArray, List.append_toArray, List.nil_append, List.cons_append]
  gi_wp2
  gi_loopw [7] (fun iq wr => ∃ k : Nat, k ≤ m ∧ iq = .int .i64 k ∧ J ((xs.take k).map ptOf) wr ∧ Below n₀ W wr) (fun iq wr => m - (intOf iq).toNat)
  case atStart => exact ⟨0, Nat.zero_le _, rfl, h0, Below.refl _ _⟩
  case round =>
    obtain ⟨k, hk, rfl, hJk, hb⟩ := hrel
    have HB := Lib.hid hb
    have HJk := Lib.hid hJk
    clear hJk
    by_cases hlt : k < m
    · have hlt1 : k < xs.length := by rw [HN.out]; exact hlt
      obtain ⟨g, rfl, hg, hc⟩ := (HR.out.below hb) (List.ne_nil_of_length_pos (by omega))
      have a0 := hc k hlt1
      have hxw := HW.out _ (List.getElem_mem hlt1)
      obtain ⟨x, hx⟩ : ∃ x, xs[k] = x := ⟨_, rfl⟩
      have HT : Hid ((xs.take (k + 1)).map ptOf = (xs.take k).map ptOf ++ [ptOf x]) := Lib.hid (by rw [List.take_succ_eq_append_getElem hlt1, hx, List.map_append]; rfl)
      have HL : Hid (((xs.take k).map ptOf).length < xs.length) := Lib.hid (by rw [List.length_map, List.length_take]; omega)
      rw [hx] at a0 hxw
      have i1 := fun W hm => impl_read x W hxw hm
      rw [rd_eq] at i1
      unfold jo at i1
      have fld := fun W => jid_field7 (rdL x) (rdD x) (rdR x) (rdC x) W
      have HS : Hid (W.heap.size ≤ wr.heap.size) := Lib.hid hb.size
      clear hb hc hx hxw
      gi_wp2_with (refine ⟨trivial, ?_⟩; gi_at_call 56; refine (callsIn_wide.2 (i1 _ (HM.out _ HB.out))).mono ?_; rintro e w1 ⟨rfl, hb1⟩; have HB1 := Lib.hid (HB.out.trans (hb1.mono (Nat.le_trans HK.out HS.out))); have HJ1 := Lib.hid (HJ.out _ _ _ HJk.out HS.out hb1); clear hb1; obtain ⟨fn, tmps, assign, body, hy, hRd⟩ := HY.out _ (ptOf x) w1 HJ1.out HL.out; unfold ptV ptOf at hy; dsimp only at hy)
      refine hRd.mono ?_
      rintro e W3 (⟨rfl, hJ3, hk3⟩ | ⟨rfl, hx3⟩)
      · rw [← HT.out] at hJ3
        have HJ3 := Lib.hid hJ3
        have HB3 := Lib.hid (HB1.out.trans hk3)
        clear hJ3 hk3
        gi_wp2
        go_roundw
        case rel => exact ⟨k + 1, by omega, by go_num, HJ3.out, HB3.out⟩
        case measure => simp [intOf]; omega
      · gi_wp2
        refine bodyPost_ret (results_none rfl _ _ _) rfl ?_
        rw [← HT.out] at hx3
        refine ⟨⟨_, rfl⟩, .inr ⟨_, ?_, hx3⟩⟩
        rw [List.map_take]
        exact List.take_prefix _ _
    · obtain rfl : k = m := by omega
      have HT : Hid (xs.take k = xs) := Lib.hid (List.take_of_length_le (by rw [HN.out]; exact Nat.le_refl _))
      clear hb
      gi_wp2
      go_end0
      have hj := HJk.out
      rw [HT.out] at hj
      exact ⟨⟨_, rfl⟩, .inl ⟨_, rfl, hj⟩⟩
theorem pats_stops (n : Nat) (hn : 1 ≤ n) (Bn n₀ : Nat) (p : Option Addr) (c : Nat) (xs : List ByteArray) (w : World) (hl : xs.length ≤ 1048576) (hw : ∀ x ∈ xs, x.size ≤ maxLen) (hBn : Bn < w.heap.size) (hn₀ : n₀ ≤ w.heap.size)
    (hc : w.cell? ⟨Bn, 0, none⟩ = some (.slice p xs.length c)) (hR : RowB n₀ w p xs) (hm : ∀ W1, Below n₀ w W1 → MaxL W1) :
    SeqStopsK Fence.wide n Try.prog 97 #[.pointer (some ⟨Bn, 0, none⟩)] (fun x : PtL => #[ptV x]) (Below n₀) (fun ys => ys = xs.map ptOf) (fun pre => pre <+: xs.map ptOf) xs.length w := fun l J Jx W hW hJ _ hY h0 =>
  pat_in n l Bn n₀ p c xs hn hl hw J Jx hY W (Nat.le_trans hn₀ hW.size) (fun pre W1 W2 h hs hb => hJ pre W1 W2 none h ⟨hb.os, hb.tape, hb.output, hb.size, fun i hi _ => hb.block i hi⟩ (fun r e => by cases e))
    ((hW.cell (p := ⟨Bn, 0, none⟩) hBn).trans hc) (hR.below (hW.mono hn₀)) (fun W1 h => hm W1 ((hW.mono hn₀).trans h)) h0
theorem impl_pats (v : Value) (hv : ∃ p m c, v = .slice p m c) (w : World) : Calls Try.prog 79 #[v] w fun e w' => e = .returned (.func (.func 97) #[] #[.pointer (some ⟨w.heap.size, 0, none⟩)]) ∧ w' = w.alloc (.cells #[v] 23) := by
  obtain ⟨p, m, c, rfl⟩ := hv
  go_enter Try.func79, Try.ntmps79
  go_wp2
  go_ret
  exact ⟨rfl, rfl⟩
theorem impl_pmatch (l d r x y z : ByteArray) (w : World) (hl : l.size ≤ maxLen) (hd : d.size ≤ maxLen) (hr : r.size ≤ maxLen) (hx : x.size ≤ maxLen) (hy : y.size ≤ maxLen) (hz : z.size ≤ maxLen) (hm : MaxL w) :
    Calls Try.prog 55 #[.agg #[.string l, .string d, .string r], .agg #[.string x, .string y, .string z]] w fun e w' => e = .returned (.bool (matchJ l d r x y z)) ∧ Below w.heap.size w w' := by
  have i1 := fun W hm => impl_match l d r x y z W hl hd hr hx hy hz hm
  have HM := Lib.hid (fun W (h : Below w.heap.size w W) => hm.below h hm.pos)
  have HB : Hid (Below w.heap.size w ((w.alloc (.cells #[.string l, .string d, .string r] 68)).alloc (.cells #[.string x, .string y, .string z] 69))) := Lib.hid (((Below.refl _ _).alloc (Nat.le_refl _) _).alloc (by simp) _)
  clear hl hd hr hx hy hz hm
  go_enter Try.func55, Try.ntmps55
  go_wp2_with (go_at_call 80; go_fit (i1 _ (HM.out _ HB.out)); rintro e w1 ⟨rfl, hb⟩)
  go_ret
  exact ⟨rfl, HB.out.trans (hb.mono HB.out.size)⟩
theorem arr9_ltB {w : World} {b t : Nat} {cs : List Value} (h : Arr w b t cs) : b < w.heap.size := (Array.getElem?_eq_some_iff.1 h).1
theorem arr_own {β : Type} (b t : Nat) (f : β → List Value) : Own (fun s W => Arr W b t (f s)) := fun s X Y row hs hg hr =>
  (hg.block b (arr9_ltB hs) (fun e => by obtain ⟨o, ho, hc⟩ := hr b e.symm; unfold Arr at hs; rw [hs] at ho; cases ho; cases hc)).trans hs
/-- The boxes of anyPasses: the test, the address, the answer. -/
def ApB (w W : World) (x y z : ByteArray) (r : Bool) : Prop := (Arr W w.heap.size 65 [.func (.func 55) #[] #[]] ∧ Arr W (w.heap.size + 1) 69 [.string x, .string y, .string z] ∧ Arr W (w.heap.size + 1 + 1) 4 [.bool r]) ∧ Below w.heap.size w W
theorem ApB.on {w W W2 : World} {x y z : ByteArray} {r : Bool} (h : ApB w W x y z r) (hb : Below W.heap.size W W2) : ApB w W2 x y z r :=
  ⟨⟨(hb.block _ (arr9_ltB h.1.1)).trans h.1.1, (hb.block _ (arr9_ltB h.1.2.1)).trans h.1.2.1, (hb.block _ (arr9_ltB h.1.2.2)).trans h.1.2.2⟩, h.2.trans (hb.mono h.2.size)⟩
theorem apB_start (w : World) (x y z : ByteArray) : ApB w (((w.alloc (.cells #[.func (.func 55) #[] #[]] 65)).alloc (.cells #[.string x, .string y, .string z] 69)).alloc (.cells #[.bool false] 4)) x y z false := by
  have h1 := Arr.fresh (w.alloc (.cells #[.func (.func 55) #[] #[]] 65)) 69 [.string x, .string y, .string z]
  have h2 := Arr.fresh ((w.alloc (.cells #[.func (.func 55) #[] #[]] 65)).alloc (.cells #[.string x, .string y, .string z] 69)) 4 [.bool false]
  simp only [World.size_alloc] at h1 h2
  have al : ∀ (W : World) (o : Obj), Below W.heap.size W (W.alloc o) := fun W o => (Below.refl _ _).alloc (Nat.le_refl _) _
  have on : ∀ {W W1 : World} {b t : Nat} {cs : List Value}, Arr W b t cs → Below W.heap.size W W1 → Arr W1 b t cs := fun h hb => (hb.block _ (arr9_ltB h)).trans h
  exact ⟨⟨on (on (Arr.fresh w 65 [.func (.func 55) #[] #[]]) (al _ _)) (al _ _), on h1 (al _ _), h2⟩, (((Below.refl _ _).alloc (Nat.le_refl _) _).alloc (by simp) _).alloc (by simp; omega) _⟩
theorem apB_own (w : World) (x y z : ByteArray) (r : Bool) (B : Nat) (hB : w.heap.size ≤ B) {β : Type} : OwnFrom B (fun (_ : β) W => ApB w W x y z r) :=
  OwnFrom.and (Own.from (fun s A B row hs hg hr => ⟨arr_own _ _ (fun _ : β => [Value.func (.func 55) #[] #[]]) s A B row hs.1 hg hr, arr_own _ _ (fun _ : β => [Value.string x, .string y, .string z]) s A B row hs.2.1 hg hr, arr_own _ _ (fun _ : β => [Value.bool r]) s A B row hs.2.2 hg hr⟩) _) (ownFrom_below (Nat.le_refl _) hB)
noncomputable def hitP (x y z : ByteArray) (q : PtL) : Bool := matchJ q.1.1 q.1.2.1 q.1.2.2 x y z
theorem hit_any (xs : List ByteArray) (x y z : ByteArray) : (xs.any fun s => matchJ (rdL s) (rdD s) (rdR s) x y z) = (xs.map ptOf).any (hitP x y z) := by
  rw [List.any_map]
  rfl
theorem keeps_below {B : Nat} {W W2 : World} (h : Below W.heap.size W W2) : KeepsFrom B W W2 := ⟨h.size, fun k o _ hk _ => (h.block k (Array.getElem?_eq_some_iff.1 hk).1).trans hk⟩
theorem ApB.put {w W : World} {x y z : ByteArray} {r : Bool} (h : ApB w W x y z r) (s : Bool) : ApB w (W.setCell ⟨w.heap.size + 1 + 1, 0, none⟩ (.bool s)) x y z s :=
  ⟨⟨(heap_setCell_other W ⟨w.heap.size + 1 + 1, 0, none⟩ w.heap.size (.bool s) (by show w.heap.size ≠ w.heap.size + 1 + 1; omega)).trans h.1.1, (heap_setCell_other W ⟨w.heap.size + 1 + 1, 0, none⟩ (w.heap.size + 1) (.bool s) (by show w.heap.size + 1 ≠ w.heap.size + 1 + 1; omega)).trans h.1.2.1, h.1.2.2.put 0 _⟩, h.2.setCell (p := ⟨w.heap.size + 1 + 1, 0, none⟩) (by show w.heap.size ≤ w.heap.size + 1 + 1; omega) _⟩
theorem ApB.cells {w W : World} {x y z : ByteArray} {r : Bool} (h : ApB w W x y z r) : W.cell? ⟨w.heap.size, 0, none⟩ = some (.func (.func 55) #[] #[]) ∧ W.cell? ⟨w.heap.size + 1, 0, none⟩ = some (.string x) ∧ W.cell? ⟨w.heap.size + 1, 1, none⟩ = some (.string y) ∧ W.cell? ⟨w.heap.size + 1, 2, none⟩ = some (.string z) ∧ W.cell? ⟨w.heap.size + 1 + 1, 0, none⟩ = some (.bool r) ∧ W.frozen? ⟨w.heap.size + 1 + 1, 0, none⟩ = false :=
  ⟨h.1.1.cell 0, h.1.2.1.cell 0, h.1.2.1.cell 1, h.1.2.1.cell 2, h.1.2.2.cell 0, h.1.2.2.free 0⟩
set_option maxRecDepth 100000 in
set_option maxHeartbeats 4000000 in
theorem impl_anyp (xs : List ByteArray) (p : Option Addr) (c : Nat) (x y z : ByteArray) (w : World) (hl : xs.length ≤ 1048576) (hw : ∀ x ∈ xs, x.size ≤ maxLen) (hR : RowC strC 1 w p xs) (hm : MaxL w) (hx : x.size ≤ maxLen) (hy : y.size ≤ maxLen) (hz : z.size ≤ maxLen) :
    Calls Try.prog 54 #[.slice p xs.length c, .func (.func 55) #[] #[], .agg #[.string x, .string y, .string z]] w fun e w' => e = .returned (.bool (xs.any fun s => matchJ (rdL s) (rdD s) (rdR s) x y z)) ∧ Below w.heap.size w w' := by
  have HR := Lib.hid (RowB.of hR)
  have HW := Lib.hid hw
  have HL := Lib.hid hl
  have HM := Lib.hid (fun W (h : Below w.heap.size w W) => hm.below h hm.pos)
  have HS := Lib.hid (apB_start w x y z)
  obtain ⟨n, hxn⟩ : ∃ n, xs.length = n := ⟨_, rfl⟩
  have HN := Lib.hid hxn
  have i1 := fun W => impl_pats (.slice p n c) ⟨p, n, c, rfl⟩ W
  have i2 := fun (q : PtL) W hm => impl_pmatch q.1.1 q.1.2.1 q.1.2.2 x y z W q.2.1 q.2.2.1 q.2.2.2 hx hy hz hm
  rw [hxn] at hl ⊢
  clear hR hw hm hxn hx hy hz
  refine (callsIn_wide (n := 3)).1 ?_
  refine callsIn_of_wp_marks Try.func54 rfl trivial ?_ rfl
  simp only [Try.ntmps54, List.size_toArray, List.length_cons, List.length_nil, Nat.reduceAdd, Nat.reduceSub, Array.replicate_succ, Array.replicate_zero, List.push_toArray, List.append_toArray, List.nil_append, List.cons_append]
  gi_wp2_with (refine ⟨trivial, ?_⟩; gi_at_call 79; refine (callsIn_wide.2 (i1 _)).mono ?_; rintro e w' ⟨rfl, rfl⟩)
  obtain ⟨W0, hW0⟩ : ∃ W0, ((((w.alloc (.cells #[.func (.func 55) #[] #[]] 65)).alloc (.cells #[.string x, .string y, .string z] 69)).alloc (.cells #[.bool false] 4)).alloc (.cells #[.slice p n c] 23)) = W0 := ⟨_, rfl⟩
  have hs0 : W0.heap.size = w.heap.size + 1 + 1 + 1 + 1 := by rw [← hW0]; simp
  have hS0 : ApB w W0 x y z false := by rw [← hW0]; exact HS.out.on ((Below.refl _ _).alloc (Nat.le_refl _) _)
  have hB0 : W0.cell? ⟨w.heap.size + 1 + 1 + 1, 0, none⟩ = some (.slice p n c) := by
    have := (Arr.fresh (((w.alloc (.cells #[.func (.func 55) #[] #[]] 65)).alloc (.cells #[.string x, .string y, .string z] 69)).alloc (.cells #[.bool false] 4)) 23 [.slice p n c]).cell 0
    simp only [World.size_alloc] at this
    rw [← hW0]
    exact this
  rw [hW0]
  have HS0 := Lib.hid hS0
  clear hW0 HS hS0
  refine wpIn_rangeFunc_ownH rfl (by decide) (gf := 97) (lb := #[.pointer (some ⟨w.heap.size + 1 + 1 + 1, 0, none⟩)]) rfl trivial (enters_of Try.func97 (by kernel_rfl) rfl)
    (pats_stops (3 - 1) (by decide) (w.heap.size + 1 + 1 + 1) w.heap.size p c xs W0 HL.out HW.out (by omega) (by omega) (by rw [HN.out]; exact hB0) (HR.out.below HS0.out.2) (fun W1 h => HM.out _ (HS0.out.2.trans h))) belowK_t (belowK_b (by omega)) (Below.refl _ _) (fun _ => rfl)
    (fun pre W => (∀ q ∈ pre, hitP x y z q = false) ∧ ApB w W x y z false)
    (fun cd pre W => (cd = .ret ∧ ∃ q ∈ pre, hitP x y z q = true) ∧ ApB w W x y z true)
    (OwnFrom.and (fun s A B row hs _ _ => hs) (apB_own w x y z false _ (by omega)))
    (fun cd => OwnFrom.and (fun s A B row hs _ _ => hs) (apB_own w x y z true _ (by omega)))
    ⟨fun q hq => (by cases hq), HS0.out⟩
    (fun q a' W => ∃ Bx, Arr W Bx 68 [.string q.1.1, .string q.1.2.1, .string q.1.2.2] ∧ a' = { tmps := #[.slice p n c, .func (.func 55) #[] #[], .agg #[.string x, .string y, .string z], undef, .pointer (some ⟨w.heap.size, 0, none⟩), .pointer (some ⟨w.heap.size + 1, 0, none⟩), .pointer (some ⟨w.heap.size + 1 + 1, 0, none⟩), .pointer (some ⟨Bx, 0, none⟩), .slice p n c, .func (.func 97) #[] #[.pointer (some ⟨w.heap.size + 1 + 1 + 1, 0, none⟩)], .agg #[.string q.1.1, .string q.1.2.1, .string q.1.2.2], undef, undef, undef, undef], defers := [] })
    (fun q a' s A B row hs hg hr => by obtain ⟨Bx, h1, h2⟩ := hs; exact ⟨Bx, arr_own Bx _ (fun _ : Unit => [Value.string q.1.1, .string q.1.2.1, .string q.1.2.2]) () A B row h1 hg (fun r e => (hr r e).2), h2⟩)
    ?assign ?body ?done ?stop
  case assign =>
    rintro l pre q W K hI hK
    have hle : w.heap.size ≤ W.heap.size := hI.2.2.size
    have hf := Arr.fresh W 68 [.string q.1.1, .string q.1.2.1, .string q.1.2.2]
    have hon := hI.2.on ((Below.refl _ _).alloc (Nat.le_refl _) (.cells #[.string q.1.1, .string q.1.2.1, .string q.1.2.2] 68))
    unfold ptV
    gi_wp2
    exact hK _ _ ((KeepsOthers.alloc W _).from _) ((Below.refl _ _).alloc hle _) ⟨hI.1, hon⟩ ⟨W.heap.size, hf, rfl⟩
  case body =>
    rintro l pre q a' W hl2 hrec ⟨hp, hS⟩ ⟨Bx, hA, rfl⟩ hlen
    have HSb := Lib.hid hS
    have HP := Lib.hid hp
    obtain ⟨c0, c1, c2, c3, c4, c5⟩ := hS.cells
    have d0 := hA.cell 0
    have d1 := hA.cell 1
    have d2 := hA.cell 2
    simp only [List.getElem?_cons_zero, List.getElem?_cons_succ] at d0 d1 d2
    have i3 := i2 q
    obtain ⟨b, hb⟩ : ∃ b, hitP x y z q = b := ⟨_, rfl⟩
    have HBQ := Lib.hid hb
    unfold hitP at hb
    rw [hb] at i3
    have hd : 1 ≤ 3 - 1 - 1 := by decide
    have hmx : Try.prog.follows .mixedOrders = true := by kernel_rfl
    clear hp hS hA hb i2 hlen hrec hl2
    cases b
    · gi_wp2_with (refine ⟨trivial, ?_⟩; gi_at_call 55; refine (CallsIn.inRound l (callsIn_wide.2 (i3 _ (HM.out _ HSb.out.2)))).mono ?_; rintro e w1 ⟨rfl, hb1⟩; have HB1 := Lib.hid hb1; clear hb1)
      refine ⟨keeps_below HB1.out, HB1.out.mono HSb.out.2.size, fun q' hq' => ?_, HSb.out.on HB1.out⟩
      rcases List.mem_append.1 hq' with h | h
      · exact HP.out q' h
      · obtain rfl := List.mem_singleton.1 h
        exact HBQ.out
    · gi_wp2_with (refine ⟨trivial, ?_⟩; gi_at_call 55; refine (CallsIn.inRound l (callsIn_wide.2 (i3 _ (HM.out _ HSb.out.2)))).mono ?_; rintro e w1 ⟨rfl, hb1⟩; have HB1 := Lib.hid hb1; have HS1 := Lib.hid (HSb.out.on hb1); clear hb1; obtain ⟨c0, c1, c2, c3, c4, c5⟩ := HS1.out.cells)
      exact ⟨(keeps_below HB1.out).trans ((KeepsOthers.setCell _ _ _).from _), ⟨rfl, q, List.mem_append.2 (.inr (List.mem_singleton.2 rfl)), HBQ.out⟩, HS1.out.put true⟩
  case done =>
    rintro D ys W hD rfl ⟨hne, hS⟩ hK
    have HSd := Lib.hid hS
    obtain ⟨c0, c1, c2, c3, c4, c5⟩ := hS.cells
    have hany : (xs.any fun s => matchJ (rdL s) (rdD s) (rdR s) x y z) = false := by
      rw [hit_any, List.any_eq_false]
      intro q hq
      rw [hne q hq]
      decide
    have HANY := Lib.hid hany
    have HK := Lib.hid hK
    clear hany hS hne hK i2
    gi_wp2
    have hK' := (KeepsOthers.setCell W ⟨w.heap.size + 1 + 1, 0, none⟩ (.bool false)).same D _ HK.out rfl
    have hP := HSd.out.put false
    have hc5 := cell_kept (hP.1.2.2.cell 0) (grownBy_putObj' _ D (.deferred none)) (fun r e => by cases e; exact ⟨_, hK', rfl⟩)
    refine ⟨by simp, .inl ⟨_, _, rfl, run_takeDeferred hK', ?_⟩⟩
    refine ⟨.bool false, ?_, by rw [HANY.out], hP.2.trans (belowK_b (w := w) (Nat.le_refl _) _ D _ _ (by omega) hK' rfl rfl)⟩
    simp [results, Try.results54, go_sem, hc5]
  case stop =>
    rintro D cd pre W hD hpre ⟨⟨rfl, q, hq, hh⟩, hS⟩ hK
    have HSd := Lib.hid hS
    obtain ⟨c0, c1, c2, c3, c4, c5⟩ := hS.cells
    have hany : (xs.any fun s => matchJ (rdL s) (rdD s) (rdR s) x y z) = true := by
      rw [hit_any, List.any_eq_true]
      exact ⟨q, hpre.subset hq, hh⟩
    have HANY := Lib.hid hany
    have HK := Lib.hid hK
    clear hany hS hq hh hpre hK i2
    gi_wp2
    have hc5 := cell_kept (HSd.out.1.2.2.cell 0) (grownBy_putObj' _ D (.deferred none)) (fun r e => by cases e; exact ⟨_, HK.out, rfl⟩)
    refine ⟨by simp, .inl ⟨_, _, rfl, run_takeDeferred HK.out, ?_⟩⟩
    refine ⟨.bool true, ?_, by rw [HANY.out], HSd.out.2.trans (belowK_b (w := w) (Nat.le_refl _) _ D _ _ (by omega) HK.out rfl rfl)⟩
    simp [results, Try.results54, go_sem, hc5]
end Go.Proofs.Ytpjmcpfmnlfmdaa

namespace Go.Proofs.Ytpjmcpfmnlfmdaa
set_option linter.unusedSimpArgs false
set_option linter.unusedVariables false
open Go.RowKit Go.Joins

noncomputable def anyM (xs : List ByteArray) (j : ByteArray) : Bool := xs.any fun s => matchJ (rdL s) (rdD s) (rdR s) (rdL j) (rdD j) (rdR j)
noncomputable def blkB (xs : List ByteArray) (j : ByteArray) : Bool := bkB xs && (addrB j && anyM xs j)
theorem rd_good {s : ByteArray} (h : addrB s = true) : rdL s = strOf (readL s.data.toList).1 ∧ rdD s = strOf (readL s.data.toList).2.1 ∧ rdR s = strOf (readL s.data.toList).2.2 := by
  have h1 : ¬ 20000 < s.size := fun hb => by rw [addr_big hb] at h; cases h
  have h2 : goodR s.data.toList = true := by
    unfold addrB at h
    simp only [Bool.and_eq_true] at h
    exact h.1
  unfold rdL rdD rdR
  rw [if_neg h1, if_neg h1, if_neg h1, if_pos h2, if_pos h2, if_pos h2]
  exact ⟨rfl, rfl, rfl⟩
/-- What l04Jid answers of an address. -/
theorem spec_jidG (s : ByteArray) (w : World) (hs : s.size ≤ 2000000) (ha : addrB s = true) :
    Calls Try.prog 78 #[.string s] w fun e w' => e = .returned (.tuple #[.agg #[.string (rdL s), .string (rdD s), .string (rdR s)], .bool true]) ∧ Below w.heap.size w w' := by
  refine (spec_l04jidP s w hs).mono ?_
  rintro e w' ⟨⟨x, y, z, rfl, h⟩, hb⟩
  obtain ⟨h1, h2, h3⟩ := h ha
  obtain ⟨g1, g2, g3⟩ := rd_good ha
  rw [h1, h2, h3, g1, g2, g3, ha]
  exact ⟨rfl, hb⟩
/-- The box of an address, low. -/
def JbW (w W : World) (b : Nat) (x y z : ByteArray) : Prop := Arr W b 69 [.string x, .string y, .string z] ∧ Below w.heap.size w W
theorem JbW.on {w W W2 : World} {b : Nat} {x y z : ByteArray} (h : JbW w W b x y z) (hb : Below W.heap.size W W2) : JbW w W2 b x y z := ⟨(hb.block b (arr9_ltB h.1)).trans h.1, h.2.trans (hb.mono h.2.size)⟩
theorem jb_three {w W : World} {b : Nat} {x y z : ByteArray} (h : JbW w W b x y z) : (W.cell? ⟨b, 0, none⟩ = some (.string x) ∧ W.cell? ⟨b, 1, none⟩ = some (.string y) ∧ W.cell? ⟨b, 2, none⟩ = some (.string z)) ∧ b < W.heap.size := ⟨⟨h.1.cell 0, h.1.cell 1, h.1.cell 2⟩, arr9_ltB h.1⟩
set_option maxRecDepth 100000 in
set_option maxHeartbeats 2000000 in
theorem spec_blk0 (xs : List ByteArray) (j : ByteArray) (p : Option Addr) (c : Nat) (w : World) (hn : xs.length ≤ 1048576) (hj : j.size ≤ 2000000) (hw : ∀ x ∈ xs, x.size ≤ 2000000) (hA : AllT xs xs.length) (hR : RowC strC 1 w p xs) :
    Calls Try.prog 57 #[.slice p xs.length c, .string j] w fun e w' => e = .returned (.bool (addrB j && anyM xs j)) ∧ Below w.heap.size w w' := by
  have HP := Lib.hid (fun W (h : Below w.heap.size w W) => hR.on h)
  obtain ⟨n, hxn⟩ : ∃ n, xs.length = n := ⟨_, rfl⟩
  have HN := Lib.hid hxn
  have HW := Lib.hid hw
  have HA := Lib.hid hA
  cases ha : addrB j
  · have i1 := fun W => spec_l04jid j W hj
    rw [ha] at i1
    rw [hxn] at hn ⊢
    clear hR hw hA hxn ha
    go_enter Try.func57, Try.ntmps57
    go_wp2_with (go_at_call 78; go_fit (i1 _); rintro e w1 ⟨⟨x, y, z, rfl⟩, hb1⟩; have HB1 := Lib.hid (hb1.alloc hb1.size (.cells #[.string x, .string y, .string z] 69)); clear hb1)
    go_loopw [7] (fun iq wr => iq = .int .i64 0 ∧ Below w.heap.size w wr) (fun _ _ => 0)
    case atStart => exact ⟨rfl, HB1.out⟩
    case round =>
      obtain ⟨rfl, hb⟩ := hrel
      have HB := Lib.hid hb
      clear hb
      by_cases h0 : 0 < n
      · have q1 : (0 : Int) < (n : Int) := by omega
        go_wp2
        go_ret
        exact ⟨rfl, HB.out⟩
      · have q1 : ¬ (0 : Int) < (n : Int) := by omega
        go_wp2
        go_ret
        exact ⟨rfl, HB.out⟩
  · have i1 := fun W => spec_jidG j W hj ha
    obtain ⟨hj1, hj2, hj3⟩ := rd_sizes j
    obtain ⟨Z, hZ⟩ : ∃ Z, anyM xs j = Z := ⟨_, rfl⟩
    have HZ := Lib.hid hZ
    have HM : Hid (∀ s, matchJ (rdL s) (rdD s) (rdR s) (rdL j) (rdD j) (rdR j) = true → s ∈ xs → Z = true) := Lib.hid (fun s h hs => by rw [← hZ]; unfold anyM; rw [List.any_eq_true]; exact ⟨s, hs, h⟩)
    have HM2 : Hid ((∀ i (h : i < xs.length), matchJ (rdL xs[i]) (rdD xs[i]) (rdR xs[i]) (rdL j) (rdD j) (rdR j) = false) → Z = false) := Lib.hid (fun h => by
      rw [← hZ]; unfold anyM; rw [List.any_eq_false]
      intro s hs
      obtain ⟨i, hi, rfl⟩ := List.mem_iff_getElem.1 hs
      rw [h i hi]; decide)
    obtain ⟨f, hf⟩ : ∃ f : ByteArray → Bool, (fun s => matchJ (rdL s) (rdD s) (rdR s) (rdL j) (rdD j) (rdR j)) = f := ⟨_, rfl⟩
    have HF : Hid (∀ s, matchJ (rdL s) (rdD s) (rdR s) (rdL j) (rdD j) (rdR j) = f s) := Lib.hid (fun s => by rw [← hf])
    have i2 := fun (s : ByteArray) W => spec_match (rdL s) (rdD s) (rdR s) (rdL j) (rdD j) (rdR j) W (rd_sizes s).1 (rd_sizes s).2.1 (rd_sizes s).2.2 hj1 hj2 hj3
    obtain ⟨jl, hjl⟩ : ∃ a, rdL j = a := ⟨_, rfl⟩
    obtain ⟨jd, hjd⟩ : ∃ a, rdD j = a := ⟨_, rfl⟩
    obtain ⟨jr, hjr⟩ : ∃ a, rdR j = a := ⟨_, rfl⟩
    rw [hjl, hjd, hjr] at i1 i2 HM HM2 HF
    rw [hZ, hxn]
    rw [hxn] at hn
    clear hR hw hA hxn ha hZ hf hjl hjd hjr hj1 hj2 hj3
    go_enter Try.func57, Try.ntmps57
    go_wp2_with (go_at_call 78; go_fit (i1 _); rintro e w1 ⟨rfl, hb1⟩; have HJ1 : Hid (JbW w (w1.alloc (.cells #[.string jl, .string jd, .string jr] 69)) w1.heap.size jl jd jr) := Lib.hid ⟨Arr.fresh w1 _ [.string jl, .string jd, .string jr], hb1.alloc hb1.size _⟩; clear hb1)
    go_loopw [7] (fun iq wr => ∃ k : Nat, k ≤ n ∧ iq = .int .i64 k ∧ (∀ i (h : i < xs.length), i < k → f xs[i] = false) ∧ JbW w wr w1.heap.size jl jd jr) (fun i _ => n - (intOf i).toNat)
    case atStart => exact ⟨0, Nat.zero_le _, rfl, fun i _ h => absurd h (Nat.not_lt_zero _), HJ1.out⟩
    case round =>
      obtain ⟨k, hk, rfl, hno, hJ⟩ := hrel
      have HNO := Lib.hid hno
      have HJ := Lib.hid hJ
      clear hno
      by_cases hlt : k < n
      · have hlt1 : k < xs.length := by rw [HN.out]; exact hlt
        obtain ⟨g, rfl, hg, a0⟩ := row_tx (HP.out _ hJ.2) hlt1
        have hxw := HW.out _ (List.getElem_mem hlt1)
        have hxa := HA.out k hlt1 hlt1
        have hmem : xs[k] ∈ xs := List.getElem_mem hlt1
        obtain ⟨x, hx⟩ : ∃ x, xs[k] = x := ⟨_, rfl⟩
        have HX := Lib.hid hx
        rw [hx] at a0 hxw hxa hmem
        have HMEM := Lib.hid hmem
        have i3 := fun W => spec_jidG x W hxw hxa
        have i4 := i2 x
        obtain ⟨b, hb⟩ : ∃ b, f x = b := ⟨_, rfl⟩
        have HBX := Lib.hid hb
        have hfx := HF.out x
        rw [hfx, hb] at i4
        clear hJ hx hxw hxa hmem hb hfx
        cases b
        · go_wp2_with (first
            | (go_at_call 85; have _ := HJ3; go_fit (i4 _); rintro e w4 ⟨rfl, hb4⟩; have HJ4 := Lib.hid (HJ3.out.on hb4); clear hb4)
            | (go_at_call 78; go_fit (i3 _); rintro e w3 ⟨rfl, hb3⟩; have HJ3 := Lib.hid ((HJ.out.on hb3).on ((Below.refl _ _).alloc (Nat.le_refl _) (.cells #[.string (rdL x), .string (rdD x), .string (rdR x)] 69))); clear hb3; obtain ⟨⟨c0, c1, c2⟩, hbz⟩ := jb_three HJ3.out; have hbz2 := arr9_ltB (HJ.out).1))
          go_roundw
          case rel =>
            refine ⟨k + 1, by omega, by go_num, fun i hi h => ?_, HJ4.out⟩
            by_cases e : i = k
            · subst e; rw [HX.out]; exact HBX.out
            · exact HNO.out i hi (by omega)
          case measure => simp [intOf]; omega
        · have HL : Hid (Z = true) := Lib.hid (HM.out x (by rw [HF.out]; exact HBX.out) HMEM.out)
          go_wp2_with (first
            | (go_at_call 85; have _ := HJ3; go_fit (i4 _); rintro e w4 ⟨rfl, hb4⟩; have HJ4 := Lib.hid (HJ3.out.on hb4); clear hb4)
            | (go_at_call 78; go_fit (i3 _); rintro e w3 ⟨rfl, hb3⟩; have HJ3 := Lib.hid ((HJ.out.on hb3).on ((Below.refl _ _).alloc (Nat.le_refl _) (.cells #[.string (rdL x), .string (rdD x), .string (rdR x)] 69))); clear hb3; obtain ⟨⟨c0, c1, c2⟩, hbz⟩ := jb_three HJ3.out; have hbz2 := arr9_ltB (HJ.out).1))
          go_ret
          exact ⟨ret_bool (by rw [HL.out]; rfl), HJ4.out.2⟩
      · have HL : Hid (Z = false) := Lib.hid (HM2.out (fun i hi => by rw [HF.out]; exact HNO.out i hi (by rw [HN.out] at hi; omega)))
        clear hJ
        go_wp2
        go_ret
        exact ⟨ret_bool (by rw [HL.out]; rfl), HJ.out.2⟩
set_option maxHeartbeats 1000000 in
theorem impl_blocked (xs : List ByteArray) (j : ByteArray) (p : Option Addr) (c : Nat) (w : World) (hn : xs.length ≤ 1048576) (hj : j.size ≤ maxLen) (hw : ∀ x ∈ xs, x.size ≤ maxLen) (hR : RowC strC 1 w p xs) (hm : MaxL w) :
    Calls Try.prog 17 #[.slice p xs.length c, .string j] w fun e w' => e = .returned (.bool (blkB xs j)) ∧ Below w.heap.size w w' := by
  have HP := Lib.hid (fun W (h : Below w.heap.size w W) => hR.on h)
  have HM := Lib.hid (fun W (h : Below w.heap.size w W) => hm.below h hm.pos)
  have i1 := fun W h hm => impl_bkright xs p c W hn hw h hm
  have i2 := fun W hm => impl_address j W hj hm
  have i3 := fun W hm => impl_read j W hj hm
  rw [rd_eq] at i3
  unfold jo at i3
  have fld := fun W => jid_field7 (rdL j) (rdD j) (rdR j) (rdC j) W
  obtain ⟨s1, s2, s3⟩ := rd_sizes j
  have i4 := fun W h hm => impl_anyp xs p c (rdL j) (rdD j) (rdR j) W hn hw h hm s1 s2 s3
  unfold blkB
  cases hk : bkB xs
  · rw [hk] at i1
    clear hR hw hk hm i3 i4 i2 fld s1 s2 s3
    go_enter Try.func17, Try.ntmps17
    go_wp2_with (go_at_call 19; go_fit (i1 _ (HP.out _ (Below.refl _ _)) (HM.out _ (Below.refl _ _))); rintro e w1 ⟨rfl, hb⟩; have HB := Lib.hid hb; clear hb)
    go_ret
    exact ⟨rfl, HB.out⟩
  rw [hk] at i1
  cases ha : addrB j
  · rw [ha] at i2
    clear hR hw hk hm i3 i4 fld ha s1 s2 s3
    go_enter Try.func17, Try.ntmps17
    go_wp2_with (first
      | (go_at_call 45; have _ := HB; go_fit (i2 _ (HM.out _ HB.out)); rintro e w2 ⟨rfl, hb⟩; have HB2 := Lib.hid (HB.out.trans (hb.mono HB.out.size)); clear hb)
      | (go_at_call 19; go_fit (i1 _ (HP.out _ (Below.refl _ _)) (HM.out _ (Below.refl _ _))); rintro e w1 ⟨rfl, hb⟩; have HB := Lib.hid hb; clear hb))
    go_ret
    exact ⟨rfl, HB2.out⟩
  · rw [ha] at i2
    unfold anyM
    obtain ⟨Z, hZ⟩ : ∃ Z, (xs.any fun s => matchJ (rdL s) (rdD s) (rdR s) (rdL j) (rdD j) (rdR j)) = Z := ⟨_, rfl⟩
    rw [hZ] at i4 ⊢
    clear hR hw hk hm ha hZ s1 s2 s3
    go_enter Try.func17, Try.ntmps17
    go_wp2_with (first
      | (go_at_call 54; have _ := HB3; go_fit (i4 _ (HP.out _ HB3.out) (HM.out _ HB3.out)); rintro e w4 ⟨rfl, hb⟩; have HB4 := Lib.hid (HB3.out.trans (hb.mono HB3.out.size)); clear hb)
      | (go_at_call 56; have _ := HB2; go_fit (i3 _ (HM.out _ HB2.out)); rintro e w3 ⟨rfl, hb⟩; have HB3 := Lib.hid (HB2.out.trans (hb.mono HB2.out.size)); clear hb)
      | (go_at_call 45; have _ := HB; go_fit (i2 _ (HM.out _ HB.out)); rintro e w2 ⟨rfl, hb⟩; have HB2 := Lib.hid (HB.out.trans (hb.mono HB.out.size)); clear hb)
      | (go_at_call 19; go_fit (i1 _ (HP.out _ (Below.refl _ _)) (HM.out _ (Below.refl _ _))); rintro e w1 ⟨rfl, hb⟩; have HB := Lib.hid hb; clear hb))
    go_ret
    exact ⟨rfl, HB4.out⟩
end Go.Proofs.Ytpjmcpfmnlfmdaa

namespace Go.Proofs.Ytpjmcpfmnlfmdaa
set_option linter.unusedSimpArgs false
set_option linter.unusedVariables false
open Go.ChangeShapes Go.WideShapes Go.ChangeAt Go.RowKit Go.Joins

/-- A slice of stanzas among the arguments. -/
def MsArg (W : World) (a : Option Addr) (len : Nat) (ps : List MsL) : Prop := ps.length = len ∧ len ≤ maxLen ∧ (∀ p ∈ ps, p.wf) ∧ RowA msC 6 W a ps
theorem MsArg.below {W W2 : World} {a : Option Addr} {len : Nat} {ps : List MsL} (h : MsArg W a len ps) (hb : Below W.heap.size W W2) : MsArg W2 a len ps := ⟨h.1, h.2.1, h.2.2.1, h.2.2.2.below hb⟩
theorem cellsMsS : Try.prog.cellsOf 46 = 1 := by kernel_rfl
set_option maxRecDepth 100000 in
theorem ms_trod {H : Type} {enc : TypeId × Value → H} {W : World} {base : Nat} {sp : Nat → Bool} {held : Bool} {fuel : Nat} {c0 c1 c2 c3 c4 c5 : Value} {x : DataW H × List MemPlace}
    (hf : DataW.trod enc Try.prog W base sp held fuel 81 [c0, c1, c2, c3, c4, c5] = some x) : ∃ p : MsL, [c0, c1, c2, c3, c4, c5] = msC p ∧ p.wf := by
  obtain ⟨xs, m, _, hx, hl, hlen, hall⟩ := DataW.trod_struct Try.underlying81 hf
  match xs, hlen with
  | [y0, y1, y2, y3, y4, y5], _ =>
    have g0 := hall 0 _ rfl
    have g1 := hall 1 _ rfl
    have g2 := hall 2 _ rfl
    have g3 := hall 3 _ rfl
    have g4 := hall 4 _ rfl
    have g5 := hall 5 _ rfl
    simp [Value.cells, cellsStr9, cellsI649] at g0 g1 g2 g3 g4 g5
    obtain ⟨k, e0, _, w0⟩ := DataW.trod_string Try.underlying9 g0
    obtain ⟨t, e1, _, w1⟩ := DataW.trod_string Try.underlying9 g1
    obtain ⟨f, e2, _, w2⟩ := DataW.trod_string Try.underlying9 g2
    obtain ⟨o, e3, _, w3⟩ := DataW.trod_string Try.underlying9 g3
    obtain ⟨n, e4, _, w4⟩ := DataW.trod_int Try.underlying2 g4
    obtain ⟨b, e5, _, w5⟩ := DataW.trod_string Try.underlying9 g5
    simp at e0 e1 e2 e3 e4 e5
    subst e0 e1 e2 e3 e4 e5
    exact ⟨⟨k, t, f, o, n, b⟩, rfl, w0, w1, w2, w3, w4, w5⟩
theorem mapM_sixM {f : Nat → Option Value} {cs : List Value} (h : (List.range 6).mapM f = some cs) : ∃ c0 c1 c2 c3 c4 c5, cs = [c0, c1, c2, c3, c4, c5] ∧ f 0 = some c0 ∧ f 1 = some c1 ∧ f 2 = some c2 ∧ f 3 = some c3 ∧ f 4 = some c4 ∧ f 5 = some c5 := by
  rw [show List.range 6 = [0, 1, 2, 3, 4, 5] from rfl] at h
  simp only [List.mapM_cons, List.mapM_nil, Option.bind_eq_bind, Option.pure_def] at h
  cases h0 : f 0 with
  | none => rw [h0] at h; simp at h
  | some c0 =>
    cases h1 : f 1 with
    | none => rw [h0, h1] at h; simp at h
    | some c1 =>
      cases h2 : f 2 with
      | none => rw [h0, h1, h2] at h; simp at h
      | some c2 =>
        cases h3 : f 3 with
        | none => rw [h0, h1, h2, h3] at h; simp at h
        | some c3 =>
          cases h4 : f 4 with
          | none => rw [h0, h1, h2, h3, h4] at h; simp at h
          | some c4 =>
            cases h5 : f 5 with
            | none => rw [h0, h1, h2, h3, h4, h5] at h; simp at h
            | some c5 =>
              rw [h0, h1, h2, h3, h4, h5] at h
              simp at h
              exact ⟨c0, c1, c2, c3, c4, c5, h.symm, rfl, rfl, rfl, rfl, rfl, rfl⟩
theorem cells_sixM {W : World} {base : Nat} {a : Addr} {cs : List Value} (h : W.cells? base a 6 = some cs) : ∃ c0 c1 c2 c3 c4 c5, cs = [c0, c1, c2, c3, c4, c5] ∧ W.cell? (a.add 0) = some c0 ∧ W.cell? (a.add 1) = some c1 ∧ W.cell? (a.add 2) = some c2 ∧ W.cell? (a.add 3) = some c3 ∧ W.cell? (a.add 4) = some c4 ∧ W.cell? (a.add 5) = some c5 := by
  unfold World.cells? at h
  split at h
  · exact mapM_sixM h
  · cases h
set_option maxRecDepth 100000 in
theorem mss_trod {H : Type} {enc : TypeId × Value → H} {W : World} {base : Nat} {sp : Nat → Bool} {held : Bool} {fuel : Nat} {c : Value} {x : DataW H × List MemPlace}
    (hf : DataW.trod enc Try.prog W base sp held fuel 46 [c] = some x) : ∃ a len cap ps, c = .slice a len cap ∧ MsArg W a len ps := by
  rcases Deep.open_slice Try.underlying46 hf with ⟨hcs, _⟩ | ⟨a, len, cap, m, n, D, Pl, hcs, hb, hl, hm, hmm, hx, hall⟩
  · injection hcs with h1
    exact ⟨none, 0, 0, [], h1, rfl, Nat.zero_le _, fun p hp => (by cases hp), fun h => absurd rfl h⟩
  · injection hcs with h1
    have hlm : len ≤ m := by rw [hmm]; split <;> omega
    have each : ∀ i, i < len → ∃ p : MsL, p.wf ∧ ∀ j, j < 6 → W.cell? ((a.add (i * 6)).add j) = (msC p)[j]? := by
      intro i hi
      obtain ⟨cs', hc, ht⟩ := hall i (by omega)
      rw [cellsSt] at hc
      obtain ⟨c0, c1, c2, c3, c4, c5, rfl, e0, e1, e2, e3, e4, e5⟩ := cells_sixM hc
      obtain ⟨p, hp, hw⟩ := ms_trod ht
      refine ⟨p, hw, fun j hj => ?_⟩
      rw [← hp]
      match j, hj with
      | 0, _ => exact e0
      | 1, _ => exact e1
      | 2, _ => exact e2
      | 3, _ => exact e3
      | 4, _ => exact e4
      | 5, _ => exact e5
    obtain ⟨P, hP⟩ := Deep.choose_lt each
    refine ⟨some a, len, cap, (List.range len).map P, h1, by simp, by omega, fun p hp => ?_, fun hne => ?_⟩
    · obtain ⟨i, hi, rfl⟩ := List.mem_map.1 hp
      exact (hP i (List.mem_range.1 hi)).1
    · have h0 : 0 < len := by
        rcases Nat.eq_zero_or_pos len with h | h
        · subst h; exact absurd rfl hne
        · exact h
      have hc0 := (hP 0 h0).2 0 (by decide)
      simp only [Nat.zero_mul] at hc0
      have ha : W.cell? a = some (.string (P 0).k) := hc0
      have hap := addr_plainS ha
      refine ⟨a.block, a.off, by rw [← hap], ?_, fun i hi j hj => ?_⟩
      · exact block_lt_of_cell ha
      · have hi' : i < len := by simpa using hi
        have h2 := (hP i hi').2 j hj
        rw [Deep.add_add, hap] at h2
        simp only [List.getElem_map, List.getElem_range]
        rw [← h2]
        congr 1
        unfold Addr.add
        split
        · rename_i h3; rw [h3]; rfl
        · rfl
def mbV (a : Option Addr) (len cap : Nat) (b : Option Addr) (lenb capb : Nat) : Value := .agg #[.slice a len cap, .slice b lenb capb]
/-- A mailbox among the arguments. -/
def MbArg (W : World) (a : Option Addr) (len : Nat) (ps : List SeL) (b : Option Addr) (lenb : Nat) (qs : List MsL) : Prop := SsArg W a len ps ∧ MsArg W b lenb qs
theorem MbArg.below {W W2 : World} {a b : Option Addr} {len lenb : Nat} {ps : List SeL} {qs : List MsL} (h : MbArg W a len ps b lenb qs) (hb : Below W.heap.size W W2) : MbArg W2 a len ps b lenb qs := ⟨h.1.below hb, h.2.below hb⟩
end Go.Proofs.Ytpjmcpfmnlfmdaa

namespace Go.Proofs.Ytpjmcpfmnlfmdaa
set_option linter.unusedSimpArgs false
set_option linter.unusedVariables false
open Go.RowKit Go.Joins

def SzM (ys : List MsL) : Prop := ∀ y ∈ ys, y.le 1048576
theorem own_lenM {w : World} {B e size n : Nat} {v : Value} {ys : List MsL} (h : OwnC msC w B e size v ys) (hn : ys.length = n) : ∃ p k, v = .slice p n k := by
  subst hn
  rcases h.2 with ⟨h0, h1⟩ | ⟨g, cap, cur, h1, _⟩
  · exact ⟨none, 0, by rw [h0, h1]⟩
  · exact ⟨_, _, h1⟩
theorem row_ownM {W : World} {B : Nat} {p : Option Addr} {k n : Nat} {ys : List MsL} (h : OwnC msC W B 41 6 (.slice p n k) ys) : RowC msC 6 W p ys := by
  obtain ⟨p', k', e, hR⟩ := h.row msC_len
  injection e with e1 e2 e3
  rw [e1]
  exact hR
end Go.Proofs.Ytpjmcpfmnlfmdaa

namespace Go.Proofs.Ytpjmcpfmnlfmdaa
set_option linter.unusedSimpArgs false
set_option linter.unusedVariables false
open Go.RowKit Go.Joins

end Go.Proofs.Ytpjmcpfmnlfmdaa

namespace Go.Proofs.Ytpjmcpfmnlfmdaa
set_option linter.unusedSimpArgs false
set_option linter.unusedVariables false
open Go.RowKit Go.Joins

end Go.Proofs.Ytpjmcpfmnlfmdaa

namespace Go.Proofs.Ytpjmcpfmnlfmdaa
set_option linter.unusedSimpArgs false
set_option linter.unusedVariables false
open Go.RowKit Go.Joins

theorem empty_rowM (W : World) : OwnC msC (W.alloc (.cells #[] 41)) W.heap.size 41 6 (.slice (some ⟨W.heap.size, 0, none⟩) 0 0) [] :=
  World.ownsRow_lit W #[] 0 (Nat.le_refl _) (Nat.zero_le _) rfl
/-- append(v, y). -/
theorem wp_app_oneM {o : Oper} {a : Act} {w : World} {K : Act → World → Prop} {Q : Exit → Act → World → Prop} (s x : Operand)
    (ho : o.op = .call { callee := .builtin .append, args := #[s, x], argTypes := #[34, 34] })
    (B : Nat) (v : Value) (ys : List MsL) (hs : a.eval s = v) (hown : OwnC msC w B 41 6 v ys) (g : Nat) (z : MsL) (hx : a.eval x = .slice (some ⟨g, 0, none⟩) 1 1) (hA : Arr w g 41 (msC z))
    (hlen : ys.length ≤ 1000000) (hB : B ≤ w.heap.size) (h : ∀ v' w', OwnC msC w' B 41 6 v' (ys ++ [z]) → w.grownBy w' v.ownBlock → K (a.put o.dst v') w') : o.wp Try.prog a w K Q := by
  obtain ⟨i0, hi, hz0, hz1, hz2⟩ := info_parts info_ms
  refine wp_append_own w s x 34 ho B 41 i0 _ 6 88 Try.underlying34 hi hz0 hz1 hz2 rfl (by decide) v ys.length (ys.flatMap msC) hs hown ⟨g, 0, none⟩ 1 1 (msC z) hx (by rw [msC_len]) (fun j u hj => ?_) (msC_one z) (by unfold maxLen; omega) (by omega) hB (fun v' w' h1 h2 _ => h v' w' ?_ h2)
  · rw [show (⟨g, 0, none⟩ : Addr).add j = ⟨g, j, none⟩ by unfold Addr.add; split <;> simp_all, hA.cell]
    exact hj
  · show w'.ownsRow B _ 6 v' (ys ++ [z]).length ((ys ++ [z]).flatMap msC)
    rw [List.length_append, List.flatMap_append]
    simpa using h1
end Go.Proofs.Ytpjmcpfmnlfmdaa

namespace Go.Proofs.Ytpjmcpfmnlfmdaa
set_option linter.unusedSimpArgs false
set_option linter.unusedVariables false
open Go.RowKit

/-- What stands all along: the box of the argument. -/
def ScS (w : World) (k t f o : ByteArray) (n : Int) (b : ByteArray) (W : World) : Prop := (W.cell? ⟨w.heap.size, 0, none⟩ = some (.string k) ∧ W.cell? ⟨w.heap.size, 1, none⟩ = some (.string t) ∧ W.cell? ⟨w.heap.size, 2, none⟩ = some (.string f) ∧ W.cell? ⟨w.heap.size, 3, none⟩ = some (.string o) ∧ W.cell? ⟨w.heap.size, 4, none⟩ = some (.int .i64 n) ∧ W.cell? ⟨w.heap.size, 5, none⟩ = some (.string b)) ∧ (Below w.heap.size w W ∧ Arr W w.heap.size 41 [.string k, .string t, .string f, .string o, .int .i64 n, .string b] ∧ w.heap.size + 2 ≤ W.heap.size)
theorem scS {w : World} {k t f o : ByteArray} {n : Int} {b : ByteArray} {W : World} (hb : Below w.heap.size w W) (h1 : Arr W w.heap.size 41 [.string k, .string t, .string f, .string o, .int .i64 n, .string b]) (h3 : w.heap.size + 2 ≤ W.heap.size) : ScS w k t f o n b W := ⟨(arr_six0 h1).1, hb, h1, h3⟩
theorem scS_on {w : World} {k t f o : ByteArray} {n : Int} {b : ByteArray} {W W' : World} (h : ScS w k t f o n b W) (hb : Below W.heap.size W W') : ScS w k t f o n b W' := scS (h.2.1.trans (hb.mono h.2.1.size)) (arr_below h.2.2.1 hb) (Nat.le_trans h.2.2.2 hb.size)
theorem scS_put {w : World} {k t f o : ByteArray} {n : Int} {b : ByteArray} {W : World} (h : ScS w k t f o n b W) (x0 x1 x2 x3 x4 x5 : Value) : ScS w k t f o n b (put6 W (w.heap.size + 1) x0 x1 x2 x3 x4 x5) :=
  scS (below_put6 h.2.1 (Nat.le_succ _) _ _ _ _ _ _) (arr_far6 h.2.2.1 (by omega) _ _ _ _ _ _) (Nat.le_trans h.2.2.2 (below_put6 (Below.refl _ W) (Nat.zero_le (w.heap.size + 1)) x0 x1 x2 x3 x4 x5).size)
/-- What each operation has left. -/
structure ScA (w : World) (k t f o : ByteArray) (n : Int) (b : ByteArray) (b1 c1 b2 c2 b3 c3 b4 c4 b5 c5 bu : Bool) (v5 v6 v9 v10 v13 v14 v17 v18 v23 v24 v25 : Value) (W : World) : Prop where
  p1 : b1 = true → OneStr W v5 k
  q1 : c1 = true → v6 = .string k
  p2 : b2 = true → OneStr W v9 t
  q2 : c2 = true → v10 = .string t
  p3 : b3 = true → OneStr W v13 f
  q3 : c3 = true → v14 = .string f
  p4 : b4 = true → OneStr W v17 o
  q4 : c4 = true → v18 = .string o
  p5 : b5 = true → OneStr W v23 b
  q5 : c5 = true → v24 = .string b
  pu : bu = true → v25 = .agg #[.string k, .string t, .string f, .string o, .int .i64 n, .string b]
  pr : Arr W (w.heap.size + 1) 41 [.string ⟨#[]⟩, .string ⟨#[]⟩, .string ⟨#[]⟩, .string ⟨#[]⟩, .int .i64 0, .string ⟨#[]⟩]
theorem ScA.on {w : World} {k t f o : ByteArray} {n : Int} {b : ByteArray} {b1 c1 b2 c2 b3 c3 b4 c4 b5 c5 bu : Bool} {v5 v6 v9 v10 v13 v14 v17 v18 v23 v24 v25 : Value} {W W' : World} (h : ScA w k t f o n b b1 c1 b2 c2 b3 c3 b4 c4 b5 c5 bu v5 v6 v9 v10 v13 v14 v17 v18 v23 v24 v25 W) (hb : Below W.heap.size W W') : ScA w k t f o n b b1 c1 b2 c2 b3 c3 b4 c4 b5 c5 bu v5 v6 v9 v10 v13 v14 v17 v18 v23 v24 v25 W' :=
  { h with
    p1 := fun e => (h.p1 e).on hb
    p2 := fun e => (h.p2 e).on hb
    p3 := fun e => (h.p3 e).on hb
    p4 := fun e => (h.p4 e).on hb
    p5 := fun e => (h.p5 e).on hb
    pr := arr_below h.pr hb }
/-- The invariant of the region. -/
def ScInv (w : World) (k t f o : ByteArray) (n : Int) (b : ByteArray) (listed : Array Bool) (a : Act) (W : World) : Prop :=
  ∃ (b1 c1 b2 c2 b3 c3 b4 c4 b5 c5 bu st : Bool) (v5 v6 v9 v10 v13 v14 v17 v18 v23 v24 v25 : Value), listed = #[true, true, b1, c1, true, true, b2, c2, true, true, b3, c3, true, true, b4, c4, true, true, true, true, b5, c5, bu, st] ∧
    a = { tmps := #[.agg #[.string k, .string t, .string f, .string o, .int .i64 n, .string b], .pointer (some ⟨w.heap.size, 0, none⟩), .pointer (some ⟨w.heap.size + 1, 0, none⟩), .pointer (some ⟨w.heap.size, 0, none⟩), .string k, v5, v6, .pointer (some ⟨w.heap.size, 1, none⟩), .string t, v9, v10, .pointer (some ⟨w.heap.size, 2, none⟩), .string f, v13, v14, .pointer (some ⟨w.heap.size, 3, none⟩), .string o, v17, v18, .pointer (some ⟨w.heap.size, 4, none⟩), .int .i64 n, .pointer (some ⟨w.heap.size, 5, none⟩), .string b, v23, v24, v25], defers := [] } ∧ ScS w k t f o n b W ∧ (st = false → ScA w k t f o n b b1 c1 b2 c2 b3 c3 b4 c4 b5 c5 bu v5 v6 v9 v10 v13 v14 v17 v18 v23 v24 v25 W) ∧
    (st = true → b1 = true ∧ c1 = true ∧ b2 = true ∧ c2 = true ∧ b3 = true ∧ c3 = true ∧ b4 = true ∧ c4 = true ∧ b5 = true ∧ c5 = true ∧ bu = true) ∧ (st = true → Arr W (w.heap.size + 1) 41 [.string k, .string t, .string f, .string o, .int .i64 n, .string b])
set_option maxRecDepth 100000 in
set_option maxHeartbeats 4000000 in
theorem impl_stcopy (k t f o : ByteArray) (n : Int) (b : ByteArray) (w : World) (hk : k.size ≤ 2000000) (ht : t.size ≤ 2000000) (hf : f.size ≤ 2000000) (ho : o.size ≤ 2000000) (hbz : b.size ≤ 2000000) :
    Calls Try.prog 63 #[.agg #[.string k, .string t, .string f, .string o, .int .i64 n, .string b]] w fun e w' => e = .returned (.agg #[.string k, .string t, .string f, .string o, .int .i64 n, .string b]) ∧ Below w.heap.size w w' := by
  go_enter Try.func63, Try.ntmps63
  go_wp2
  have hR0 := Arr.fresh (w.alloc (.cells #[.string k, .string t, .string f, .string o, .int .i64 n, .string b] 41)) 41 [.string ⟨#[]⟩, .string ⟨#[]⟩, .string ⟨#[]⟩, .string ⟨#[]⟩, .int .i64 0, .string ⟨#[]⟩]
  rw [World.size_alloc] at hR0
  have hS0 : ScS w k t f o n b ((w.alloc (.cells #[.string k, .string t, .string f, .string o, .int .i64 n, .string b] 41)).alloc (.cells #[.string ⟨#[]⟩, .string ⟨#[]⟩, .string ⟨#[]⟩, .string ⟨#[]⟩, .int .i64 0, .string ⟨#[]⟩] 41)).drew :=
    scS (((Below.refl w.heap.size w).alloc (Nat.le_refl _) _).alloc (by simp) _).drew (arr_alloc (Arr.fresh w _ _) _) (by simp [size_drew])
  have hR1 := arr_below hR0 (Below.refl _ _).drew
  refine wp_region_held_drew (S := (fun W => ScS w k t f o n b W)) (by kernel_rfl) hS0 (fun hHeld => ?_)
  clear hS0 hR0
  generalize ((w.alloc (.cells #[.string k, .string t, .string f, .string o, .int .i64 n, .string b] 41)).alloc (.cells #[.string ⟨#[]⟩, .string ⟨#[]⟩, .string ⟨#[]⟩, .string ⟨#[]⟩, .int .i64 0, .string ⟨#[]⟩] 41)).drew = V at hHeld hR1 ⊢
  refine takeH (i := 0) (k := 3) (v := .pointer (some ⟨w.heap.size, 0, none⟩)) rfl (by rfl) (by kernel_rfl) (by kernel_rfl) (by kernel_rfl) (fun _ _ _ h => h) (by rfl) ?_ hHeld ?_
  · intro w1 hSw; obtain ⟨⟨p0, p1, p2, p3, p4, p5⟩, _⟩ := hSw; go_simp
  (try simp only [Act.put, List.setIfInBounds_toArray, List.set_cons_zero, List.set_cons_succ])
  refine takeH (i := 1) (k := 4) (v := .string k) rfl (by rfl) (by kernel_rfl) (by kernel_rfl) (by kernel_rfl) (fun _ _ _ h => h) (by rfl) ?_ hHeld ?_
  · intro w1 hSw; obtain ⟨⟨p0, p1, p2, p3, p4, p5⟩, _⟩ := hSw; go_simp
  (try simp only [Act.put, List.setIfInBounds_toArray, List.set_cons_zero, List.set_cons_succ])
  refine takeH (i := 4) (k := 7) (v := .pointer (some ⟨w.heap.size, 1, none⟩)) rfl (by rfl) (by kernel_rfl) (by kernel_rfl) (by kernel_rfl) (fun _ _ _ h => h) (by rfl) ?_ hHeld ?_
  · intro w1 hSw; obtain ⟨⟨p0, p1, p2, p3, p4, p5⟩, _⟩ := hSw; go_simp
  (try simp only [Act.put, List.setIfInBounds_toArray, List.set_cons_zero, List.set_cons_succ])
  refine takeH (i := 5) (k := 8) (v := .string t) rfl (by rfl) (by kernel_rfl) (by kernel_rfl) (by kernel_rfl) (fun _ _ _ h => h) (by rfl) ?_ hHeld ?_
  · intro w1 hSw; obtain ⟨⟨p0, p1, p2, p3, p4, p5⟩, _⟩ := hSw; go_simp
  (try simp only [Act.put, List.setIfInBounds_toArray, List.set_cons_zero, List.set_cons_succ])
  refine takeH (i := 8) (k := 11) (v := .pointer (some ⟨w.heap.size, 2, none⟩)) rfl (by rfl) (by kernel_rfl) (by kernel_rfl) (by kernel_rfl) (fun _ _ _ h => h) (by rfl) ?_ hHeld ?_
  · intro w1 hSw; obtain ⟨⟨p0, p1, p2, p3, p4, p5⟩, _⟩ := hSw; go_simp
  (try simp only [Act.put, List.setIfInBounds_toArray, List.set_cons_zero, List.set_cons_succ])
  refine takeH (i := 9) (k := 12) (v := .string f) rfl (by rfl) (by kernel_rfl) (by kernel_rfl) (by kernel_rfl) (fun _ _ _ h => h) (by rfl) ?_ hHeld ?_
  · intro w1 hSw; obtain ⟨⟨p0, p1, p2, p3, p4, p5⟩, _⟩ := hSw; go_simp
  (try simp only [Act.put, List.setIfInBounds_toArray, List.set_cons_zero, List.set_cons_succ])
  refine takeH (i := 12) (k := 15) (v := .pointer (some ⟨w.heap.size, 3, none⟩)) rfl (by rfl) (by kernel_rfl) (by kernel_rfl) (by kernel_rfl) (fun _ _ _ h => h) (by rfl) ?_ hHeld ?_
  · intro w1 hSw; obtain ⟨⟨p0, p1, p2, p3, p4, p5⟩, _⟩ := hSw; go_simp
  (try simp only [Act.put, List.setIfInBounds_toArray, List.set_cons_zero, List.set_cons_succ])
  refine takeH (i := 13) (k := 16) (v := .string o) rfl (by rfl) (by kernel_rfl) (by kernel_rfl) (by kernel_rfl) (fun _ _ _ h => h) (by rfl) ?_ hHeld ?_
  · intro w1 hSw; obtain ⟨⟨p0, p1, p2, p3, p4, p5⟩, _⟩ := hSw; go_simp
  (try simp only [Act.put, List.setIfInBounds_toArray, List.set_cons_zero, List.set_cons_succ])
  refine takeH (i := 16) (k := 19) (v := .pointer (some ⟨w.heap.size, 4, none⟩)) rfl (by rfl) (by kernel_rfl) (by kernel_rfl) (by kernel_rfl) (fun _ _ _ h => h) (by rfl) ?_ hHeld ?_
  · intro w1 hSw; obtain ⟨⟨p0, p1, p2, p3, p4, p5⟩, _⟩ := hSw; go_simp
  (try simp only [Act.put, List.setIfInBounds_toArray, List.set_cons_zero, List.set_cons_succ])
  refine takeH (i := 17) (k := 20) (v := .int .i64 n) rfl (by rfl) (by kernel_rfl) (by kernel_rfl) (by kernel_rfl) (fun _ _ _ h => h) (by rfl) ?_ hHeld ?_
  · intro w1 hSw; obtain ⟨⟨p0, p1, p2, p3, p4, p5⟩, _⟩ := hSw; go_simp
  (try simp only [Act.put, List.setIfInBounds_toArray, List.set_cons_zero, List.set_cons_succ])
  refine takeH (i := 18) (k := 21) (v := .pointer (some ⟨w.heap.size, 5, none⟩)) rfl (by rfl) (by kernel_rfl) (by kernel_rfl) (by kernel_rfl) (fun _ _ _ h => h) (by rfl) ?_ hHeld ?_
  · intro w1 hSw; obtain ⟨⟨p0, p1, p2, p3, p4, p5⟩, _⟩ := hSw; go_simp
  (try simp only [Act.put, List.setIfInBounds_toArray, List.set_cons_zero, List.set_cons_succ])
  refine takeH (i := 19) (k := 22) (v := .string b) rfl (by rfl) (by kernel_rfl) (by kernel_rfl) (by kernel_rfl) (fun _ _ _ h => h) (by rfl) ?_ hHeld ?_
  · intro w1 hSw; obtain ⟨⟨p0, p1, p2, p3, p4, p5⟩, _⟩ := hSw; go_simp
  (try simp only [Act.put, List.setIfInBounds_toArray, List.set_cons_zero, List.set_cons_succ])
  refine any_order (ScInv w k t f o n b) ?step ?done _ _ _ _ (of_decide_eq_true (by kernel_rfl)) ?start
  case start => exact ⟨false, false, false, false, false, false, false, false, false, false, false, false, _, _, _, _, _, _, _, _, _, _, _, rfl, rfl, hHeld, fun _ => by constructor <;> first | exact hR1 | (intro h; cases h), fun h => (by cases h), fun h => by cases h⟩
  case step =>
    rintro listed a W i ⟨b1, c1, b2, c2, b3, c3, b4, c4, b5, c5, bu, st, v5, v6, v9, v10, v13, v14, v17, v18, v23, v24, v25, rfl, rfl, hS, hA, hT, hE⟩ hi
    obtain ⟨hlt, hun, hdep⟩ := ready_spec hi
    clear hi
    have hlt' : i < 24 := hlt
    clear hlt
    have h23 : i = 0 ∨ i = 1 ∨ i = 2 ∨ i = 3 ∨ i = 4 ∨ i = 5 ∨ i = 6 ∨ i = 7 ∨ i = 8 ∨ i = 9 ∨ i = 10 ∨ i = 11 ∨ i = 12 ∨ i = 13 ∨ i = 14 ∨ i = 15 ∨ i = 16 ∨ i = 17 ∨ i = 18 ∨ i = 19 ∨ i = 20 ∨ i = 21 ∨ i = 22 ∨ i = 23 := by omega
    rcases h23 with rfl | rfl | rfl | rfl | rfl | rfl | rfl | rfl | rfl | rfl | rfl | rfl | rfl | rfl | rfl | rfl | rfl | rfl | rfl | rfl | rfl | rfl | rfl | rfl
    · cases (show true = false from hun)
    · cases (show true = false from hun)
    · have hun2 : b1 = false := hun
      subst hun2
      obtain rfl : st = false := by
        cases st
        · rfl
        · have := hT rfl; simp at this
      have hA := hA rfl
      clear hdep hun hE hT
      refine wpOp_step rfl (fun K hK => ?_)
      rw [if_pos (by rfl)]
      go_simp
      have hb : Below W.heap.size W (W.alloc (.cells #[.string k] 9)) := (Below.refl _ W).alloc (Nat.le_refl _) _
      exact hK _ _ ⟨scS_on hS hb, true, c1, b2, c2, b3, c3, b4, c4, b5, c5, bu, false, _, v6, v9, v10, v13, v14, v17, v18, v23, v24, v25, rfl, rfl, scS_on hS hb, fun _ => { hA.on hb with p1 := fun _ => oneStr_new W k _ }, fun e => (by cases e), fun e => by cases e⟩
    · have hun2 : c1 = false := hun
      subst hun2
      obtain rfl : st = false := by
        cases st
        · rfl
        · have := hT rfl; simp at this
      have hA := hA rfl
      obtain rfl : b1 = true := by cases b1 with | false => exact absurd hdep (by simp [Region.binds]) | true => rfl
      have hj := (hA.p1 rfl).joined (by omega)
      clear hdep hun hE hT
      refine wpOp_step rfl (fun K hK => ?_)
      rw [if_pos (by rfl)]
      go_simp
      go_fit hj
      rintro e w1 ⟨rfl, hb⟩
      clear hj
      exact hK _ _ ⟨scS_on hS hb, true, true, b2, c2, b3, c3, b4, c4, b5, c5, bu, false, v5, _, v9, v10, v13, v14, v17, v18, v23, v24, v25, rfl, rfl, scS_on hS hb, fun _ => { hA.on hb with q1 := fun _ => rfl }, fun e => (by cases e), fun e => by cases e⟩
    · cases (show true = false from hun)
    · cases (show true = false from hun)
    · have hun2 : b2 = false := hun
      subst hun2
      obtain rfl : st = false := by
        cases st
        · rfl
        · have := hT rfl; simp at this
      have hA := hA rfl
      clear hdep hun hE hT
      refine wpOp_step rfl (fun K hK => ?_)
      rw [if_pos (by rfl)]
      go_simp
      have hb : Below W.heap.size W (W.alloc (.cells #[.string t] 9)) := (Below.refl _ W).alloc (Nat.le_refl _) _
      exact hK _ _ ⟨scS_on hS hb, b1, c1, true, c2, b3, c3, b4, c4, b5, c5, bu, false, v5, v6, _, v10, v13, v14, v17, v18, v23, v24, v25, rfl, rfl, scS_on hS hb, fun _ => { hA.on hb with p2 := fun _ => oneStr_new W t _ }, fun e => (by cases e), fun e => by cases e⟩
    · have hun2 : c2 = false := hun
      subst hun2
      obtain rfl : st = false := by
        cases st
        · rfl
        · have := hT rfl; simp at this
      have hA := hA rfl
      obtain rfl : b2 = true := by cases b2 with | false => exact absurd hdep (by simp [Region.binds]) | true => rfl
      have hj := (hA.p2 rfl).joined (by omega)
      clear hdep hun hE hT
      refine wpOp_step rfl (fun K hK => ?_)
      rw [if_pos (by rfl)]
      go_simp
      go_fit hj
      rintro e w1 ⟨rfl, hb⟩
      clear hj
      exact hK _ _ ⟨scS_on hS hb, b1, c1, true, true, b3, c3, b4, c4, b5, c5, bu, false, v5, v6, v9, _, v13, v14, v17, v18, v23, v24, v25, rfl, rfl, scS_on hS hb, fun _ => { hA.on hb with q2 := fun _ => rfl }, fun e => (by cases e), fun e => by cases e⟩
    · cases (show true = false from hun)
    · cases (show true = false from hun)
    · have hun2 : b3 = false := hun
      subst hun2
      obtain rfl : st = false := by
        cases st
        · rfl
        · have := hT rfl; simp at this
      have hA := hA rfl
      clear hdep hun hE hT
      refine wpOp_step rfl (fun K hK => ?_)
      rw [if_pos (by rfl)]
      go_simp
      have hb : Below W.heap.size W (W.alloc (.cells #[.string f] 9)) := (Below.refl _ W).alloc (Nat.le_refl _) _
      exact hK _ _ ⟨scS_on hS hb, b1, c1, b2, c2, true, c3, b4, c4, b5, c5, bu, false, v5, v6, v9, v10, _, v14, v17, v18, v23, v24, v25, rfl, rfl, scS_on hS hb, fun _ => { hA.on hb with p3 := fun _ => oneStr_new W f _ }, fun e => (by cases e), fun e => by cases e⟩
    · have hun2 : c3 = false := hun
      subst hun2
      obtain rfl : st = false := by
        cases st
        · rfl
        · have := hT rfl; simp at this
      have hA := hA rfl
      obtain rfl : b3 = true := by cases b3 with | false => exact absurd hdep (by simp [Region.binds]) | true => rfl
      have hj := (hA.p3 rfl).joined (by omega)
      clear hdep hun hE hT
      refine wpOp_step rfl (fun K hK => ?_)
      rw [if_pos (by rfl)]
      go_simp
      go_fit hj
      rintro e w1 ⟨rfl, hb⟩
      clear hj
      exact hK _ _ ⟨scS_on hS hb, b1, c1, b2, c2, true, true, b4, c4, b5, c5, bu, false, v5, v6, v9, v10, v13, _, v17, v18, v23, v24, v25, rfl, rfl, scS_on hS hb, fun _ => { hA.on hb with q3 := fun _ => rfl }, fun e => (by cases e), fun e => by cases e⟩
    · cases (show true = false from hun)
    · cases (show true = false from hun)
    · have hun2 : b4 = false := hun
      subst hun2
      obtain rfl : st = false := by
        cases st
        · rfl
        · have := hT rfl; simp at this
      have hA := hA rfl
      clear hdep hun hE hT
      refine wpOp_step rfl (fun K hK => ?_)
      rw [if_pos (by rfl)]
      go_simp
      have hb : Below W.heap.size W (W.alloc (.cells #[.string o] 9)) := (Below.refl _ W).alloc (Nat.le_refl _) _
      exact hK _ _ ⟨scS_on hS hb, b1, c1, b2, c2, b3, c3, true, c4, b5, c5, bu, false, v5, v6, v9, v10, v13, v14, _, v18, v23, v24, v25, rfl, rfl, scS_on hS hb, fun _ => { hA.on hb with p4 := fun _ => oneStr_new W o _ }, fun e => (by cases e), fun e => by cases e⟩
    · have hun2 : c4 = false := hun
      subst hun2
      obtain rfl : st = false := by
        cases st
        · rfl
        · have := hT rfl; simp at this
      have hA := hA rfl
      obtain rfl : b4 = true := by cases b4 with | false => exact absurd hdep (by simp [Region.binds]) | true => rfl
      have hj := (hA.p4 rfl).joined (by omega)
      clear hdep hun hE hT
      refine wpOp_step rfl (fun K hK => ?_)
      rw [if_pos (by rfl)]
      go_simp
      go_fit hj
      rintro e w1 ⟨rfl, hb⟩
      clear hj
      exact hK _ _ ⟨scS_on hS hb, b1, c1, b2, c2, b3, c3, true, true, b5, c5, bu, false, v5, v6, v9, v10, v13, v14, v17, _, v23, v24, v25, rfl, rfl, scS_on hS hb, fun _ => { hA.on hb with q4 := fun _ => rfl }, fun e => (by cases e), fun e => by cases e⟩
    · cases (show true = false from hun)
    · cases (show true = false from hun)
    · cases (show true = false from hun)
    · cases (show true = false from hun)
    · have hun2 : b5 = false := hun
      subst hun2
      obtain rfl : st = false := by
        cases st
        · rfl
        · have := hT rfl; simp at this
      have hA := hA rfl
      clear hdep hun hE hT
      refine wpOp_step rfl (fun K hK => ?_)
      rw [if_pos (by rfl)]
      go_simp
      have hb : Below W.heap.size W (W.alloc (.cells #[.string b] 9)) := (Below.refl _ W).alloc (Nat.le_refl _) _
      exact hK _ _ ⟨scS_on hS hb, b1, c1, b2, c2, b3, c3, b4, c4, true, c5, bu, false, v5, v6, v9, v10, v13, v14, v17, v18, _, v24, v25, rfl, rfl, scS_on hS hb, fun _ => { hA.on hb with p5 := fun _ => oneStr_new W b _ }, fun e => (by cases e), fun e => by cases e⟩
    · have hun2 : c5 = false := hun
      subst hun2
      obtain rfl : st = false := by
        cases st
        · rfl
        · have := hT rfl; simp at this
      have hA := hA rfl
      obtain rfl : b5 = true := by cases b5 with | false => exact absurd hdep (by simp [Region.binds]) | true => rfl
      have hj := (hA.p5 rfl).joined (by omega)
      clear hdep hun hE hT
      refine wpOp_step rfl (fun K hK => ?_)
      rw [if_pos (by rfl)]
      go_simp
      go_fit hj
      rintro e w1 ⟨rfl, hb⟩
      clear hj
      exact hK _ _ ⟨scS_on hS hb, b1, c1, b2, c2, b3, c3, b4, c4, true, true, bu, false, v5, v6, v9, v10, v13, v14, v17, v18, v23, _, v25, rfl, rfl, scS_on hS hb, fun _ => { hA.on hb with q5 := fun _ => rfl }, fun e => (by cases e), fun e => by cases e⟩
    · have hun2 : bu = false := hun
      subst hun2
      obtain rfl : st = false := by
        cases st
        · rfl
        · have := hT rfl; simp at this
      have hA := hA rfl
      obtain rfl : c1 = true := by cases c1 with | false => exact absurd hdep (by simp [Region.binds]) | true => rfl
      obtain rfl : c2 = true := by cases c2 with | false => exact absurd hdep (by simp [Region.binds]) | true => rfl
      obtain rfl : c3 = true := by cases c3 with | false => exact absurd hdep (by simp [Region.binds]) | true => rfl
      obtain rfl : c4 = true := by cases c4 with | false => exact absurd hdep (by simp [Region.binds]) | true => rfl
      obtain rfl : c5 = true := by cases c5 with | false => exact absurd hdep (by simp [Region.binds]) | true => rfl
      obtain rfl := hA.q1 rfl
      obtain rfl := hA.q2 rfl
      obtain rfl := hA.q3 rfl
      obtain rfl := hA.q4 rfl
      obtain rfl := hA.q5 rfl
      clear hdep hun hE hT
      refine wpOp_step rfl (fun K hK => ?_)
      rw [if_pos (by rfl)]
      go_simp
      exact hK _ _ ⟨hS, b1, true, b2, true, b3, true, b4, true, b5, true, true, false, v5, _, v9, _, v13, _, v17, _, v23, _, _, rfl, rfl, hS, fun _ => { hA with pu := fun _ => rfl }, fun e => (by cases e), fun e => by cases e⟩
    · have hun2 : st = false := hun
      subst hun2
      have hA := hA rfl
      obtain rfl : b1 = true := by cases b1 with | false => exact absurd hdep (by simp [Region.binds]) | true => rfl
      obtain rfl : c1 = true := by cases c1 with | false => exact absurd hdep (by simp [Region.binds]) | true => rfl
      obtain rfl : b2 = true := by cases b2 with | false => exact absurd hdep (by simp [Region.binds]) | true => rfl
      obtain rfl : c2 = true := by cases c2 with | false => exact absurd hdep (by simp [Region.binds]) | true => rfl
      obtain rfl : b3 = true := by cases b3 with | false => exact absurd hdep (by simp [Region.binds]) | true => rfl
      obtain rfl : c3 = true := by cases c3 with | false => exact absurd hdep (by simp [Region.binds]) | true => rfl
      obtain rfl : b4 = true := by cases b4 with | false => exact absurd hdep (by simp [Region.binds]) | true => rfl
      obtain rfl : c4 = true := by cases c4 with | false => exact absurd hdep (by simp [Region.binds]) | true => rfl
      obtain rfl : b5 = true := by cases b5 with | false => exact absurd hdep (by simp [Region.binds]) | true => rfl
      obtain rfl : c5 = true := by cases c5 with | false => exact absurd hdep (by simp [Region.binds]) | true => rfl
      obtain rfl : bu = true := by cases bu with | false => exact absurd hdep (by simp [Region.binds]) | true => rfl
      obtain rfl := hA.pu rfl
      obtain ⟨⟨c0, c1, c2, c3, c4, c5⟩, f0, f1, f2, f3, f4, f5⟩ := arr_six0 hA.pr
      have HG := Lib.hid hA.pr
      have HS := Lib.hid hS
      clear hA hS
      clear hdep hun hE hT
      refine wpOp_step rfl (fun K hK => ?_)
      rw [if_pos (by rfl)]
      go_simp
      exact hK _ _ ⟨scS_put HS.out _ _ _ _ _ _, true, true, true, true, true, true, true, true, true, true, true, true, v5, v6, v9, v10, v13, v14, v17, v18, v23, v24, _, rfl, rfl, scS_put HS.out _ _ _ _ _ _, fun e => (by cases e), fun _ => ⟨rfl, rfl, rfl, rfl, rfl, rfl, rfl, rfl, rfl, rfl, rfl⟩, fun _ => arr_put6 HG.out _ _ _ _ _ _⟩
  case done =>
    rintro listed a W ⟨b1, c1, b2, c2, b3, c3, b4, c4, b5, c5, bu, st, v5, v6, v9, v10, v13, v14, v17, v18, v23, v24, v25, rfl, rfl, hS, hA, hT, hE⟩ hr
    obtain rfl : b1 = true := ready_nil hr 2 (show (2 : Nat) < 24 by decide) (by simp [Region.binds])
    obtain rfl : c1 = true := ready_nil hr 3 (show (3 : Nat) < 24 by decide) (by simp [Region.binds])
    obtain rfl : b2 = true := ready_nil hr 6 (show (6 : Nat) < 24 by decide) (by simp [Region.binds])
    obtain rfl : c2 = true := ready_nil hr 7 (show (7 : Nat) < 24 by decide) (by simp [Region.binds])
    obtain rfl : b3 = true := ready_nil hr 10 (show (10 : Nat) < 24 by decide) (by simp [Region.binds])
    obtain rfl : c3 = true := ready_nil hr 11 (show (11 : Nat) < 24 by decide) (by simp [Region.binds])
    obtain rfl : b4 = true := ready_nil hr 14 (show (14 : Nat) < 24 by decide) (by simp [Region.binds])
    obtain rfl : c4 = true := ready_nil hr 15 (show (15 : Nat) < 24 by decide) (by simp [Region.binds])
    obtain rfl : b5 = true := ready_nil hr 20 (show (20 : Nat) < 24 by decide) (by simp [Region.binds])
    obtain rfl : c5 = true := ready_nil hr 21 (show (21 : Nat) < 24 by decide) (by simp [Region.binds])
    obtain rfl : bu = true := ready_nil hr 22 (show (22 : Nat) < 24 by decide) (by simp [Region.binds])
    obtain rfl : st = true := ready_nil hr 23 (show (23 : Nat) < 24 by decide) (by simp [Region.binds])
    have hG := hE rfl
    clear hA hT hE hr
    obtain ⟨_, hB, hBox, hz⟩ := hS
    (try dsimp only)
    (try go_wp2)
    exact bodyPost_ret (v := .agg #[.string k, .string t, .string f, .string o, .int .i64 n, .string b]) (results_cell_row (P := Try.prog) Try.results63 _ _ (w.heap.size + 1) 41 _ (0, 0) _ rfl hG Try.underlying41 rfl (by kernel_rfl)) rfl ⟨rfl, hB⟩
end Go.Proofs.Ytpjmcpfmnlfmdaa

namespace Go.Proofs.Ytpjmcpfmnlfmdaa
set_option linter.unusedSimpArgs false
set_option linter.unusedVariables false
open Go.RowKit Go.Joins

/-- Is the stanza heard? -/
noncomputable def keepH (xs : List ByteArray) (s : MsL) : Bool := !(stB s.k s.t s.f s.o s.n s.b) || !(addrB s.f && anyM xs s.f)
noncomputable def hearR (xs : List ByteArray) (ys : List MsL) : List MsL := if 400 < ys.length ∨ bkB xs = false then [] else ys.filter (keepH xs)
theorem hear_le (xs : List ByteArray) (ys : List MsL) : (hearR xs ys).length ≤ ys.length := by
  unfold hearR
  split
  · exact Nat.zero_le _
  · exact List.length_filter_le _ _
def MlIs (B : Nat) (ks : List MsL) (e : Ending) (W : World) : Prop := ∃ p k, e = .returned (.slice p ks.length k) ∧ OwnC msC W B 41 6 (.slice p ks.length k) ks
theorem take_snoc {α : Type} {l : List α} {k : Nat} {x : α} (hk : k < l.length) (hx : l[k] = x) : l.take (k + 1) = l.take k ++ [x] := by rw [List.take_succ_eq_append_getElem hk, hx]
set_option maxRecDepth 100000 in
set_option maxHeartbeats 4000000 in
theorem spec_heard (xs : List ByteArray) (ys : List MsL) (p : Option Addr) (c : Nat) (q : Option Addr) (d : Nat) (w : World) (hn : xs.length ≤ 1048576) (hw : ∀ x ∈ xs, x.size ≤ 1048576) (hm1 : ys.length ≤ 1048576) (hw2 : SzM ys) (hR : RowC strC 1 w p xs) (hQ : RowC msC 6 w q ys) :
    Calls Try.prog 25 #[.slice p xs.length c, .slice q ys.length d] w fun e w' => MlIs w.heap.size (hearR xs ys) e w' ∧ Below w.heap.size w w' := by
  have HP := Lib.hid (fun W (h : Below w.heap.size w W) => hR.on h)
  have HQ := Lib.hid (fun W (h : Below w.heap.size w W) => hQ.on h)
  have HW2 := Lib.hid hw2
  have HB0 : Hid (Below w.heap.size w (w.alloc (.cells #[] 41))) := Lib.hid ((Below.refl _ _).alloc (Nat.le_refl _) _)
  have HV0 := Lib.hid (empty_rowM w)
  have i1 := fun W h => spec_bkright xs p c W hn (tx_two hw) h
  have i2 := fun (hA : AllT xs xs.length) (f : ByteArray) (hf : f.size ≤ 1048576) W h => spec_blk0 xs f p c W hn (by omega) (tx_two hw) hA h
  obtain ⟨n, hxn⟩ : ∃ n, xs.length = n := ⟨_, rfl⟩
  obtain ⟨m, hym⟩ : ∃ m, ys.length = m := ⟨_, rfl⟩
  have HNY := Lib.hid hym
  by_cases hs : 400 < m
  · rw [show hearR xs ys = [] by unfold hearR; rw [if_pos (.inl (by omega))]]
    rw [hxn, hym]
    clear i1 i2 hR hQ hw hw2
    go_enter Try.func25, Try.ntmps25
    go_wp2
    go_ret
    exact ⟨⟨_, _, rfl, HV0.out⟩, HB0.out⟩
  cases hk : bkB xs
  · rw [show hearR xs ys = [] by unfold hearR; rw [if_pos (.inr hk)]]
    rw [hk] at i1
    rw [hxn] at i1 hn ⊢
    rw [hym]
    clear i2 hR hQ hw hw2
    go_enter Try.func25, Try.ntmps25
    go_wp2_with (go_at_call 20; go_fit (i1 _ (HP.out _ HB0.out)); rintro e w1 ⟨rfl, hb⟩; have HB1 := Lib.hid (HB0.out.trans (hb.mono HB0.out.size)); have HV1 := Lib.hid (HV0.out.on hb); clear hb)
    go_ret
    exact ⟨⟨_, _, rfl, HV1.out⟩, HB1.out⟩
  · rw [show hearR xs ys = ys.filter (keepH xs) by unfold hearR; rw [if_neg (by rw [hk]; simp; omega)]]
    rw [hk] at i1
    have i3 := i2 (bkB_iff.1 hk).2.2
    obtain ⟨f, hf⟩ : ∃ f : MsL → Bool, keepH xs = f := ⟨_, rfl⟩
    have HF : Hid (∀ s : MsL, f s = (!(stB s.k s.t s.f s.o s.n s.b) || !(addrB s.f && anyM xs s.f))) := Lib.hid (fun s => by rw [← hf]; rfl)
    rw [hf]
    rw [hxn] at i1 i3 hn ⊢
    rw [hym] at hm1 ⊢
    clear i2 hR hQ hw hw2 hk hf hxn hym
    go_enter Try.func25, Try.ntmps25
    go_wp2_with (go_at_call 20; go_fit (i1 _ (HP.out _ HB0.out)); rintro e w1 ⟨rfl, hb⟩; have HB1 := Lib.hid (HB0.out.trans (hb.mono HB0.out.size)); have HV1 := Lib.hid (HV0.out.on hb); clear hb)
    go_loopw [5, 6] (fun sq iq wr => ∃ k : Nat, k ≤ m ∧ iq = .int .i64 k ∧ OwnC msC wr w.heap.size 41 6 sq ((ys.take k).filter f) ∧ Below w.heap.size w wr) (fun _ i _ => m - (intOf i).toNat)
    case atStart => exact ⟨0, Nat.zero_le _, rfl, HV1.out, HB1.out⟩
    case round =>
      obtain ⟨k, hkm, rfl, hv, hb⟩ := hrel
      obtain ⟨q0, k0, hv0⟩ := own_lenM hv rfl
      subst hv0
      have HV := Lib.hid hv
      have HB := Lib.hid hb
      clear hv
      by_cases hlt : k < m
      · have hlt1 : k < ys.length := by rw [HNY.out]; exact hlt
        obtain ⟨g, rfl, hg, a0, a1, a2, a3, a4, a5⟩ := row_ms6 (HQ.out _ hb) hlt1
        have hyw := HW2.out _ (List.getElem_mem hlt1)
        obtain ⟨s, hsx⟩ : ∃ s, ys[k] = s := ⟨_, rfl⟩
        rw [hsx] at a0 a1 a2 a3 a4 a5 hyw
        have HT : Hid (ys.take (k + 1) = ys.take k ++ [s]) := Lib.hid (take_snoc hlt1 hsx)
        have HL : Hid (((ys.take k).filter f).length ≤ 400) := Lib.hid (Nat.le_trans (List.length_filter_le _ _) (by rw [List.length_take]; omega))
        obtain ⟨z0, z1, z2, z3, z4⟩ := hyw
        have i4 := fun W => spec_stright s.k s.t s.f s.o s.n s.b W (by unfold maxLen; omega) (by omega) (by omega) (by unfold maxLen; omega)
        have i5 := fun W h => i3 s.f z2 W h
        obtain ⟨b1, hb1⟩ : ∃ b, stB s.k s.t s.f s.o s.n s.b = b := ⟨_, rfl⟩
        obtain ⟨b2, hb2⟩ : ∃ b, (addrB s.f && anyM xs s.f) = b := ⟨_, rfl⟩
        rw [hb1] at i4
        rw [hb2] at i5
        have HFS : Hid (f s = (!b1 || !b2)) := Lib.hid (by rw [HF.out, hb1, hb2])
        have HC : Hid (∀ W, Below w.heap.size w W → W.cell? ⟨g, k * 6, none⟩ = some (.string s.k) ∧ W.cell? ⟨g, k * 6 + 1, none⟩ = some (.string s.t) ∧ W.cell? ⟨g, k * 6 + 2, none⟩ = some (.string s.f) ∧ W.cell? ⟨g, k * 6 + 3, none⟩ = some (.string s.o) ∧ W.cell? ⟨g, k * 6 + 4, none⟩ = some (.int .i64 s.n) ∧ W.cell? ⟨g, k * 6 + 5, none⟩ = some (.string s.b)) := Lib.hid (fun W h => by
          obtain ⟨g', e, _, b0, b1, b2, b3, b4, b5⟩ := row_ms6 (HQ.out _ h) hlt1
          injection e with e
          injection e with e
          subst e
          rw [hsx] at b0 b1 b2 b3 b4 b5
          exact ⟨b0, b1, b2, b3, b4, b5⟩)
        clear hb hsx z0 z1 z2 z3 z4 hb1 hb2
        cases b1
        · have HE : Hid ((ys.take (k + 1)).filter f = (ys.take k).filter f ++ [s]) := Lib.hid (by rw [HT.out, List.filter_append, List.filter_cons, if_pos (by rw [HFS.out]; rfl)]; rfl)
          go_wp2_with (first
            | (at_builtin; have _ := HV3; refine wpList_plain rfl fun K hK => ?_; refine wp_app_oneM _ _ rfl w.heap.size _ _ rfl (HV3.out.alloc _) w3.heap.size s rfl (Arr.fresh w3 41 (msC s)) (by have := HL.out; omega) (by rw [World.size_alloc]; have := HB3.out.size; omega) ?_; intro v4 w4 hv4 hg4; have HV4 := Lib.hid hv4; have HB4 : Hid (Below w.heap.size w w4) := Lib.hid ((HB3.out.alloc HB3.out.size _).grown hg4 (HB3.out.alloc HB3.out.size _).size (fun q hq => own_base HV3.out q hq)); clear hv4 hg4; refine hK _ _ ?_)
            | (go_at_call 26; go_fit (i4 _); rintro e w3 ⟨rfl, hb3⟩; have HB3 := Lib.hid (HB.out.trans (hb3.mono HB.out.size)); have HV3 := Lib.hid (HV.out.on hb3); clear hb3; obtain ⟨a0, a1, a2, a3, a4, a5⟩ := HC.out _ HB3.out))
          go_roundw
          case rel => exact ⟨k + 1, by omega, by go_num, by rw [HE.out]; exact HV4.out, HB4.out⟩
          case measure => simp [intOf]; omega
        · cases b2
          · have HE : Hid ((ys.take (k + 1)).filter f = (ys.take k).filter f ++ [s]) := Lib.hid (by rw [HT.out, List.filter_append, List.filter_cons, if_pos (by rw [HFS.out]; rfl)]; rfl)
            go_wp2_with (first
              | (at_builtin; have _ := HV5; refine wpList_plain rfl fun K hK => ?_; refine wp_app_oneM _ _ rfl w.heap.size _ _ rfl (HV5.out.alloc _) w5.heap.size s rfl (Arr.fresh w5 41 (msC s)) (by have := HL.out; omega) (by rw [World.size_alloc]; have := HB5.out.size; omega) ?_; intro v4 w4 hv4 hg4; have HV4 := Lib.hid hv4; have HB4 : Hid (Below w.heap.size w w4) := Lib.hid ((HB5.out.alloc HB5.out.size _).grown hg4 (HB5.out.alloc HB5.out.size _).size (fun q hq => own_base HV5.out q hq)); clear hv4 hg4; refine hK _ _ ?_)
              | (go_at_call 57; have _ := HV3; go_fit (i5 _ (HP.out _ HB3.out)); rintro e w5 ⟨rfl, hb5⟩; have HB5 := Lib.hid (HB3.out.trans (hb5.mono HB3.out.size)); have HV5 := Lib.hid (HV3.out.on hb5); clear hb5; obtain ⟨a0, a1, a2, a3, a4, a5⟩ := HC.out _ HB5.out)
              | (go_at_call 26; go_fit (i4 _); rintro e w3 ⟨rfl, hb3⟩; have HB3 := Lib.hid (HB.out.trans (hb3.mono HB.out.size)); have HV3 := Lib.hid (HV.out.on hb3); clear hb3; obtain ⟨a0, a1, a2, a3, a4, a5⟩ := HC.out _ HB3.out))
            go_roundw
            case rel => exact ⟨k + 1, by omega, by go_num, by rw [HE.out]; exact HV4.out, HB4.out⟩
            case measure => simp [intOf]; omega
          · have HE : Hid ((ys.take (k + 1)).filter f = (ys.take k).filter f) := Lib.hid (by rw [HT.out, List.filter_append, List.filter_cons, if_neg (by rw [HFS.out]; decide)]; simp)
            go_wp2_with (first
              | (go_at_call 57; have _ := HV3; go_fit (i5 _ (HP.out _ HB3.out)); rintro e w5 ⟨rfl, hb5⟩; have HB5 := Lib.hid (HB3.out.trans (hb5.mono HB3.out.size)); have HV5 := Lib.hid (HV3.out.on hb5); clear hb5)
              | (go_at_call 26; go_fit (i4 _); rintro e w3 ⟨rfl, hb3⟩; have HB3 := Lib.hid (HB.out.trans (hb3.mono HB.out.size)); have HV3 := Lib.hid (HV.out.on hb3); clear hb3; obtain ⟨a0, a1, a2, a3, a4, a5⟩ := HC.out _ HB3.out))
            go_roundw
            case rel => exact ⟨k + 1, by omega, by go_num, by rw [HE.out]; exact HV5.out, HB5.out⟩
            case measure => simp [intOf]; omega
      · obtain rfl : k = m := by omega
        have HT : Hid (ys.take k = ys) := Lib.hid (List.take_of_length_le (by rw [HNY.out]; exact Nat.le_refl _))
        clear hb
        go_wp2
        go_ret
        have hv := HV.out
        rw [HT.out] at hv ⊢
        exact ⟨⟨q0, k0, rfl, hv⟩, HB.out⟩
/-- The round's box of a stanza. -/
def SxW (w W : World) (b : Nat) (s : MsL) : Prop := Arr W b 41 (msC s) ∧ Below w.heap.size w W
theorem SxW.on {w W W2 : World} {b : Nat} {s : MsL} (h : SxW w W b s) (hb : Below W.heap.size W W2) : SxW w W2 b s := ⟨arr9_on h.1 hb, h.2.trans (hb.mono h.2.size)⟩
theorem SxW.six {w W : World} {b : Nat} {s : MsL} (h : SxW w W b s) : (W.cell? ⟨b, 0, none⟩ = some (.string s.k) ∧ W.cell? ⟨b, 1, none⟩ = some (.string s.t) ∧ W.cell? ⟨b, 2, none⟩ = some (.string s.f) ∧ W.cell? ⟨b, 3, none⟩ = some (.string s.o) ∧ W.cell? ⟨b, 4, none⟩ = some (.int .i64 s.n) ∧ W.cell? ⟨b, 5, none⟩ = some (.string s.b)) ∧ b < W.heap.size :=
  ⟨⟨h.1.cell 0, h.1.cell 1, h.1.cell 2, h.1.cell 3, h.1.cell 4, h.1.cell 5⟩, arr9_lt h.1⟩
set_option maxRecDepth 100000 in
set_option maxHeartbeats 4000000 in
theorem impl_heard (xs : List ByteArray) (ys : List MsL) (p : Option Addr) (c : Nat) (q : Option Addr) (d : Nat) (w : World) (hn : xs.length ≤ 1048576) (hw : ∀ x ∈ xs, x.size ≤ 1048576) (hm1 : ys.length ≤ 1048576) (hw2 : SzM ys) (hR : RowC strC 1 w p xs) (hQ : RowC msC 6 w q ys) (hm : MaxL w) :
    Calls Try.prog 23 #[.slice p xs.length c, .slice q ys.length d] w fun e w' => MlIs w.heap.size (hearR xs ys) e w' ∧ Below w.heap.size w w' := by
  have HP := Lib.hid (fun W (h : Below w.heap.size w W) => hR.on h)
  have HQ := Lib.hid (fun W (h : Below w.heap.size w W) => hQ.on h)
  have HM := Lib.hid (fun W (h : Below w.heap.size w W) => hm.below h hm.pos)
  have HW2 := Lib.hid hw2
  have i1 := fun W h hm => impl_bkright xs p c W hn (tx_max hw) h hm
  have i2 := fun (f : ByteArray) (hf : f.size ≤ 1048576) W h hm => impl_blocked xs f p c W hn (by unfold maxLen; omega) (tx_max hw) h hm
  obtain ⟨n, hxn⟩ : ∃ n, xs.length = n := ⟨_, rfl⟩
  obtain ⟨m, hym⟩ : ∃ m, ys.length = m := ⟨_, rfl⟩
  have HNY := Lib.hid hym
  by_cases hs : 400 < m
  · rw [show hearR xs ys = [] by unfold hearR; rw [if_pos (.inl (by omega))]]
    rw [hxn, hym]
    clear i1 i2 hR hQ hw hw2 hm
    go_enter Try.func23, Try.ntmps23
    go_wp2
    go_ret
    exact ⟨⟨none, 0, rfl, ownC_nil _ _ _ _ _⟩, Below.refl _ _⟩
  cases hk : bkB xs
  · rw [show hearR xs ys = [] by unfold hearR; rw [if_pos (.inr hk)]]
    rw [hk] at i1
    rw [hxn] at i1 hn ⊢
    rw [hym]
    clear i2 hR hQ hw hw2 hm
    go_enter Try.func23, Try.ntmps23
    go_wp2_with (go_at_call 19; go_fit (i1 _ (HP.out _ (Below.refl _ _)) (HM.out _ (Below.refl _ _))); rintro e w1 ⟨rfl, hb⟩; have HB1 := Lib.hid hb; clear hb)
    go_ret
    exact ⟨⟨none, 0, rfl, ownC_nil _ _ _ _ _⟩, HB1.out⟩
  · rw [show hearR xs ys = ys.filter (keepH xs) by unfold hearR; rw [if_neg (by rw [hk]; simp; omega)]]
    rw [hk] at i1
    have i3 := fun (f : ByteArray) (hf : f.size ≤ 1048576) W h hm => i2 f hf W h hm
    unfold blkB at i3
    rw [hk] at i3
    simp only [Bool.true_and] at i3
    obtain ⟨f, hf⟩ : ∃ f : MsL → Bool, keepH xs = f := ⟨_, rfl⟩
    have HF : Hid (∀ s : MsL, f s = (!(stB s.k s.t s.f s.o s.n s.b) || !(addrB s.f && anyM xs s.f))) := Lib.hid (fun s => by rw [← hf]; rfl)
    rw [hf]
    rw [hxn] at i1 i3 hn ⊢
    rw [hym] at hm1 ⊢
    clear i2 hR hQ hw hw2 hk hf hxn hym hm
    go_enter Try.func23, Try.ntmps23
    go_wp2_with (go_at_call 19; go_fit (i1 _ (HP.out _ (Below.refl _ _)) (HM.out _ (Below.refl _ _))); rintro e w1 ⟨rfl, hb⟩; have HB1 := Lib.hid hb; clear hb)
    go_loopw [5, 18] (fun sq iq wr => ∃ k : Nat, k ≤ m ∧ iq = .int .i64 k ∧ OwnC msC wr w.heap.size 41 6 sq ((ys.take k).filter f) ∧ Below w.heap.size w wr) (fun _ i _ => m - (intOf i).toNat)
    case atStart => exact ⟨0, Nat.zero_le _, rfl, ownC_nil _ _ _ _ _, HB1.out⟩
    case round =>
      obtain ⟨k, hkm, rfl, hv, hb⟩ := hrel
      obtain ⟨q0, k0, hv0⟩ := own_lenM hv rfl
      subst hv0
      have HV := Lib.hid hv
      have HB := Lib.hid hb
      clear hv
      by_cases hlt : k < m
      · have hlt1 : k < ys.length := by rw [HNY.out]; exact hlt
        obtain ⟨g, rfl, hg, a0, a1, a2, a3, a4, a5⟩ := row_ms6 (HQ.out _ hb) hlt1
        have hyw := HW2.out _ (List.getElem_mem hlt1)
        obtain ⟨s, hsx⟩ : ∃ s, ys[k] = s := ⟨_, rfl⟩
        rw [hsx] at a0 a1 a2 a3 a4 a5 hyw
        have HT : Hid (ys.take (k + 1) = ys.take k ++ [s]) := Lib.hid (take_snoc hlt1 hsx)
        have HL : Hid (((ys.take k).filter f).length ≤ 400) := Lib.hid (Nat.le_trans (List.length_filter_le _ _) (by rw [List.length_take]; omega))
        obtain ⟨z0, z1, z2, z3, z4⟩ := hyw
        have i4 := fun W hm => impl_stright s.k s.t s.f s.o s.n s.b W (by unfold maxLen; omega) (by unfold maxLen; omega) (by unfold maxLen; omega) (by unfold maxLen; omega) hm
        have i5 := fun W h hm => i3 s.f z2 W h hm
        have i6 := fun W => impl_stcopy s.k s.t s.f s.o s.n s.b W (by omega) (by omega) (by omega) (by omega) (by omega)
        obtain ⟨b1, hb1⟩ : ∃ b, stB s.k s.t s.f s.o s.n s.b = b := ⟨_, rfl⟩
        obtain ⟨b2, hb2⟩ : ∃ b, (addrB s.f && anyM xs s.f) = b := ⟨_, rfl⟩
        rw [hb1] at i4
        rw [hb2] at i5
        have HFS : Hid (f s = (!b1 || !b2)) := Lib.hid (by rw [HF.out, hb1, hb2])
        have HX0 : Hid (SxW w (wr.alloc (.cells #[.string s.k, .string s.t, .string s.f, .string s.o, .int .i64 s.n, .string s.b] 41)) wr.heap.size s) := Lib.hid ⟨Arr.fresh wr 41 (msC s), hb.alloc hb.size _⟩
        have HVx := Lib.hid (HV.out.alloc (.cells #[.string s.k, .string s.t, .string s.f, .string s.o, .int .i64 s.n, .string s.b] 41))
        clear hb hsx z0 z1 z2 z3 z4 hb1 hb2
        cases b1
        · have HE : Hid ((ys.take (k + 1)).filter f = (ys.take k).filter f ++ [s]) := Lib.hid (by rw [HT.out, List.filter_append, List.filter_cons, if_pos (by rw [HFS.out]; rfl)]; rfl)
          go_wp2_with (first
            | (at_builtin; have _ := HV6; refine wpList_plain rfl fun K hK => ?_; refine wp_app_oneM _ _ rfl w.heap.size _ _ rfl (HV6.out.alloc _) w6.heap.size s rfl (Arr.fresh w6 41 (msC s)) (by have := HL.out; omega) (by rw [World.size_alloc]; have := HX6.out.2.size; omega) ?_; intro v4 w4 hv4 hg4; have HV4 := Lib.hid hv4; have HB4 : Hid (Below w.heap.size w w4) := Lib.hid ((HX6.out.2.alloc HX6.out.2.size _).grown hg4 (HX6.out.2.alloc HX6.out.2.size _).size (fun q hq => own_base HV6.out q hq)); clear hv4 hg4; refine hK _ _ ?_)
            | (go_at_call 63; have _ := HX3; go_fit (i6 _); rintro e w6 ⟨rfl, hb6⟩; have HX6 := Lib.hid (HX3.out.on hb6); have HV6 := Lib.hid (HV3.out.on hb6); clear hb6)
            | (go_at_call 62; go_fit (i4 _ (HM.out _ HX0.out.2)); rintro e w3 ⟨rfl, hb3⟩; have HX3 := Lib.hid (HX0.out.on hb3); have HV3 := Lib.hid (HVx.out.on hb3); clear hb3; obtain ⟨⟨c0, c1, c2, c3, c4, c5⟩, hcz⟩ := HX3.out.six))
          go_roundw
          case rel => exact ⟨k + 1, by omega, by go_num, by rw [HE.out]; exact HV4.out, HB4.out⟩
          case measure => simp [intOf]; omega
        · cases b2
          · have HE : Hid ((ys.take (k + 1)).filter f = (ys.take k).filter f ++ [s]) := Lib.hid (by rw [HT.out, List.filter_append, List.filter_cons, if_pos (by rw [HFS.out]; rfl)]; rfl)
            go_wp2_with (first
              | (at_builtin; have _ := HV6; refine wpList_plain rfl fun K hK => ?_; refine wp_app_oneM _ _ rfl w.heap.size _ _ rfl (HV6.out.alloc _) w6.heap.size s rfl (Arr.fresh w6 41 (msC s)) (by have := HL.out; omega) (by rw [World.size_alloc]; have := HX6.out.2.size; omega) ?_; intro v4 w4 hv4 hg4; have HV4 := Lib.hid hv4; have HB4 : Hid (Below w.heap.size w w4) := Lib.hid ((HX6.out.2.alloc HX6.out.2.size _).grown hg4 (HX6.out.2.alloc HX6.out.2.size _).size (fun q hq => own_base HV6.out q hq)); clear hv4 hg4; refine hK _ _ ?_)
              | (go_at_call 63; have _ := HX5; go_fit (i6 _); rintro e w6 ⟨rfl, hb6⟩; have HX6 := Lib.hid (HX5.out.on hb6); have HV6 := Lib.hid (HV5.out.on hb6); clear hb6)
              | (go_at_call 17; have _ := HX3; go_fit (i5 _ (HP.out _ HX3.out.2) (HM.out _ HX3.out.2)); rintro e w5 ⟨rfl, hb5⟩; have HX5 := Lib.hid (HX3.out.on hb5); have HV5 := Lib.hid (HV3.out.on hb5); clear hb5; obtain ⟨⟨c0, c1, c2, c3, c4, c5⟩, hcz⟩ := HX5.out.six)
              | (go_at_call 62; go_fit (i4 _ (HM.out _ HX0.out.2)); rintro e w3 ⟨rfl, hb3⟩; have HX3 := Lib.hid (HX0.out.on hb3); have HV3 := Lib.hid (HVx.out.on hb3); clear hb3; obtain ⟨⟨c0, c1, c2, c3, c4, c5⟩, hcz⟩ := HX3.out.six))
            go_roundw
            case rel => exact ⟨k + 1, by omega, by go_num, by rw [HE.out]; exact HV4.out, HB4.out⟩
            case measure => simp [intOf]; omega
          · have HE : Hid ((ys.take (k + 1)).filter f = (ys.take k).filter f) := Lib.hid (by rw [HT.out, List.filter_append, List.filter_cons, if_neg (by rw [HFS.out]; decide)]; simp)
            go_wp2_with (first
              | (go_at_call 17; have _ := HX3; go_fit (i5 _ (HP.out _ HX3.out.2) (HM.out _ HX3.out.2)); rintro e w5 ⟨rfl, hb5⟩; have HX5 := Lib.hid (HX3.out.on hb5); have HV5 := Lib.hid (HV3.out.on hb5); clear hb5; obtain ⟨⟨c0, c1, c2, c3, c4, c5⟩, hcz⟩ := HX5.out.six)
              | (go_at_call 62; go_fit (i4 _ (HM.out _ HX0.out.2)); rintro e w3 ⟨rfl, hb3⟩; have HX3 := Lib.hid (HX0.out.on hb3); have HV3 := Lib.hid (HVx.out.on hb3); clear hb3; obtain ⟨⟨c0, c1, c2, c3, c4, c5⟩, hcz⟩ := HX3.out.six))
            go_roundw
            case rel => exact ⟨k + 1, by omega, by go_num, by rw [HE.out]; exact HV5.out, HX5.out.2⟩
            case measure => simp [intOf]; omega
      · obtain rfl : k = m := by omega
        have HT : Hid (ys.take k = ys) := Lib.hid (List.take_of_length_le (by rw [HNY.out]; exact Nat.le_refl _))
        clear hb
        go_wp2
        go_ret
        have hv := HV.out
        rw [HT.out] at hv ⊢
        exact ⟨⟨q0, k0, rfl, hv⟩, HB.out⟩
end Go.Proofs.Ytpjmcpfmnlfmdaa

namespace Go.Proofs.Ytpjmcpfmnlfmdaa
set_option linter.unusedSimpArgs false
set_option linter.unusedVariables false
open Go.RowKit

/-- A stanza whose strings have at most 40 bytes. -/
def StIn (v : Value) : Prop := ∃ (k t f o : ByteArray) (n : Int) (b : ByteArray), v = .agg #[.string k, .string t, .string f, .string o, .int .i64 n, .string b] ∧ (k.size ≤ 40 ∧ t.size ≤ 40 ∧ f.size ≤ 40 ∧ o.size ≤ 40 ∧ b.size ≤ 40) ∧ -1 ≤ n ∧ n ≤ 1000000001
theorem lists_st : (∀ s ∈ ([⟨#[]⟩, ⟨#[103, 101, 116]⟩, ⟨#[115, 101, 116]⟩, ⟨#[101, 114, 114, 111, 114]⟩, ⟨#[104, 101, 97, 100, 108, 105, 110, 101]⟩, ⟨#[103, 114, 111, 117, 112, 99, 104, 97, 116]⟩, ⟨#[99, 104, 97, 116]⟩] : List ByteArray), s.size ≤ 40) ∧ (∀ s ∈ ([⟨#[]⟩, ⟨#[97, 110, 110, 64, 97]⟩, ⟨#[98, 111, 98, 64, 98, 47, 104, 111, 109, 101]⟩, ⟨#[97]⟩, ⟨#[97, 110, 110, 64, 97, 47, 120]⟩, ⟨#[99, 64, 97, 46, 98]⟩] : List ByteArray), s.size ≤ 40) ∧ (∀ s ∈ ([⟨#[]⟩, ⟨#[104, 105]⟩, ⟨#[60, 38, 39, 34, 62]⟩, ⟨#[97, 32, 98]⟩] : List ByteArray), s.size ≤ 40) ∧ (∀ s ∈ ([⟨#[65, 64, 98]⟩, ⟨#[64]⟩, ⟨#[97, 47]⟩] : List ByteArray), s.size ≤ 40) ∧ (∀ s ∈ ([kPres, kMess, kIq, kDb] : List ByteArray), s.size ≤ 40) := by decide
theorem src_who (B g : Nat) (w : World) (hS : Src w B g) : Calls Try.prog 87 #[.pointer (some ⟨g, 0, none⟩)] w (Drew B g w (StrIn 40)) := by
  have hgw : g < w.heap.size := hS.lt
  have HS := Lib.hid hS
  clear hS
  go_enter Try.func87, Try.ntmps87
  go_wp2_with fail
  refine (src_pick B g w.heap.size 6 40 _ (by omega) (by omega) (HS.out.alloc _) (by omega) (strRow_at w 9 40 _ [⟨#[]⟩, ⟨#[97, 110, 110, 64, 97]⟩, ⟨#[98, 111, 98, 64, 98, 47, 104, 111, 109, 101]⟩, ⟨#[97]⟩, ⟨#[97, 110, 110, 64, 97, 47, 120]⟩, ⟨#[99, 64, 97, 46, 98]⟩] rfl lists_st.2.1)).mono ?_
  rintro e w1 ⟨_, rfl, ⟨l, rfl, hl⟩, hS1, hg1⟩
  go_wp2
  go_ret
  exact ⟨_, rfl, ⟨l, rfl, hl⟩, hS1, grown_same (grown_alloc (World.grownBy.refl w (some g)) _) hg1⟩
theorem src_set6 {W : World} {B g : Nat} (hS : Src W B g) (b : Nat) (hne : b ≠ g) (hB : B ≤ b) (x0 x1 x2 x3 x4 x5 : Value) : Src (put6 W b x0 x1 x2 x3 x4 x5) B g :=
  (((((hS.set b 0 x0 hne hB).set b 1 x1 hne hB).set b 2 x2 hne hB).set b 3 x3 hne hB).set b 4 x4 hne hB).set b 5 x5 hne hB
theorem grown_put6 {w W : World} {r : Option Nat} (hg : w.grownBy W r) (b : Nat) (hb : w.heap.size ≤ b) (x0 x1 x2 x3 x4 x5 : Value) : w.grownBy (put6 W b x0 x1 x2 x3 x4 x5) r :=
  grown_new (grown_new (grown_new (grown_new (grown_new (grown_new hg b 0 x0 hb) b 1 x1 hb) b 2 x2 hb) b 3 x3 hb) b 4 x4 hb) b 5 x5 hb
theorem st_done {w W : World} {B g : Nat} {k t f o : ByteArray} {n : Int} {b : ByteArray} (hS : Src W B g) (hg : w.grownBy W (some g)) (hgw : g < w.heap.size) (hB : B ≤ w.heap.size) (hz : k.size ≤ 40 ∧ t.size ≤ 40 ∧ f.size ≤ 40 ∧ o.size ≤ 40 ∧ b.size ≤ 40) (h1 : -1 ≤ n) (h2 : n ≤ 1000000001) :
    Drew B g w StIn (.returned (.agg #[.string k, .string t, .string f, .string o, .int .i64 n, .string b])) (put6 W w.heap.size (.string k) (.string t) (.string f) (.string o) (.int .i64 n) (.string b)) :=
  ⟨_, rfl, ⟨k, t, f, o, n, b, rfl, hz, h1, h2⟩, src_set6 hS _ (by omega) hB _ _ _ _ _ _, grown_put6 hg _ (Nat.le_refl _) _ _ _ _ _ _⟩

set_option maxRecDepth 100000 in
set_option maxHeartbeats 4000000 in
theorem src_st (B g : Nat) (w : World) (hS : Src w B g) :
    Calls Try.prog 61 #[.pointer (some ⟨g, 0, none⟩)] w (Drew B g w StIn) := by
  obtain ⟨i0, hi, y0, y1, y2⟩ := info_parts info_u8d
  have hgw : g < w.heap.size := hS.lt
  have hBg : B ≤ g := hS.1
  obtain ⟨q1, q2, q3, q4, q5⟩ := lists_st
  have Q1 := Lib.hid q1
  have Q3 := Lib.hid q3
  have Q4 := Lib.hid q4
  have Q5 := Lib.hid q5
  clear q1 q2 q3 q4 q5
  have HS := Lib.hid hS
  clear hS
  go_enter Try.func61, Try.ntmps61
  go_wp2_with fail
  refine (spec_kinds _).mono ?_
  rintro e w0 ⟨rfl, rfl⟩
  simp only [World.size_alloc]
  go_wp2_with fail
  refine (src_pick B g (w.heap.size + 1) 4 40 _ (by omega) (by omega) ((HS.out.alloc _).alloc _) (by omega) (strRow_at (w.alloc (.cells #[.string ⟨#[]⟩, .string ⟨#[]⟩, .string ⟨#[]⟩, .string ⟨#[]⟩, .int .i64 0, .string ⟨#[]⟩] 41)) 9 40 (w.heap.size + 1) [kPres, kMess, kIq, kDb] (World.size_alloc ..).symm Q5.out)).mono ?_
  rintro e w1 ⟨_, rfl, ⟨k, rfl, hk⟩, hS1, hg1⟩
  have hz1 := hg1.size
  try simp at hz1
  have G0 : (w.alloc (.cells #[.string ⟨#[]⟩, .string ⟨#[]⟩, .string ⟨#[]⟩, .string ⟨#[]⟩, .int .i64 0, .string ⟨#[]⟩] 41)).grownBy w1 (some g) := grown_same (grown_alloc (World.grownBy.refl _ _) _) hg1
  clear hg1
  go_wp2_with fail
  refine (src_pick B g w1.heap.size 7 40 _ (by omega) (by omega) (hS1.alloc _) (by omega) (strRow_at w1 9 40 _ [⟨#[]⟩, ⟨#[103, 101, 116]⟩, ⟨#[115, 101, 116]⟩, ⟨#[101, 114, 114, 111, 114]⟩, ⟨#[104, 101, 97, 100, 108, 105, 110, 101]⟩, ⟨#[103, 114, 111, 117, 112, 99, 104, 97, 116]⟩, ⟨#[99, 104, 97, 116]⟩] rfl Q1.out)).mono ?_
  rintro e w2 ⟨_, rfl, ⟨t, rfl, ht⟩, hS2, hg2⟩
  have hz2 := hg2.size
  try simp at hz2
  replace G0 := grown_same (grown_alloc G0 _) hg2
  clear hg2 hS1
  go_wp2_with fail
  refine (src_who B g _ hS2).mono ?_
  rintro e w3 ⟨_, rfl, ⟨f, rfl, hf⟩, hS3, hg3⟩
  have hz3 := hg3.size
  try simp at hz3
  replace G0 := grown_same G0 hg3
  clear hg3 hS2
  go_wp2_with fail
  refine (src_who B g _ hS3).mono ?_
  rintro e w4 ⟨_, rfl, ⟨o, rfl, ho⟩, hS4, hg4⟩
  have hz4 := hg4.size
  try simp at hz4
  replace G0 := grown_same G0 hg4
  clear hg4 hS3
  go_wp2_with fail
  refine (src_n B g 5 _ (by omega) hS4).mono ?_
  rintro e w5 ⟨_, rfl, ⟨n, rfl, n0, n1⟩, hS5, hg5⟩
  have hz5 := hg5.size
  try simp at hz5
  replace G0 := grown_same G0 hg5
  clear hg5 hS4
  go_wp2_with fail
  refine (src_pick B g w5.heap.size 4 40 _ (by omega) (by omega) (hS5.alloc _) (by omega) (strRow_at w5 9 40 _ [⟨#[]⟩, ⟨#[104, 105]⟩, ⟨#[60, 38, 39, 34, 62]⟩, ⟨#[97, 32, 98]⟩] rfl Q3.out)).mono ?_
  rintro e w6 ⟨_, rfl, ⟨b, rfl, hb⟩, hS6, hg6⟩
  have hz6 := hg6.size
  try simp at hz6
  replace G0 := grown_same (grown_alloc G0 _) hg6
  clear hg6 hS5
  go_wp2_with fail
  refine (src_one B g 12 _ (by omega) (hS6.alloc _)).mono ?_
  rintro e w7 ⟨_, rfl, ⟨q, rfl⟩, hS7, hg7⟩
  have hz7 := hg7.size
  try simp at hz7
  have hJ : Arr w7 w6.heap.size 41 [.string k, .string t, .string f, .string o, .int .i64 n, .string b] := (Arr.fresh w6 41 [.string k, .string t, .string f, .string o, .int .i64 n, .string b]).other hg7 (fun e => by injection e; omega)
  replace G0 := grown_same (grown_alloc G0 _) hg7
  clear hg7 hS6
  cases q
  · have hR : Arr w7 w.heap.size 41 [.string ⟨#[]⟩, .string ⟨#[]⟩, .string ⟨#[]⟩, .string ⟨#[]⟩, .int .i64 0, .string ⟨#[]⟩] := (Arr.fresh w 41 [.string ⟨#[]⟩, .string ⟨#[]⟩, .string ⟨#[]⟩, .string ⟨#[]⟩, .int .i64 0, .string ⟨#[]⟩]).other G0 (fun e => by injection e; omega)
    obtain ⟨⟨c0, c1, c2, c3, c4, c5⟩, d0, d1, d2, d3, d4, d5⟩ := arr_six0 hJ
    obtain ⟨⟨p0, p1, p2, p3, p4, p5⟩, f0, f1, f2, f3, f4, f5⟩ := arr_six0 hR
    have hne : w6.heap.size ≠ w.heap.size := by omega
    have HG := Lib.hid (grown_same (grown_alloc (World.grownBy.refl w (some g)) _) G0)
    have HSx := Lib.hid (hS7)
    clear hJ hR G0 hS7
    go_wp2
    exact bodyPost_ret (v := .agg #[.string k, .string t, .string f, .string o, .int .i64 n, .string b]) (by simp [results, Try.results61, go_sem, p0, p1, p2, p3, p4, p5]; try omega) rfl (st_done HSx.out HG.out hgw (by omega) ⟨hk, ht, hf, ho, hb⟩ (by omega) (by omega))
  · go_wp2_with fail
    refine (src_n B g 5 _ (by omega) hS7).mono ?_
    rintro e w8 ⟨_, rfl, ⟨m, rfl, m0, m1⟩, hS8, hg8⟩
    replace hJ := hJ.other hg8 (fun e => by injection e; omega)
    replace G0 := grown_same G0 hg8
    have hz8 := hg8.size
    clear hg8 hS7
    have m5 : m = 0 ∨ m = 1 ∨ m = 2 ∨ m = 3 ∨ m = 4 := by omega
    rcases m5 with rfl | rfl | rfl | rfl | rfl
    · have hR : Arr w8 w.heap.size 41 [.string ⟨#[]⟩, .string ⟨#[]⟩, .string ⟨#[]⟩, .string ⟨#[]⟩, .int .i64 0, .string ⟨#[]⟩] := (Arr.fresh w 41 [.string ⟨#[]⟩, .string ⟨#[]⟩, .string ⟨#[]⟩, .string ⟨#[]⟩, .int .i64 0, .string ⟨#[]⟩]).other G0 (fun e => by injection e; omega)
      obtain ⟨⟨c0, c1, c2, c3, c4, c5⟩, d0, d1, d2, d3, d4, d5⟩ := arr_six0 hJ
      obtain ⟨⟨p0, p1, p2, p3, p4, p5⟩, f0, f1, f2, f3, f4, f5⟩ := arr_six0 hR
      have hne : w6.heap.size ≠ w.heap.size := by omega
      have HG := Lib.hid (grown_new (grown_same (grown_alloc (World.grownBy.refl w (some g)) _) G0) w6.heap.size 0 (.string ⟨#[120]⟩) (by omega))
      have HSx := Lib.hid (hS8.set w6.heap.size 0 (.string ⟨#[120]⟩) (by omega) (by omega))
      clear hJ hR G0 hS8
      go_wp2
      exact bodyPost_ret (v := .agg #[.string ⟨#[120]⟩, .string t, .string f, .string o, .int .i64 n, .string b]) (by simp [results, Try.results61, go_sem, p0, p1, p2, p3, p4, p5]; try omega) rfl (st_done HSx.out HG.out hgw (by omega) ⟨(by decide), ht, hf, ho, hb⟩ (by omega) (by omega))
    · have hR : Arr w8 w.heap.size 41 [.string ⟨#[]⟩, .string ⟨#[]⟩, .string ⟨#[]⟩, .string ⟨#[]⟩, .int .i64 0, .string ⟨#[]⟩] := (Arr.fresh w 41 [.string ⟨#[]⟩, .string ⟨#[]⟩, .string ⟨#[]⟩, .string ⟨#[]⟩, .int .i64 0, .string ⟨#[]⟩]).other G0 (fun e => by injection e; omega)
      obtain ⟨⟨c0, c1, c2, c3, c4, c5⟩, d0, d1, d2, d3, d4, d5⟩ := arr_six0 hJ
      obtain ⟨⟨p0, p1, p2, p3, p4, p5⟩, f0, f1, f2, f3, f4, f5⟩ := arr_six0 hR
      have hne : w6.heap.size ≠ w.heap.size := by omega
      have HG := Lib.hid (grown_new (grown_same (grown_alloc (World.grownBy.refl w (some g)) _) G0) w6.heap.size 1 (.string ⟨#[65]⟩) (by omega))
      have HSx := Lib.hid (hS8.set w6.heap.size 1 (.string ⟨#[65]⟩) (by omega) (by omega))
      clear hJ hR G0 hS8
      go_wp2
      exact bodyPost_ret (v := .agg #[.string k, .string ⟨#[65]⟩, .string f, .string o, .int .i64 n, .string b]) (by simp [results, Try.results61, go_sem, p0, p1, p2, p3, p4, p5]; try omega) rfl (st_done HSx.out HG.out hgw (by omega) ⟨hk, (by decide), hf, ho, hb⟩ (by omega) (by omega))
    · go_wp2_with fail
      refine (src_pick B g w8.heap.size 3 40 _ (by omega) (by omega) (hS8.alloc _) (by omega) (strRow_at w8 9 40 _ [⟨#[65, 64, 98]⟩, ⟨#[64]⟩, ⟨#[97, 47]⟩] rfl Q4.out)).mono ?_
      rintro e w9 ⟨_, rfl, ⟨x, rfl, hx⟩, hS9, hg9⟩
      replace hJ := (hJ.alloc _).other hg9 (fun e => by injection e; omega)
      replace G0 := grown_same (grown_alloc G0 _) hg9
      have hz9 := hg9.size
      simp at hz9
      clear hg9 hS8
      have hR : Arr w9 w.heap.size 41 [.string ⟨#[]⟩, .string ⟨#[]⟩, .string ⟨#[]⟩, .string ⟨#[]⟩, .int .i64 0, .string ⟨#[]⟩] := (Arr.fresh w 41 [.string ⟨#[]⟩, .string ⟨#[]⟩, .string ⟨#[]⟩, .string ⟨#[]⟩, .int .i64 0, .string ⟨#[]⟩]).other G0 (fun e => by injection e; omega)
      obtain ⟨⟨c0, c1, c2, c3, c4, c5⟩, d0, d1, d2, d3, d4, d5⟩ := arr_six0 hJ
      obtain ⟨⟨p0, p1, p2, p3, p4, p5⟩, f0, f1, f2, f3, f4, f5⟩ := arr_six0 hR
      have hne : w6.heap.size ≠ w.heap.size := by omega
      have HG := Lib.hid (grown_new (grown_same (grown_alloc (World.grownBy.refl w (some g)) _) G0) w6.heap.size 2 (.string x) (by omega))
      have HSx := Lib.hid (hS9.set w6.heap.size 2 (.string x) (by omega) (by omega))
      clear hJ hR G0 hS9
      go_wp2
      exact bodyPost_ret (v := .agg #[.string k, .string t, .string x, .string o, .int .i64 n, .string b]) (by simp [results, Try.results61, go_sem, p0, p1, p2, p3, p4, p5]; try omega) rfl (st_done HSx.out HG.out hgw (by omega) ⟨hk, ht, hx, ho, hb⟩ (by omega) (by omega))
    · go_wp2_with fail
      refine (src_n B g 3 _ (by omega) (hS8.alloc _)).mono ?_
      rintro e w9 ⟨_, rfl, ⟨x, rfl, x0, x1⟩, hS9, hg9⟩
      replace hJ := (hJ.alloc _).other hg9 (fun e => by injection e; omega)
      have hI : Arr w9 w8.heap.size 2 [.int .i64 (-1), .int .i64 1000000000, .int .i64 1000000001] := (Arr.fresh w8 2 [.int .i64 (-1), .int .i64 1000000000, .int .i64 1000000001]).other hg9 (fun e => by injection e; omega)
      replace G0 := grown_same (grown_alloc G0 _) hg9
      have hz9 := hg9.size
      simp at hz9
      clear hg9 hS8
      have x3 : x = 0 ∨ x = 1 ∨ x = 2 := by omega
      obtain ⟨j0, j1, j2, _⟩ := arr_three hI
      clear hI
      rcases x3 with rfl | rfl | rfl
      · have hR : Arr w9 w.heap.size 41 [.string ⟨#[]⟩, .string ⟨#[]⟩, .string ⟨#[]⟩, .string ⟨#[]⟩, .int .i64 0, .string ⟨#[]⟩] := (Arr.fresh w 41 [.string ⟨#[]⟩, .string ⟨#[]⟩, .string ⟨#[]⟩, .string ⟨#[]⟩, .int .i64 0, .string ⟨#[]⟩]).other G0 (fun e => by injection e; omega)
        obtain ⟨⟨c0, c1, c2, c3, c4, c5⟩, d0, d1, d2, d3, d4, d5⟩ := arr_six0 hJ
        obtain ⟨⟨p0, p1, p2, p3, p4, p5⟩, f0, f1, f2, f3, f4, f5⟩ := arr_six0 hR
        have hne : w6.heap.size ≠ w.heap.size := by omega
        have HG := Lib.hid (grown_new (grown_same (grown_alloc (World.grownBy.refl w (some g)) _) G0) w6.heap.size 4 (.int .i64 (-1)) (by omega))
        have HSx := Lib.hid (hS9.set w6.heap.size 4 (.int .i64 (-1)) (by omega) (by omega))
        clear hJ hR G0 hS9
        go_wp2
        exact bodyPost_ret (v := .agg #[.string k, .string t, .string f, .string o, .int .i64 (-1), .string b]) (by simp [results, Try.results61, go_sem, p0, p1, p2, p3, p4, p5]; try omega) rfl (st_done HSx.out HG.out hgw (by omega) ⟨hk, ht, hf, ho, hb⟩ (by omega) (by omega))
      · have hR : Arr w9 w.heap.size 41 [.string ⟨#[]⟩, .string ⟨#[]⟩, .string ⟨#[]⟩, .string ⟨#[]⟩, .int .i64 0, .string ⟨#[]⟩] := (Arr.fresh w 41 [.string ⟨#[]⟩, .string ⟨#[]⟩, .string ⟨#[]⟩, .string ⟨#[]⟩, .int .i64 0, .string ⟨#[]⟩]).other G0 (fun e => by injection e; omega)
        obtain ⟨⟨c0, c1, c2, c3, c4, c5⟩, d0, d1, d2, d3, d4, d5⟩ := arr_six0 hJ
        obtain ⟨⟨p0, p1, p2, p3, p4, p5⟩, f0, f1, f2, f3, f4, f5⟩ := arr_six0 hR
        have hne : w6.heap.size ≠ w.heap.size := by omega
        have HG := Lib.hid (grown_new (grown_same (grown_alloc (World.grownBy.refl w (some g)) _) G0) w6.heap.size 4 (.int .i64 1000000000) (by omega))
        have HSx := Lib.hid (hS9.set w6.heap.size 4 (.int .i64 1000000000) (by omega) (by omega))
        clear hJ hR G0 hS9
        go_wp2
        exact bodyPost_ret (v := .agg #[.string k, .string t, .string f, .string o, .int .i64 1000000000, .string b]) (by simp [results, Try.results61, go_sem, p0, p1, p2, p3, p4, p5]; try omega) rfl (st_done HSx.out HG.out hgw (by omega) ⟨hk, ht, hf, ho, hb⟩ (by omega) (by omega))
      · have hR : Arr w9 w.heap.size 41 [.string ⟨#[]⟩, .string ⟨#[]⟩, .string ⟨#[]⟩, .string ⟨#[]⟩, .int .i64 0, .string ⟨#[]⟩] := (Arr.fresh w 41 [.string ⟨#[]⟩, .string ⟨#[]⟩, .string ⟨#[]⟩, .string ⟨#[]⟩, .int .i64 0, .string ⟨#[]⟩]).other G0 (fun e => by injection e; omega)
        obtain ⟨⟨c0, c1, c2, c3, c4, c5⟩, d0, d1, d2, d3, d4, d5⟩ := arr_six0 hJ
        obtain ⟨⟨p0, p1, p2, p3, p4, p5⟩, f0, f1, f2, f3, f4, f5⟩ := arr_six0 hR
        have hne : w6.heap.size ≠ w.heap.size := by omega
        have HG := Lib.hid (grown_new (grown_same (grown_alloc (World.grownBy.refl w (some g)) _) G0) w6.heap.size 4 (.int .i64 1000000001) (by omega))
        have HSx := Lib.hid (hS9.set w6.heap.size 4 (.int .i64 1000000001) (by omega) (by omega))
        clear hJ hR G0 hS9
        go_wp2
        exact bodyPost_ret (v := .agg #[.string k, .string t, .string f, .string o, .int .i64 1000000001, .string b]) (by simp [results, Try.results61, go_sem, p0, p1, p2, p3, p4, p5]; try omega) rfl (st_done HSx.out HG.out hgw (by omega) ⟨hk, ht, hf, ho, hb⟩ (by omega) (by omega))
    · have hmk : ∀ u : World, (Instr.makeSlice 22 (.int .i64 3) (.int .i64 3)).run Try.prog u = .ok (.slice (some ⟨u.heap.size, 0, none⟩) 3 3) (u.alloc (.cells (madeCells #[.int .u8 0] 3) 5)) := fun u => by
        have h := run_make (P := Try.prog) u 22 5 i0 (.int .u8 0) Try.underlying22 hi y0 .i64 .i64 3 3 (by omega) (Int.le_refl _) (by rw [y2]; omega) (by omega)
        simpa [y1, Value.cells] using h
      have hcv := run_string_made (P := Try.prog) w8 22 9 5 3 Try.underlying22 Try.underlying5 Try.underlying9
      obtain ⟨Z, hZ⟩ : ∃ Z, Z = strOf (List.replicate 3 0) := ⟨_, rfl⟩
      rw [← hZ] at hcv
      have HZ : Hid (∀ s ∈ ([⟨#[10]⟩, Z, ⟨#[127]⟩] : List ByteArray), s.size ≤ 40) := Lib.hid (by rw [hZ]; decide)
      clear hZ
      go_wp2_with fail
      refine (src_pick B g (w8.heap.size + 1) 3 40 _ (by omega) (by omega) ((hS8.alloc _).alloc _) (by omega) (strRow_at (w8.alloc (.cells (madeCells #[.int .u8 0] 3) 5)) 9 40 _ [⟨#[10]⟩, Z, ⟨#[127]⟩] (World.size_alloc ..).symm HZ.out)).mono ?_
      rintro e w9 ⟨_, rfl, ⟨x, rfl, hx⟩, hS9, hg9⟩
      replace hJ := ((hJ.alloc _).alloc _).other hg9 (fun e => by injection e; omega)
      replace G0 := grown_same (grown_alloc (grown_alloc G0 _) _) hg9
      have hz9 := hg9.size
      simp at hz9
      clear hg9 hS8 hmk hcv
      have hR : Arr w9 w.heap.size 41 [.string ⟨#[]⟩, .string ⟨#[]⟩, .string ⟨#[]⟩, .string ⟨#[]⟩, .int .i64 0, .string ⟨#[]⟩] := (Arr.fresh w 41 [.string ⟨#[]⟩, .string ⟨#[]⟩, .string ⟨#[]⟩, .string ⟨#[]⟩, .int .i64 0, .string ⟨#[]⟩]).other G0 (fun e => by injection e; omega)
      obtain ⟨⟨c0, c1, c2, c3, c4, c5⟩, d0, d1, d2, d3, d4, d5⟩ := arr_six0 hJ
      obtain ⟨⟨p0, p1, p2, p3, p4, p5⟩, f0, f1, f2, f3, f4, f5⟩ := arr_six0 hR
      have hne : w6.heap.size ≠ w.heap.size := by omega
      have HG := Lib.hid (grown_new (grown_same (grown_alloc (World.grownBy.refl w (some g)) _) G0) w6.heap.size 5 (.string x) (by omega))
      have HSx := Lib.hid (hS9.set w6.heap.size 5 (.string x) (by omega) (by omega))
      clear hJ hR G0 hS9
      go_wp2
      exact bodyPost_ret (v := .agg #[.string k, .string t, .string f, .string o, .int .i64 n, .string x]) (by simp [results, Try.results61, go_sem, p0, p1, p2, p3, p4, p5]; try omega) rfl (st_done HSx.out HG.out hgw (by omega) ⟨hk, ht, hf, ho, hx⟩ (by omega) (by omega))
end Go.Proofs.Ytpjmcpfmnlfmdaa

namespace Go.Proofs.Ytpjmcpfmnlfmdaa
set_option linter.unusedSimpArgs false
set_option linter.unusedVariables false
open Go.RowKit Go.Joins

set_option maxRecDepth 100000 in
set_option maxHeartbeats 2000000 in
theorem lw_ms (xs : List MsL) (p q : Option Addr) (c d : Nat) (w : World) (hn : xs.length ≤ 1000000) (hp : RowC msC 6 w p xs) (hq : RowC msC 6 w q xs) :
    Calls Try.prog 24 #[.slice p xs.length c, .slice q xs.length d] w fun e w' => e = .returned (.bool true) ∧ Below w.heap.size w w' := by
  obtain ⟨n, hxn⟩ : ∃ n, xs.length = n := ⟨_, rfl⟩
  have HP := Lib.hid hp
  have HQ := Lib.hid hq
  have HN := Lib.hid hxn
  rw [hxn] at hn ⊢
  clear hp hq hxn
  go_enter Try.func24, Try.ntmps24
  go_wp2
  go_loopw [5] (fun iq wr => ∃ i : Nat, i ≤ n ∧ iq = .int .i64 i ∧ Below w.heap.size w wr) (fun i _ => n - (intOf i).toNat)
  case atStart => exact ⟨0, Nat.zero_le _, rfl, Below.refl _ _⟩
  case round =>
    obtain ⟨i, hi, rfl, hb⟩ := hrel
    have HB := Lib.hid hb
    by_cases hlt : i < n
    · obtain ⟨a, rfl, ha, a0, a1, a2, a3, a4, a5⟩ := row_ms HP.out (i := i) (by rw [HN.out]; exact hlt)
      obtain ⟨b, rfl, hb0, b0, b1, b2, b3, b4, b5⟩ := row_ms HQ.out (i := i) (by rw [HN.out]; exact hlt)
      obtain ⟨x, hx⟩ : ∃ x, xs[i]'(by rw [HN.out]; exact hlt) = x := ⟨_, rfl⟩
      rw [hx] at a0 b0 a1 b1 a2 b2 a3 b3 a4 b4 a5 b5
      have HS : Hid (Both_ms a b i x wr wr) := Lib.hid ⟨⟨⟨(hb.cell (p := ⟨a, i * 6, none⟩) ha).trans a0, (hb.cell (p := ⟨a, i * 6 + 1, none⟩) ha).trans a1, (hb.cell (p := ⟨a, i * 6 + 2, none⟩) ha).trans a2, (hb.cell (p := ⟨a, i * 6 + 3, none⟩) ha).trans a3, (hb.cell (p := ⟨a, i * 6 + 4, none⟩) ha).trans a4, (hb.cell (p := ⟨a, i * 6 + 5, none⟩) ha).trans a5⟩, (hb.cell (p := ⟨b, i * 6, none⟩) hb0).trans b0, (hb.cell (p := ⟨b, i * 6 + 1, none⟩) hb0).trans b1, (hb.cell (p := ⟨b, i * 6 + 2, none⟩) hb0).trans b2, (hb.cell (p := ⟨b, i * 6 + 3, none⟩) hb0).trans b3, (hb.cell (p := ⟨b, i * 6 + 4, none⟩) hb0).trans b4, (hb.cell (p := ⟨b, i * 6 + 5, none⟩) hb0).trans b5⟩, Below.refl _ _, Nat.lt_of_lt_of_le ha hb.size, Nat.lt_of_lt_of_le hb0 hb.size⟩
      clear hb a0 b0 a1 b1 a2 b2 a3 b3 a4 b4 a5 b5 hx ha hb0
      obtain ⟨⟨⟨c0, c1, c2, c3, c4, c5⟩, d0, d1, d2, d3, d4, d5⟩, _⟩ := HS.out
      go_wp2
      go_quiet (fail)
      go_wp2
      go_roundw
      case rel => exact ⟨i + 1, by omega, by go_num, below_drewN HB.out _⟩
      case measure => simp [intOf]; omega
    · obtain rfl : i = n := by omega
      go_wp2
      go_ret
      exact ⟨rfl, HB.out⟩

/-- Small stanzas. -/
def MsS (ys : List MsL) : Prop := ∀ y ∈ ys, (y.k.size ≤ 40 ∧ y.t.size ≤ 40 ∧ y.f.size ≤ 40 ∧ y.o.size ≤ 40 ∧ y.b.size ≤ 40) ∧ -1 ≤ y.n ∧ y.n ≤ 1000000001
theorem MsS.sz {ys : List MsL} (h : MsS ys) : SzM ys := fun y hy => by
  obtain ⟨⟨h1, h2, h3, h4, h5⟩, _⟩ := h y hy
  exact ⟨by omega, by omega, by omega, by omega, by omega⟩
theorem src_ms (B g : Nat) (w : World) (hS : Src w B g) :
    Calls Try.prog 61 #[.pointer (some ⟨g, 0, none⟩)] w fun e w' => ∃ s : MsL, e = .returned (.agg #[.string s.k, .string s.t, .string s.f, .string s.o, .int .i64 s.n, .string s.b]) ∧ MsS [s] ∧ Src w' B g ∧ w.grownBy w' (some g) := by
  refine (src_st B g w hS).mono ?_
  rintro e w1 ⟨_, rfl, ⟨k, t, f, o, n, b, rfl, h1, h2, h3⟩, hS1, hg1⟩
  exact ⟨⟨k, t, f, o, n, b⟩, rfl, fun y hy => by obtain rfl := List.mem_singleton.1 hy; exact ⟨h1, h2, h3⟩, hS1, hg1⟩
/-- The source, and stanzas that lie in a row of the call's own. -/
def DmS (w W : World) (B g : Nat) (ys : List MsL) (p : Option Addr) (k : Nat) : Prop :=
  Src W B g ∧ w.grownBy W (some g) ∧ OwnC msC W w.heap.size 41 6 (.slice p ys.length k) ys
theorem DmS.on {w W W2 : World} {B g : Nat} {ys : List MsL} {p : Option Addr} {k : Nat} (h : DmS w W B g ys p k) (hb : Below W.heap.size W W2) : DmS w W2 B g ys p k := ⟨h.1.on hb, grown_on h.2.1 hb, h.2.2.on hb⟩
theorem DmS.src {w W W2 : World} {B g : Nat} {ys : List MsL} {p : Option Addr} {k : Nat} (h : DmS w W B g ys p k) (hS : Src W2 B g) (hg : W.grownBy W2 (some g)) (hlt : g < w.heap.size) : DmS w W2 B g ys p k :=
  ⟨hS, grown_same h.2.1 hg, own_grownX h.2.2 hg hlt⟩
theorem dms_app {w W W2 : World} {B g : Nat} {xs ys : List MsL} {p : Option Addr} {k : Nat} {o : Obj} {v : Value} (h : DmS w W B g xs p k) (hlt : g < w.heap.size) (hv : OwnC msC W2 w.heap.size 41 6 v ys) (hg : (W.alloc o).grownBy W2 (Value.slice p xs.length k).ownBlock) :
    ∃ p4 k4, v = .slice p4 ys.length k4 ∧ DmS w W2 B g ys p4 k4 := by
  obtain ⟨p4, k4, e⟩ := own_lenM hv rfl
  have hb := own_base h.2.2
  have hB := h.1.1
  have hl := h.1.lt
  exact ⟨p4, k4, e, (h.1.alloc o).other hg (fun q hq => by have := hb q hq; omega) (by rw [World.size_alloc]; omega) (fun q hq => by have := hb q hq; omega), grown_over (grown_alloc h.2.1 o) hg hb, e ▸ hv⟩
/-- What DrawHeard answers. -/
def HrD (B : Nat) (e : Ending) (W : World) : Prop := ∃ xs p k ys q l, e = .returned (.tuple #[.slice p xs.length k, .slice q ys.length l]) ∧ OwnC strC W B 9 1 (.slice p xs.length k) xs ∧ OwnC msC W B 41 6 (.slice q ys.length l) ys ∧ xs.length ≤ 9 ∧ (∀ x ∈ xs, x.size ≤ 100) ∧ ys.length ≤ 5 ∧ MsS ys
set_option maxRecDepth 100000 in
set_option maxHeartbeats 2000000 in
theorem draw_heard (a : Option Addr) (len cap : Nat) (w : World) (hlen : len ≤ 1048576) (hrow : SrcRow w w.heap.size a len) :
    Calls Try.prog 22 #[.slice a len cap] w fun e w' => HrD w.heap.size e w' ∧ Below w.heap.size w w' := by
  have HR := Lib.hid hrow
  clear hrow
  go_enter Try.func22, Try.ntmps22
  go_wp2_with fail
  refine (src_source a len cap _ hlen HR.out).mono ?_
  rintro e w1 ⟨rfl, hS1, hb1⟩
  have HS1 := Lib.hid hS1
  have HB1 := Lib.hid hb1
  have hlt := hS1.lt
  clear hS1 hb1
  go_wp2_with fail
  refine (draw_blocks w.heap.size w.heap.size w1 HS1.out).mono ?_
  rintro e w2 ⟨xs, p, k, rfl, hs, hl, hw⟩
  have HS2 := Lib.hid hs
  have HW := Lib.hid (And.intro hl hw)
  have hlt2 : w.heap.size < w2.heap.size := by have := hs.2.1.size; omega
  clear hs hl hw
  obtain ⟨n, hxn⟩ : ∃ n, xs.length = n := ⟨_, rfl⟩
  have HN := Lib.hid hxn
  rw [hxn]
  clear hxn
  have HD2 : Hid (DmS w2 (w2.alloc (.cells #[] 41)) w.heap.size w.heap.size [] (some ⟨w2.heap.size, 0, none⟩) 0) := Lib.hid ⟨HS2.out.1.alloc _, World.grownBy_alloc w2 _ _, empty_rowM w2⟩
  go_wp2_with fail
  refine (src_n w.heap.size w.heap.size 5 _ (by omega) HD2.out.1).mono ?_
  rintro e w3 ⟨_, rfl, ⟨z0, rfl, hz0, hz1⟩, hS3, hg3⟩
  have HD3 := Lib.hid (HD2.out.src hS3 hg3 hlt2)
  clear hS3 hg3 HD2
  go_wp2_with fail
  go_loopw [6, 7] (fun lq kq wr => ∃ (ys : List MsL) (q : Option Addr) (l m : Nat) (z : Int), lq = .slice q m l ∧ m = ys.length ∧ kq = .int .i64 z ∧ 0 ≤ z ∧ z ≤ 5 ∧ DmS w2 wr w.heap.size w.heap.size ys q l ∧ MsS ys ∧ (m : Int) + z ≤ 5) (fun _ z _ => (intOf z).toNat)
  case atStart => exact ⟨[], _, _, 0, z0, rfl, rfl, rfl, hz0, by omega, HD3.out, fun x hx => (by cases hx), by omega⟩
  case round =>
    obtain ⟨ys, q, l, m, z, rfl, hm, rfl, hz, hz9, hs, hw, hmz⟩ := hrel
    have HD := Lib.hid hs
    have HM := Lib.hid hm
    have HY := Lib.hid hw
    clear hs hw hm
    by_cases h0 : 0 < z
    · go_wp2_with fail
      refine (src_ms w.heap.size w.heap.size wr HD.out.1).mono ?_
      rintro e w4 ⟨s, rfl, hs, hS4, hg4⟩
      have HD4 := Lib.hid (HD.out.src hS4 hg4 hlt2)
      have hsz := Lib.hid HD4.out.2.1.size
      have HY4 : Hid (MsS (ys ++ [s])) := Lib.hid (fun y hy => (List.mem_append.1 hy).elim (HY.out y) (hs y))
      clear hS4 hg4 HD hs HY
      go_wp2_with (at_builtin; refine wpList_plain rfl fun K hK => ?_; refine wp_app_oneM _ _ rfl w2.heap.size _ ys rfl (by rw [HM.out]; exact HD4.out.2.2.alloc _) w4.heap.size s rfl (Arr.fresh w4 41 (msC s)) (by have := HM.out; omega) (by rw [World.size_alloc]; have := hsz.out; omega) ?_; intro v5 w5 hv5 hg5; rw [HM.out] at hg5; have HD5 := Lib.hid (dms_app HD4.out hlt2 hv5 hg5); clear hv5 hg5; refine hK _ _ ?_)
      obtain ⟨q5, l5, e5, hd5⟩ := HD5.out
      subst e5
      have HD6 := Lib.hid hd5
      have HL6 : Hid ((ys ++ [s]).length = m + 1) := Lib.hid (by rw [List.length_append, ← HM.out]; rfl)
      clear hd5 HD5
      obtain ⟨m6, hm6⟩ : ∃ m6, (ys ++ [s]).length = m6 := ⟨_, rfl⟩
      rw [hm6]
      go_roundw
      case rel => exact ⟨ys ++ [s], q5, l5, m6, z - 1, rfl, hm6.symm, by go_num, by omega, by omega, HD6.out, HY4.out, by have := HL6.out; omega⟩
      case measure => simp [intOf]; omega
    · have hz00 : z = 0 := by omega
      subst hz00
      have HB9 := Lib.hid (below_grown (below_grown HB1.out HB1.out.size HS2.out.2.1 (Nat.le_refl _)) (by omega) HD.out.2.1 (Nat.le_refl _))
      have HX9 := Lib.hid (own_grownX HS2.out.2.2 HD.out.2.1 hlt)
      go_wp2_with fail
      exact bodyPost_ret (v := .tuple #[.slice p n k, .slice q m l]) (by simp [results, Try.results22, go_sem]) rfl ⟨⟨xs, p, k, ys, q, l, by rw [HN.out, HM.out], HX9.out.mono HB1.out.size, HD.out.2.2.mono (by omega), HW.out.1, HW.out.2, by have := HM.out; omega, HY.out⟩, HB9.out⟩
end Go.Proofs.Ytpjmcpfmnlfmdaa

namespace Go.Proofs.Ytpjmcpfmnlfmdaa
set_option linter.unusedSimpArgs false
set_option linter.unusedVariables false
open Go.RowKit Go.Joins

theorem hear_in {xs : List ByteArray} {ys : List MsL} {s : MsL} (h : s ∈ hearR xs ys) : s ∈ ys := by
  unfold hearR at h
  split at h
  · cases h
  · exact (List.mem_filter.1 h).1
theorem hear_keep {xs : List ByteArray} {ys : List MsL} {s : MsL} (h : s ∈ hearR xs ys) : keepH xs s = true := by
  unfold hearR at h
  split at h
  · cases h
  · exact (List.mem_filter.1 h).2
theorem hear_again {xs : List ByteArray} {ys : List MsL} (hk : bkB xs = true) (hl : ys.length ≤ 400) : hearR xs (hearR xs ys) = hearR xs ys := by
  have h1 := hear_le xs ys
  have h2 : ∀ s ∈ hearR xs ys, keepH xs s = true := fun s hs => hear_keep hs
  obtain ⟨R, hR⟩ : ∃ R, hearR xs ys = R := ⟨_, rfl⟩
  rw [hR] at h1 h2 ⊢
  unfold hearR
  rw [if_neg (by rw [hk]; simp; omega)]
  exact List.filter_eq_self.2 h2
theorem bk_nil : bkB [] = true := bkB_iff.2 (by
  refine ⟨?_, ?_, ?_⟩ <;> first | exact Nat.zero_le _ | (intro i hi; exact absurd hi (by simp)) | (intro i j; intros; simp_all) | simp)
theorem hear_nil {ys : List MsL} (hl : ys.length ≤ 400) : hearR [] ys = ys := by
  unfold hearR
  rw [if_neg (by rw [bk_nil]; simp; omega)]
  refine List.filter_eq_self.2 fun s _ => ?_
  unfold keepH anyM
  simp
theorem hear_free {xs : List ByteArray} {s : MsL} (hk : keepH xs s = true) (h : stB s.k s.t s.f s.o s.n s.b = true) : blkB xs s.f = false := by
  unfold keepH at hk
  rw [h] at hk
  unfold blkB
  cases h1 : (addrB s.f && anyM xs s.f)
  · simp
  · rw [h1] at hk; cases hk
set_option maxRecDepth 100000 in
set_option maxHeartbeats 8000000 in
theorem heardF_law (w : World) (a0 : Option Addr) (len0 cap0 : Nat) (w0 : SrcRow w w.heap.size a0 len0) (h0 : len0 ≤ 1048576) (hm : MaxL w) :
    Calls Try.prog 4 #[.slice a0 len0 cap0] w fun e w' => e = .returned (.bool true) ∧ Below w.heap.size w w' := by
  have HM := Lib.hid (fun W (h : Below w.heap.size w W) => hm.below h hm.pos)
  have R0 := Lib.hid w0
  clear w0 hm
  go_enter Try.func4, Try.ntmps4
  go_wp2_with fail
  refine (draw_heard a0 len0 cap0 _ h0 R0.out).mono ?_
  rintro e v1 ⟨⟨xs, p, k, ys, q, l, rfl, hx, hy, hxl, hxw, hyl, hyw⟩, hb1⟩
  have HB1 := Lib.hid hb1
  have HX1 := Lib.hid hx
  have HY1 := Lib.hid hy
  have hxw2 : ∀ x ∈ xs, x.size ≤ 1048576 := fun x hx => by have := hxw x hx; omega
  have hyz := hyw.sz
  have hRl := hear_le xs ys
  have hRz : SzM (hearR xs ys) := fun s hs => hyz s (hear_in hs)
  have i1 := fun W hx hy hm => impl_heard xs ys p k q l W (by omega) hxw2 (by omega) hyz hx hy hm
  have i2 := fun W hx hy => spec_heard xs ys p k q l W (by omega) hxw2 (by omega) hyz hx hy
  have i3 := fun W hx => spec_bkright xs p k W (by omega) (tx_two hxw2) hx
  have i4 := fun (j : ByteArray) (hj : j.size ≤ 1048576) W hx hm => impl_blocked xs j p k W (by omega) (by unfold maxLen; omega) (tx_max hxw2) hx hm
  have i5 := fun p2 k2 W hx hy hm => impl_heard xs (hearR xs ys) p k p2 k2 W (by omega) hxw2 (by omega) hRz hx hy hm
  have i6 := fun W hy hm => impl_heard [] ys none 0 q l W (by simp) (fun x hx => by cases hx) (by omega) hyz (fun h => absurd rfl h) hy hm
  have i7 := fun p2 q2 c2 d2 W h1 h2 => lw_ms ys p2 q2 c2 d2 W (by omega) h1 h2
  rw [hear_nil (by omega)] at i6
  have HKA : Hid (bkB xs = true → hearR xs (hearR xs ys) = hearR xs ys) := Lib.hid fun h => hear_again h (by omega)
  have HFR : Hid (∀ s ∈ hearR xs ys, stB s.k s.t s.f s.o s.n s.b = true → blkB xs s.f = false) := Lib.hid fun s hs h => hear_free (hear_keep hs) h
  unfold MlIs at i1 i2 i5 i6
  obtain ⟨R, hR⟩ : ∃ R, hearR xs ys = R := ⟨_, rfl⟩
  rw [hR] at i1 i2 i5 hRl hRz HKA HFR
  have j1 := fun p2 q2 c2 d2 W h1 h2 => lw_ms R p2 q2 c2 d2 W (by omega) h1 h2
  have HRZ := Lib.hid hRz
  obtain ⟨m, hRm⟩ : ∃ m, R.length = m := ⟨_, rfl⟩
  have hm5 : m ≤ 5 := by omega
  have HRM := Lib.hid hRm
  obtain ⟨n, hxn⟩ : ∃ n, xs.length = n := ⟨_, rfl⟩
  obtain ⟨o, hyo⟩ : ∃ o, ys.length = o := ⟨_, rfl⟩
  rw [hxn] at i1 i2 i3 i4 i5 HX1 ⊢
  rw [hyo] at i1 i2 i6 i7 HY1 ⊢
  rw [hRm] at i1 i2 i5 j1
  simp only [List.length_nil] at i6
  clear hb1 hx hy hxl hxw hyl hyw hxw2 hyz hRl hRz hRm hxn hyo h0 hR
  go_wp2_with fail
  go_fit (i1 _ (row_ownX HX1.out) (row_ownM HY1.out) (HM.out _ HB1.out))
  rintro e v2 ⟨⟨p2, k2, rfl, hv⟩, hb⟩
  have HB2 := Lib.hid (HB1.out.trans (hb.mono HB1.out.size))
  have HP2 := Lib.hid (fun W (h : Below v2.heap.size v2 W) => (And.intro (HX1.out.on (hb.trans (h.mono hb.size))) (And.intro (HY1.out.on (hb.trans (h.mono hb.size))) (hv.on h))))
  have HM2 := Lib.hid (fun W (h : Below v2.heap.size v2 W) => HM.out W (HB2.out.trans (h.mono HB2.out.size)))
  have HW2 := Lib.hid (fun W (h : Below v2.heap.size v2 W) => HB2.out.trans (h.mono HB2.out.size))
  clear hb hv HX1 HY1 HB1 HM HB2
  go_wp2_with fail
  go_fit (i2 _ (row_ownX (HP2.out _ (Below.refl _ _)).1) (row_ownM (HP2.out _ (Below.refl _ _)).2.1))
  rintro e v3 ⟨⟨p3, k3, rfl, hv⟩, hb⟩
  have HS3 := Lib.hid hb
  have HV3 := Lib.hid hv
  clear hb hv
  go_wp2_with fail
  go_fit (j1 p2 p3 k2 k3 _ (row_ownM (HP2.out _ HS3.out).2.2) (row_ownM HV3.out))
  rintro e v4 ⟨rfl, hb⟩
  have HS4 := Lib.hid (HS3.out.trans (hb.mono HS3.out.size))
  clear hb HV3 HS3
  cases hk : bkB xs
  · rw [hk] at i3
    clear HKA HFR i1 i4 i5 i6 i7
    go_wp2_with fail
    go_fit (i3 _ (row_ownX (HP2.out _ HS4.out).1))
    rintro e v5 ⟨rfl, hb⟩
    have HS5 := Lib.hid (HS4.out.trans (hb.mono HS4.out.size))
    clear hb HS4
    go_wp2_with fail
    go_fit (i2 _ (row_ownX (HP2.out _ HS5.out).1) (row_ownM (HP2.out _ HS5.out).2.1))
    rintro e v6 ⟨⟨p3, k3, rfl, hv⟩, hb⟩
    have HS6 := Lib.hid (HS5.out.trans (hb.mono HS5.out.size))
    have HV6 := Lib.hid hv
    clear hb hv
    go_wp2_with fail
    go_fit (j1 p2 p3 k2 k3 _ (row_ownM (HP2.out _ HS6.out).2.2) (row_ownM HV6.out))
    rintro e v7 ⟨rfl, hb⟩
    have HS7 := Lib.hid (HS6.out.trans (hb.mono HS6.out.size))
    clear hb
    go_wp2_with fail
    go_ret
    exact ⟨rfl, HW2.out _ HS7.out⟩
  · rw [hk] at i3
    have hka := HKA.out hk
    rw [hka, HRM.out] at i5
    clear HKA i1 i2 hka
    go_wp2_with fail
    go_fit (i3 _ (row_ownX (HP2.out _ HS4.out).1))
    rintro e v5 ⟨rfl, hb⟩
    have HS5 := Lib.hid (HS4.out.trans (hb.mono HS4.out.size))
    clear hb HS4
    go_wp2_with fail
    go_loopw [6] (fun iq wr => ∃ i : Nat, i ≤ m ∧ iq = .int .i64 i ∧ Below v2.heap.size v2 wr) (fun i _ => m - (intOf i).toNat)
    case atStart => exact ⟨0, Nat.zero_le _, rfl, HS5.out⟩
    case round =>
      obtain ⟨i, him, rfl, hb⟩ := hrel
      have HB := Lib.hid hb
      by_cases hlt : i < m
      · have hlt1 : i < R.length := by rw [HRM.out]; exact hlt
        obtain ⟨g, rfl, hg, a0, a1, a2, a3, a4, a5⟩ := row_ms6 (row_ownM (HP2.out _ hb).2.2) hlt1
        obtain ⟨z0, z1, z2, z3, z4⟩ := HRZ.out _ (List.getElem_mem hlt1)
        have hfr := HFR.out _ (List.getElem_mem hlt1)
        obtain ⟨s, hsx⟩ : ∃ s, R[i] = s := ⟨_, rfl⟩
        have HC : Hid (∀ W, Below v2.heap.size v2 W → W.cell? ⟨g, i * 6, none⟩ = some (.string s.k) ∧ W.cell? ⟨g, i * 6 + 1, none⟩ = some (.string s.t) ∧ W.cell? ⟨g, i * 6 + 2, none⟩ = some (.string s.f) ∧ W.cell? ⟨g, i * 6 + 3, none⟩ = some (.string s.o) ∧ W.cell? ⟨g, i * 6 + 4, none⟩ = some (.int .i64 s.n) ∧ W.cell? ⟨g, i * 6 + 5, none⟩ = some (.string s.b)) := Lib.hid (fun W h => by
          obtain ⟨g', e, _, b0, b1, b2, b3, b4, b5⟩ := row_ms6 (row_ownM (HP2.out _ h).2.2) hlt1
          injection e with e
          injection e with e
          subst e
          rw [hsx] at b0 b1 b2 b3 b4 b5
          exact ⟨b0, b1, b2, b3, b4, b5⟩)
        rw [hsx] at a0 a1 a2 a3 a4 a5 z0 z1 z2 z3 z4 hfr
        have s1 := fun W => spec_stright s.k s.t s.f s.o s.n s.b W (by unfold maxLen; omega) (by omega) (by omega) (by unfold maxLen; omega)
        have s2 := fun W h hm => i4 s.f z2 W h hm
        obtain ⟨b1, hb1⟩ : ∃ b, stB s.k s.t s.f s.o s.n s.b = b := ⟨_, rfl⟩
        rw [hb1] at s1 hfr
        clear hb hsx z0 z1 z2 z3 z4 hb1 i3 i4 i5 i6 i7 j1
        cases b1
        · go_wp2_with (go_at_call 26; go_fit (s1 _); rintro e w3 ⟨rfl, hb3⟩; have HB3 := Lib.hid (HB.out.trans (hb3.mono HB.out.size)); clear hb3)
          go_roundw
          case rel => exact ⟨i + 1, by omega, by go_num, HB3.out⟩
          case measure => simp [intOf]; omega
        · rw [hfr rfl] at s2
          go_wp2_with (first
            | (go_at_call 17; have _ := HB3; go_fit (s2 _ (row_ownX (HP2.out _ HB3.out).1) (HM2.out _ HB3.out)); rintro e w4 ⟨rfl, hb4⟩; have HB4 := Lib.hid (HB3.out.trans (hb4.mono HB3.out.size)); clear hb4)
            | (go_at_call 26; go_fit (s1 _); rintro e w3 ⟨rfl, hb3⟩; have HB3 := Lib.hid (HB.out.trans (hb3.mono HB.out.size)); clear hb3; obtain ⟨a0, a1, a2, a3, a4, a5⟩ := HC.out _ HB3.out))
          go_roundw
          case rel => exact ⟨i + 1, by omega, by go_num, HB4.out⟩
          case measure => simp [intOf]; omega
      · clear hb i3 i4
        go_wp2_with fail
        go_fit (i5 p2 k2 _ (row_ownX (HP2.out _ HB.out).1) (row_ownM (HP2.out _ HB.out).2.2) (HM2.out _ HB.out))
        rintro e v6 ⟨⟨p3, k3, rfl, hv⟩, hb⟩
        have HS6 := Lib.hid (HB.out.trans (hb.mono HB.out.size))
        have HV6 := Lib.hid hv
        clear hb hv
        go_wp2_with fail
        go_fit (j1 p3 p2 k3 k2 _ (row_ownM HV6.out) (row_ownM (HP2.out _ HS6.out).2.2))
        rintro e v7 ⟨rfl, hb⟩
        have HS7 := Lib.hid (HS6.out.trans (hb.mono HS6.out.size))
        clear hb HV6
        go_wp2_with fail
        go_fit (i6 _ (row_ownM (HP2.out _ HS7.out).2.1) (HM2.out _ HS7.out))
        rintro e v8 ⟨⟨p4, k4, rfl, hv⟩, hb⟩
        have HS8 := Lib.hid (HS7.out.trans (hb.mono HS7.out.size))
        have HV8 := Lib.hid hv
        clear hb hv
        go_wp2_with fail
        go_fit (i7 p4 q k4 l _ (row_ownM HV8.out) (row_ownM (HP2.out _ HS8.out).2.1))
        rintro e v9 ⟨rfl, hb⟩
        have HS9 := Lib.hid (HS8.out.trans (hb.mono HS8.out.size))
        clear hb HV8
        go_wp2_with fail
        go_ret
        exact ⟨rfl, HW2.out _ HS9.out⟩
end Go.Proofs.Ytpjmcpfmnlfmdaa
