/- A block list's patterns, one after another (a range over a function). -/
import Derived.RangeFuncNested
import Derived.RangeFuncBound
import Derived.RangeFuncCalls
import Derived.RangeFuncLeaves
import Derived.Shelf.Abstract
import Derived.Shelf.RegionOpen
import Derived.OwnWalkIn
import Derived.TacticsInMore
import Derived.LoopNIn
import Derived.LoopIn
import Derived.Test.YtpjmcpfmnlfmdaaBkLawR
import Derived.Test.YtpjmcpfmnlfmdaaJidMatch
namespace Go.Proofs.Ytpjmcpfmnlfmdaa
set_option linter.unusedSimpArgs false
set_option linter.unusedVariables false
open Go.RowKit Go.Joins
attribute [local go_sem] Oper.semAt_some

/-- The parts of an address that is read. -/
noncomputable def rdL (s : ByteArray) : ByteArray := if 20000 < s.size then ⟨#[]⟩ else if goodR s.data.toList = true then strOf (readL s.data.toList).1 else ⟨#[]⟩
noncomputable def rdD (s : ByteArray) : ByteArray := if 20000 < s.size then ⟨#[]⟩ else if goodR s.data.toList = true then strOf (readL s.data.toList).2.1 else ⟨#[]⟩
noncomputable def rdR (s : ByteArray) : ByteArray := if 20000 < s.size then ⟨#[]⟩ else if goodR s.data.toList = true then strOf (readL s.data.toList).2.2 else ⟨#[]⟩
noncomputable def rdC (s : ByteArray) : Int := if 20000 < s.size then 2 else if goodR s.data.toList = true then 0 else 3
theorem rd_eq (s : ByteArray) : jidReadV s = jo (rdL s) (rdD s) (rdR s) (rdC s) := by
  unfold jidReadV rdL rdD rdR rdC
  split
  · rfl
  · split <;> rfl
theorem str_size (l : List UInt8) : (strOf l).size = l.length := by unfold strOf; simp [ByteArray.size]
theorem rd_sizes (s : ByteArray) : (rdL s).size ≤ maxLen ∧ (rdD s).size ≤ maxLen ∧ (rdR s).size ≤ maxLen := by
  have hz : (⟨#[]⟩ : ByteArray).size ≤ maxLen := Nat.zero_le _
  unfold rdL rdD rdR
  by_cases h : 20000 < s.size
  · rw [if_pos h, if_pos h, if_pos h]; exact ⟨hz, hz, hz⟩
  · rw [if_neg h, if_neg h, if_neg h]
    by_cases h2 : goodR s.data.toList = true
    · rw [if_pos h2, if_pos h2, if_pos h2, str_size, str_size, str_size]
      have := read_le s.data.toList
      rw [size_data] at this
      unfold maxLen
      omega
    · rw [if_neg h2, if_neg h2, if_neg h2]; exact ⟨hz, hz, hz⟩
/-- A pattern. -/
abbrev PtL := { q : ByteArray × ByteArray × ByteArray // q.1.size ≤ maxLen ∧ q.2.1.size ≤ maxLen ∧ q.2.2.size ≤ maxLen }
noncomputable def ptOf (s : ByteArray) : PtL := ⟨(rdL s, rdD s, rdR s), rd_sizes s⟩
def ptV (x : PtL) : Value := .agg #[.string x.1.1, .string x.1.2.1, .string x.1.2.2]
/-- The row of a slice below a bound. -/
def RowB (B : Nat) (W : World) (p : Option Addr) (xs : List ByteArray) : Prop := xs ≠ [] → ∃ g, p = some ⟨g, 0, none⟩ ∧ g < B ∧ ∀ i (h : i < xs.length), W.cell? ⟨g, i, none⟩ = some (.string xs[i])
theorem RowB.below {B : Nat} {W W2 : World} {p : Option Addr} {xs : List ByteArray} (h : RowB B W p xs) (hb : Below B W W2) : RowB B W2 p xs := by
  intro hx
  obtain ⟨g, h1, h2, h3⟩ := h hx
  exact ⟨g, h1, h2, fun i hi => (hb.cell (p := ⟨g, i, none⟩) h2).trans (h3 i hi)⟩
theorem RowB.of {W : World} {p : Option Addr} {xs : List ByteArray} (h : RowC strC 1 W p xs) : RowB W.heap.size W p xs := by
  intro hx
  obtain ⟨g, h1, h2, h3⟩ := h hx
  refine ⟨g, h1, h2, fun i hi => ?_⟩
  have := h3 i hi 0 (by decide)
  rw [Nat.mul_one, Nat.add_zero] at this
  exact this
set_option maxRecDepth 100000 in
set_option maxHeartbeats 2000000 in
theorem jid_field7 (l d r : ByteArray) (c : Int) (W : World) : (Instr.field 71 (.agg #[.string l, .string d, .string r, .int .i64 c]) 0).run Try.prog W = .ok (.agg #[.string l, .string d, .string r]) W := by kernel_rfl
set_option maxRecDepth 100000 in
set_option maxHeartbeats 2000000 in
theorem pat_in (n l Bn n₀ : Nat) (p : Option Addr) (c : Nat) (xs : List ByteArray) (hn : 1 ≤ n) (hl : xs.length ≤ 1048576) (hw : ∀ x ∈ xs, x.size ≤ maxLen) (J Jx : List PtL → World → Prop)
    (hY : ∀ pre x W, J pre W → pre.length < xs.length → YieldAt Fence.wide (n - 1) Try.prog l #[ptV x] W fun e W' =>
      (e = .returned (.bool true) ∧ J (pre ++ [x]) W' ∧ Below n₀ W W') ∨ (e = .returned (.bool false) ∧ Jx (pre ++ [x]) W'))
    (W : World) (hn₀ : n₀ ≤ W.heap.size) (hJ : ∀ pre W1 W2, J pre W1 → W.heap.size ≤ W1.heap.size → Below W1.heap.size W1 W2 → J pre W2) (hBn : W.cell? ⟨Bn, 0, none⟩ = some (.slice p xs.length c)) (hR : RowB n₀ W p xs) (hm : ∀ W1, Below n₀ W W1 → MaxL W1) (h0 : J [] W) :
    CallsIn Fence.wide n Try.prog 97 #[.func (.yield l) #[] #[], .pointer (some ⟨Bn, 0, none⟩)] W fun e W' => (∃ v, e = .returned v) ∧
      ((∃ ys, ys = xs.map ptOf ∧ J ys W') ∨ (∃ pre, pre <+: xs.map ptOf ∧ Jx pre W')) := by
  obtain ⟨m, hxm⟩ : ∃ m, xs.length = m := ⟨_, rfl⟩
  have HN := Lib.hid hxm
  have HR := Lib.hid hR
  have HM := Lib.hid hm
  have HW := Lib.hid hw
  have HJ := Lib.hid hJ
  have HY := Lib.hid hY
  have HK := Lib.hid hn₀
  rw [hxm] at hl hBn
  clear hR hm hw hJ hY hxm hn₀
  refine callsIn_of_wp Try.func97 rfl trivial ?_ rfl
  simp only [Try.ntmps97, List.size_toArray, List.length_cons, List.length_nil, Nat.reduceAdd, Nat.reduceSub, Array.replicate_succ, Array.replicate_zero, List.push_toArray, List.append_toArray, List.nil_append, List.cons_append]
  gi_wp2
  gi_loopw [7] (fun iq wr => ∃ k : Nat, k ≤ m ∧ iq = .int .i64 k ∧ J ((xs.take k).map ptOf) wr ∧ Below n₀ W wr) (fun iq wr => m - (intOf iq).toNat)
  case atStart => exact ⟨0, Nat.zero_le _, rfl, h0, Below.refl _ _⟩
  case round =>
    obtain ⟨k, hk, rfl, hJk, hb⟩ := hrel
    have HB := Lib.hid hb
    have HJk := Lib.hid hJk
    clear hJk
    by_cases hlt : k < m
    · have hlt1 : k < xs.length := by rw [HN.out]; exact hlt
      obtain ⟨g, rfl, hg, hc⟩ := (HR.out.below hb) (List.ne_nil_of_length_pos (by omega))
      have a0 := hc k hlt1
      have hxw := HW.out _ (List.getElem_mem hlt1)
      obtain ⟨x, hx⟩ : ∃ x, xs[k] = x := ⟨_, rfl⟩
      have HT : Hid ((xs.take (k + 1)).map ptOf = (xs.take k).map ptOf ++ [ptOf x]) := Lib.hid (by rw [List.take_succ_eq_append_getElem hlt1, hx, List.map_append]; rfl)
      have HL : Hid (((xs.take k).map ptOf).length < xs.length) := Lib.hid (by rw [List.length_map, List.length_take]; omega)
      rw [hx] at a0 hxw
      have i1 := fun W hm => impl_read x W hxw hm
      rw [rd_eq] at i1
      unfold jo at i1
      have fld := fun W => jid_field7 (rdL x) (rdD x) (rdR x) (rdC x) W
      have HS : Hid (W.heap.size ≤ wr.heap.size) := Lib.hid hb.size
      clear hb hc hx hxw
      gi_wp2_with (refine ⟨trivial, ?_⟩; gi_at_call 56; refine (callsIn_wide.2 (i1 _ (HM.out _ HB.out))).mono ?_; rintro e w1 ⟨rfl, hb1⟩; have HB1 := Lib.hid (HB.out.trans (hb1.mono (Nat.le_trans HK.out HS.out))); have HJ1 := Lib.hid (HJ.out _ _ _ HJk.out HS.out hb1); clear hb1; obtain ⟨fn, tmps, assign, body, hy, hRd⟩ := HY.out _ (ptOf x) w1 HJ1.out HL.out; unfold ptV ptOf at hy; dsimp only at hy)
      refine hRd.mono ?_
      rintro e W3 (⟨rfl, hJ3, hk3⟩ | ⟨rfl, hx3⟩)
      · rw [← HT.out] at hJ3
        have HJ3 := Lib.hid hJ3
        have HB3 := Lib.hid (HB1.out.trans hk3)
        clear hJ3 hk3
        gi_wp2
        go_roundw
        case rel => exact ⟨k + 1, by omega, by go_num, HJ3.out, HB3.out⟩
        case measure => simp [intOf]; omega
      · gi_wp2
        refine bodyPost_ret (results_none rfl _ _ _) rfl ?_
        rw [← HT.out] at hx3
        refine ⟨⟨_, rfl⟩, .inr ⟨_, ?_, hx3⟩⟩
        rw [List.map_take]
        exact List.take_prefix _ _
    · obtain rfl : k = m := by omega
      have HT : Hid (xs.take k = xs) := Lib.hid (List.take_of_length_le (by rw [HN.out]; exact Nat.le_refl _))
      clear hb
      gi_wp2
      go_end0
      have hj := HJk.out
      rw [HT.out] at hj
      exact ⟨⟨_, rfl⟩, .inl ⟨_, rfl, hj⟩⟩
theorem pats_stops (n : Nat) (hn : 1 ≤ n) (Bn n₀ : Nat) (p : Option Addr) (c : Nat) (xs : List ByteArray) (w : World) (hl : xs.length ≤ 1048576) (hw : ∀ x ∈ xs, x.size ≤ maxLen) (hBn : Bn < w.heap.size) (hn₀ : n₀ ≤ w.heap.size)
    (hc : w.cell? ⟨Bn, 0, none⟩ = some (.slice p xs.length c)) (hR : RowB n₀ w p xs) (hm : ∀ W1, Below n₀ w W1 → MaxL W1) :
    SeqStopsK Fence.wide n Try.prog 97 #[.pointer (some ⟨Bn, 0, none⟩)] (fun x : PtL => #[ptV x]) (Below n₀) (fun ys => ys = xs.map ptOf) (fun pre => pre <+: xs.map ptOf) xs.length w := fun l J Jx W hW hJ _ hY h0 =>
  pat_in n l Bn n₀ p c xs hn hl hw J Jx hY W (Nat.le_trans hn₀ hW.size) (fun pre W1 W2 h hs hb => hJ pre W1 W2 none h ⟨hb.os, hb.tape, hb.output, hb.size, fun i hi _ => hb.block i hi⟩ (fun r e => by cases e))
    ((hW.cell (p := ⟨Bn, 0, none⟩) hBn).trans hc) (hR.below (hW.mono hn₀)) (fun W1 h => hm W1 ((hW.mono hn₀).trans h)) h0
theorem impl_pats (v : Value) (hv : ∃ p m c, v = .slice p m c) (w : World) : Calls Try.prog 79 #[v] w fun e w' => e = .returned (.func (.func 97) #[] #[.pointer (some ⟨w.heap.size, 0, none⟩)]) ∧ w' = w.alloc (.cells #[v] 23) := by
  obtain ⟨p, m, c, rfl⟩ := hv
  go_enter Try.func79, Try.ntmps79
  go_wp2
  go_ret
  exact ⟨rfl, rfl⟩
theorem impl_pmatch (l d r x y z : ByteArray) (w : World) (hl : l.size ≤ maxLen) (hd : d.size ≤ maxLen) (hr : r.size ≤ maxLen) (hx : x.size ≤ maxLen) (hy : y.size ≤ maxLen) (hz : z.size ≤ maxLen) (hm : MaxL w) :
    Calls Try.prog 55 #[.agg #[.string l, .string d, .string r], .agg #[.string x, .string y, .string z]] w fun e w' => e = .returned (.bool (matchJ l d r x y z)) ∧ Below w.heap.size w w' := by
  have i1 := fun W hm => impl_match l d r x y z W hl hd hr hx hy hz hm
  have HM := Lib.hid (fun W (h : Below w.heap.size w W) => hm.below h hm.pos)
  have HB : Hid (Below w.heap.size w ((w.alloc (.cells #[.string l, .string d, .string r] 68)).alloc (.cells #[.string x, .string y, .string z] 69))) := Lib.hid (((Below.refl _ _).alloc (Nat.le_refl _) _).alloc (by simp) _)
  clear hl hd hr hx hy hz hm
  go_enter Try.func55, Try.ntmps55
  go_wp2_with (go_at_call 80; go_fit (i1 _ (HM.out _ HB.out)); rintro e w1 ⟨rfl, hb⟩)
  go_ret
  exact ⟨rfl, HB.out.trans (hb.mono HB.out.size)⟩
theorem arr9_ltB {w : World} {b t : Nat} {cs : List Value} (h : Arr w b t cs) : b < w.heap.size := (Array.getElem?_eq_some_iff.1 h).1
theorem arr_own {β : Type} (b t : Nat) (f : β → List Value) : Own (fun s W => Arr W b t (f s)) := fun s X Y row hs hg hr =>
  (hg.block b (arr9_ltB hs) (fun e => by obtain ⟨o, ho, hc⟩ := hr b e.symm; unfold Arr at hs; rw [hs] at ho; cases ho; cases hc)).trans hs
/-- The boxes of anyPasses: the test, the address, the answer. -/
def ApB (w W : World) (x y z : ByteArray) (r : Bool) : Prop := (Arr W w.heap.size 65 [.func (.func 55) #[] #[]] ∧ Arr W (w.heap.size + 1) 69 [.string x, .string y, .string z] ∧ Arr W (w.heap.size + 1 + 1) 4 [.bool r]) ∧ Below w.heap.size w W
theorem ApB.on {w W W2 : World} {x y z : ByteArray} {r : Bool} (h : ApB w W x y z r) (hb : Below W.heap.size W W2) : ApB w W2 x y z r :=
  ⟨⟨(hb.block _ (arr9_ltB h.1.1)).trans h.1.1, (hb.block _ (arr9_ltB h.1.2.1)).trans h.1.2.1, (hb.block _ (arr9_ltB h.1.2.2)).trans h.1.2.2⟩, h.2.trans (hb.mono h.2.size)⟩
theorem apB_start (w : World) (x y z : ByteArray) : ApB w (((w.alloc (.cells #[.func (.func 55) #[] #[]] 65)).alloc (.cells #[.string x, .string y, .string z] 69)).alloc (.cells #[.bool false] 4)) x y z false := by
  have h1 := Arr.fresh (w.alloc (.cells #[.func (.func 55) #[] #[]] 65)) 69 [.string x, .string y, .string z]
  have h2 := Arr.fresh ((w.alloc (.cells #[.func (.func 55) #[] #[]] 65)).alloc (.cells #[.string x, .string y, .string z] 69)) 4 [.bool false]
  simp only [World.size_alloc] at h1 h2
  have al : ∀ (W : World) (o : Obj), Below W.heap.size W (W.alloc o) := fun W o => (Below.refl _ _).alloc (Nat.le_refl _) _
  have on : ∀ {W W1 : World} {b t : Nat} {cs : List Value}, Arr W b t cs → Below W.heap.size W W1 → Arr W1 b t cs := fun h hb => (hb.block _ (arr9_ltB h)).trans h
  exact ⟨⟨on (on (Arr.fresh w 65 [.func (.func 55) #[] #[]]) (al _ _)) (al _ _), on h1 (al _ _), h2⟩, (((Below.refl _ _).alloc (Nat.le_refl _) _).alloc (by simp) _).alloc (by simp; omega) _⟩
theorem apB_own (w : World) (x y z : ByteArray) (r : Bool) (B : Nat) (hB : w.heap.size ≤ B) {β : Type} : OwnFrom B (fun (_ : β) W => ApB w W x y z r) :=
  OwnFrom.and (Own.from (fun s A B row hs hg hr => ⟨arr_own _ _ (fun _ : β => [Value.func (.func 55) #[] #[]]) s A B row hs.1 hg hr, arr_own _ _ (fun _ : β => [Value.string x, .string y, .string z]) s A B row hs.2.1 hg hr, arr_own _ _ (fun _ : β => [Value.bool r]) s A B row hs.2.2 hg hr⟩) _) (ownFrom_below (Nat.le_refl _) hB)
noncomputable def hitP (x y z : ByteArray) (q : PtL) : Bool := matchJ q.1.1 q.1.2.1 q.1.2.2 x y z
theorem hit_any (xs : List ByteArray) (x y z : ByteArray) : (xs.any fun s => matchJ (rdL s) (rdD s) (rdR s) x y z) = (xs.map ptOf).any (hitP x y z) := by
  rw [List.any_map]
  rfl
theorem keeps_below {B : Nat} {W W2 : World} (h : Below W.heap.size W W2) : KeepsFrom B W W2 := ⟨h.size, fun k o _ hk _ => (h.block k (Array.getElem?_eq_some_iff.1 hk).1).trans hk⟩
theorem ApB.put {w W : World} {x y z : ByteArray} {r : Bool} (h : ApB w W x y z r) (s : Bool) : ApB w (W.setCell ⟨w.heap.size + 1 + 1, 0, none⟩ (.bool s)) x y z s :=
  ⟨⟨(heap_setCell_other W ⟨w.heap.size + 1 + 1, 0, none⟩ w.heap.size (.bool s) (by show w.heap.size ≠ w.heap.size + 1 + 1; omega)).trans h.1.1, (heap_setCell_other W ⟨w.heap.size + 1 + 1, 0, none⟩ (w.heap.size + 1) (.bool s) (by show w.heap.size + 1 ≠ w.heap.size + 1 + 1; omega)).trans h.1.2.1, h.1.2.2.put 0 _⟩, h.2.setCell (p := ⟨w.heap.size + 1 + 1, 0, none⟩) (by show w.heap.size ≤ w.heap.size + 1 + 1; omega) _⟩
theorem ApB.cells {w W : World} {x y z : ByteArray} {r : Bool} (h : ApB w W x y z r) : W.cell? ⟨w.heap.size, 0, none⟩ = some (.func (.func 55) #[] #[]) ∧ W.cell? ⟨w.heap.size + 1, 0, none⟩ = some (.string x) ∧ W.cell? ⟨w.heap.size + 1, 1, none⟩ = some (.string y) ∧ W.cell? ⟨w.heap.size + 1, 2, none⟩ = some (.string z) ∧ W.cell? ⟨w.heap.size + 1 + 1, 0, none⟩ = some (.bool r) ∧ W.frozen? ⟨w.heap.size + 1 + 1, 0, none⟩ = false :=
  ⟨h.1.1.cell 0, h.1.2.1.cell 0, h.1.2.1.cell 1, h.1.2.1.cell 2, h.1.2.2.cell 0, h.1.2.2.free 0⟩
set_option maxRecDepth 100000 in
set_option maxHeartbeats 4000000 in
theorem impl_anyp (xs : List ByteArray) (p : Option Addr) (c : Nat) (x y z : ByteArray) (w : World) (hl : xs.length ≤ 1048576) (hw : ∀ x ∈ xs, x.size ≤ maxLen) (hR : RowC strC 1 w p xs) (hm : MaxL w) (hx : x.size ≤ maxLen) (hy : y.size ≤ maxLen) (hz : z.size ≤ maxLen) :
    Calls Try.prog 54 #[.slice p xs.length c, .func (.func 55) #[] #[], .agg #[.string x, .string y, .string z]] w fun e w' => e = .returned (.bool (xs.any fun s => matchJ (rdL s) (rdD s) (rdR s) x y z)) ∧ Below w.heap.size w w' := by
  have HR := Lib.hid (RowB.of hR)
  have HW := Lib.hid hw
  have HL := Lib.hid hl
  have HM := Lib.hid (fun W (h : Below w.heap.size w W) => hm.below h hm.pos)
  have HS := Lib.hid (apB_start w x y z)
  obtain ⟨n, hxn⟩ : ∃ n, xs.length = n := ⟨_, rfl⟩
  have HN := Lib.hid hxn
  have i1 := fun W => impl_pats (.slice p n c) ⟨p, n, c, rfl⟩ W
  have i2 := fun (q : PtL) W hm => impl_pmatch q.1.1 q.1.2.1 q.1.2.2 x y z W q.2.1 q.2.2.1 q.2.2.2 hx hy hz hm
  rw [hxn] at hl ⊢
  clear hR hw hm hxn hx hy hz
  refine (callsIn_wide (n := 3)).1 ?_
  refine callsIn_of_wp_marks Try.func54 rfl trivial ?_ rfl
  simp only [Try.ntmps54, List.size_toArray, List.length_cons, List.length_nil, Nat.reduceAdd, Nat.reduceSub, Array.replicate_succ, Array.replicate_zero, List.push_toArray, List.append_toArray, List.nil_append, List.cons_append]
  gi_wp2_with (refine ⟨trivial, ?_⟩; gi_at_call 79; refine (callsIn_wide.2 (i1 _)).mono ?_; rintro e w' ⟨rfl, rfl⟩)
  obtain ⟨W0, hW0⟩ : ∃ W0, ((((w.alloc (.cells #[.func (.func 55) #[] #[]] 65)).alloc (.cells #[.string x, .string y, .string z] 69)).alloc (.cells #[.bool false] 4)).alloc (.cells #[.slice p n c] 23)) = W0 := ⟨_, rfl⟩
  have hs0 : W0.heap.size = w.heap.size + 1 + 1 + 1 + 1 := by rw [← hW0]; simp
  have hS0 : ApB w W0 x y z false := by rw [← hW0]; exact HS.out.on ((Below.refl _ _).alloc (Nat.le_refl _) _)
  have hB0 : W0.cell? ⟨w.heap.size + 1 + 1 + 1, 0, none⟩ = some (.slice p n c) := by
    have := (Arr.fresh (((w.alloc (.cells #[.func (.func 55) #[] #[]] 65)).alloc (.cells #[.string x, .string y, .string z] 69)).alloc (.cells #[.bool false] 4)) 23 [.slice p n c]).cell 0
    simp only [World.size_alloc] at this
    rw [← hW0]
    exact this
  rw [hW0]
  have HS0 := Lib.hid hS0
  clear hW0 HS hS0
  refine wpIn_rangeFunc_ownH rfl (by decide) (gf := 97) (lb := #[.pointer (some ⟨w.heap.size + 1 + 1 + 1, 0, none⟩)]) rfl trivial (enters_of Try.func97 (by kernel_rfl) rfl)
    (pats_stops (3 - 1) (by decide) (w.heap.size + 1 + 1 + 1) w.heap.size p c xs W0 HL.out HW.out (by omega) (by omega) (by rw [HN.out]; exact hB0) (HR.out.below HS0.out.2) (fun W1 h => HM.out _ (HS0.out.2.trans h))) belowK_t (belowK_b (by omega)) (Below.refl _ _) (fun _ => rfl)
    (fun pre W => (∀ q ∈ pre, hitP x y z q = false) ∧ ApB w W x y z false)
    (fun cd pre W => (cd = .ret ∧ ∃ q ∈ pre, hitP x y z q = true) ∧ ApB w W x y z true)
    (OwnFrom.and (fun s A B row hs _ _ => hs) (apB_own w x y z false _ (by omega)))
    (fun cd => OwnFrom.and (fun s A B row hs _ _ => hs) (apB_own w x y z true _ (by omega)))
    ⟨fun q hq => (by cases hq), HS0.out⟩
    (fun q a' W => ∃ Bx, Arr W Bx 68 [.string q.1.1, .string q.1.2.1, .string q.1.2.2] ∧ a' = { tmps := #[.slice p n c, .func (.func 55) #[] #[], .agg #[.string x, .string y, .string z], undef, .pointer (some ⟨w.heap.size, 0, none⟩), .pointer (some ⟨w.heap.size + 1, 0, none⟩), .pointer (some ⟨w.heap.size + 1 + 1, 0, none⟩), .pointer (some ⟨Bx, 0, none⟩), .slice p n c, .func (.func 97) #[] #[.pointer (some ⟨w.heap.size + 1 + 1 + 1, 0, none⟩)], .agg #[.string q.1.1, .string q.1.2.1, .string q.1.2.2], undef, undef, undef, undef], defers := [] })
    (fun q a' s A B row hs hg hr => by obtain ⟨Bx, h1, h2⟩ := hs; exact ⟨Bx, arr_own Bx _ (fun _ : Unit => [Value.string q.1.1, .string q.1.2.1, .string q.1.2.2]) () A B row h1 hg (fun r e => (hr r e).2), h2⟩)
    ?assign ?body ?done ?stop
  case assign =>
    rintro l pre q W K hI hK
    have hle : w.heap.size ≤ W.heap.size := hI.2.2.size
    have hf := Arr.fresh W 68 [.string q.1.1, .string q.1.2.1, .string q.1.2.2]
    have hon := hI.2.on ((Below.refl _ _).alloc (Nat.le_refl _) (.cells #[.string q.1.1, .string q.1.2.1, .string q.1.2.2] 68))
    unfold ptV
    gi_wp2
    exact hK _ _ ((KeepsOthers.alloc W _).from _) ((Below.refl _ _).alloc hle _) ⟨hI.1, hon⟩ ⟨W.heap.size, hf, rfl⟩
  case body =>
    rintro l pre q a' W hl2 hrec ⟨hp, hS⟩ ⟨Bx, hA, rfl⟩ hlen
    have HSb := Lib.hid hS
    have HP := Lib.hid hp
    obtain ⟨c0, c1, c2, c3, c4, c5⟩ := hS.cells
    have d0 := hA.cell 0
    have d1 := hA.cell 1
    have d2 := hA.cell 2
    simp only [List.getElem?_cons_zero, List.getElem?_cons_succ] at d0 d1 d2
    have i3 := i2 q
    obtain ⟨b, hb⟩ : ∃ b, hitP x y z q = b := ⟨_, rfl⟩
    have HBQ := Lib.hid hb
    unfold hitP at hb
    rw [hb] at i3
    have hd : 1 ≤ 3 - 1 - 1 := by decide
    have hmx : Try.prog.follows .mixedOrders = true := by kernel_rfl
    clear hp hS hA hb i2 hlen hrec hl2
    cases b
    · gi_wp2_with (refine ⟨trivial, ?_⟩; gi_at_call 55; refine (CallsIn.inRound l (callsIn_wide.2 (i3 _ (HM.out _ HSb.out.2)))).mono ?_; rintro e w1 ⟨rfl, hb1⟩; have HB1 := Lib.hid hb1; clear hb1)
      refine ⟨keeps_below HB1.out, HB1.out.mono HSb.out.2.size, fun q' hq' => ?_, HSb.out.on HB1.out⟩
      rcases List.mem_append.1 hq' with h | h
      · exact HP.out q' h
      · obtain rfl := List.mem_singleton.1 h
        exact HBQ.out
    · gi_wp2_with (refine ⟨trivial, ?_⟩; gi_at_call 55; refine (CallsIn.inRound l (callsIn_wide.2 (i3 _ (HM.out _ HSb.out.2)))).mono ?_; rintro e w1 ⟨rfl, hb1⟩; have HB1 := Lib.hid hb1; have HS1 := Lib.hid (HSb.out.on hb1); clear hb1; obtain ⟨c0, c1, c2, c3, c4, c5⟩ := HS1.out.cells)
      exact ⟨(keeps_below HB1.out).trans ((KeepsOthers.setCell _ _ _).from _), ⟨rfl, q, List.mem_append.2 (.inr (List.mem_singleton.2 rfl)), HBQ.out⟩, HS1.out.put true⟩
  case done =>
    rintro D ys W hD rfl ⟨hne, hS⟩ hK
    have HSd := Lib.hid hS
    obtain ⟨c0, c1, c2, c3, c4, c5⟩ := hS.cells
    have hany : (xs.any fun s => matchJ (rdL s) (rdD s) (rdR s) x y z) = false := by
      rw [hit_any, List.any_eq_false]
      intro q hq
      rw [hne q hq]
      decide
    have HANY := Lib.hid hany
    have HK := Lib.hid hK
    clear hany hS hne hK i2
    gi_wp2
    have hK' := (KeepsOthers.setCell W ⟨w.heap.size + 1 + 1, 0, none⟩ (.bool false)).same D _ HK.out rfl
    have hP := HSd.out.put false
    have hc5 := cell_kept (hP.1.2.2.cell 0) (grownBy_putObj' _ D (.deferred none)) (fun r e => by cases e; exact ⟨_, hK', rfl⟩)
    refine ⟨by simp, .inl ⟨_, _, rfl, run_takeDeferred hK', ?_⟩⟩
    refine ⟨.bool false, ?_, by rw [HANY.out], hP.2.trans (belowK_b (w := w) (Nat.le_refl _) _ D _ _ (by omega) hK' rfl rfl)⟩
    simp [results, Try.results54, go_sem, hc5]
  case stop =>
    rintro D cd pre W hD hpre ⟨⟨rfl, q, hq, hh⟩, hS⟩ hK
    have HSd := Lib.hid hS
    obtain ⟨c0, c1, c2, c3, c4, c5⟩ := hS.cells
    have hany : (xs.any fun s => matchJ (rdL s) (rdD s) (rdR s) x y z) = true := by
      rw [hit_any, List.any_eq_true]
      exact ⟨q, hpre.subset hq, hh⟩
    have HANY := Lib.hid hany
    have HK := Lib.hid hK
    clear hany hS hq hh hpre hK i2
    gi_wp2
    have hc5 := cell_kept (HSd.out.1.2.2.cell 0) (grownBy_putObj' _ D (.deferred none)) (fun r e => by cases e; exact ⟨_, HK.out, rfl⟩)
    refine ⟨by simp, .inl ⟨_, _, rfl, run_takeDeferred HK.out, ?_⟩⟩
    refine ⟨.bool true, ?_, by rw [HANY.out], HSd.out.2.trans (belowK_b (w := w) (Nat.le_refl _) _ D _ _ (by omega) HK.out rfl rfl)⟩
    simp [results, Try.results54, go_sem, hc5]
end Go.Proofs.Ytpjmcpfmnlfmdaa
