/- Several parts in one text: BkRight, BkMath, SeCopy, BkOps, BkLawR, BkAddI, BkSpec, BkAdd, BkOutL, DrawBase, EdgeBase, PickDraws, BkDraw, BkIns, SeLw, JidLawBits, JidLess, JidMatch, BkIter, BkLw, BkBlk, BkFnB. -/
import Derived.Test.YtpjmcpfmnlfmdaaHGC
import Derived.Test.YtpjmcpfmnlfmdaaHGB
import Derived.Test.YtpjmcpfmnlfmdaaHGA
import Derived.Deep.DeepFit
import Derived.OwnWalk
import Derived.Laws.AppendOwn
import Derived.Test.YtpjmcpfmnlfmdaaShelfB
import Derived.Test.YtpjmcpfmnlfmdaaChecked
import Derived.Deep.QuietTactic
import Derived.BigQuiet
import Derived.RegionTactic
import Derived.IntWalk
import Derived.RangeFuncNested
import Derived.RangeFuncBound
import Derived.RangeFuncCalls
import Derived.RangeFuncLeaves
import Derived.Shelf.Abstract
import Derived.Shelf.RegionOpen
import Derived.OwnWalkIn
import Derived.TacticsInMore
import Derived.LoopNIn
import Derived.LoopIn
namespace Go.Proofs.Ytpjmcpfmnlfmdaa
set_option linter.unusedSimpArgs false
set_option linter.unusedVariables false
open Go.RowKit Go.Joins

theorem row_tx {w : World} {p : Option Addr} {xs : List ByteArray} (h : RowC strC 1 w p xs) {i : Nat} (hi : i < xs.length) : ∃ g, p = some ⟨g, 0, none⟩ ∧ g < w.heap.size ∧ w.cell? ⟨g, i, none⟩ = some (.string xs[i]) := by
  obtain ⟨g, h1, h2, h3⟩ := h (List.ne_nil_of_length_pos (by omega))
  refine ⟨g, h1, h2, ?_⟩
  have := h3 i hi 0 (by decide)
  rw [Nat.mul_one, Nat.add_zero] at this
  exact this
def IncT (xs : List ByteArray) (n : Nat) : Prop := ∀ i (h : i < xs.length), 0 < i → i < n → ∀ h' : i - 1 < xs.length, Op.bytesLess xs[i - 1].toList xs[i].toList = true
def AllT (xs : List ByteArray) (n : Nat) : Prop := ∀ i (h : i < xs.length), i < n → addrB xs[i] = true
theorem incT_zero (xs : List ByteArray) : IncT xs 1 := fun i _ h0 h1 => by omega
theorem incT_0 (xs : List ByteArray) : IncT xs 0 := fun i _ h0 h1 => by omega
theorem allT_0 (xs : List ByteArray) : AllT xs 0 := fun i _ h1 => by omega
theorem incT_succ {xs : List ByteArray} {k : Nat} (h : IncT xs k) (hk : k < xs.length) (hl : 0 < k → ∀ h' : k - 1 < xs.length, Op.bytesLess xs[k - 1].toList xs[k].toList = true) : IncT xs (k + 1) := by
  intro i hi h0 h1 h'
  by_cases e : i = k
  · subst e; exact hl h0 h'
  · exact h i hi h0 (by omega) h'
theorem allT_succ {xs : List ByteArray} {k : Nat} (h : AllT xs k) (hk : k < xs.length) (hl : addrB xs[k] = true) : AllT xs (k + 1) := by
  intro i hi h1
  by_cases e : i = k
  · subst e; exact hl
  · exact h i hi (by omega)
open Classical in
noncomputable def incTB (xs : List ByteArray) : Bool := decide (IncT xs xs.length)
theorem incTB_true {xs : List ByteArray} (h : IncT xs xs.length) : incTB xs = true := by unfold incTB; simpa using h
theorem incTB_false {xs : List ByteArray} (h : ¬ IncT xs xs.length) : incTB xs = false := by unfold incTB; simpa using h
theorem incTB_iff {xs : List ByteArray} : incTB xs = true ↔ IncT xs xs.length := by unfold incTB; simp
def BkR (xs : List ByteArray) : Prop := xs.length ≤ 8 ∧ IncT xs xs.length ∧ AllT xs xs.length
open Classical in
noncomputable def bkB (xs : List ByteArray) : Bool := decide (BkR xs)
theorem bkB_true {xs : List ByteArray} (h : BkR xs) : bkB xs = true := by unfold bkB; simpa using h
theorem bkB_false {xs : List ByteArray} (h : ¬ BkR xs) : bkB xs = false := by unfold bkB; simpa using h
theorem bkB_iff {xs : List ByteArray} : bkB xs = true ↔ BkR xs := by unfold bkB; simp
theorem cmp_strB (a b : ByteArray) (w : World) : Calls Try.prog 59 #[.string a, .string b] w fun e w' => e = .returned (.int .i64 (cmpI a b)) ∧ Below w.heap.size w w' :=
  (cmp_str a b w).mono fun e w' ⟨h1, h2⟩ => ⟨h1, by rw [← h2]; exact Below.refl _ _⟩
abbrev Two_tx (g k : Nat) (x y : ByteArray) (wr W : World) : Prop := (W.cell? ⟨g, k, none⟩ = some (.string x) ∧ W.cell? ⟨g, k + 1, none⟩ = some (.string y)) ∧ (Below wr.heap.size wr W ∧ g < wr.heap.size)
theorem two_tx_on {g k : Nat} {x y : ByteArray} {wr W W2 : World} (h : Two_tx g k x y wr W) (hb : Below W.heap.size W W2) : Two_tx g k x y wr W2 := by
  obtain ⟨⟨c0, d0⟩, h1, h2⟩ := h
  have ha : g < W.heap.size := Nat.lt_of_lt_of_le h2 h1.size
  exact ⟨⟨(hb.cell (p := ⟨g, k, none⟩) ha).trans c0, (hb.cell (p := ⟨g, k + 1, none⟩) ha).trans d0⟩, h1.trans (hb.mono h1.size), h2⟩
theorem two_tx_drew {g k : Nat} {x y : ByteArray} {wr W : World} (h : Two_tx g k x y wr W) : Two_tx g k x y wr W.drew := two_tx_on h (Below.refl _ _).drew
set_option maxRecDepth 100000 in
set_option maxHeartbeats 2000000 in
theorem impl_incT (xs : List ByteArray) (p : Option Addr) (c : Nat) (w : World) (hn : xs.length ≤ 1048576) (hR : RowC strC 1 w p xs) :
    Calls Try.prog 58 #[.slice p xs.length c, .func (.func 59) #[] #[]] w fun e w' => e = .returned (.bool (incTB xs)) ∧ Below w.heap.size w w' := by
  obtain ⟨n, hxn⟩ : ∃ n, xs.length = n := ⟨_, rfl⟩
  have HP := Lib.hid (fun W (h : Below w.heap.size w W) => hR.on h)
  have HN := Lib.hid hxn
  obtain ⟨Z, hZ⟩ : ∃ Z, incTB xs = Z := ⟨_, rfl⟩
  have HZ := Lib.hid hZ
  rw [hxn] at hn ⊢
  rw [hZ]
  clear hR hxn hZ
  go_enter Try.func58, Try.ntmps58
  go_wp2
  go_loopw [5] (fun iq wr => ∃ k : Nat, (k + 1 ≤ n ∨ k = 0) ∧ iq = .int .i64 ((k : Int) + 1) ∧ IncT xs (k + 1) ∧ Below w.heap.size w wr) (fun i _ => n + 1 - (intOf i).toNat)
  case atStart => exact ⟨0, .inr rfl, rfl, incT_zero xs, Below.refl _ _⟩
  case round =>
    obtain ⟨k, hk, rfl, hI, hb⟩ := hrel
    have HI := Lib.hid hI
    have HB := Lib.hid hb
    clear hI
    have hk2 : (k : Int) ≤ 1048576 := by omega
    by_cases hlt : k + 1 < n
    · have hlt1 : k < xs.length := by rw [HN.out]; omega
      have hlt2 : k + 1 < xs.length := by rw [HN.out]; exact hlt
      obtain ⟨g, rfl, hg, a0⟩ := row_tx (HP.out _ hb) hlt1
      obtain ⟨g', he, hg', b0⟩ := row_tx (HP.out _ hb) hlt2
      injection he with he
      injection he with he
      subst he
      obtain ⟨x, hx⟩ : ∃ x, xs[k] = x := ⟨_, rfl⟩
      obtain ⟨y, hy⟩ : ∃ y, xs[k + 1] = y := ⟨_, rfl⟩
      have HX := Lib.hid hx
      have HY := Lib.hid hy
      rw [hx] at a0
      rw [hy] at b0
      have HS : Hid (Two_tx g k x y wr wr) := Lib.hid ⟨⟨a0, b0⟩, Below.refl _ _, hg⟩
      have i1 := fun W => cmp_strB x y W
      obtain ⟨z, hz⟩ : ∃ z, cmpI x y = z := ⟨_, rfl⟩
      have HC := Lib.hid hz
      rw [hz] at i1
      clear hb a0 b0 hx hy hg hg' hz
      have hw1 : IntKind.i64.wrap ((k : Int) + 1 - 1) = (k : Int) := by rw [IntWalk.i64_in _ (by omega)]; omega
      have hw2 : IntKind.i64.wrap (k : Int) = (k : Int) := IntWalk.i64_in _ (by omega)
      have q1 : (0 : Int) ≤ (k : Int) := by omega
      have q2 : (k : Int) < (n : Int) := by omega
      have q3 : (0 : Int) ≤ (k : Int) + 1 := by omega
      have q4 : (k : Int) + 1 < (n : Int) := by omega
      go_wp2
      go_region_held3 (fun W => (W.cell? ⟨g, k, none⟩ = some (.string x) ∧ W.cell? ⟨g, k + 1, none⟩ = some (.string y)) ∧ (Below wr.heap.size wr W ∧ g < wr.heap.size))
        (with_reducible first | assumption | exact two_tx_drew HS.out | exact two_tx_on (by assumption) hbN)
        (first | (go_at_call 59; go_fit (i1 _); rintro e wn ⟨rfl, hbN⟩; have HF := Lib.hid (two_tx_on (g := g) (k := k) (wr := wr) (by assumption) hbN)))
      have HB2 := Lib.hid (HB.out.trans (HF.out.2.1.mono HB.out.size))
      by_cases hneg : z < 0
      · have hn0 : ¬ (0 : Int) ≤ z := by omega
        have hl := cmp_neg.1 (show cmpI x y < 0 by rw [HC.out]; exact hneg)
        have HL := Lib.hid hl
        clear hl
        go_wp2
        go_roundw
        case rel => exact ⟨k + 1, .inl (by omega), by go_num, incT_succ HI.out hlt2 (fun _ h' => by
          simp only [Nat.add_sub_cancel]
          rw [HX.out, HY.out]
          exact HL.out), HB2.out⟩
        case measure => simp [intOf]; omega
      · have hn0 : (0 : Int) ≤ z := by omega
        have HN0 := Lib.hid hneg
        clear hneg
        have HL : Hid (Z = false) := Lib.hid (by
          rw [← HZ.out]
          refine incTB_false (fun h => HN0.out ?_)
          rw [← HC.out]
          have := h (k + 1) hlt2 (by omega) hlt2 hlt1
          simp only [Nat.add_sub_cancel] at this
          rw [HX.out, HY.out] at this
          exact cmp_neg.2 this)
        go_wp2
        go_ret
        exact ⟨ret_bool HL.out.symm, HB2.out⟩
    · have HL : Hid (Z = true) := Lib.hid (by
        rw [← HZ.out]
        exact incTB_true (fun i hi h0 h1 h' => HI.out i hi h0 (by rw [HN.out] at hi; omega) h'))
      clear hb
      go_wp2
      go_ret
      exact ⟨ret_bool HL.out.symm, HB.out⟩
theorem spec_l11jid (s : ByteArray) (w : World) (hs : s.size ≤ 2000000) :
    Calls Try.prog 49 #[.string s] w fun e w' => e = .returned (.bool (addrB s)) ∧ Below w.heap.size w w' := by
  have i1 := fun W => spec_l04jid s W hs
  obtain ⟨b, hb⟩ : ∃ b, addrB s = b := ⟨_, rfl⟩
  rw [hb] at i1 ⊢
  clear hb
  go_enter Try.func49, Try.ntmps49
  go_wp2_with (go_at_call 78; go_fit (i1 _); rintro e w1 ⟨⟨x, y, z, rfl⟩, hb1⟩; have HB := Lib.hid hb1; clear hb1)
  go_ret
  exact ⟨rfl, HB.out.alloc HB.out.size _⟩
set_option maxRecDepth 100000 in
set_option maxHeartbeats 2000000 in
theorem impl_bkright (xs : List ByteArray) (p : Option Addr) (c : Nat) (w : World) (hn : xs.length ≤ 1048576) (hw : ∀ x ∈ xs, x.size ≤ maxLen) (hR : RowC strC 1 w p xs) (hm : MaxL w) :
    Calls Try.prog 19 #[.slice p xs.length c] w fun e w' => e = .returned (.bool (bkB xs)) ∧ Below w.heap.size w w' := by
  have i1 := fun W h => impl_incT xs p c W hn h
  obtain ⟨n, hxn⟩ : ∃ n, xs.length = n := ⟨_, rfl⟩
  have HP := Lib.hid (fun W (h : Below w.heap.size w W) => hR.on h)
  have HM := Lib.hid (fun W (h : Below w.heap.size w W) => hm.below h hm.pos)
  have HN := Lib.hid hxn
  have HW := Lib.hid hw
  obtain ⟨Z, hZ⟩ : ∃ Z, bkB xs = Z := ⟨_, rfl⟩
  have HZ := Lib.hid hZ
  obtain ⟨I, hI⟩ : ∃ I, incTB xs = I := ⟨_, rfl⟩
  have HI := Lib.hid hI
  rw [hxn, hI] at i1
  rw [hxn] at hn ⊢
  rw [hZ]
  clear hR hxn hZ hm hw hI
  by_cases h8 : 8 < n
  · have HL : Hid (Z = false) := Lib.hid (by rw [← HZ.out]; exact bkB_false (fun h => by have := h.1; rw [HN.out] at this; omega))
    go_enter Try.func19, Try.ntmps19
    go_wp2
    go_ret
    exact ⟨ret_bool HL.out.symm, Below.refl _ _⟩
  cases I
  · have HL : Hid (Z = false) := Lib.hid (by rw [← HZ.out]; exact bkB_false (fun h => by have := incTB_true h.2.1; rw [HI.out] at this; cases this))
    go_enter Try.func19, Try.ntmps19
    go_wp2_with (go_at_call 58; go_fit (i1 _ (HP.out _ (Below.refl _ _))); rintro e w1 ⟨rfl, hb1⟩; have HB := Lib.hid hb1; clear hb1)
    go_ret
    exact ⟨ret_bool HL.out.symm, HB.out⟩
  go_enter Try.func19, Try.ntmps19
  go_wp2_with (go_at_call 58; go_fit (i1 _ (HP.out _ (Below.refl _ _))); rintro e w1 ⟨rfl, hb1⟩; have HB := Lib.hid hb1; clear hb1)
  go_loopw [15] (fun iq wr => ∃ k : Nat, k ≤ n ∧ iq = .int .i64 k ∧ AllT xs k ∧ Below w.heap.size w wr) (fun i _ => n - (intOf i).toNat)
  case atStart => exact ⟨0, Nat.zero_le _, rfl, allT_0 xs, HB.out⟩
  case round =>
    obtain ⟨k, hk, rfl, hA, hb⟩ := hrel
    have HA := Lib.hid hA
    have HB1 := Lib.hid hb
    clear hA
    by_cases hlt : k < n
    · have hlt1 : k < xs.length := by rw [HN.out]; exact hlt
      obtain ⟨g, rfl, hg, a0⟩ := row_tx (HP.out _ hb) hlt1
      have hxw := HW.out _ (List.getElem_mem hlt1)
      obtain ⟨x, hx⟩ : ∃ x, xs[k] = x := ⟨_, rfl⟩
      have HX := Lib.hid hx
      rw [hx] at a0 hxw
      have i2 := fun W hm => impl_address x W hxw hm
      obtain ⟨A, hAd⟩ : ∃ A, addrB x = A := ⟨_, rfl⟩
      have HAD := Lib.hid hAd
      rw [hAd] at i2
      clear hb hx hAd hxw
      cases A
      · have HL : Hid (Z = false) := Lib.hid (by
          rw [← HZ.out]
          refine bkB_false (fun h => ?_)
          have := h.2.2 k hlt1 hlt1
          rw [HX.out, HAD.out] at this
          cases this)
        go_wp2_with (go_at_call 45; go_fit (i2 _ (HM.out _ HB1.out)); rintro e w2 ⟨rfl, hb2⟩; have HB2 := Lib.hid (HB1.out.trans (hb2.mono HB1.out.size)); clear hb2)
        go_ret
        exact ⟨ret_bool HL.out.symm, HB2.out⟩
      · go_wp2_with (go_at_call 45; go_fit (i2 _ (HM.out _ HB1.out)); rintro e w2 ⟨rfl, hb2⟩; have HB2 := Lib.hid (HB1.out.trans (hb2.mono HB1.out.size)); clear hb2)
        go_roundw
        case rel => exact ⟨k + 1, by omega, by go_num, allT_succ HA.out hlt1 (by rw [HX.out]; exact HAD.out), HB2.out⟩
        case measure => simp [intOf]; omega
    · have HL : Hid (Z = true) := Lib.hid (by
        rw [← HZ.out]
        exact bkB_true ⟨by rw [HN.out]; omega, incTB_iff.1 HI.out, fun i hi h1 => HA.out i hi (by rw [HN.out] at hi; omega)⟩)
      clear hb
      go_wp2
      go_ret
      exact ⟨ret_bool HL.out.symm, HB1.out⟩
/-- Is the element ahead less? -/
def ltT (xs : List ByteArray) (k : Nat) (r : ByteArray) : Bool := match k with
  | 0 => true
  | m + 1 => match xs[m]? with
    | some y => Op.bytesLess y.toList r.toList
    | none => true
set_option maxRecDepth 100000 in
set_option maxHeartbeats 8000000 in
theorem spec_bkright (xs : List ByteArray) (p0 : Option Addr) (c : Nat) (w : World) (hn : xs.length ≤ 1048576) (hw : ∀ x ∈ xs, x.size ≤ 2000000) (hR : RowC strC 1 w p0 xs) :
    Calls Try.prog 20 #[.slice p0 xs.length c] w fun e w' => e = .returned (.bool (bkB xs)) ∧ Below w.heap.size w w' := by
  obtain ⟨n, hxn⟩ : ∃ n, xs.length = n := ⟨_, rfl⟩
  have HP := Lib.hid (fun W (h : Below w.heap.size w W) => hR.on h)
  have HW := Lib.hid hw
  have HN := Lib.hid hxn
  rw [hxn] at hn ⊢
  obtain ⟨Z, hZ⟩ : ∃ Z, bkB xs = Z := ⟨_, rfl⟩
  have HZ := Lib.hid hZ
  rw [hZ]
  clear hR hw hxn hZ
  go_enter Try.func20, Try.ntmps20
  go_wp2
  go_loopw [3] (fun iq wr => ∃ k : Nat, k ≤ n ∧ iq = .int .i64 k ∧ IncT xs k ∧ AllT xs k ∧ Below w.heap.size w wr) (fun i _ => n - (intOf i).toNat)
  case atStart => exact ⟨0, Nat.zero_le _, rfl, incT_0 xs, allT_0 xs, Below.refl _ _⟩
  case round =>
    obtain ⟨k, hk, rfl, hI, hA, hb⟩ := hrel
    have HI := Lib.hid hI
    have HA := Lib.hid hA
    have HB := Lib.hid hb
    clear hA hI
    by_cases hlt : k < n
    · have hlt1 : k < xs.length := by rw [HN.out]; exact hlt
      have HRr := HP.out _ hb
      obtain ⟨g, rfl, hg, a0⟩ := row_tx HRr hlt1
      have hxw := HW.out _ (List.getElem_mem hlt1)
      obtain ⟨x, hx⟩ : ∃ x, xs[k] = x := ⟨_, rfl⟩
      have HX := Lib.hid hx
      rw [hx] at a0 hxw
      have jA := fun W => spec_l11jid x W hxw
      obtain ⟨b1, h1⟩ : ∃ b, addrB x = b := ⟨_, rfl⟩
      have HA1 := Lib.hid h1
      rw [h1] at jA
      obtain ⟨lt0, h6⟩ : ∃ b, ltT xs k x = b := ⟨_, rfl⟩
      obtain ⟨bad, hbad⟩ : ∃ b, (!(b1 && lt0)) = b := ⟨_, rfl⟩
      have HBAD : Hid (bad = !(b1 && lt0)) := Lib.hid hbad.symm
      have HLT0 : Hid (k = 0 → lt0 = true) := Lib.hid (fun h => by subst h; rw [← h6]; rfl)
      have HLT1 : Hid (∀ m, k = m + 1 → ∀ h : m < xs.length, lt0 = Op.bytesLess xs[m].toList x.toList) := Lib.hid (fun m h hm => by
        subst h
        rw [← h6]
        show (match xs[m]? with | some y => Op.bytesLess y.toList x.toList | none => true) = _
        rw [List.getElem?_eq_getElem hm])
      have HS0 : Hid (RowC strC 1 wr.drew (some ⟨g, 0, none⟩) xs ∧ Below w.heap.size w wr.drew) := Lib.hid ⟨HRr.on (Below.refl _ _).drew, hb.drew⟩
      clear hb hx hxw h1 h6 hbad HRr a0 hg
      go_wp2
      refine region_join [10, 11, 12, 13, 14, 15, 16, 17, 18, 19, 20, 21, 22, 23, 24, 25, 26, 27, 28, 29, 30, 31] (fun vs W => vs 31 = .bool bad ∧ (RowC strC 1 W (some ⟨g, 0, none⟩) xs ∧ Below w.heap.size w W)) ?_ ?_
      · refine wp_region_held_drew (S := fun W => (RowC strC 1 W (some ⟨g, 0, none⟩) xs ∧ Below w.heap.size w W)) (by kernel_rfl) HS0.out (fun hHeld => ?_)
        generalize wr.drew = Wd at hHeld ⊢
        clear HS0
        refine takeQ (i := 0) (k := 10) (v := .slice (some ⟨g, 0, none⟩) n c) rfl (by rfl) (by kernel_rfl) (by kernel_rfl) (by kernel_rfl) (fun _ _ _ h => h) (by rfl) ?_ hHeld ?_
        · intro w1 hSw; go_simp
        (try simp only [Act.put, List.setIfInBounds_toArray, List.set_cons_zero, List.set_cons_succ])
        refine takeQ (i := 1) (k := 11) (v := .int .i64 k) rfl (by rfl) (by kernel_rfl) (by kernel_rfl) (by kernel_rfl) (fun _ _ _ h => h) (by rfl) ?_ hHeld ?_
        · intro w1 hSw; go_simp
        (try simp only [Act.put, List.setIfInBounds_toArray, List.set_cons_zero, List.set_cons_succ])
        refine takeQ (i := 2) (k := 12) (v := .pointer (some ⟨g, k, none⟩)) rfl (by rfl) (by kernel_rfl) (by kernel_rfl) (by kernel_rfl) (fun _ _ _ h => h) (by rfl) ?_ hHeld ?_
        · intro w1 hSw; go_simp
        (try simp only [Act.put, List.setIfInBounds_toArray, List.set_cons_zero, List.set_cons_succ])
        refine takeQ (i := 3) (k := 13) (v := .string x) rfl (by rfl) (by kernel_rfl) (by kernel_rfl) (by kernel_rfl) (fun _ _ _ h => h) (by rfl) ?_ hHeld ?_
        · intro w1 hSw; (obtain ⟨g2, hgg, _, y0⟩ := row_tx hSw.1 hlt1); (injection hgg with hgg); (injection hgg with hgg); subst hgg; rw [HX.out] at y0; go_simp
        (try simp only [Act.put, List.setIfInBounds_toArray, List.set_cons_zero, List.set_cons_succ])
        refine wpAnyH_ready (rs := [4]) (by kernel_rfl) (by simp) ?_
        refine AllReadyH.cons rfl (fun K hK => ?_) AllReadyH.nil
        rw [if_pos (by rfl)]
        go_simp
        go_fit (jA _)
        rintro e0 wz ⟨rfl, hbz⟩
        refine hK.out _ _ ⟨hHeld.1.on hbz, hHeld.2.trans (hbz.mono hHeld.2.size)⟩ (fun hHeld => ?_)
        clear hK K
        (try simp only [Act.put, List.setIfInBounds_toArray, List.set_cons_zero, List.set_cons_succ])
        cases b1
        · skip
          refine takeQ (i := 5) (k := 15) (v := .bool true) rfl (by rfl) (by kernel_rfl) (by kernel_rfl) (by kernel_rfl) (fun _ _ _ h => h) (by rfl) ?_ hHeld ?_
          · intro w1 hSw; go_simp
          (try simp only [Act.put, List.setIfInBounds_toArray, List.set_cons_zero, List.set_cons_succ])
          refine takeQ (i := 6) (k := 16) (v := .bool true) rfl (by rfl) (by kernel_rfl) (by kernel_rfl) (by kernel_rfl) (fun _ _ _ h => h) (by rfl) ?_ hHeld ?_
          · intro w1 hSw; go_simp
          (try simp only [Act.put, List.setIfInBounds_toArray, List.set_cons_zero, List.set_cons_succ])
          refine skipQ (i := 7) (k := 17) rfl (by rfl) (by kernel_rfl) (by kernel_rfl) (by kernel_rfl) (fun _ _ _ h => h) (by rfl) hHeld ?_
          (try simp only [Act.put, List.setIfInBounds_toArray, List.set_cons_zero, List.set_cons_succ])
          refine skipQ (i := 8) (k := 18) rfl (by rfl) (by kernel_rfl) (by kernel_rfl) (by kernel_rfl) (fun _ _ _ h => h) (by rfl) hHeld ?_
          (try simp only [Act.put, List.setIfInBounds_toArray, List.set_cons_zero, List.set_cons_succ])
          refine skipQ (i := 9) (k := 19) rfl (by rfl) (by kernel_rfl) (by kernel_rfl) (by kernel_rfl) (fun _ _ _ h => h) (by rfl) hHeld ?_
          (try simp only [Act.put, List.setIfInBounds_toArray, List.set_cons_zero, List.set_cons_succ])
          refine skipQ (i := 10) (k := 20) rfl (by rfl) (by kernel_rfl) (by kernel_rfl) (by kernel_rfl) (fun _ _ _ h => h) (by rfl) hHeld ?_
          (try simp only [Act.put, List.setIfInBounds_toArray, List.set_cons_zero, List.set_cons_succ])
          refine skipQ (i := 11) (k := 21) rfl (by rfl) (by kernel_rfl) (by kernel_rfl) (by kernel_rfl) (fun _ _ _ h => h) (by rfl) hHeld ?_
          (try simp only [Act.put, List.setIfInBounds_toArray, List.set_cons_zero, List.set_cons_succ])
          refine skipQ (i := 12) (k := 22) rfl (by rfl) (by kernel_rfl) (by kernel_rfl) (by kernel_rfl) (fun _ _ _ h => h) (by rfl) hHeld ?_
          (try simp only [Act.put, List.setIfInBounds_toArray, List.set_cons_zero, List.set_cons_succ])
          refine skipQ (i := 13) (k := 23) rfl (by rfl) (by kernel_rfl) (by kernel_rfl) (by kernel_rfl) (fun _ _ _ h => h) (by rfl) hHeld ?_
          (try simp only [Act.put, List.setIfInBounds_toArray, List.set_cons_zero, List.set_cons_succ])
          refine skipQ (i := 14) (k := 24) rfl (by rfl) (by kernel_rfl) (by kernel_rfl) (by kernel_rfl) (fun _ _ _ h => h) (by rfl) hHeld ?_
          (try simp only [Act.put, List.setIfInBounds_toArray, List.set_cons_zero, List.set_cons_succ])
          refine skipQ (i := 15) (k := 25) rfl (by rfl) (by kernel_rfl) (by kernel_rfl) (by kernel_rfl) (fun _ _ _ h => h) (by rfl) hHeld ?_
          (try simp only [Act.put, List.setIfInBounds_toArray, List.set_cons_zero, List.set_cons_succ])
          refine skipQ (i := 16) (k := 26) rfl (by rfl) (by kernel_rfl) (by kernel_rfl) (by kernel_rfl) (fun _ _ _ h => h) (by rfl) hHeld ?_
          (try simp only [Act.put, List.setIfInBounds_toArray, List.set_cons_zero, List.set_cons_succ])
          refine skipQ (i := 17) (k := 27) rfl (by rfl) (by kernel_rfl) (by kernel_rfl) (by kernel_rfl) (fun _ _ _ h => h) (by rfl) hHeld ?_
          (try simp only [Act.put, List.setIfInBounds_toArray, List.set_cons_zero, List.set_cons_succ])
          refine skipQ (i := 18) (k := 28) rfl (by rfl) (by kernel_rfl) (by kernel_rfl) (by kernel_rfl) (fun _ _ _ h => h) (by rfl) hHeld ?_
          (try simp only [Act.put, List.setIfInBounds_toArray, List.set_cons_zero, List.set_cons_succ])
          refine skipQ (i := 19) (k := 29) rfl (by rfl) (by kernel_rfl) (by kernel_rfl) (by kernel_rfl) (fun _ _ _ h => h) (by rfl) hHeld ?_
          (try simp only [Act.put, List.setIfInBounds_toArray, List.set_cons_zero, List.set_cons_succ])
          refine skipQ (i := 20) (k := 30) rfl (by rfl) (by kernel_rfl) (by kernel_rfl) (by kernel_rfl) (fun _ _ _ h => h) (by rfl) hHeld ?_
          (try simp only [Act.put, List.setIfInBounds_toArray, List.set_cons_zero, List.set_cons_succ])
          refine takeQ (i := 21) (k := 31) (v := .bool true) rfl (by rfl) (by kernel_rfl) (by kernel_rfl) (by kernel_rfl) (fun _ _ _ h => h) (by rfl) ?_ hHeld ?_
          · intro w1 hSw; go_simp
          (try simp only [Act.put, List.setIfInBounds_toArray, List.set_cons_zero, List.set_cons_succ])
          refine wpAnyH_done (by kernel_rfl) ?_ _
          exact ⟨⟨congrArg Value.bool (show true = bad by rw [HBAD.out]; simp), hHeld⟩, by simp only [putAll, Act.put, List.setIfInBounds_toArray, List.set_cons_zero, List.set_cons_succ]; rfl⟩
        · skip
          refine takeQ (i := 5) (k := 15) (v := .bool false) rfl (by rfl) (by kernel_rfl) (by kernel_rfl) (by kernel_rfl) (fun _ _ _ h => h) (by rfl) ?_ hHeld ?_
          · intro w1 hSw; go_simp
          (try simp only [Act.put, List.setIfInBounds_toArray, List.set_cons_zero, List.set_cons_succ])
          refine takeQ (i := 6) (k := 16) (v := .bool false) rfl (by rfl) (by kernel_rfl) (by kernel_rfl) (by kernel_rfl) (fun _ _ _ h => h) (by rfl) ?_ hHeld ?_
          · intro w1 hSw; go_simp
          (try simp only [Act.put, List.setIfInBounds_toArray, List.set_cons_zero, List.set_cons_succ])
          rcases Nat.eq_zero_or_pos k with hk0 | hk0
          · obtain rfl := HLT0.out hk0
            subst hk0
            refine takeQ (i := 7) (k := 17) (v := .int .i64 0) rfl (by rfl) (by kernel_rfl) (by kernel_rfl) (by kernel_rfl) (fun _ _ _ h => h) (by rfl) ?_ hHeld ?_
            · intro w1 hSw; go_simp
            (try simp only [Act.put, List.setIfInBounds_toArray, List.set_cons_zero, List.set_cons_succ])
            refine takeQ (i := 8) (k := 18) (v := .bool false) rfl (by rfl) (by kernel_rfl) (by kernel_rfl) (by kernel_rfl) (fun _ _ _ h => h) (by rfl) ?_ hHeld ?_
            · intro w1 hSw; go_simp
            (try simp only [Act.put, List.setIfInBounds_toArray, List.set_cons_zero, List.set_cons_succ])
            refine takeQ (i := 9) (k := 19) (v := .bool false) rfl (by rfl) (by kernel_rfl) (by kernel_rfl) (by kernel_rfl) (fun _ _ _ h => h) (by rfl) ?_ hHeld ?_
            · intro w1 hSw; go_simp
            (try simp only [Act.put, List.setIfInBounds_toArray, List.set_cons_zero, List.set_cons_succ])
            refine skipQ (i := 10) (k := 20) rfl (by rfl) (by kernel_rfl) (by kernel_rfl) (by kernel_rfl) (fun _ _ _ h => h) (by rfl) hHeld ?_
            (try simp only [Act.put, List.setIfInBounds_toArray, List.set_cons_zero, List.set_cons_succ])
            refine skipQ (i := 11) (k := 21) rfl (by rfl) (by kernel_rfl) (by kernel_rfl) (by kernel_rfl) (fun _ _ _ h => h) (by rfl) hHeld ?_
            (try simp only [Act.put, List.setIfInBounds_toArray, List.set_cons_zero, List.set_cons_succ])
            refine skipQ (i := 12) (k := 22) rfl (by rfl) (by kernel_rfl) (by kernel_rfl) (by kernel_rfl) (fun _ _ _ h => h) (by rfl) hHeld ?_
            (try simp only [Act.put, List.setIfInBounds_toArray, List.set_cons_zero, List.set_cons_succ])
            refine skipQ (i := 13) (k := 23) rfl (by rfl) (by kernel_rfl) (by kernel_rfl) (by kernel_rfl) (fun _ _ _ h => h) (by rfl) hHeld ?_
            (try simp only [Act.put, List.setIfInBounds_toArray, List.set_cons_zero, List.set_cons_succ])
            refine skipQ (i := 14) (k := 24) rfl (by rfl) (by kernel_rfl) (by kernel_rfl) (by kernel_rfl) (fun _ _ _ h => h) (by rfl) hHeld ?_
            (try simp only [Act.put, List.setIfInBounds_toArray, List.set_cons_zero, List.set_cons_succ])
            refine skipQ (i := 15) (k := 25) rfl (by rfl) (by kernel_rfl) (by kernel_rfl) (by kernel_rfl) (fun _ _ _ h => h) (by rfl) hHeld ?_
            (try simp only [Act.put, List.setIfInBounds_toArray, List.set_cons_zero, List.set_cons_succ])
            refine skipQ (i := 16) (k := 26) rfl (by rfl) (by kernel_rfl) (by kernel_rfl) (by kernel_rfl) (fun _ _ _ h => h) (by rfl) hHeld ?_
            (try simp only [Act.put, List.setIfInBounds_toArray, List.set_cons_zero, List.set_cons_succ])
            refine skipQ (i := 17) (k := 27) rfl (by rfl) (by kernel_rfl) (by kernel_rfl) (by kernel_rfl) (fun _ _ _ h => h) (by rfl) hHeld ?_
            (try simp only [Act.put, List.setIfInBounds_toArray, List.set_cons_zero, List.set_cons_succ])
            refine skipQ (i := 18) (k := 28) rfl (by rfl) (by kernel_rfl) (by kernel_rfl) (by kernel_rfl) (fun _ _ _ h => h) (by rfl) hHeld ?_
            (try simp only [Act.put, List.setIfInBounds_toArray, List.set_cons_zero, List.set_cons_succ])
            refine skipQ (i := 19) (k := 29) rfl (by rfl) (by kernel_rfl) (by kernel_rfl) (by kernel_rfl) (fun _ _ _ h => h) (by rfl) hHeld ?_
            (try simp only [Act.put, List.setIfInBounds_toArray, List.set_cons_zero, List.set_cons_succ])
            refine takeQ (i := 20) (k := 30) (v := .bool false) rfl (by rfl) (by kernel_rfl) (by kernel_rfl) (by kernel_rfl) (fun _ _ _ h => h) (by rfl) ?_ hHeld ?_
            · intro w1 hSw; go_simp
            (try simp only [Act.put, List.setIfInBounds_toArray, List.set_cons_zero, List.set_cons_succ])
            refine takeQ (i := 21) (k := 31) (v := .bool false) rfl (by rfl) (by kernel_rfl) (by kernel_rfl) (by kernel_rfl) (fun _ _ _ h => h) (by rfl) ?_ hHeld ?_
            · intro w1 hSw; go_simp
            (try simp only [Act.put, List.setIfInBounds_toArray, List.set_cons_zero, List.set_cons_succ])
            refine wpAnyH_done (by kernel_rfl) ?_ _
            exact ⟨⟨congrArg Value.bool (show false = bad by rw [HBAD.out]; simp), hHeld⟩, by simp only [putAll, Act.put, List.setIfInBounds_toArray, List.set_cons_zero, List.set_cons_succ]; rfl⟩
          · obtain ⟨m, rfl⟩ : ∃ m, k = m + 1 := ⟨k - 1, by omega⟩
            have hm1 : m < xs.length := by omega
            obtain ⟨y, hy⟩ : ∃ y, xs[m] = y := ⟨_, rfl⟩
            have HY := Lib.hid hy
            have hlm := HLT1.out m rfl hm1
            rw [hy] at hlm
            clear hy
            have q1 : (0 : Int) ≤ (m : Int) := by omega
            have q2 : (m : Int) < (n : Int) := by omega
            have q3 : (0 : Int) < (m : Int) + 1 := by omega
            have hw2 : IntKind.i64.wrap (m : Int) = (m : Int) := IntWalk.i64_in _ (by omega)
            have q4 : (m : Int) + 1 < (n : Int) := by omega
            have q5 : (0 : Int) ≤ (m : Int) + 1 := by omega
            have hw1 : IntKind.i64.wrap ((m : Int) + 1 - 1) = (m : Int) := by rw [IntWalk.i64_in _ (by omega)]; omega
            refine takeQ (i := 7) (k := 17) (v := .int .i64 ((m : Int) + 1)) rfl (by rfl) (by kernel_rfl) (by kernel_rfl) (by kernel_rfl) (fun _ _ _ h => h) (by rfl) ?_ hHeld ?_
            · intro w1 hSw; go_simp
            (try simp only [Act.put, List.setIfInBounds_toArray, List.set_cons_zero, List.set_cons_succ])
            refine takeQ (i := 8) (k := 18) (v := .bool true) rfl (by rfl) (by kernel_rfl) (by kernel_rfl) (by kernel_rfl) (fun _ _ _ h => h) (by rfl) ?_ hHeld ?_
            · intro w1 hSw; go_simp
            (try simp only [Act.put, List.setIfInBounds_toArray, List.set_cons_zero, List.set_cons_succ])
            refine takeQ (i := 9) (k := 19) (v := .bool true) rfl (by rfl) (by kernel_rfl) (by kernel_rfl) (by kernel_rfl) (fun _ _ _ h => h) (by rfl) ?_ hHeld ?_
            · intro w1 hSw; go_simp
            (try simp only [Act.put, List.setIfInBounds_toArray, List.set_cons_zero, List.set_cons_succ])
            refine takeQ (i := 10) (k := 20) (v := .slice (some ⟨g, 0, none⟩) n c) rfl (by rfl) (by kernel_rfl) (by kernel_rfl) (by kernel_rfl) (fun _ _ _ h => h) (by rfl) ?_ hHeld ?_
            · intro w1 hSw; go_simp
            (try simp only [Act.put, List.setIfInBounds_toArray, List.set_cons_zero, List.set_cons_succ])
            refine takeQ (i := 11) (k := 21) (v := .int .i64 ((m : Int) + 1)) rfl (by rfl) (by kernel_rfl) (by kernel_rfl) (by kernel_rfl) (fun _ _ _ h => h) (by rfl) ?_ hHeld ?_
            · intro w1 hSw; go_simp
            (try simp only [Act.put, List.setIfInBounds_toArray, List.set_cons_zero, List.set_cons_succ])
            refine takeQ (i := 12) (k := 22) (v := .int .i64 (m : Int)) rfl (by rfl) (by kernel_rfl) (by kernel_rfl) (by kernel_rfl) (fun _ _ _ h => h) (by rfl) ?_ hHeld ?_
            · intro w1 hSw; go_simp
            (try simp only [Act.put, List.setIfInBounds_toArray, List.set_cons_zero, List.set_cons_succ])
            refine takeQ (i := 13) (k := 23) (v := .pointer (some ⟨g, m, none⟩)) rfl (by rfl) (by kernel_rfl) (by kernel_rfl) (by kernel_rfl) (fun _ _ _ h => h) (by rfl) ?_ hHeld ?_
            · intro w1 hSw; go_simp
            (try simp only [Act.put, List.setIfInBounds_toArray, List.set_cons_zero, List.set_cons_succ])
            refine takeQ (i := 14) (k := 24) (v := .string y) rfl (by rfl) (by kernel_rfl) (by kernel_rfl) (by kernel_rfl) (fun _ _ _ h => h) (by rfl) ?_ hHeld ?_
            · intro w1 hSw; (obtain ⟨g2, hgg, _, y0⟩ := row_tx hSw.1 hm1); (injection hgg with hgg); (injection hgg with hgg); subst hgg; rw [HY.out] at y0; go_simp
            (try simp only [Act.put, List.setIfInBounds_toArray, List.set_cons_zero, List.set_cons_succ])
            refine takeQ (i := 15) (k := 25) (v := .slice (some ⟨g, 0, none⟩) n c) rfl (by rfl) (by kernel_rfl) (by kernel_rfl) (by kernel_rfl) (fun _ _ _ h => h) (by rfl) ?_ hHeld ?_
            · intro w1 hSw; go_simp
            (try simp only [Act.put, List.setIfInBounds_toArray, List.set_cons_zero, List.set_cons_succ])
            refine takeQ (i := 16) (k := 26) (v := .int .i64 ((m : Int) + 1)) rfl (by rfl) (by kernel_rfl) (by kernel_rfl) (by kernel_rfl) (fun _ _ _ h => h) (by rfl) ?_ hHeld ?_
            · intro w1 hSw; go_simp
            (try simp only [Act.put, List.setIfInBounds_toArray, List.set_cons_zero, List.set_cons_succ])
            refine takeQ (i := 17) (k := 27) (v := .pointer (some ⟨g, m + 1, none⟩)) rfl (by rfl) (by kernel_rfl) (by kernel_rfl) (by kernel_rfl) (fun _ _ _ h => h) (by rfl) ?_ hHeld ?_
            · intro w1 hSw; go_simp
            (try simp only [Act.put, List.setIfInBounds_toArray, List.set_cons_zero, List.set_cons_succ])
            refine takeQ (i := 18) (k := 28) (v := .string x) rfl (by rfl) (by kernel_rfl) (by kernel_rfl) (by kernel_rfl) (fun _ _ _ h => h) (by rfl) ?_ hHeld ?_
            · intro w1 hSw; (obtain ⟨g2, hgg, _, y0⟩ := row_tx hSw.1 hlt1); (injection hgg with hgg); (injection hgg with hgg); subst hgg; rw [HX.out] at y0; go_simp
            (try simp only [Act.put, List.setIfInBounds_toArray, List.set_cons_zero, List.set_cons_succ])
            refine takeQ (i := 19) (k := 29) (v := .bool (!lt0)) rfl (by rfl) (by kernel_rfl) (by kernel_rfl) (by kernel_rfl) (fun _ _ _ h => h) (by rfl) ?_ hHeld ?_
            · intro w1 hSw; rw [hlm]; go_simp
            (try simp only [Act.put, List.setIfInBounds_toArray, List.set_cons_zero, List.set_cons_succ])
            refine takeQ (i := 20) (k := 30) (v := .bool (!lt0)) rfl (by rfl) (by kernel_rfl) (by kernel_rfl) (by kernel_rfl) (fun _ _ _ h => h) (by rfl) ?_ hHeld ?_
            · intro w1 hSw; go_simp
            (try simp only [Act.put, List.setIfInBounds_toArray, List.set_cons_zero, List.set_cons_succ])
            refine takeQ (i := 21) (k := 31) (v := .bool (!lt0)) rfl (by rfl) (by kernel_rfl) (by kernel_rfl) (by kernel_rfl) (fun _ _ _ h => h) (by rfl) ?_ hHeld ?_
            · intro w1 hSw; go_simp
            (try simp only [Act.put, List.setIfInBounds_toArray, List.set_cons_zero, List.set_cons_succ])
            refine wpAnyH_done (by kernel_rfl) ?_ _
            exact ⟨⟨congrArg Value.bool (show (!lt0) = bad by rw [HBAD.out]; simp), hHeld⟩, by simp only [putAll, Act.put, List.setIfInBounds_toArray, List.set_cons_zero, List.set_cons_succ]; rfl⟩
      · rintro vs W2 ⟨hv, hS⟩
        simp only [putAll, Act.put, List.setIfInBounds_toArray, List.set_cons_zero, List.set_cons_succ, hv]
        have HS := Lib.hid hS.2
        clear hv hS jA
        cases bad
        · have hall : b1 = true ∧ lt0 = true := by
            have h := HBAD.out
            revert h
            cases b1 <;> cases lt0 <;> decide
          have HALL := Lib.hid hall
          clear hall
          go_wp2
          go_roundw
          case rel =>
            refine ⟨k + 1, by omega, by go_num, incT_succ HI.out hlt1 (fun h0 h' => ?_), allT_succ HA.out hlt1 ?_, HS.out⟩
            · have h := HLT1.out (k - 1) (by omega) h'
              rw [HALL.out.2] at h
              rw [HX.out]
              exact h.symm
            · rw [HX.out, HA1.out, HALL.out.1]
          case measure => simp [intOf]; omega
        · have HL : Hid (Z = false) := Lib.hid (by
            rw [← HZ.out]
            refine bkB_false (fun h => ?_)
            have q1 := h.2.2 k hlt1 hlt1
            rw [HX.out, HA1.out] at q1
            have q2 : lt0 = true := by
              rcases Nat.eq_zero_or_pos k with h0 | h0
              · exact HLT0.out h0
              · have hk1 : k - 1 < xs.length := by omega
                rw [HLT1.out (k - 1) (by omega) hk1, ← HX.out]
                exact h.2.1 k hlt1 h0 hlt1 hk1
            have q3 := HBAD.out
            rw [q2, q1] at q3
            cases q3)
          go_wp2
          go_ret
          exact ⟨ret_bool HL.out.symm, HS.out⟩
    · have HL : Hid (Z = decide (n ≤ 8)) := Lib.hid (by
        rw [← HZ.out]
        by_cases h5 : n ≤ 8
        · rw [decide_eq_true h5]
          exact bkB_true ⟨by rw [HN.out]; exact h5, fun i hi h0 h1 h' => HI.out i hi h0 (by rw [HN.out] at hi; omega) h', fun i hi h0 => HA.out i hi (by rw [HN.out] at hi; omega)⟩
        · rw [decide_eq_false h5]
          exact bkB_false (fun h => h5 (by have := h.1; rw [HN.out] at this; exact this)))
      clear hb
      go_wp2
      go_ret
      exact ⟨ret_bool (by rw [HL.out]; simp; omega), HB.out⟩
end Go.Proofs.Ytpjmcpfmnlfmdaa

namespace Go.Proofs.Ytpjmcpfmnlfmdaa
set_option linter.unusedSimpArgs false
set_option linter.unusedVariables false
open Go.RowKit Go.Joins

/-- How many resources are less than r, from the first on. -/
def posT (r : ByteArray) : List ByteArray → Nat
  | [] => 0
  | x :: t => if Op.bytesLess x.toList r.toList then posT r t + 1 else 0
theorem posT_le (r : ByteArray) : ∀ xs, posT r xs ≤ xs.length
  | [] => Nat.le_refl _
  | x :: t => by
    unfold posT
    have := posT_le r t
    split
    · simp; omega
    · exact Nat.zero_le _
theorem posT_lo {r : ByteArray} : ∀ {xs : List ByteArray} {i : Nat} (hi : i < xs.length), i < posT r xs → Op.bytesLess xs[i].toList r.toList = true
  | x :: t, 0, _, h => by
    unfold posT at h
    split at h
    · assumption
    · exact absurd h (Nat.not_lt_zero _)
  | x :: t, i + 1, hi, h => by
    unfold posT at h
    split at h
    · exact posT_lo (xs := t) (by simpa using hi) (by omega)
    · exact absurd h (Nat.not_lt_zero _)
theorem posT_at {r : ByteArray} : ∀ {xs : List ByteArray} (h : posT r xs < xs.length), Op.bytesLess xs[posT r xs].toList r.toList = false
  | x :: t, h => by
    by_cases hx : Op.bytesLess x.toList r.toList = true
    · have e : posT r (x :: t) = posT r t + 1 := by show (if _ then _ else _) = _; rw [if_pos hx]
      have h' : posT r t < t.length := by rw [e] at h; simpa using h
      have := posT_at (xs := t) h'
      simp only [e, List.getElem_cons_succ]
      exact this
    · have e : posT r (x :: t) = 0 := by show (if _ then _ else _) = _; rw [if_neg hx]
      simp only [e, List.getElem_cons_zero]
      exact Bool.eq_false_iff.2 hx
theorem incT_all {xs : List ByteArray} (h : IncT xs xs.length) : ∀ (j i : Nat) (hj : j < xs.length) (hij : i < j), Op.bytesLess (xs[i]'(by omega)).toList xs[j].toList = true
  | 0, i, _, hij => absurd hij (Nat.not_lt_zero _)
  | j + 1, i, hj, hij => by
    have h1 := h (j + 1) hj (by omega) hj (by show j < xs.length; omega)
    simp only [Nat.add_sub_cancel] at h1
    by_cases e : i = j
    · subst e; exact h1
    · exact sl_trans _ _ _ (incT_all h j i (by omega) (by omega)) h1
theorem posT_hi {r : ByteArray} {xs : List ByteArray} (h : IncT xs xs.length) {i : Nat} (hi : i < xs.length) (hp : posT r xs ≤ i) : Op.bytesLess xs[i].toList r.toList = false := by
  have h0 := posT_at (r := r) (xs := xs) (by omega)
  by_cases e : i = posT r xs
  · subst e; exact h0
  · rw [Bool.eq_false_iff]
    intro hl
    have := sl_trans _ _ _ (incT_all h i (posT r xs) hi (by omega)) hl
    rw [h0] at this
    cases this
/-- Is there a session of this resource? -/
def hereT (r : ByteArray) (xs : List ByteArray) : Bool := match xs[posT r xs]? with
  | some x => x.toList == r.toList
  | none => false
theorem hereT_at {r : ByteArray} {xs : List ByteArray} (hp : posT r xs < xs.length) : hereT r xs = (xs[posT r xs].toList == r.toList) := by
  unfold hereT
  rw [List.getElem?_eq_getElem hp]
theorem hereT_end {r : ByteArray} {xs : List ByteArray} (hp : ¬ posT r xs < xs.length) : hereT r xs = false := by
  unfold hereT
  rw [List.getElem?_eq_none (by omega)]
/-- The only session of its resource is the one there. -/
theorem hereT_only {r : ByteArray} {xs : List ByteArray} (h : IncT xs xs.length) {i : Nat} (hi : i < xs.length) (he : xs[i].toList = r.toList) : i = posT r xs ∧ hereT r xs = true := by
  have h1 : posT r xs ≤ i := by
    rcases Nat.lt_or_ge i (posT r xs) with hl | hg
    · have := posT_lo hi hl
      rw [he, sl_self] at this
      cases this
    · exact hg
  have h2 : i = posT r xs := by
    rcases Nat.lt_or_ge (posT r xs) i with hl | hg
    · have hp : posT r xs < xs.length := by omega
      have := incT_all h i (posT r xs) hi hl
      rw [he, posT_at hp] at this
      cases this
    · omega
  refine ⟨h2, ?_⟩
  subst h2
  rw [hereT_at hi, he]
  exact beq_self_eq_true _
theorem hereT_lt {j : ByteArray} {xs : List ByteArray} (h : hereT j xs = true) : posT j xs < xs.length := by
  rcases Nat.lt_or_ge (posT j xs) xs.length with h1 | h1
  · exact h1
  · rw [hereT_end (by omega)] at h; cases h
theorem hereT_eq {j : ByteArray} {xs : List ByteArray} (h : hereT j xs = true) : xs[posT j xs]'(hereT_lt h) = j := by
  have h1 := hereT_at (hereT_lt h)
  rw [h] at h1
  have h2 : (xs[posT j xs]'(hereT_lt h)).toList = j.toList := by simpa using h1.symm
  rw [ByteArray.toList_eq, ByteArray.toList_eq] at h2
  exact ByteArray.ext (Array.ext' h2)
theorem hereT_any {j : ByteArray} {xs : List ByteArray} (hI : IncT xs xs.length) : (xs.any fun x => x.toList == j.toList) = hereT j xs := by
  cases h : hereT j xs
  · rw [List.any_eq_false]
    intro x hx
    obtain ⟨i, hi, rfl⟩ := List.mem_iff_getElem.1 hx
    intro he
    have := (hereT_only hI hi (by simpa using he)).2
    rw [h] at this
    cases this
  · rw [List.any_eq_true]
    exact ⟨xs[posT j xs]'(hereT_lt h), List.getElem_mem _, by rw [hereT_eq h]; exact beq_self_eq_true _⟩
theorem filter_out {j : ByteArray} {xs : List ByteArray} (hI : IncT xs xs.length) (h : hereT j xs = true) : xs.filter (fun x => !(x.toList == j.toList)) = xs.take (posT j xs) ++ xs.drop (posT j xs + 1) := by
  have hlt := hereT_lt h
  have heq := hereT_eq h
  have hsp : xs = xs.take (posT j xs) ++ xs[posT j xs] :: xs.drop (posT j xs + 1) := by
    rw [← List.drop_eq_getElem_cons hlt, List.take_append_drop]
  have hne : ∀ i (hi : i < xs.length), i ≠ posT j xs → (!(xs[i].toList == j.toList)) = true := by
    intro i hi hne
    cases he : xs[i].toList == j.toList
    · rfl
    · exact absurd (hereT_only hI hi (by simpa using he)).1 hne
  have h1 : (xs.take (posT j xs)).filter (fun x => !(x.toList == j.toList)) = xs.take (posT j xs) := by
    refine List.filter_eq_self.2 (fun a ha => ?_)
    obtain ⟨i, hi, rfl⟩ := List.mem_iff_getElem.1 ha
    rw [List.length_take] at hi
    rw [List.getElem_take]
    exact hne i (by omega) (by omega)
  have h2 : (xs.drop (posT j xs + 1)).filter (fun x => !(x.toList == j.toList)) = xs.drop (posT j xs + 1) := by
    refine List.filter_eq_self.2 (fun a ha => ?_)
    obtain ⟨i, hi, rfl⟩ := List.mem_iff_getElem.1 ha
    rw [List.length_drop] at hi
    rw [List.getElem_drop]
    exact hne _ (by omega) (by omega)
  conv => lhs; rw [hsp]
  rw [List.filter_append, h1, List.filter_cons, if_neg (by rw [heq]; simp), h2]
/-- An answer: texts, code. -/
structure BoL where
  l : List ByteArray
  c : Int
def illB (c : Int) : BoL := ⟨[], c⟩
noncomputable def addR (xs : List ByteArray) (j : ByteArray) : BoL :=
  if 400 < xs.length ∨ 20000 < j.size then illB 2 else if bkB xs = false ∨ addrB j = false then illB 1 else if hereT j xs = true then illB 7 else if 8 ≤ xs.length then illB 9
  else ⟨xs.take (posT j xs) ++ [j] ++ xs.drop (posT j xs), 0⟩
noncomputable def delR (xs : List ByteArray) (j : ByteArray) : BoL :=
  if 400 < xs.length ∨ 20000 < j.size then illB 2 else if bkB xs = false then illB 1 else if hereT j xs = false then illB 6
  else ⟨xs.take (posT j xs) ++ xs.drop (posT j xs + 1), 0⟩
/-- What impl.blockAt answers. -/
noncomputable def atT (xs : List ByteArray) (j : ByteArray) : Nat × Int :=
  if 400 < xs.length ∨ 20000 < j.size then (0, 2) else if bkB xs = false then (0, 1) else if hereT j xs = false then (posT j xs, 6) else (posT j xs, 0)
theorem bk_addr {xs : List ByteArray} {j : ByteArray} (hk : bkB xs = true) (h : hereT j xs = true) : addrB j = true := by
  have h1 := (bkB_iff.1 hk).2.2 _ (hereT_lt h) (hereT_lt h)
  rw [hereT_eq h] at h1
  exact h1
def BoIs (B : Nat) (R : BoL) (e : Ending) (W : World) : Prop := ∃ p k, e = .returned (.agg #[.slice p R.l.length k, .int .i64 R.c]) ∧ OwnC strC W B 9 1 (.slice p R.l.length k) R.l
theorem bo_ill (B : Nat) (c : Int) (W : World) : BoIs B (illB c) (.returned (.agg #[.slice none 0 0, .int .i64 c])) W := ⟨none, 0, rfl, ownC_nil _ _ _ _ _⟩
theorem passX {w W : World} {b : Nat} {R : BoL} {p : Option Addr} {k B : Nat} (hA : Arr W b 27 [.slice none 0 0, .int .i64 0]) (hb : Below w.heap.size w W) (hB : w.heap.size ≤ b) (hbB : b < B) (ho : OwnC strC W B 9 1 (.slice p R.l.length k) R.l) :
    Arr ((W.setCell ⟨b, 0, none⟩ (.slice p R.l.length k)).setCell ⟨b, 1, none⟩ (.int .i64 R.c)) b 27 [.slice p R.l.length k, .int .i64 R.c] ∧ OwnC strC ((W.setCell ⟨b, 0, none⟩ (.slice p R.l.length k)).setCell ⟨b, 1, none⟩ (.int .i64 R.c)) w.heap.size 9 1 (.slice p R.l.length k) R.l ∧ Below w.heap.size w ((W.setCell ⟨b, 0, none⟩ (.slice p R.l.length k)).setCell ⟨b, 1, none⟩ (.int .i64 R.c)) :=
  ⟨(hA.put 0 _).put 1 _, ((ho.low (a := ⟨b, 0, none⟩) hbB _).low (a := ⟨b, 1, none⟩) hbB _).mono (by omega), (hb.setCell (p := ⟨b, 0, none⟩) hB _).setCell (p := ⟨b, 1, none⟩) hB _⟩
theorem arrX_two {w : World} {b t : Nat} {a0 a1 : Value} (h : Arr w b t [a0, a1]) : (w.cell? ⟨b, 0, none⟩ = some a0 ∧ w.cell? ⟨b, 1, none⟩ = some a1) ∧ w.frozen? ⟨b, 0, none⟩ = false ∧ w.frozen? ⟨b, 1, none⟩ = false := ⟨⟨h.cell 0, h.cell 1⟩, h.free 0, h.free 1⟩
theorem arrX_lt {w : World} {b t : Nat} {cs : List Value} (h : Arr w b t cs) : b < w.heap.size := (Array.getElem?_eq_some_iff.1 h).1
theorem arrX_on {w w1 : World} {b t : Nat} {cs : List Value} (h : Arr w b t cs) (hb : Below w.heap.size w w1) : Arr w1 b t cs := (hb.block b (arrX_lt h)).trans h
end Go.Proofs.Ytpjmcpfmnlfmdaa

namespace Go.Proofs.Ytpjmcpfmnlfmdaa
set_option linter.unusedSimpArgs false
set_option linter.unusedVariables false
open Go.RowKit Go.Joins

theorem joined_one9 (s : ByteArray) (w : World) (hs : s.size ≤ 2000000) :
    Calls Try.prog 48 #[.slice (some ⟨w.heap.size, 0, none⟩) 1 1] (w.alloc (.cells #[.string s] 9)) fun e w' => e = .returned (.string s) ∧ Below w.heap.size w w' := by
  have h := impl_joined w.heap.size 1 [s] (w.alloc (.cells #[.string s] 9)) (by simp) (fun j hj => by
    have hj0 : j = 0 := by simp at hj; omega
    subst hj0
    exact (Arr.fresh w 9 [.string s]).cell 0) (by simp) (by rw [flat_one, size_data]; omega)
  rw [flat_one] at h
  exact h.mono fun e w' ⟨he, hb⟩ => ⟨by rw [he]; rfl, below_one hb⟩
theorem joined_at9 (s : ByteArray) (w : World) (hs : s.size ≤ 2000000) (b : Nat) (hb : w.heap.size = b) :
    Calls Try.prog 48 #[.slice (some ⟨b, 0, none⟩) 1 1] (w.alloc (.cells #[.string s] 9)) fun e w' => e = .returned (.string s) ∧ Below w.heap.size w w' := by
  subst hb
  exact joined_one9 s w hs
theorem arr9_on {w w1 : World} {b t : Nat} {cs : List Value} (h : Arr w b t cs) (hb : Below w.heap.size w w1) : Arr w1 b t cs := (hb.block b (Array.getElem?_eq_some_iff.1 h).1).trans h
end Go.Proofs.Ytpjmcpfmnlfmdaa

namespace Go.Proofs.Ytpjmcpfmnlfmdaa
set_option linter.unusedSimpArgs false
set_option linter.unusedVariables false
open Go.RowKit Go.Joins

def atX (xs : List ByteArray) (j : ByteArray) (t : Nat) : ByteArray := (xs[t]?).getD j
theorem atX_lt {xs : List ByteArray} {j : ByteArray} {t : Nat} (h : t < xs.length) : atX xs j t = xs[t] := by unfold atX; rw [List.getElem?_eq_getElem h]; rfl
theorem atX_ge {xs : List ByteArray} {j : ByteArray} {t : Nat} (h : xs.length ≤ t) : atX xs j t = j := by unfold atX; rw [List.getElem?_eq_none h]; rfl
theorem search_tx (xs : List ByteArray) (p : Option Addr) (c : Nat) (j : ByteArray) (w : World) (hI : IncT xs xs.length) (hn : xs.length ≤ 1048576) (hR : RowC strC 1 w p xs) :
    Calls Try.prog 74 #[.slice p xs.length c, .string j] w fun e w' => e = .returned (.tuple #[.int .i64 (posT j xs : Int), .bool (hereT j xs)]) ∧ Below w.heap.size w w' := by
  rcases Nat.eq_zero_or_pos xs.length with h0 | h0
  · have hx : xs = [] := List.eq_nil_of_length_eq_zero h0
    subst hx
    refine (Any2.slices_BinarySearch_string_empty Try.laysNm226 p c j w).mono ?_
    rintro e w' ⟨rfl, rfl⟩
    exact ⟨rfl, Below.refl _ _⟩
  · obtain ⟨g, rfl, hg, hc⟩ := hR (List.ne_nil_of_length_pos h0)
    refine (Any2.slices_BinarySearch_string Try.laysNm226 g 0 xs.length c (atX xs j) j w (by omega) (fun i hi => ?_)).mono ?_
    · have := hc i hi 0 (by decide)
      rw [Nat.mul_one, Nat.add_zero] at this
      rw [Nat.zero_add, atX_lt hi]
      exact this
    · have hk : Go.Lib.bsGo (fun t => Op.bytesLess (atX xs j t).toList j.toList) xs.length 0 xs.length = posT j xs := by
        refine Go.Lib.bsGo_spec _ (posT j xs) (fun t ht => ?_) (fun t ht => ?_) _ _ _ (by omega) (Nat.zero_le _) (posT_le j xs)
        · have hp := posT_le j xs
          show Op.bytesLess (atX xs j t).toList j.toList = true
          rw [atX_lt (by omega)]
          exact posT_lo (by omega) ht
        · show Op.bytesLess (atX xs j t).toList j.toList = false
          rcases Nat.lt_or_ge t xs.length with h | h
          · rw [atX_lt h]; exact posT_hi hI h ht
          · rw [atX_ge h]; exact sl_self _
      rintro e w' ⟨rfl, q, rfl⟩
      refine ⟨?_, below_drewN (Below.refl _ _) _⟩
      have hd : decide (posT j xs < xs.length ∧ atX xs j (posT j xs) = j) = hereT j xs := by
       cases hh : hereT j xs
       · rw [decide_eq_false_iff_not]
         rintro ⟨h1, h2⟩
         rw [atX_lt h1] at h2
         have := (hereT_only hI h1 (by rw [h2])).2
         rw [hh] at this
         cases this
       · rw [decide_eq_true_eq]
         exact ⟨hereT_lt hh, by rw [atX_lt (hereT_lt hh)]; exact hereT_eq hh⟩
      rw [hk, hd]
set_option maxRecDepth 100000 in
set_option maxHeartbeats 2000000 in
theorem impl_blockAt (xs : List ByteArray) (j : ByteArray) (p : Option Addr) (c : Nat) (w : World) (hn : xs.length ≤ 1048576) (hj : j.size ≤ 1048576) (hw : ∀ x ∈ xs, x.size ≤ maxLen) (hR : RowC strC 1 w p xs) (hm : MaxL w) :
    Calls Try.prog 44 #[.slice p xs.length c, .string j] w fun e w' => e = .returned (.tuple #[.int .i64 ((atT xs j).1 : Int), .int .i64 (atT xs j).2]) ∧ Below w.heap.size w w' := by
  have i1 := fun W h hm => impl_bkright xs p c W hn hw h hm
  have i2 := fun W (hk : bkB xs = true) h => search_tx xs p c j W (bkB_iff.1 hk).2.1 hn h
  obtain ⟨n, hxn⟩ : ∃ n, xs.length = n := ⟨_, rfl⟩
  by_cases hsz : 400 < n ∨ 20000 < j.size
  · rw [show atT xs j = (0, 2) by unfold atT; rw [hxn, if_pos hsz]]
    rw [hxn]
    by_cases h1 : 400 < n
    · clear i1 i2 hsz hR hw
      go_enter Try.func44, Try.ntmps44
      go_wp2
      exact bodyPost_ret (v := .tuple #[.int .i64 0, .int .i64 2]) (by simp [results, Try.results44, go_sem]) rfl ⟨rfl, Below.refl _ _⟩
    · have h2 : 20000 < j.size := by omega
      clear i1 i2 hsz hR hw
      go_enter Try.func44, Try.ntmps44
      go_wp2
      exact bodyPost_ret (v := .tuple #[.int .i64 0, .int .i64 2]) (by simp [results, Try.results44, go_sem]) rfl ⟨rfl, Below.refl _ _⟩
  have g1 : ¬ 400 < n := by omega
  have g2 : ¬ 20000 < j.size := by omega
  cases hk : bkB xs
  · rw [show atT xs j = (0, 1) by unfold atT; rw [hxn, if_neg hsz, if_pos hk]]
    rw [hk] at i1
    rw [hxn] at i1 ⊢
    clear i2 hsz hw hk
    go_enter Try.func44, Try.ntmps44
    go_wp2_with (go_at_call 19; go_fit (i1 _ hR hm); rintro e w1 ⟨rfl, hb⟩; have HB := Lib.hid hb; clear hb)
    exact bodyPost_ret (v := .tuple #[.int .i64 0, .int .i64 1]) (by simp [results, Try.results44, go_sem]) rfl ⟨rfl, HB.out⟩
  replace i2 := fun W h => i2 W hk h
  have HR := Lib.hid (fun W (h : Below w.heap.size w W) => hR.on h)
  rw [hk] at i1
  cases hh : hereT j xs
  · rw [show atT xs j = (posT j xs, 6) by unfold atT; rw [hxn, if_neg hsz, if_neg (by rw [hk]; decide), if_pos hh]]
    rw [hh] at i2
    rw [hxn] at i1 i2 ⊢
    clear hsz hw hk hh
    go_enter Try.func44, Try.ntmps44
    go_wp2_with (first
      | (go_at_call 74; go_fit (i2 _ (HR.out _ HB.out)); rintro e w2 ⟨rfl, hb⟩; have HB2 := Lib.hid (HB.out.trans (hb.mono HB.out.size)); clear hb)
      | (go_at_call 19; go_fit (i1 _ hR hm); rintro e w1 ⟨rfl, hb⟩; have HB := Lib.hid hb; clear hb))
    exact bodyPost_ret (v := .tuple #[.int .i64 (posT j xs : Int), .int .i64 6]) (by simp [results, Try.results44, go_sem]) rfl ⟨rfl, HB2.out⟩
  · rw [show atT xs j = (posT j xs, 0) by unfold atT; rw [hxn, if_neg hsz, if_neg (by rw [hk]; decide), if_neg (by rw [hh]; decide)]]
    rw [hh] at i2
    rw [hxn] at i1 i2 ⊢
    clear hsz hw hk hh
    go_enter Try.func44, Try.ntmps44
    go_wp2_with (first
      | (go_at_call 74; go_fit (i2 _ (HR.out _ HB.out)); rintro e w2 ⟨rfl, hb⟩; have HB2 := Lib.hid (HB.out.trans (hb.mono HB.out.size)); clear hb)
      | (go_at_call 19; go_fit (i1 _ hR hm); rintro e w1 ⟨rfl, hb⟩; have HB := Lib.hid hb; clear hb))
    exact bodyPost_ret (v := .tuple #[.int .i64 (posT j xs : Int), .int .i64 0]) (by simp [results, Try.results44, go_sem]) rfl ⟨rfl, HB2.out⟩
/-- append(v, y) within the capacity. -/
theorem app_fitX (w : World) {ops : Array Oper} {rest : List Oper} {o : Oper} {a : Act} {Q : Exit → Act → World → Prop} (hgd : o.guard = none) (s x : Operand)
    (ho : o.op = Op.call { callee := Callee.builtin Builtin.append, args := #[s, x], argTypes := #[23, 23] })
    (B g k cap : Nat) (xs : List ByteArray) (hs : a.eval s = .slice (some ⟨g, 0, none⟩) k cap) (hown : OwnC strC w B 9 1 (.slice (some ⟨g, 0, none⟩) k cap) xs) (hk : xs.length = k) (b : Nat) (y : ByteArray) (hx : a.eval x = .slice (some ⟨b, 0, none⟩) 1 1) (hA : Arr w b 9 (strC y)) (hfit : k + 1 ≤ cap)
    (h : ∀ w', OwnC strC w' B 9 1 (.slice (some ⟨g, 0, none⟩) (k + 1) cap) (xs ++ [y]) → w.grownBy w' (some g) → wpList Try.prog ops Q rest (a.put o.dst (.slice (some ⟨g, 0, none⟩) (k + 1) cap)) w') : wpList Try.prog ops Q (o :: rest) a w := by
  obtain ⟨i0, hi, hz0, hz1, hz2⟩ := info_parts info_tx
  subst hk
  refine wpList_append_fits w hgd s x 23 ho B 9 i0 1 Try.underlying23 hi hz1 g xs.length cap (xs.flatMap strC) hs hown ⟨b, 0, none⟩ 1 1 (strC y) hx (by rw [strC_len]) (fun j u hj => ?_) (by intro u hu; unfold strC at hu; simp at hu; subst hu; rfl) hfit (fun w' h1 h2 => h w' ?_ h2)
  · rw [show (⟨b, 0, none⟩ : Addr).add j = ⟨b, j, none⟩ by unfold Addr.add; split <;> simp_all, hA.cell]
    exact hj
  · unfold OwnC
    rw [List.length_append, List.flatMap_append]
    simpa using h1
set_option maxRecDepth 100000 in
set_option maxHeartbeats 1000000 in
theorem impl_txcopy (xs : List ByteArray) (p : Option Addr) (c : Nat) (w : World) (hn : xs.length ≤ 1048576) (hw : ∀ x ∈ xs, x.size ≤ 1048576) (hR : RowC strC 1 w p xs) :
    Calls Try.prog 47 #[.slice p xs.length c] w fun e w' => (e = .returned (.slice (some ⟨w.heap.size, 0, none⟩) xs.length xs.length) ∧ OwnC strC w' w.heap.size 9 1 (.slice (some ⟨w.heap.size, 0, none⟩) xs.length xs.length) xs) ∧ Below w.heap.size w w' := by
  obtain ⟨n, hxn⟩ : ∃ n, xs.length = n := ⟨_, rfl⟩
  have HP := Lib.hid (fun W (h : Below w.heap.size w W) => hR.on h)
  have HW := Lib.hid hw
  have HN := Lib.hid hxn
  rw [hxn] at hn ⊢
  clear hR hw hxn
  obtain ⟨i0, hi, hz0, hz1, hz2⟩ := info_parts info_tx
  go_enter Try.func47, Try.ntmps47
  go_wp2_with (refine wpList_make_own _ rfl _ _ 23 rfl w.heap.size 9 i0 _ 1 Try.underlying23 hi hz0 hz1 .i64 .i64 _ n rfl rfl rfl (by rw [hz2]; omega) (by unfold maxLen; omega) (Nat.le_refl _) ?_; intro w1 ho1 hg1)
  have HV1 : Hid (OwnC strC w1 w.heap.size 9 1 (.slice (some ⟨w.heap.size, 0, none⟩) 0 n) []) := Lib.hid ho1
  have HB1 : Hid (Below w.heap.size w w1) := Lib.hid ((Below.refl _ _).grown hg1 (Nat.le_refl _) (fun k hk => by cases hk))
  clear ho1 hg1
  go_loopw [3, 11] (fun sq iq wr => ∃ k : Nat, k ≤ n ∧ iq = .int .i64 k ∧ sq = .slice (some ⟨w.heap.size, 0, none⟩) k n ∧ OwnC strC wr w.heap.size 9 1 (.slice (some ⟨w.heap.size, 0, none⟩) k n) (xs.take k) ∧ Below w.heap.size w wr) (fun _ i _ => n - (intOf i).toNat)
  case atStart => exact ⟨0, Nat.zero_le _, rfl, rfl, HV1.out, HB1.out⟩
  case round =>
    obtain ⟨k, hk, rfl, rfl, hv, hb⟩ := hrel
    have HV := Lib.hid hv
    have HB := Lib.hid hb
    clear hv
    by_cases hlt : k < n
    · have hlt1 : k < xs.length := by rw [HN.out]; exact hlt
      obtain ⟨g, rfl, hg, a0⟩ := row_tx (HP.out _ hb) hlt1
      have hxw := HW.out _ (List.getElem_mem hlt1)
      obtain ⟨x, hx⟩ : ∃ x, xs[k] = x := ⟨_, rfl⟩
      rw [hx] at a0 hxw
      have i3 := fun W => joined_at9 x W (by omega)
      have HT : Hid (xs.take (k + 1) = xs.take k ++ [x]) := Lib.hid (by rw [List.take_succ_eq_append_getElem hlt1, hx])
      have HL : Hid ((xs.take k).length = k) := Lib.hid (by rw [List.length_take]; omega)
      clear hb hx hxw
      go_wp2_with (first
        | (at_builtin; have _ := HV2; refine app_fitX _ rfl _ _ rfl w.heap.size w.heap.size k n _ rfl (HV2.out.alloc _) HL.out w2.heap.size x rfl (Arr.fresh w2 9 (strC x)) (by omega) ?_; intro w3 hv3 hg3; have HV3 := Lib.hid hv3; have HG3 := Lib.hid hg3; clear hv3 hg3)
        | (go_at_call 48; go_fit (i3 _ _ (by simp)); rintro e w2 ⟨rfl, hb2⟩; have HV2 := Lib.hid (HV.out.on hb2); have HB2 := Lib.hid (HB.out.trans (hb2.mono HB.out.size)); clear hb2))
      go_roundw
      case rel => exact ⟨k + 1, by omega, by go_num, rfl, by rw [HT.out]; exact HV3.out, (HB2.out.alloc HB2.out.size _).grown HG3.out (HB2.out.alloc HB2.out.size _).size (fun k hk => by injection hk with hk; omega)⟩
      case measure => simp [intOf]; omega
    · obtain rfl : k = n := by omega
      have HT : Hid (xs.take k = xs) := Lib.hid (List.take_of_length_le (by rw [HN.out]; exact Nat.le_refl _))
      clear hb
      go_wp2
      go_ret
      exact ⟨⟨rfl, by have := HV.out; rw [HT.out] at this; exact this⟩, HB.out⟩
theorem flat_tx (xs : List ByteArray) : xs.flatMap strC = xs.map Value.string := by
  induction xs with
  | nil => rfl
  | cons x xs ih => rw [List.flatMap_cons, ih]; rfl
/-- Cells written one after another. -/
def putX : List Value → Nat → List Value → List Value
  | L, _, [] => L
  | L, o, v :: r => putX (L.set o v) (o + 1) r
theorem arr_drewX {w : World} {g t : Nat} {L : List Value} (h : Arr w g t L) : Arr w.drew g t L := h
theorem arr_newA {w : World} {A : Array Value} {t : Nat} {L : List Value} (h : A.toList = L) : Arr (w.alloc (.cells A t)) w.heap.size t L := by
  have := Arr.fresh w t A.toList
  rw [Array.toArray_toList] at this
  rw [← h]
  exact this
theorem arr_setCells {g t : Nat} : ∀ (vs : List Value) (o : Nat) (L : List Value) (W : World), Arr W g t L → Arr (W.setCells g o vs) g t (putX L o vs)
  | [], _, _, _, h => h
  | v :: r, o, L, W, h => arr_setCells r (o + 1) _ _ (h.put o v)
theorem below_cells {B b : Nat} (hb : B ≤ b) {a : World} : ∀ (vs : List Value) (o : Nat) {w : World}, Below B a w → Below B a (w.setCells b o vs)
  | [], _, _, h => h
  | v :: r, o, w, h => below_cells hb r (o + 1) (h.setCell (p := ⟨b, o, none⟩) hb v)
theorem putX_eq : ∀ (vs : List Value) (A M D : List Value), M.length = vs.length → putX (A ++ M ++ D) A.length vs = A ++ vs ++ D
  | [], A, M, D, h => by
    have : M = [] := List.eq_nil_of_length_eq_zero h
    subst this
    rfl
  | v :: r, A, [], D, h => by simp at h
  | v :: r, A, m :: M, D, h => by
    show putX ((A ++ m :: M ++ D).set A.length v) (A.length + 1) r = _
    have e : (A ++ m :: M ++ D).set A.length v = (A ++ [v]) ++ M ++ D := by
      rw [List.append_assoc, List.append_assoc, List.append_assoc, List.set_append_right _ _ (Nat.le_refl _), Nat.sub_self]
      rfl
    rw [e, show A.length + 1 = (A ++ [v]).length by simp, putX_eq r (A ++ [v]) M D (by simpa using h)]
    simp
theorem own_of_arr {W : World} {g n cap B : Nat} {L R : List Value} {xs : List ByteArray} (h : Arr W g 9 L) (hL : L = xs.map Value.string ++ R) (hn : xs.length = n) (hc : L.length = cap) (hB : B ≤ g) (hm : cap ≤ maxLen) : OwnC strC W B 9 1 (.slice (some ⟨g, 0, none⟩) n cap) xs := by
  refine ⟨by rw [flat_tx, List.length_map, Nat.mul_one], .inr ⟨g, cap, L.toArray, by rw [hn], hB, h, ?_, hm, by simp [hc], ?_⟩⟩
  · rw [← hc, hL, List.length_append, List.length_map]; omega
  · rw [flat_tx, hL, Nat.mul_one]
    show (xs.map Value.string ++ R).take _ = _
    rw [List.take_append_of_le_length (by simp), List.take_of_length_le (by simp)]
theorem own_arrX {W : World} {B g n : Nat} {xs : List ByteArray} (h : OwnC strC W B 9 1 (.slice (some ⟨g, 0, none⟩) n n) xs) (hn : xs.length = n) : Arr W g 9 (xs.map Value.string) ∧ B ≤ g := by
  rcases h.2 with ⟨h0, _⟩ | ⟨g', cap, cur, q1, q2, q3, q4, q5, q6, q7⟩
  · cases h0
  · injection q1 with e1 e2 e3
    injection e1 with e1
    injection e1 with e1
    subst e1 e3
    have e : cur.toList = xs.map Value.string := by
      rw [← flat_tx, ← q7, List.take_of_length_le]
      rw [Array.length_toList, q6, hn]
      omega
    refine ⟨?_, q2⟩
    unfold Arr
    rw [← e]
    exact q3
theorem zero_len (k : Nat) : (Builtin.zeroCells (Value.string ⟨#[]⟩).cells k).toList.length = k := by
  simp [Builtin.zeroCells, Value.cells]
theorem one_str {xs : List ByteArray} : ∀ v ∈ xs.map Value.string, v.oneCell' = true := by
  intro v hv
  obtain ⟨x, _, rfl⟩ := List.mem_map.1 hv
  rfl
set_option maxHeartbeats 2000000 in
theorem impl_insX (xs : List ByteArray) (j : ByteArray) (n P g vb B : Nat) (w : World) (hx : xs.length = n) (hn : n ≤ 8) (hP : P ≤ n) (hO : OwnC strC w B 9 1 (.slice (some ⟨g, 0, none⟩) n n) xs) (hY : w.cell? ⟨vb, 0, none⟩ = some (.string j)) :
    Calls Try.prog 46 #[.slice (some ⟨g, 0, none⟩) n n, .int .i64 (P : Int), .slice (some ⟨vb, 0, none⟩) 1 1] w fun e w' =>
      (∃ p k, e = .returned (.slice p (n + 1) k) ∧ OwnC strC w' w.heap.size 9 1 (.slice p (n + 1) k) (xs.take P ++ [j] ++ xs.drop P)) ∧ Below w.heap.size w w' := by
  obtain ⟨hA, -⟩ := own_arrX hO hx
  obtain ⟨G, hG⟩ : ∃ G, grownCap w (n + 1) n (Try.laysNm222_ren.t 9) = G := ⟨_, rfl⟩
  have hGn : n + 1 ≤ G := by rw [← hG]; exact grownCap_ge w _ _ _
  have hGm : G ≤ maxLen := by rw [← hG]; exact grownCap_le_maxLen w (n + 1) n _ (by unfold maxLen; omega)
  have hvs : ∀ i v, [Value.string j][i]? = some v → w.cell? ⟨vb, 0 + i, none⟩ = some v := by
    intro i v h
    cases i with
    | zero => simp at h; subst h; exact hY
    | succ i => simp at h
  rcases Nat.lt_or_ge P n with h | h
  · refine (Any2.slices_Insert_string_grow Try.laysNm222 g 0 n n P vb 0 1 1 (xs.map Value.string) [.string j] w h (by decide) (Nat.le_refl _) (by omega) (by omega) (by rw [List.length_map, hx]) rfl (fun i v hv => ?_) hvs one_str (by intro v hv; simp at hv; subst hv; rfl)).mono ?_
    · rw [Nat.zero_add, hA.cell]; exact hv
    · rintro e w' ⟨he, hw⟩
      rw [hG] at he hw
      subst he hw
      refine ⟨⟨_, G, rfl, ?_⟩, ?_⟩
      · have h1 : Arr (w.alloc (.cells ((((xs.map Value.string).take P).toArray ++ Builtin.zeroCells (Value.string ⟨#[]⟩).cells (n + 1 - P) ++ Builtin.zeroCells (Value.string ⟨#[]⟩).cells (G - (n + 1)))) 9)) w.heap.size 9 ((xs.take P).map Value.string ++ (Builtin.zeroCells (Value.string ⟨#[]⟩).cells (n + 1 - P)).toList ++ (Builtin.zeroCells (Value.string ⟨#[]⟩).cells (G - (n + 1))).toList) := by
          refine arr_newA (by simp [List.map_take])
        obtain ⟨Z1, hZ1⟩ : ∃ Z1, (Builtin.zeroCells (Value.string ⟨#[]⟩).cells (n + 1 - P)).toList = Z1 := ⟨_, rfl⟩
        obtain ⟨Z2, hZ2⟩ : ∃ Z2, (Builtin.zeroCells (Value.string ⟨#[]⟩).cells (G - (n + 1))).toList = Z2 := ⟨_, rfl⟩
        have hl1 : Z1.length = n + 1 - P := by rw [← hZ1]; exact zero_len _
        have hl2 : Z2.length = G - (n + 1) := by rw [← hZ2]; exact zero_len _
        rw [hZ1, hZ2] at h1
        obtain ⟨z, Z3, rfl⟩ : ∃ z Z3, Z1 = z :: Z3 := by
          cases Z1 with
          | nil => simp at hl1; omega
          | cons z Z3 => exact ⟨z, Z3, rfl⟩
        have hAl : ((xs.take P).map Value.string).length = P := by rw [List.length_map, List.length_take]; omega
        have h2 := arr_setCells [Value.string j] P _ _ (arr_drewX h1)
        have e1 := putX_eq [Value.string j] ((xs.take P).map Value.string) [z] (Z3 ++ Z2) rfl
        rw [hAl] at e1
        rw [show (xs.take P).map Value.string ++ (z :: Z3) ++ Z2 = (xs.take P).map Value.string ++ [z] ++ (Z3 ++ Z2) by simp, e1] at h2
        have h3 := arr_setCells ((xs.drop P).map Value.string) (P + 1) _ _ (arr_drewX h2)
        have e2 := putX_eq ((xs.drop P).map Value.string) ((xs.take P).map Value.string ++ [Value.string j]) Z3 Z2 (by rw [List.length_map, List.length_drop, hx]; simp at hl1; omega)
        rw [show ((xs.take P).map Value.string ++ [Value.string j]).length = P + 1 by rw [List.length_append, hAl]; rfl] at e2
        rw [show (xs.take P).map Value.string ++ [Value.string j] ++ (Z3 ++ Z2) = (xs.take P).map Value.string ++ [Value.string j] ++ Z3 ++ Z2 by simp, e2] at h3
        rw [← List.map_drop]
        refine own_of_arr (R := Z2) h3 (by simp) (by simp; omega) ?_ (Nat.le_refl _) hGm
        simp only [List.length_append, List.length_map, List.length_take, List.length_drop, List.length_cons, List.length_nil]
        simp at hl1
        omega
      · exact below_cells (Nat.le_refl _) _ _ (below_cells (Nat.le_refl _) _ _ ((Below.refl _ _).alloc (Nat.le_refl _) _).drew).drew
  · obtain rfl : P = n := by omega
    refine (Any2.slices_Insert_string_end_grow Try.laysNm222 (some ⟨g, 0, none⟩) P P vb 0 1 1 (xs.map Value.string) [.string j] w (by decide) (Nat.le_refl _) (by omega) (by omega) (by rw [List.length_map, hx]) rfl (fun e => by cases e) (fun a ha i v hv => ?_) hvs (by intro v hv; simp at hv; subst hv; rfl)).mono ?_
    · injection ha with ha
      subst ha
      rw [show (⟨g, 0, none⟩ : Addr).add i = ⟨g, i, none⟩ by unfold Addr.add; split <;> simp_all, hA.cell]
      exact hv
    · rintro e w' ⟨he, hw⟩
      rw [hG] at he hw
      subst he hw
      refine ⟨⟨_, G, rfl, ?_⟩, ((Below.refl _ _).drew).alloc (Nat.le_refl _) _⟩
      have h1 : Arr (w.drew.alloc (.cells (((xs.map Value.string) ++ [Value.string j]).toArray ++ Builtin.zeroCells (Value.string ⟨#[]⟩).cells (G - (P + 1))) 9)) w.heap.size 9 (((xs.map Value.string) ++ [Value.string j]) ++ (Builtin.zeroCells (Value.string ⟨#[]⟩).cells (G - (P + 1))).toList) := by
        refine arr_newA (w := w.drew) (by simp)
      rw [List.take_of_length_le (by omega), List.drop_eq_nil_of_le (by omega), List.append_nil]
      refine own_of_arr (R := (Builtin.zeroCells (Value.string ⟨#[]⟩).cells (G - (P + 1))).toList) h1 (by simp) (by simp; omega) ?_ (Nat.le_refl _) hGm
      rw [List.length_append, List.length_append, List.length_map, zero_len]
      simp
      omega
set_option maxHeartbeats 2000000 in
theorem impl_delX (xs : List ByteArray) (M P g B : Nat) (w : World) (hx : xs.length = M + 1) (hM : M ≤ 8) (hP : P ≤ M) (hO : OwnC strC w B 9 1 (.slice (some ⟨g, 0, none⟩) (M + 1) (M + 1)) xs) :
    Calls Try.prog 52 #[.slice (some ⟨g, 0, none⟩) (M + 1) (M + 1), .int .i64 (P : Int), .int .i64 ((P : Int) + 1)] w fun e w' => e = .returned (.slice (some ⟨g, 0, none⟩) M (M + 1)) ∧ OwnC strC w' B 9 1 (.slice (some ⟨g, 0, none⟩) M (M + 1)) (xs.take P ++ xs.drop (P + 1)) ∧ Below g w w' := by
  obtain ⟨hA, hB⟩ := own_arrX hO hx
  have h := Try.slices_Delete_string_cells g 0 (M + 1) (M + 1) P (P + 1) (atX xs ⟨#[]⟩) w (Nat.le_refl _) (by omega) (by omega) (by omega) (fun i hi => by
    rw [Nat.zero_add, hA.cell, List.getElem?_map, atX_lt (by omega), List.getElem?_eq_getElem (by omega)]
    rfl) (fun i hi => by rw [Nat.zero_add]; exact hA.free i)
  refine h.mono ?_
  rintro e w' ⟨rfl, q, rfl⟩
  have e0 : M + 1 - (P + 1 - P) = M := by omega
  have hS : (Go.Lib.strsOf (atX xs ⟨#[]⟩) (M + 1)).map Go.Proofs.encStr = xs.map Value.string := by
    unfold Go.Lib.strsOf
    rw [List.map_map]
    apply List.ext_getElem
    · simp [hx]
    · intro i h1 h2
      simp only [List.length_map] at h2
      simp only [List.getElem_map, List.getElem_range, Function.comp]
      rw [atX_lt h2]
  refine ⟨by rw [e0], ?_, below_cells (Nat.le_refl _) _ _ (below_drewN (Below.refl _ _) _)⟩
  have h2 := arr_setCells (((Go.Lib.strsOf (atX xs ⟨#[]⟩) (M + 1)).take P ++ (Go.Lib.strsOf (atX xs ⟨#[]⟩) (M + 1)).drop (P + 1) ++ List.replicate (P + 1 - P) []).map Go.Proofs.encStr) 0 _ _ (show Arr (w.drewN q) g 9 _ from hA)
  have e1 : ((Go.Lib.strsOf (atX xs ⟨#[]⟩) (M + 1)).take P ++ (Go.Lib.strsOf (atX xs ⟨#[]⟩) (M + 1)).drop (P + 1) ++ List.replicate (P + 1 - P) []).map Go.Proofs.encStr = (xs.take P ++ xs.drop (P + 1)).map Value.string ++ (List.replicate (P + 1 - P) []).map Go.Proofs.encStr := by
    rw [List.map_append, List.map_append, List.map_take, List.map_drop, hS, List.map_append, List.map_take, List.map_drop]
  rw [e1] at h2 ⊢
  have hl : ((xs.take P ++ xs.drop (P + 1)).map Value.string ++ (List.replicate (P + 1 - P) []).map Go.Proofs.encStr).length = M + 1 := by
    simp only [List.length_append, List.length_map, List.length_take, List.length_drop, List.length_replicate]
    omega
  have e2 := putX_eq ((xs.take P ++ xs.drop (P + 1)).map Value.string ++ (List.replicate (P + 1 - P) []).map Go.Proofs.encStr) [] (xs.map Value.string) [] (by rw [hl, List.length_map, hx])
  simp only [List.nil_append, List.append_nil, List.length_nil] at e2
  rw [e2] at h2
  exact own_of_arr h2 rfl (by rw [List.length_append, List.length_take, List.length_drop]; omega) hl hB (by unfold maxLen; omega)
end Go.Proofs.Ytpjmcpfmnlfmdaa

namespace Go.Proofs.Ytpjmcpfmnlfmdaa
set_option linter.unusedSimpArgs false
set_option linter.unusedVariables false
open Go.RowKit Go.Joins

theorem row_ownX {W : World} {B : Nat} {p : Option Addr} {k n : Nat} {xs : List ByteArray} (h : OwnC strC W B 9 1 (.slice p n k) xs) : RowC strC 1 W p xs := by
  obtain ⟨p', k', e, hR⟩ := h.row strC_len
  injection e with e1 e2 e3
  rw [e1]
  exact hR
theorem own_lenX {W : World} {B : Nat} {v : Value} {xs : List ByteArray} (h : OwnC strC W B 9 1 v xs) : ∃ p k, v = .slice p xs.length k := by
  obtain ⟨p', k', e, hR⟩ := h.row strC_len
  exact ⟨p', k', e⟩
theorem tx_max {xs : List ByteArray} (h : ∀ x ∈ xs, x.size ≤ 1048576) : ∀ x ∈ xs, x.size ≤ maxLen := fun x hx => by have := h x hx; unfold maxLen; omega
theorem tx_two {xs : List ByteArray} (h : ∀ x ∈ xs, x.size ≤ 1048576) : ∀ x ∈ xs, x.size ≤ 2000000 := fun x hx => by have := h x hx; omega
end Go.Proofs.Ytpjmcpfmnlfmdaa

namespace Go.Proofs.Ytpjmcpfmnlfmdaa
set_option linter.unusedSimpArgs false
set_option linter.unusedVariables false
open Go.RowKit Go.Joins

set_option maxRecDepth 100000 in
set_option maxHeartbeats 4000000 in
theorem impl_blockadd (xs : List ByteArray) (j : ByteArray) (p : Option Addr) (c : Nat) (w : World) (hn : xs.length ≤ 1048576) (hj : j.size ≤ 1048576) (hw : ∀ x ∈ xs, x.size ≤ 1048576) (hR : RowC strC 1 w p xs) (hm : MaxL w) :
    Calls Try.prog 11 #[.slice p xs.length c, .string j] w fun e w' => BoIs w.heap.size (addR xs j) e w' ∧ Below w.heap.size w w' := by
  have HA0 : Hid (Arr (w.alloc (.cells #[.slice none 0 0, .int .i64 0] 27)) w.heap.size 27 [.slice none 0 0, .int .i64 0]) := Lib.hid (Arr.fresh w _ [.slice none 0 0, .int .i64 0])
  have HB0 : Hid (Below w.heap.size w (w.alloc (.cells #[.slice none 0 0, .int .i64 0] 27))) := Lib.hid ((Below.refl _ _).alloc (Nat.le_refl _) _)
  have HR := Lib.hid (fun W (h : Below w.heap.size w W) => hR.on h)
  have HM := Lib.hid (fun W (h : Below w.heap.size w W) => hm.below h hm.pos)
  have i1 := fun W h hm => impl_blockAt xs j p c W hn hj (tx_max hw) h hm
  have i2 := fun W hm => impl_address j W (by unfold maxLen; omega) hm
  have i3 := fun W h => impl_txcopy xs p c W hn hw h
  have i5 := fun W => joined_at9 j W (by omega)
  obtain ⟨n, hxn⟩ : ∃ n, xs.length = n := ⟨_, rfl⟩
  have HN := Lib.hid hxn
  by_cases hs : 400 < xs.length ∨ 20000 < j.size
  · rw [show addR xs j = illB 2 by unfold addR; exact if_pos hs]
    rw [show atT xs j = (0, 2) by unfold atT; exact if_pos hs] at i1
    rw [hxn] at hn i1 i3 ⊢
    clear hR hm hw hs i3 i2 i5
    go_enter Try.func11, Try.ntmps11
    go_wp2_with (first
      | (go_at_call 44; go_fit (i1 _ (HR.out _ HB0.out) (HM.out _ HB0.out)); rintro e0 w1 ⟨rfl, hb⟩; have HA1 := Lib.hid (arrX_on HA0.out hb); have HB1 := Lib.hid (HB0.out.trans (hb.mono HB0.out.size)); clear hb; obtain ⟨⟨c0, c1⟩, f0, f1⟩ := arrX_two HA1.out))
    have hE : Arr _ w.heap.size 27 [.slice none 0 0, .int .i64 2] := ((HA1.out.put 0 (.slice none 0 0)).put 1 (.int .i64 2))
    exact bodyPost_ret (v := .agg #[.slice none 0 0, .int .i64 2]) (results_cell_row (P := Try.prog) Try.results11 _ _ w.heap.size 27 _ (0, 0) _ rfl hE Try.underlying27 rfl (by kernel_rfl)) rfl
      ⟨bo_ill _ _ _, (HB1.out.setCell (p := ⟨w.heap.size, 0, none⟩) (Nat.le_refl _) _).setCell (p := ⟨w.heap.size, 1, none⟩) (Nat.le_refl _) _⟩
  cases hk : bkB xs
  · rw [show addR xs j = illB 1 by unfold addR; rw [if_neg hs, if_pos (.inl hk)]]
    rw [show atT xs j = (0, 1) by unfold atT; rw [if_neg hs, if_pos hk]] at i1
    rw [hxn] at hn i1 i3 ⊢
    clear hR hm hw hs i3 i2 hk i5
    go_enter Try.func11, Try.ntmps11
    go_wp2_with (first
      | (go_at_call 44; go_fit (i1 _ (HR.out _ HB0.out) (HM.out _ HB0.out)); rintro e0 w1 ⟨rfl, hb⟩; have HA1 := Lib.hid (arrX_on HA0.out hb); have HB1 := Lib.hid (HB0.out.trans (hb.mono HB0.out.size)); clear hb; obtain ⟨⟨c0, c1⟩, f0, f1⟩ := arrX_two HA1.out))
    have hE : Arr _ w.heap.size 27 [.slice none 0 0, .int .i64 1] := ((HA1.out.put 0 (.slice none 0 0)).put 1 (.int .i64 1))
    exact bodyPost_ret (v := .agg #[.slice none 0 0, .int .i64 1]) (results_cell_row (P := Try.prog) Try.results11 _ _ w.heap.size 27 _ (0, 0) _ rfl hE Try.underlying27 rfl (by kernel_rfl)) rfl
      ⟨bo_ill _ _ _, (HB1.out.setCell (p := ⟨w.heap.size, 0, none⟩) (Nat.le_refl _) _).setCell (p := ⟨w.heap.size, 1, none⟩) (Nat.le_refl _) _⟩
  cases hh : hereT j xs
  rotate_left
  · have ha := bk_addr hk hh
    rw [show addR xs j = illB 7 by unfold addR; rw [if_neg hs, if_neg (by rw [hk, ha]; simp), if_pos hh]]
    rw [show atT xs j = (posT j xs, 0) by unfold atT; rw [if_neg hs, if_neg (by rw [hk]; simp), if_neg (by rw [hh]; simp)]] at i1
    rw [hxn] at hn i1 i3 ⊢
    clear hR hm hw hs i3 i2 hk hh ha i5
    go_enter Try.func11, Try.ntmps11
    go_wp2_with (first
      | (go_at_call 44; go_fit (i1 _ (HR.out _ HB0.out) (HM.out _ HB0.out)); rintro e0 w1 ⟨rfl, hb⟩; have HA1 := Lib.hid (arrX_on HA0.out hb); have HB1 := Lib.hid (HB0.out.trans (hb.mono HB0.out.size)); clear hb; obtain ⟨⟨c0, c1⟩, f0, f1⟩ := arrX_two HA1.out))
    have hE : Arr _ w.heap.size 27 [.slice none 0 0, .int .i64 7] := ((HA1.out.put 0 (.slice none 0 0)).put 1 (.int .i64 7))
    exact bodyPost_ret (v := .agg #[.slice none 0 0, .int .i64 7]) (results_cell_row (P := Try.prog) Try.results11 _ _ w.heap.size 27 _ (0, 0) _ rfl hE Try.underlying27 rfl (by kernel_rfl)) rfl
      ⟨bo_ill _ _ _, (HB1.out.setCell (p := ⟨w.heap.size, 0, none⟩) (Nat.le_refl _) _).setCell (p := ⟨w.heap.size, 1, none⟩) (Nat.le_refl _) _⟩
  rw [show atT xs j = (posT j xs, 6) by unfold atT; rw [if_neg hs, if_neg (by rw [hk]; simp), if_pos hh]] at i1
  cases ha : addrB j
  · rw [show addR xs j = illB 1 by unfold addR; rw [if_neg hs, if_pos (.inr ha)]]
    rw [ha] at i2
    rw [hxn] at hn i1 i3 ⊢
    clear hR hm hw hs i3 hk hh ha i5
    go_enter Try.func11, Try.ntmps11
    go_wp2_with (first
      | (go_at_call 45; have _ := HA1; go_fit (i2 _ (HM.out _ HB1.out)); rintro e0 w2 ⟨rfl, hb⟩; have HA2 := Lib.hid (arrX_on HA1.out hb); have HB2 := Lib.hid (HB1.out.trans (hb.mono HB1.out.size)); clear hb; obtain ⟨⟨c0, c1⟩, f0, f1⟩ := arrX_two HA2.out)
      | (go_at_call 44; go_fit (i1 _ (HR.out _ HB0.out) (HM.out _ HB0.out)); rintro e0 w1 ⟨rfl, hb⟩; have HA1 := Lib.hid (arrX_on HA0.out hb); have HB1 := Lib.hid (HB0.out.trans (hb.mono HB0.out.size)); clear hb; obtain ⟨⟨c0, c1⟩, f0, f1⟩ := arrX_two HA1.out))
    have hE : Arr _ w.heap.size 27 [.slice none 0 0, .int .i64 1] := ((HA2.out.put 0 (.slice none 0 0)).put 1 (.int .i64 1))
    exact bodyPost_ret (v := .agg #[.slice none 0 0, .int .i64 1]) (results_cell_row (P := Try.prog) Try.results11 _ _ w.heap.size 27 _ (0, 0) _ rfl hE Try.underlying27 rfl (by kernel_rfl)) rfl
      ⟨bo_ill _ _ _, (HB2.out.setCell (p := ⟨w.heap.size, 0, none⟩) (Nat.le_refl _) _).setCell (p := ⟨w.heap.size, 1, none⟩) (Nat.le_refl _) _⟩
  rw [ha] at i2
  have h8 := (bkB_iff.1 hk).1
  have hnf : ¬ (bkB xs = false ∨ addrB j = false) := by rw [hk, ha]; simp
  have hh2 : ¬ hereT j xs = true := by rw [hh]; decide
  by_cases h9 : 8 ≤ xs.length
  · rw [show addR xs j = illB 9 by unfold addR; rw [if_neg hs, if_neg hnf, if_neg hh2, if_pos h9]]
    obtain rfl : n = 8 := by omega
    rw [hxn] at hn i1 i3 ⊢
    clear hR hm hw hs i3 hk hh ha hnf hh2 h9 i5
    go_enter Try.func11, Try.ntmps11
    go_wp2_with (first
      | (go_at_call 45; have _ := HA1; go_fit (i2 _ (HM.out _ HB1.out)); rintro e0 w2 ⟨rfl, hb⟩; have HA2 := Lib.hid (arrX_on HA1.out hb); have HB2 := Lib.hid (HB1.out.trans (hb.mono HB1.out.size)); clear hb; obtain ⟨⟨c0, c1⟩, f0, f1⟩ := arrX_two HA2.out)
      | (go_at_call 44; go_fit (i1 _ (HR.out _ HB0.out) (HM.out _ HB0.out)); rintro e0 w1 ⟨rfl, hb⟩; have HA1 := Lib.hid (arrX_on HA0.out hb); have HB1 := Lib.hid (HB0.out.trans (hb.mono HB0.out.size)); clear hb; obtain ⟨⟨c0, c1⟩, f0, f1⟩ := arrX_two HA1.out))
    have hE : Arr _ w.heap.size 27 [.slice none 0 0, .int .i64 9] := ((HA2.out.put 0 (.slice none 0 0)).put 1 (.int .i64 9))
    exact bodyPost_ret (v := .agg #[.slice none 0 0, .int .i64 9]) (results_cell_row (P := Try.prog) Try.results11 _ _ w.heap.size 27 _ (0, 0) _ rfl hE Try.underlying27 rfl (by kernel_rfl)) rfl
      ⟨bo_ill _ _ _, (HB2.out.setCell (p := ⟨w.heap.size, 0, none⟩) (Nat.le_refl _) _).setCell (p := ⟨w.heap.size, 1, none⟩) (Nat.le_refl _) _⟩
  rw [show addR xs j = ⟨xs.take (posT j xs) ++ [j] ++ xs.drop (posT j xs), 0⟩ by unfold addR; rw [if_neg hs, if_neg hnf, if_neg hh2, if_neg h9]]
  obtain ⟨P, hP⟩ : ∃ P, posT j xs = P := ⟨_, rfl⟩
  have hpl := posT_le j xs
  rw [hP] at hpl i1 ⊢
  have i4 := fun g vb B W hO hY => impl_insX xs j n P g vb B W hxn (by omega) (by omega) hO hY
  have HML : Hid ((xs.take P ++ [j] ++ xs.drop P).length = n + 1) := Lib.hid (by simp only [List.length_append, List.length_take, List.length_drop, List.length_cons, List.length_nil]; omega)
  have q1 : ¬ (n : Int) = (8 : Int) := by omega
  have q2 : ((n : Int) == (8 : Int)) = false := by simpa using q1
  have q3 : ¬ n = 8 := by omega
  have hl1 : w.heap.size < w.heap.size + 1 := Nat.lt_succ_self _
  rw [hxn] at hn i1 i3 ⊢
  clear hR hm hw hxn hk hs ha hnf hh hh2 h9 hP hpl
  go_enter Try.func11, Try.ntmps11
  go_wp2_with (first
    | (go_at_call 46; have _ := HA5; go_fit (i4 w2.heap.size w5.heap.size w2.heap.size _ (HV5.out.alloc _) ((Arr.fresh w5 9 [.string j]).cell 0)); rintro e0 w4 ⟨⟨q4, k4, rfl, hv⟩, hb⟩; have HV4 := Lib.hid (hv.mono (show w.heap.size + 1 ≤ _ by rw [World.size_alloc]; have := arrX_lt HA5.out; omega)); clear hv; have HA4 := Lib.hid (arrX_on (arrX_on HA5.out ((Below.refl _ _).alloc (Nat.le_refl _) _)) hb); have HB4 := Lib.hid ((HB5.out.alloc HB5.out.size _).trans (hb.mono (HB5.out.alloc HB5.out.size _).size)); clear hb; obtain ⟨⟨c0, c1⟩, f0, f1⟩ := arrX_two HA4.out)
    | (go_at_call 48; have _ := HA3; go_fit (i5 _ _ (by simp)); rintro e0 w5 ⟨rfl, hb⟩; have HV5 := Lib.hid (HV3.out.on hb); have hw3 : w3.heap.size ≤ w5.heap.size := hb.size; have HA5 := Lib.hid (arrX_on HA3.out hb); have HB5 := Lib.hid (HB3.out.trans (hb.mono HB3.out.size)); clear hb; obtain ⟨⟨c0, c1⟩, f0, f1⟩ := arrX_two HA5.out)
    | (go_at_call 47; have _ := HA2; go_fit (i3 _ (HR.out _ HB2.out)); rintro e0 w3 ⟨⟨rfl, hv⟩, hb⟩; have HV3 := Lib.hid hv; have hw2 : w.heap.size < w2.heap.size := arrX_lt HA2.out; clear hv; have HA3 := Lib.hid (arrX_on HA2.out hb); have HB3 := Lib.hid (HB2.out.trans (hb.mono HB2.out.size)); clear hb; obtain ⟨⟨c0, c1⟩, f0, f1⟩ := arrX_two HA3.out)
    | (go_at_call 45; have _ := HA1; go_fit (i2 _ (HM.out _ HB1.out)); rintro e0 w2 ⟨rfl, hb⟩; have HA2 := Lib.hid (arrX_on HA1.out hb); have HB2 := Lib.hid (HB1.out.trans (hb.mono HB1.out.size)); clear hb; obtain ⟨⟨c0, c1⟩, f0, f1⟩ := arrX_two HA2.out)
    | (go_at_call 44; go_fit (i1 _ (HR.out _ HB0.out) (HM.out _ HB0.out)); rintro e0 w1 ⟨rfl, hb⟩; have HA1 := Lib.hid (arrX_on HA0.out hb); have HB1 := Lib.hid (HB0.out.trans (hb.mono HB0.out.size)); clear hb; obtain ⟨⟨c0, c1⟩, f0, f1⟩ := arrX_two HA1.out))
  have hv4 := HV4.out
  rw [← HML.out] at hv4
  obtain ⟨hE, hO2, hBl⟩ := passX (R := ⟨xs.take P ++ [j] ++ xs.drop P, 0⟩) HA4.out HB4.out (Nat.le_refl _) hl1 hv4
  rw [HML.out] at hE
  exact bodyPost_ret (v := .agg #[.slice q4 (n + 1) k4, .int .i64 0]) (results_cell_row (P := Try.prog) Try.results11 _ _ w.heap.size 27 _ (0, 0) _ rfl hE Try.underlying27 rfl (by kernel_rfl)) rfl
    ⟨⟨q4, k4, by rw [HML.out], by rw [HML.out] at hO2 ⊢; exact hO2⟩, by rw [HML.out] at hBl; exact hBl⟩
set_option maxRecDepth 100000 in
set_option maxHeartbeats 4000000 in
theorem impl_blockdel (xs : List ByteArray) (j : ByteArray) (p : Option Addr) (c : Nat) (w : World) (hn : xs.length ≤ 1048576) (hj : j.size ≤ 1048576) (hw : ∀ x ∈ xs, x.size ≤ 1048576) (hR : RowC strC 1 w p xs) (hm : MaxL w) :
    Calls Try.prog 15 #[.slice p xs.length c, .string j] w fun e w' => BoIs w.heap.size (delR xs j) e w' ∧ Below w.heap.size w w' := by
  have HA0 : Hid (Arr (w.alloc (.cells #[.slice none 0 0, .int .i64 0] 27)) w.heap.size 27 [.slice none 0 0, .int .i64 0]) := Lib.hid (Arr.fresh w _ [.slice none 0 0, .int .i64 0])
  have HB0 : Hid (Below w.heap.size w (w.alloc (.cells #[.slice none 0 0, .int .i64 0] 27))) := Lib.hid ((Below.refl _ _).alloc (Nat.le_refl _) _)
  have HR := Lib.hid (fun W (h : Below w.heap.size w W) => hR.on h)
  have HM := Lib.hid (fun W (h : Below w.heap.size w W) => hm.below h hm.pos)
  have i1 := fun W h hm => impl_blockAt xs j p c W hn hj (tx_max hw) h hm
  have i2 := fun W hm => impl_address j W (by unfold maxLen; omega) hm
  have i3 := fun W h => impl_txcopy xs p c W hn hw h
  have i5 := fun W => joined_at9 j W (by omega)
  obtain ⟨n, hxn⟩ : ∃ n, xs.length = n := ⟨_, rfl⟩
  have HN := Lib.hid hxn
  clear i2 i5
  by_cases hs : 400 < xs.length ∨ 20000 < j.size
  · rw [show delR xs j = illB 2 by unfold delR; exact if_pos hs]
    rw [show atT xs j = (0, 2) by unfold atT; exact if_pos hs] at i1
    rw [hxn] at hn i1 i3 ⊢
    clear hR hm hw hs i3
    go_enter Try.func15, Try.ntmps15
    go_wp2_with (first
      | (go_at_call 44; go_fit (i1 _ (HR.out _ HB0.out) (HM.out _ HB0.out)); rintro e0 w1 ⟨rfl, hb⟩; have HA1 := Lib.hid (arrX_on HA0.out hb); have HB1 := Lib.hid (HB0.out.trans (hb.mono HB0.out.size)); clear hb; obtain ⟨⟨c0, c1⟩, f0, f1⟩ := arrX_two HA1.out))
    have hE : Arr _ w.heap.size 27 [.slice none 0 0, .int .i64 2] := ((HA1.out.put 0 (.slice none 0 0)).put 1 (.int .i64 2))
    exact bodyPost_ret (v := .agg #[.slice none 0 0, .int .i64 2]) (results_cell_row (P := Try.prog) Try.results15 _ _ w.heap.size 27 _ (0, 0) _ rfl hE Try.underlying27 rfl (by kernel_rfl)) rfl
      ⟨bo_ill _ _ _, (HB1.out.setCell (p := ⟨w.heap.size, 0, none⟩) (Nat.le_refl _) _).setCell (p := ⟨w.heap.size, 1, none⟩) (Nat.le_refl _) _⟩
  cases hk : bkB xs
  · rw [show delR xs j = illB 1 by unfold delR; rw [if_neg hs, if_pos hk]]
    rw [show atT xs j = (0, 1) by unfold atT; rw [if_neg hs, if_pos hk]] at i1
    rw [hxn] at hn i1 i3 ⊢
    clear hR hm hw hs i3 hk
    go_enter Try.func15, Try.ntmps15
    go_wp2_with (first
      | (go_at_call 44; go_fit (i1 _ (HR.out _ HB0.out) (HM.out _ HB0.out)); rintro e0 w1 ⟨rfl, hb⟩; have HA1 := Lib.hid (arrX_on HA0.out hb); have HB1 := Lib.hid (HB0.out.trans (hb.mono HB0.out.size)); clear hb; obtain ⟨⟨c0, c1⟩, f0, f1⟩ := arrX_two HA1.out))
    have hE : Arr _ w.heap.size 27 [.slice none 0 0, .int .i64 1] := ((HA1.out.put 0 (.slice none 0 0)).put 1 (.int .i64 1))
    exact bodyPost_ret (v := .agg #[.slice none 0 0, .int .i64 1]) (results_cell_row (P := Try.prog) Try.results15 _ _ w.heap.size 27 _ (0, 0) _ rfl hE Try.underlying27 rfl (by kernel_rfl)) rfl
      ⟨bo_ill _ _ _, (HB1.out.setCell (p := ⟨w.heap.size, 0, none⟩) (Nat.le_refl _) _).setCell (p := ⟨w.heap.size, 1, none⟩) (Nat.le_refl _) _⟩
  have hnf : ¬ bkB xs = false := by rw [hk]; simp
  have h8 := (bkB_iff.1 hk).1
  cases hh : hereT j xs
  · rw [show delR xs j = illB 6 by unfold delR; rw [if_neg hs, if_neg hnf, if_pos hh]]
    rw [show atT xs j = (posT j xs, 6) by unfold atT; rw [if_neg hs, if_neg hnf, if_pos hh]] at i1
    rw [hxn] at hn i1 i3 ⊢
    clear hR hm hw hs i3 hk hh hnf
    go_enter Try.func15, Try.ntmps15
    go_wp2_with (first
      | (go_at_call 44; go_fit (i1 _ (HR.out _ HB0.out) (HM.out _ HB0.out)); rintro e0 w1 ⟨rfl, hb⟩; have HA1 := Lib.hid (arrX_on HA0.out hb); have HB1 := Lib.hid (HB0.out.trans (hb.mono HB0.out.size)); clear hb; obtain ⟨⟨c0, c1⟩, f0, f1⟩ := arrX_two HA1.out))
    have hE : Arr _ w.heap.size 27 [.slice none 0 0, .int .i64 6] := ((HA1.out.put 0 (.slice none 0 0)).put 1 (.int .i64 6))
    exact bodyPost_ret (v := .agg #[.slice none 0 0, .int .i64 6]) (results_cell_row (P := Try.prog) Try.results15 _ _ w.heap.size 27 _ (0, 0) _ rfl hE Try.underlying27 rfl (by kernel_rfl)) rfl
      ⟨bo_ill _ _ _, (HB1.out.setCell (p := ⟨w.heap.size, 0, none⟩) (Nat.le_refl _) _).setCell (p := ⟨w.heap.size, 1, none⟩) (Nat.le_refl _) _⟩
  have hh2 : ¬ hereT j xs = false := by rw [hh]; decide
  rw [show atT xs j = (posT j xs, 0) by unfold atT; rw [if_neg hs, if_neg hnf, if_neg hh2]] at i1
  rw [show delR xs j = ⟨xs.take (posT j xs) ++ xs.drop (posT j xs + 1), 0⟩ by unfold delR; rw [if_neg hs, if_neg hnf, if_neg hh2]]
  have hlt := hereT_lt hh
  obtain ⟨P, hP⟩ : ∃ P, posT j xs = P := ⟨_, rfl⟩
  rw [hP] at hlt i1 ⊢
  obtain ⟨M, hM⟩ : ∃ M, n = M + 1 := ⟨n - 1, by omega⟩
  subst hM
  have i4 := fun g B W hO => impl_delX xs M P g B W hxn (by omega) (by omega) hO
  have HML : Hid ((xs.take P ++ xs.drop (P + 1)).length = M) := Lib.hid (by simp only [List.length_append, List.length_take, List.length_drop]; omega)
  have hw1 : IntKind.i64.wrap ((P : Int) + 1) = (P : Int) + 1 := IntWalk.i64_in _ (by omega)
  have hl1 : w.heap.size < w.heap.size + 1 := Nat.lt_succ_self _
  rw [hxn] at hn i1 i3 ⊢
  clear hR hm hw hxn hk hs hnf hh hh2 hP hlt
  go_enter Try.func15, Try.ntmps15
  go_wp2_with (first
    | (go_at_call 52; have _ := HA3; go_fit (i4 w1.heap.size w1.heap.size _ HV3.out); rintro e0 w4 ⟨rfl, hv, hb⟩; have HV4 := Lib.hid (hv.mono (show w.heap.size + 1 ≤ w1.heap.size from hw2)); clear hv; have HA4 : Hid (Arr w4 w.heap.size 27 [.slice none 0 0, .int .i64 0]) := Lib.hid ((hb.block _ hw2).trans HA3.out); have HB4 := Lib.hid (HB3.out.trans (hb.mono (Nat.le_of_lt hw2))); clear hb; obtain ⟨⟨c0, c1⟩, f0, f1⟩ := arrX_two HA4.out)
    | (go_at_call 47; have _ := HA1; go_fit (i3 _ (HR.out _ HB1.out)); rintro e0 w3 ⟨⟨rfl, hv⟩, hb⟩; have HV3 := Lib.hid hv; have hw2 : w.heap.size < w1.heap.size := arrX_lt HA1.out; clear hv; have HA3 := Lib.hid (arrX_on HA1.out hb); have HB3 := Lib.hid (HB1.out.trans (hb.mono HB1.out.size)); clear hb; obtain ⟨⟨c0, c1⟩, f0, f1⟩ := arrX_two HA3.out)
    | (go_at_call 44; go_fit (i1 _ (HR.out _ HB0.out) (HM.out _ HB0.out)); rintro e0 w1 ⟨rfl, hb⟩; have HA1 := Lib.hid (arrX_on HA0.out hb); have HB1 := Lib.hid (HB0.out.trans (hb.mono HB0.out.size)); clear hb; obtain ⟨⟨c0, c1⟩, f0, f1⟩ := arrX_two HA1.out))
  have hv4 := HV4.out
  rw [← HML.out] at hv4
  obtain ⟨hE, hO2, hBl⟩ := passX (R := ⟨xs.take P ++ xs.drop (P + 1), 0⟩) HA4.out HB4.out (Nat.le_refl _) hl1 hv4
  rw [HML.out] at hE
  exact bodyPost_ret (v := .agg #[.slice (some ⟨w1.heap.size, 0, none⟩) (M) (M + 1), .int .i64 0]) (results_cell_row (P := Try.prog) Try.results15 _ _ w.heap.size 27 _ (0, 0) _ rfl hE Try.underlying27 rfl (by kernel_rfl)) rfl
    ⟨⟨_, (M + 1), by rw [HML.out], by rw [HML.out] at hO2 ⊢; exact hO2⟩, by rw [HML.out] at hBl; exact hBl⟩
end Go.Proofs.Ytpjmcpfmnlfmdaa

namespace Go.Proofs.Ytpjmcpfmnlfmdaa
set_option linter.unusedSimpArgs false
set_option linter.unusedVariables false
open Go.RowKit Go.Joins

theorem one_allX (xs : List ByteArray) : ∀ u ∈ xs.flatMap strC, u.oneCell' = true := by rw [flat_tx]; exact one_str
theorem flat_lenX (xs : List ByteArray) : (xs.flatMap strC).length = xs.length := by rw [flat_tx, List.length_map]
theorem empty_rowX (W : World) : OwnC strC (W.alloc (.cells #[] 9)) W.heap.size 9 1 (.slice (some ⟨W.heap.size, 0, none⟩) 0 0) [] :=
  World.ownsRow_lit W #[] 0 (Nat.le_refl _) (Nat.zero_le _) rfl
/-- append(v, part...): the part's elements lie at an address. -/
theorem wp_app_subX {o : Oper} {a : Act} {w : World} {K : Act → World → Prop} {Q : Exit → Act → World → Prop} (s x : Operand)
    (ho : o.op = .call { callee := .builtin .append, args := #[s, x], argTypes := #[23, 23] })
    (B : Nat) (v : Value) (ys : List ByteArray) (hs : a.eval s = v) (hown : OwnC strC w B 9 1 v ys) (g off m c : Nat) (zs : List ByteArray) (hx : a.eval x = .slice (some ⟨g, off, none⟩) m c) (hm : zs.length = m)
    (hcells : ∀ i (h : i < zs.length), w.cell? ⟨g, off + i, none⟩ = some (.string zs[i]))
    (hlen : ys.length + zs.length ≤ 2000000) (hB : B ≤ w.heap.size) (h : ∀ v' w', OwnC strC w' B 9 1 v' (ys ++ zs) → w.grownBy w' v.ownBlock → K (a.put o.dst v') w') : o.wp Try.prog a w K Q := by
  obtain ⟨i0, hi, hz0, hz1, hz2⟩ := info_parts info_tx
  subst hm
  refine wp_append_own w s x 23 ho B 9 i0 _ 1 16 Try.underlying23 hi hz0 hz1 hz2 rfl (by decide) v ys.length (ys.flatMap strC) hs hown ⟨g, off, none⟩ zs.length c (zs.flatMap strC) hx (by rw [flat_lenX, Nat.mul_one]) (fun j u hj => ?_) (one_allX zs) (by unfold maxLen; omega) (by omega) hB (fun v' w' h1 h2 _ => h v' w' ?_ h2)
  · have hlt : j < zs.length := by
      have := (List.getElem?_eq_some_iff.1 hj).1
      rwa [flat_lenX] at this
    rw [flat_tx, List.getElem?_map, List.getElem?_eq_getElem hlt] at hj
    rw [show (⟨g, off, none⟩ : Addr).add j = ⟨g, off + j, none⟩ by unfold Addr.add; split <;> simp_all, hcells j hlt]
    exact hj
  · show w'.ownsRow B _ 1 v' (ys ++ zs).length ((ys ++ zs).flatMap strC)
    rw [List.length_append, List.flatMap_append]
    exact h1
theorem wp_app_oneX {o : Oper} {a : Act} {w : World} {K : Act → World → Prop} {Q : Exit → Act → World → Prop} (s x : Operand)
    (ho : o.op = .call { callee := .builtin .append, args := #[s, x], argTypes := #[23, 23] })
    (B : Nat) (v : Value) (ys : List ByteArray) (hs : a.eval s = v) (hown : OwnC strC w B 9 1 v ys) (g : Nat) (z : ByteArray) (hx : a.eval x = .slice (some ⟨g, 0, none⟩) 1 1) (hA : Arr w g 9 [.string z])
    (hlen : ys.length ≤ 1000000) (hB : B ≤ w.heap.size) (h : ∀ v' w', OwnC strC w' B 9 1 v' (ys ++ [z]) → w.grownBy w' v.ownBlock → K (a.put o.dst v') w') : o.wp Try.prog a w K Q :=
  wp_app_subX s x ho B v ys hs hown g 0 1 1 [z] hx rfl (fun i hi => by
    have h0 : i = 0 := by simp at hi; omega
    subst h0
    exact hA.cell 0) (by show ys.length + 1 ≤ 2000000; omega) hB h
theorem fresh2X (W : World) (o : Obj) (j : ByteArray) : Arr ((W.alloc o).alloc (.cells #[.string j] 9)) (W.heap.size + 1) 9 [.string j] := by
  have := Arr.fresh (W.alloc o) 9 [.string j]
  rw [World.size_alloc] at this
  exact this
/-- append(v, nothing...). -/
theorem wp_app_nilX {o : Oper} {a : Act} {w : World} {K : Act → World → Prop} {Q : Exit → Act → World → Prop} (s x : Operand)
    (ho : o.op = .call { callee := .builtin .append, args := #[s, x], argTypes := #[23, 23] })
    (B : Nat) (v : Value) (ys : List ByteArray) (hs : a.eval s = v) (hown : OwnC strC w B 9 1 v ys) (hx : a.eval x = .slice none 0 0)
    (h : K (a.put o.dst v) w) : o.wp Try.prog a w K Q := by
  obtain ⟨i0, hi, hz0, hz1, hz2⟩ := info_parts info_tx
  have hr := run_append_owned_none (P := Try.prog) (w := w) B 23 o.type 9 i0 1 Try.underlying23 hi v ys.length (ys.flatMap strC) hown
  unfold Oper.wp execOp
  simp only [ho, resolve, invoke, builtin, Sem.run_bind, Sem.run_pure, Result.andThen_ok, List.map_toArray, List.map_cons, List.map_nil, hs, hx, hr]
  exact h
theorem spec_inX (xs : List ByteArray) (j : ByteArray) (p : Option Addr) (c : Nat) (w : World) (hn : xs.length ≤ 1000) (hR : RowC strC 1 w p xs) :
    Calls Try.prog 50 #[.slice p xs.length c, .string j] w fun e w' => e = .returned (.bool (xs.any fun x => x.toList == j.toList)) ∧ Below w.heap.size w w' := by
  obtain ⟨n, hxn⟩ : ∃ n, xs.length = n := ⟨_, rfl⟩
  have HP := Lib.hid (fun W (h : Below w.heap.size w W) => hR.on h)
  have HN := Lib.hid hxn
  obtain ⟨Z, hZ⟩ : ∃ Z, (xs.any fun x => x.toList == j.toList) = Z := ⟨_, rfl⟩
  have HZ := Lib.hid hZ
  rw [hxn] at hn ⊢
  rw [hZ]
  clear hR hxn hZ
  go_enter Try.func50, Try.ntmps50
  go_wp2
  go_loopw [5] (fun iq wr => ∃ k : Nat, k ≤ n ∧ iq = .int .i64 k ∧ (∀ i (h : i < xs.length), i < k → (xs[i].toList == j.toList) = false) ∧ Below w.heap.size w wr) (fun i _ => n - (intOf i).toNat)
  case atStart => exact ⟨0, Nat.zero_le _, rfl, fun i _ h => absurd h (Nat.not_lt_zero _), Below.refl _ _⟩
  case round =>
    obtain ⟨k, hk, rfl, hA, hb⟩ := hrel
    have HA := Lib.hid hA
    have HB := Lib.hid hb
    clear hA
    by_cases hlt : k < n
    · have hlt1 : k < xs.length := by rw [HN.out]; exact hlt
      obtain ⟨g, rfl, hg, a0⟩ := row_tx (HP.out _ hb) hlt1
      obtain ⟨x, hx⟩ : ∃ x, xs[k] = x := ⟨_, rfl⟩
      have HX := Lib.hid hx
      rw [hx] at a0
      obtain ⟨b, hbx⟩ : ∃ b, (x.toList == j.toList) = b := ⟨_, rfl⟩
      have HBX := Lib.hid hbx
      clear hb hx
      cases b
      · go_wp2
        go_roundw
        case rel =>
          refine ⟨k + 1, by omega, by go_num, fun i hi h => ?_, HB.out⟩
          by_cases e : i = k
          · subst e; rw [HX.out]; exact HBX.out
          · exact HA.out i hi (by omega)
        case measure => simp [intOf]; omega
      · have HL : Hid (Z = true) := Lib.hid (by
          rw [← HZ.out, List.any_eq_true]
          exact ⟨xs[k], List.getElem_mem _, by rw [HX.out]; exact HBX.out⟩)
        go_wp2
        go_ret
        exact ⟨ret_bool HL.out.symm, HB.out⟩
    · have HL : Hid (Z = false) := Lib.hid (by
        rw [← HZ.out, List.any_eq_false]
        intro x hx
        obtain ⟨i, hi, rfl⟩ := List.mem_iff_getElem.1 hx
        rw [HA.out i hi (by rw [HN.out] at hi; omega)]
        decide)
      clear hb
      go_wp2
      go_ret
      exact ⟨ret_bool HL.out.symm, HB.out⟩
set_option maxRecDepth 100000 in
set_option maxHeartbeats 2000000 in
theorem spec_outX (xs : List ByteArray) (j : ByteArray) (p : Option Addr) (c : Nat) (w : World) (hn : xs.length ≤ 1000) (hR : RowC strC 1 w p xs) :
    Calls Try.prog 53 #[.slice p xs.length c, .string j] w fun e w' => (∃ q k, e = .returned (.slice q (xs.filter fun x => !(x.toList == j.toList)).length k) ∧ OwnC strC w' w.heap.size 9 1 (.slice q (xs.filter fun x => !(x.toList == j.toList)).length k) (xs.filter fun x => !(x.toList == j.toList))) ∧ Below w.heap.size w w' := by
  obtain ⟨n, hxn⟩ : ∃ n, xs.length = n := ⟨_, rfl⟩
  have HP := Lib.hid (fun W (h : Below w.heap.size w W) => hR.on h)
  have HN := Lib.hid hxn
  obtain ⟨f, hf⟩ : ∃ f : ByteArray → Bool, (fun x => !(x.toList == j.toList)) = f := ⟨_, rfl⟩
  have HF : Hid (∀ x, f x = !(x.toList == j.toList)) := Lib.hid (fun x => by rw [← hf])
  rw [hxn] at hn ⊢
  rw [hf]
  clear hR hxn hf
  go_enter Try.func53, Try.ntmps53
  go_wp2
  have HV0 := Lib.hid (empty_rowX w)
  have HB0 : Hid (Below w.heap.size w (w.alloc (.cells #[] 9))) := Lib.hid ((Below.refl _ _).alloc (Nat.le_refl _) _)
  go_loopw [5, 6] (fun sq iq wr => ∃ k : Nat, k ≤ n ∧ iq = .int .i64 k ∧ OwnC strC wr w.heap.size 9 1 sq ((xs.take k).filter f) ∧ Below w.heap.size w wr) (fun _ i _ => n - (intOf i).toNat)
  case atStart => exact ⟨0, Nat.zero_le _, rfl, HV0.out, HB0.out⟩
  case round =>
    obtain ⟨k, hk, rfl, hv, hb⟩ := hrel
    obtain ⟨q0, k0, hv0⟩ := own_lenX hv
    subst hv0
    have HV := Lib.hid hv
    have HB := Lib.hid hb
    clear hv
    by_cases hlt : k < n
    · have hlt1 : k < xs.length := by rw [HN.out]; exact hlt
      obtain ⟨g, rfl, hg, a0⟩ := row_tx (HP.out _ hb) hlt1
      obtain ⟨x, hx⟩ : ∃ x, xs[k] = x := ⟨_, rfl⟩
      rw [hx] at a0
      have HT : Hid (xs.take (k + 1) = xs.take k ++ [x]) := Lib.hid (by rw [List.take_succ_eq_append_getElem hlt1, hx])
      have HL : Hid (((xs.take k).filter f).length ≤ 1000) := Lib.hid (Nat.le_trans (List.length_filter_le _ _) (by rw [List.length_take]; omega))
      obtain ⟨b, hbx⟩ : ∃ b, (x.toList == j.toList) = b := ⟨_, rfl⟩
      have HBX := Lib.hid hbx
      clear hb hx
      cases b
      · have HE : Hid ((xs.take (k + 1)).filter f = (xs.take k).filter f ++ [x]) := Lib.hid (by rw [HT.out, List.filter_append, List.filter_cons, if_pos (by rw [HF.out, HBX.out]; rfl)]; rfl)
        go_wp2_with (at_builtin; refine wpList_plain rfl fun K hK => ?_; refine wp_app_oneX _ _ rfl w.heap.size _ _ rfl (HV.out.alloc _) wr.heap.size x rfl (Arr.fresh wr 9 [.string x]) (by have := HL.out; omega) (by rw [World.size_alloc]; have := HB.out.size; omega) ?_; intro v2 w2 hv2 hg2; have HV2 := Lib.hid hv2; have HB2 : Hid (Below w.heap.size w w2) := Lib.hid ((HB.out.alloc HB.out.size _).grown hg2 (HB.out.alloc HB.out.size _).size (fun k hk => own_base HV.out k hk)); clear hv2 hg2; refine hK _ _ ?_)
        go_roundw
        case rel => exact ⟨k + 1, by omega, by go_num, by rw [HE.out]; exact HV2.out, HB2.out⟩
        case measure => simp [intOf]; omega
      · have HE : Hid ((xs.take (k + 1)).filter f = (xs.take k).filter f) := Lib.hid (by rw [HT.out, List.filter_append, List.filter_cons, if_neg (by rw [HF.out, HBX.out]; decide)]; simp)
        go_wp2
        go_roundw
        case rel => exact ⟨k + 1, by omega, by go_num, by rw [HE.out]; exact HV.out, HB.out⟩
        case measure => simp [intOf]; omega
    · obtain rfl : k = n := by omega
      have HT : Hid (xs.take k = xs) := Lib.hid (List.take_of_length_le (by rw [HN.out]; exact Nat.le_refl _))
      clear hb
      go_wp2
      go_ret
      have hv := HV.out
      rw [HT.out] at hv ⊢
      exact ⟨⟨q0, k0, rfl, hv⟩, HB.out⟩
set_option maxRecDepth 100000 in
set_option maxHeartbeats 2000000 in
theorem spec_putX (xs : List ByteArray) (j : ByteArray) (n P : Nat) (p : Option Addr) (c B0 : Nat) (w : World) (hxn : xs.length = n) (hn : n ≤ 8) (hP : posT j xs = P) (hO : OwnC strC w B0 9 1 (.slice p n c) xs) :
    Calls Try.prog 51 #[.slice p n c, .string j] w fun e w' => (∃ q k, e = .returned (.slice q (n + 1) k) ∧ OwnC strC w' w.heap.size 9 1 (.slice q (n + 1) k) (xs.take P ++ [j] ++ xs.drop P)) ∧ Below w.heap.size w w' := by
  have HO := Lib.hid (fun W (h : Below w.heap.size w W) => hO.on h)
  have HN := Lib.hid hxn
  have hple : P ≤ n := by rw [← hP, ← hxn]; exact posT_le j xs
  have HLO : Hid (∀ k (hk : k < xs.length), k < P → Op.bytesLess xs[k].toList j.toList = true) := Lib.hid (by subst hP; exact fun k hk h => posT_lo hk h)
  have HAT : Hid (∀ (h : P < xs.length), Op.bytesLess xs[P].toList j.toList = false) := Lib.hid (by subst hP; exact fun h => posT_at h)
  have HTL : Hid ((xs.take P).length = P ∧ (xs.drop P).length = n - P) := Lib.hid ⟨by rw [List.length_take]; omega, by rw [List.length_drop, hxn]⟩
  have HM : Hid ((xs.take P ++ [j] ++ xs.drop P).length = n + 1) := Lib.hid (by rw [List.length_append, List.length_append, List.length_take, List.length_drop, hxn]; simp; omega)
  have hpg : (p = none ∧ c = 0 ∧ xs = []) ∨ (∃ g, p = some ⟨g, 0, none⟩) ∧ n ≤ c := by
    rcases hO.2 with ⟨h0, h0'⟩ | ⟨g', cap', cur, q1, _, _, q4, _⟩
    · injection h0 with e1 e2 e3
      exact .inl ⟨e1, e3, List.eq_nil_of_length_eq_zero h0'⟩
    · injection q1 with q1 _ q3
      subst q3
      rw [hxn] at q4
      exact .inr ⟨⟨g', q1⟩, q4⟩
  clear hO hP
  rcases hpg with ⟨rfl, rfl, hx0⟩ | ⟨⟨g, rfl⟩, hcap⟩
  · have HX0 := Lib.hid hx0
    obtain rfl : n = 0 := by rw [hx0] at hxn; exact hxn.symm
    obtain rfl : P = 0 := by omega
    clear hx0 hxn
    go_enter Try.func51, Try.ntmps51
    go_wp2
    go_loopw [5] (fun iq wr => iq = .int .i64 0 ∧ Below w.heap.size w wr) (fun i _ => 0)
    case atStart => exact ⟨rfl, Below.refl _ _⟩
    case round =>
      obtain ⟨rfl, hb⟩ := hrel
      have HB := Lib.hid hb
      have HBa := Lib.hid (hb.alloc hb.size (.cells #[] 9))
      clear hb
      go_wp2_with (first
        | (at_builtin; have _ := HV3; refine wpList_plain rfl fun K hK => ?_; refine wp_app_nilX _ _ rfl wr.heap.size v3 _ rfl HV3.out rfl ?_; refine hK _ _ ?_)
        | (at_builtin; have _ := HVn; refine wpList_plain rfl fun K hK => ?_; refine wp_app_oneX _ _ rfl wr.heap.size _ [] rfl ((empty_rowX wr).alloc _) (wr.heap.size + 1) j rfl (fresh2X wr _ j) (by simp) (by simp; omega) ?_; intro v3 w3 hv3 hg3; have HV3 := Lib.hid hv3; have HB3 : Hid (Below w.heap.size w w3) := Lib.hid ((HBa.out.alloc HBa.out.size _).grown hg3 (HBa.out.alloc HBa.out.size _).size (fun k hk => by have := own_base (empty_rowX wr) k hk; have := HB.out.size; omega)); clear hv3 hg3; refine hK _ _ ?_)
        | (at_builtin; refine wpList_plain rfl fun K hK => ?_; refine wp_app_nilX _ _ rfl wr.heap.size _ [] rfl (empty_rowX wr) rfl ?_; have HVn := Lib.hid (empty_rowX wr); refine hK _ _ ?_))
      obtain ⟨q4, k4, e4⟩ := own_lenX HV3.out
      subst e4
      go_ret
      have hv := HV3.out.mono HB.out.size
      rw [HX0.out]
      exact ⟨⟨q4, k4, rfl, hv⟩, HB3.out⟩
  · have q2 : (P : Int) ≤ (n : Int) := by omega
    have q4 : (0 : Int) ≤ (P : Int) := by omega
    have q6 : (n : Int) ≤ (c : Int) := by omega
    have q7 : (P : Int) ≤ (c : Int) := by omega
    clear hxn
    go_enter Try.func51, Try.ntmps51
    go_wp2
    go_loopw [5] (fun iq wr => ∃ k : Nat, k ≤ P ∧ iq = .int .i64 k ∧ Below w.heap.size w wr) (fun i _ => P - (intOf i).toNat)
    case atStart => exact ⟨0, Nat.zero_le _, rfl, Below.refl _ _⟩
    case round =>
      obtain ⟨k, hk, rfl, hb⟩ := hrel
      have HB := Lib.hid hb
      by_cases hlt : k < P
      · have hlt1 : k < xs.length := by rw [HN.out]; omega
        obtain ⟨g', hgg, hg, a0⟩ := row_tx (row_ownX (HO.out _ hb)) hlt1
        injection hgg with hgg
        injection hgg with hgg
        subst hgg
        have hbl := HLO.out k hlt1 hlt
        obtain ⟨x, hx⟩ : ∃ x, xs[k] = x := ⟨_, rfl⟩
        rw [hx] at a0 hbl
        clear hb hx
        go_wp2
        go_roundw
        case rel => exact ⟨k + 1, by omega, by go_num, HB.out⟩
        case measure => simp [intOf]; omega
      · have hkP : k = P := by omega
        subst hkP
        clear hlt
        have HBa := Lib.hid (hb.alloc hb.size (.cells #[] 9))
        have HC : Hid (∀ W, Below w.heap.size w W → ∀ i (h : i < xs.length), W.cell? ⟨g, i, none⟩ = some (.string xs[i])) := Lib.hid (fun W h i hi => by
          obtain ⟨g', hgg, hg, a0⟩ := row_tx (row_ownX (HO.out _ h)) hi
          injection hgg with hgg
          injection hgg with hgg
          subst hgg
          exact a0)
        by_cases hpn : k < n
        · have hlt1 : k < xs.length := by rw [HN.out]; omega
          have a0 := HC.out _ hb k hlt1
          have hbl := HAT.out hlt1
          obtain ⟨x, hx⟩ : ∃ x, xs[k] = x := ⟨_, rfl⟩
          rw [hx] at a0 hbl
          have q8 : ¬ k = c := by omega
          have q9 : ¬ (c = k) := by omega
          have q10 : ¬ ((c : Int) = (k : Int)) := by omega
          clear hb hx
          go_wp2_with (first
            | (at_builtin; have _ := HV3; refine wpList_plain rfl fun K hK => ?_; refine wp_app_subX _ _ rfl wr.heap.size v3 _ rfl HV3.out g k (n - k) _ (xs.drop k) rfl HTL.out.2 (fun i hi => by rw [List.getElem_drop]; exact HC.out _ HB3.out _ (by rw [List.length_drop] at hi; omega)) (by rw [List.length_append, HTL.out.1, HTL.out.2]; show k + 1 + (n - k) ≤ 2000000; omega) HS3.out ?_; intro v4 w4 hv4 hg4; have HV4 := Lib.hid hv4; have HB4 : Hid (Below w.heap.size w w4) := Lib.hid (HB3.out.grown hg4 HB3.out.size (fun q hq => by have := own_base HV3.out q hq; have := HB.out.size; omega)); clear hv4 hg4; obtain ⟨q4, k4, e4⟩ := own_lenX HV4.out; rw [HM.out] at e4; subst e4; refine hK _ _ ?_)
            | (at_builtin; have _ := HV2; refine wpList_plain rfl fun K hK => ?_; refine wp_app_oneX _ _ rfl wr.heap.size v2 _ rfl (HV2.out.alloc _) w2.heap.size j rfl (Arr.fresh w2 9 [.string j]) (by rw [HTL.out.1]; omega) (by rw [World.size_alloc]; have := HS2.out; omega) ?_; intro v3 w3 hv3 hg3; have HV3 := Lib.hid hv3; have HB3 : Hid (Below w.heap.size w w3) := Lib.hid ((HB2.out.alloc HB2.out.size _).grown hg3 (HB2.out.alloc HB2.out.size _).size (fun q hq => by have := own_base HV2.out q hq; have := HB.out.size; omega)); have HS3 : Hid (wr.heap.size ≤ w3.heap.size) := Lib.hid (Nat.le_trans HS2.out (Nat.le_trans (by simp) hg3.size)); clear hv3 hg3; refine hK _ _ ?_)
            | (at_builtin; refine wpList_plain rfl fun K hK => ?_; refine wp_app_subX _ _ rfl wr.heap.size _ [] rfl (empty_rowX wr) g 0 k c (xs.take k) rfl HTL.out.1 (fun i hi => by rw [List.length_take] at hi; rw [Nat.zero_add, List.getElem_take]; exact HC.out _ HBa.out i (by omega)) (by rw [HTL.out.1, List.length_nil]; omega) (by simp) ?_; intro v2 w2 hv2 hg2; rw [List.nil_append] at hv2; have HV2 := Lib.hid hv2; have HB2 : Hid (Below w.heap.size w w2) := Lib.hid (HBa.out.grown hg2 HBa.out.size (fun q hq => by have := own_base (empty_rowX wr) q hq; have := HB.out.size; omega)); have HS2 : Hid (wr.heap.size ≤ w2.heap.size) := Lib.hid (Nat.le_trans (by simp) hg2.size); clear hv2 hg2; refine hK _ _ ?_))
          go_ret
          exact ⟨⟨q4, k4, rfl, HV4.out.mono HB.out.size⟩, HB4.out⟩
        · have hkn : k = n := by omega
          subst hkn
          by_cases hc : k = c
          · subst hc
            clear hb
            go_wp2_with (first
              | (at_builtin; have _ := HV3; refine wpList_plain rfl fun K hK => ?_; refine wp_app_subX _ _ rfl wr.heap.size v3 _ rfl HV3.out g 0 0 _ (xs.drop k) rfl (by rw [HTL.out.2]; omega) (fun i hi => by exfalso; rw [HTL.out.2] at hi; omega) (by rw [List.length_append, HTL.out.1, HTL.out.2]; show k + 1 + (k - k) ≤ 2000000; omega) HS3.out ?_; intro v4 w4 hv4 hg4; have HV4 := Lib.hid hv4; have HB4 : Hid (Below w.heap.size w w4) := Lib.hid (HB3.out.grown hg4 HB3.out.size (fun q hq => by have := own_base HV3.out q hq; have := HB.out.size; omega)); clear hv4 hg4; obtain ⟨q4, k4, e4⟩ := own_lenX HV4.out; rw [HM.out] at e4; subst e4; refine hK _ _ ?_)
              | (at_builtin; have _ := HV2; refine wpList_plain rfl fun K hK => ?_; refine wp_app_oneX _ _ rfl wr.heap.size v2 _ rfl (HV2.out.alloc _) w2.heap.size j rfl (Arr.fresh w2 9 [.string j]) (by rw [HTL.out.1]; omega) (by rw [World.size_alloc]; have := HS2.out; omega) ?_; intro v3 w3 hv3 hg3; have HV3 := Lib.hid hv3; have HB3 : Hid (Below w.heap.size w w3) := Lib.hid ((HB2.out.alloc HB2.out.size _).grown hg3 (HB2.out.alloc HB2.out.size _).size (fun q hq => by have := own_base HV2.out q hq; have := HB.out.size; omega)); have HS3 : Hid (wr.heap.size ≤ w3.heap.size) := Lib.hid (Nat.le_trans HS2.out (Nat.le_trans (by simp) hg3.size)); clear hv3 hg3; refine hK _ _ ?_)
              | (at_builtin; refine wpList_plain rfl fun K hK => ?_; refine wp_app_subX _ _ rfl wr.heap.size _ [] rfl (empty_rowX wr) g 0 k k (xs.take k) rfl HTL.out.1 (fun i hi => by rw [List.length_take] at hi; rw [Nat.zero_add, List.getElem_take]; exact HC.out _ HBa.out i (by omega)) (by rw [HTL.out.1, List.length_nil]; omega) (by simp) ?_; intro v2 w2 hv2 hg2; rw [List.nil_append] at hv2; have HV2 := Lib.hid hv2; have HB2 : Hid (Below w.heap.size w w2) := Lib.hid (HBa.out.grown hg2 HBa.out.size (fun q hq => by have := own_base (empty_rowX wr) q hq; have := HB.out.size; omega)); have HS2 : Hid (wr.heap.size ≤ w2.heap.size) := Lib.hid (Nat.le_trans (by simp) hg2.size); clear hv2 hg2; refine hK _ _ ?_))
            go_ret
            exact ⟨⟨q4, k4, rfl, HV4.out.mono HB.out.size⟩, HB4.out⟩
          · have q9 : ¬ (c = k) := fun e => hc e.symm
            have q10 : ¬ ((c : Int) = (k : Int)) := by omega
            clear hb
            go_wp2_with (first
              | (at_builtin; have _ := HV3; refine wpList_plain rfl fun K hK => ?_; refine wp_app_subX _ _ rfl wr.heap.size v3 _ rfl HV3.out g k 0 _ (xs.drop k) rfl (by rw [HTL.out.2]; omega) (fun i hi => by rw [List.getElem_drop]; exact HC.out _ HB3.out _ (by rw [List.length_drop] at hi; omega)) (by rw [List.length_append, HTL.out.1, HTL.out.2]; show k + 1 + (k - k) ≤ 2000000; omega) HS3.out ?_; intro v4 w4 hv4 hg4; have HV4 := Lib.hid hv4; have HB4 : Hid (Below w.heap.size w w4) := Lib.hid (HB3.out.grown hg4 HB3.out.size (fun q hq => by have := own_base HV3.out q hq; have := HB.out.size; omega)); clear hv4 hg4; obtain ⟨q4, k4, e4⟩ := own_lenX HV4.out; rw [HM.out] at e4; subst e4; refine hK _ _ ?_)
              | (at_builtin; have _ := HV2; refine wpList_plain rfl fun K hK => ?_; refine wp_app_oneX _ _ rfl wr.heap.size v2 _ rfl (HV2.out.alloc _) w2.heap.size j rfl (Arr.fresh w2 9 [.string j]) (by rw [HTL.out.1]; omega) (by rw [World.size_alloc]; have := HS2.out; omega) ?_; intro v3 w3 hv3 hg3; have HV3 := Lib.hid hv3; have HB3 : Hid (Below w.heap.size w w3) := Lib.hid ((HB2.out.alloc HB2.out.size _).grown hg3 (HB2.out.alloc HB2.out.size _).size (fun q hq => by have := own_base HV2.out q hq; have := HB.out.size; omega)); have HS3 : Hid (wr.heap.size ≤ w3.heap.size) := Lib.hid (Nat.le_trans HS2.out (Nat.le_trans (by simp) hg3.size)); clear hv3 hg3; refine hK _ _ ?_)
              | (at_builtin; refine wpList_plain rfl fun K hK => ?_; refine wp_app_subX _ _ rfl wr.heap.size _ [] rfl (empty_rowX wr) g 0 k c (xs.take k) rfl HTL.out.1 (fun i hi => by rw [List.length_take] at hi; rw [Nat.zero_add, List.getElem_take]; exact HC.out _ HBa.out i (by omega)) (by rw [HTL.out.1, List.length_nil]; omega) (by simp) ?_; intro v2 w2 hv2 hg2; rw [List.nil_append] at hv2; have HV2 := Lib.hid hv2; have HB2 : Hid (Below w.heap.size w w2) := Lib.hid (HBa.out.grown hg2 HBa.out.size (fun q hq => by have := own_base (empty_rowX wr) q hq; have := HB.out.size; omega)); have HS2 : Hid (wr.heap.size ≤ w2.heap.size) := Lib.hid (Nat.le_trans (by simp) hg2.size); clear hv2 hg2; refine hK _ _ ?_))
            go_ret
            exact ⟨⟨q4, k4, rfl, HV4.out.mono HB.out.size⟩, HB4.out⟩
end Go.Proofs.Ytpjmcpfmnlfmdaa

namespace Go.Proofs.Ytpjmcpfmnlfmdaa
set_option linter.unusedSimpArgs false
set_option linter.unusedVariables false
open Go.RowKit Go.Joins

set_option maxRecDepth 100000 in
set_option maxHeartbeats 4000000 in
theorem spec_blockadd (xs : List ByteArray) (j : ByteArray) (p : Option Addr) (c B0 : Nat) (w : World) (hn : xs.length ≤ 1048576) (hj : j.size ≤ 1048576) (hw : ∀ x ∈ xs, x.size ≤ 1048576) (hO : OwnC strC w B0 9 1 (.slice p xs.length c) xs) :
    Calls Try.prog 14 #[.slice p xs.length c, .string j] w fun e w' => BoIs w.heap.size (addR xs j) e w' ∧ Below w.heap.size w w' := by
  have HA0 : Hid (Arr (w.alloc (.cells #[.slice none 0 0, .int .i64 0] 27)) w.heap.size 27 [.slice none 0 0, .int .i64 0]) := Lib.hid (Arr.fresh w _ [.slice none 0 0, .int .i64 0])
  have HB0 : Hid (Below w.heap.size w (w.alloc (.cells #[.slice none 0 0, .int .i64 0] 27))) := Lib.hid ((Below.refl _ _).alloc (Nat.le_refl _) _)
  have HO := Lib.hid (fun W (h : Below w.heap.size w W) => hO.on h)
  have i1 := fun W h => spec_bkright xs p c W hn (tx_two hw) h
  have i2 := fun W => spec_l11jid j W (by omega)
  have i3 := fun W (h : xs.length ≤ 1000) hr => spec_inX xs j p c W h hr
  obtain ⟨n, hxn⟩ : ∃ n, xs.length = n := ⟨_, rfl⟩
  have HN := Lib.hid hxn
  by_cases hs : 400 < xs.length ∨ 20000 < j.size
  · rw [show addR xs j = illB 2 by unfold addR; exact if_pos hs]
    rw [hxn] at hs ⊢
    clear hO hw i1 i2 i3 hxn hn
    by_cases h2 : 400 < n
    · clear hs
      go_enter Try.func14, Try.ntmps14
      go_wp2
      exact bodyPost_ret (v := .agg #[.slice none 0 0, .int .i64 2]) (results_cell_row (P := Try.prog) Try.results14 _ _ w.heap.size 27 _ (0, 0) _ rfl (Arr.fresh w _ [.slice none 0 0, .int .i64 2]) Try.underlying27 rfl (by kernel_rfl)) rfl
        ⟨bo_ill _ _ _, (Below.refl _ _).alloc (Nat.le_refl _) _⟩
    · have h3 : 20000 < j.size := by omega
      clear hs
      go_enter Try.func14, Try.ntmps14
      go_wp2
      exact bodyPost_ret (v := .agg #[.slice none 0 0, .int .i64 2]) (results_cell_row (P := Try.prog) Try.results14 _ _ w.heap.size 27 _ (0, 0) _ rfl (Arr.fresh w _ [.slice none 0 0, .int .i64 2]) Try.underlying27 rfl (by kernel_rfl)) rfl
        ⟨bo_ill _ _ _, (Below.refl _ _).alloc (Nat.le_refl _) _⟩
  have g1 : ¬ 400 < n := by omega
  have g2 : ¬ 20000 < j.size := by omega
  replace i3 := fun W hr => i3 W (by omega) hr
  cases hk : bkB xs
  · rw [show addR xs j = illB 1 by unfold addR; rw [if_neg hs, if_pos (.inl hk)]]
    rw [hk] at i1
    rw [hxn] at hn i1 i3 HO ⊢
    clear hO hw hxn hk hs
    go_enter Try.func14, Try.ntmps14
    go_wp2_with (first
      | (go_at_call 20; go_fit (i1 _ (row_ownX (HO.out _ HB0.out))); rintro e0 w1 ⟨rfl, hb⟩; have HA1 := Lib.hid (arrX_on HA0.out hb); have HB1 := Lib.hid (HB0.out.trans (hb.mono HB0.out.size)); clear hb; obtain ⟨⟨c0, c1⟩, f0, f1⟩ := arrX_two HA1.out))
    have hE : Arr _ w.heap.size 27 [.slice none 0 0, .int .i64 1] := ((HA1.out.put 0 (.slice none 0 0)).put 1 (.int .i64 1))
    exact bodyPost_ret (v := .agg #[.slice none 0 0, .int .i64 1]) (results_cell_row (P := Try.prog) Try.results14 _ _ w.heap.size 27 _ (0, 0) _ rfl hE Try.underlying27 rfl (by kernel_rfl)) rfl
      ⟨bo_ill _ _ _, (HB1.out.setCell (p := ⟨w.heap.size, 0, none⟩) (Nat.le_refl _) _).setCell (p := ⟨w.heap.size, 1, none⟩) (Nat.le_refl _) _⟩
  rw [hk] at i1
  cases ha : addrB j
  · rw [show addR xs j = illB 1 by unfold addR; rw [if_neg hs, if_pos (.inr ha)]]
    rw [ha] at i2
    rw [hxn] at hn i1 i3 HO ⊢
    clear hO hw hxn hk hs ha
    go_enter Try.func14, Try.ntmps14
    go_wp2_with (first
      | (go_at_call 49; have _ := HA1; go_fit (i2 _); rintro e0 w2 ⟨rfl, hb⟩; have HA2 := Lib.hid (arrX_on HA1.out hb); have HB2 := Lib.hid (HB1.out.trans (hb.mono HB1.out.size)); clear hb; obtain ⟨⟨c0, c1⟩, f0, f1⟩ := arrX_two HA2.out)
      | (go_at_call 20; go_fit (i1 _ (row_ownX (HO.out _ HB0.out))); rintro e0 w1 ⟨rfl, hb⟩; have HA1 := Lib.hid (arrX_on HA0.out hb); have HB1 := Lib.hid (HB0.out.trans (hb.mono HB0.out.size)); clear hb; obtain ⟨⟨c0, c1⟩, f0, f1⟩ := arrX_two HA1.out))
    have hE : Arr _ w.heap.size 27 [.slice none 0 0, .int .i64 1] := ((HA2.out.put 0 (.slice none 0 0)).put 1 (.int .i64 1))
    exact bodyPost_ret (v := .agg #[.slice none 0 0, .int .i64 1]) (results_cell_row (P := Try.prog) Try.results14 _ _ w.heap.size 27 _ (0, 0) _ rfl hE Try.underlying27 rfl (by kernel_rfl)) rfl
      ⟨bo_ill _ _ _, (HB2.out.setCell (p := ⟨w.heap.size, 0, none⟩) (Nat.le_refl _) _).setCell (p := ⟨w.heap.size, 1, none⟩) (Nat.le_refl _) _⟩
  rw [ha] at i2
  have hI := (bkB_iff.1 hk).2.1
  have h8 := (bkB_iff.1 hk).1
  have hnf : ¬ (bkB xs = false ∨ addrB j = false) := by rw [hk, ha]; simp
  rw [hereT_any hI] at i3
  cases hh : hereT j xs
  rotate_left
  · rw [show addR xs j = illB 7 by unfold addR; rw [if_neg hs, if_neg hnf, if_pos hh]]
    rw [hh] at i3
    rw [hxn] at hn i1 i3 HO ⊢
    clear hO hw hxn hk hs ha hI hnf hh
    go_enter Try.func14, Try.ntmps14
    go_wp2_with (first
      | (go_at_call 50; have _ := HA2; go_fit (i3 _ (row_ownX (HO.out _ HB2.out))); rintro e0 w3 ⟨rfl, hb⟩; have HA3 := Lib.hid (arrX_on HA2.out hb); have HB3 := Lib.hid (HB2.out.trans (hb.mono HB2.out.size)); clear hb; obtain ⟨⟨c0, c1⟩, f0, f1⟩ := arrX_two HA3.out)
      | (go_at_call 49; have _ := HA1; go_fit (i2 _); rintro e0 w2 ⟨rfl, hb⟩; have HA2 := Lib.hid (arrX_on HA1.out hb); have HB2 := Lib.hid (HB1.out.trans (hb.mono HB1.out.size)); clear hb; obtain ⟨⟨c0, c1⟩, f0, f1⟩ := arrX_two HA2.out)
      | (go_at_call 20; go_fit (i1 _ (row_ownX (HO.out _ HB0.out))); rintro e0 w1 ⟨rfl, hb⟩; have HA1 := Lib.hid (arrX_on HA0.out hb); have HB1 := Lib.hid (HB0.out.trans (hb.mono HB0.out.size)); clear hb; obtain ⟨⟨c0, c1⟩, f0, f1⟩ := arrX_two HA1.out))
    have hE : Arr _ w.heap.size 27 [.slice none 0 0, .int .i64 7] := ((HA3.out.put 0 (.slice none 0 0)).put 1 (.int .i64 7))
    exact bodyPost_ret (v := .agg #[.slice none 0 0, .int .i64 7]) (results_cell_row (P := Try.prog) Try.results14 _ _ w.heap.size 27 _ (0, 0) _ rfl hE Try.underlying27 rfl (by kernel_rfl)) rfl
      ⟨bo_ill _ _ _, (HB3.out.setCell (p := ⟨w.heap.size, 0, none⟩) (Nat.le_refl _) _).setCell (p := ⟨w.heap.size, 1, none⟩) (Nat.le_refl _) _⟩
  rw [hh] at i3
  have hh2 : ¬ hereT j xs = true := by rw [hh]; decide
  by_cases h9 : 8 ≤ xs.length
  · rw [show addR xs j = illB 9 by unfold addR; rw [if_neg hs, if_neg hnf, if_neg hh2, if_pos h9]]
    rw [hxn] at hn i1 i3 HO h9 ⊢
    clear hO hw hxn hk hs ha hI hnf hh hh2
    have q1 : (8 : Int) ≤ (n : Int) := by omega
    go_enter Try.func14, Try.ntmps14
    go_wp2_with (first
      | (go_at_call 50; have _ := HA2; go_fit (i3 _ (row_ownX (HO.out _ HB2.out))); rintro e0 w3 ⟨rfl, hb⟩; have HA3 := Lib.hid (arrX_on HA2.out hb); have HB3 := Lib.hid (HB2.out.trans (hb.mono HB2.out.size)); clear hb; obtain ⟨⟨c0, c1⟩, f0, f1⟩ := arrX_two HA3.out)
      | (go_at_call 49; have _ := HA1; go_fit (i2 _); rintro e0 w2 ⟨rfl, hb⟩; have HA2 := Lib.hid (arrX_on HA1.out hb); have HB2 := Lib.hid (HB1.out.trans (hb.mono HB1.out.size)); clear hb; obtain ⟨⟨c0, c1⟩, f0, f1⟩ := arrX_two HA2.out)
      | (go_at_call 20; go_fit (i1 _ (row_ownX (HO.out _ HB0.out))); rintro e0 w1 ⟨rfl, hb⟩; have HA1 := Lib.hid (arrX_on HA0.out hb); have HB1 := Lib.hid (HB0.out.trans (hb.mono HB0.out.size)); clear hb; obtain ⟨⟨c0, c1⟩, f0, f1⟩ := arrX_two HA1.out))
    have hE : Arr _ w.heap.size 27 [.slice none 0 0, .int .i64 9] := ((HA3.out.put 0 (.slice none 0 0)).put 1 (.int .i64 9))
    exact bodyPost_ret (v := .agg #[.slice none 0 0, .int .i64 9]) (results_cell_row (P := Try.prog) Try.results14 _ _ w.heap.size 27 _ (0, 0) _ rfl hE Try.underlying27 rfl (by kernel_rfl)) rfl
      ⟨bo_ill _ _ _, (HB3.out.setCell (p := ⟨w.heap.size, 0, none⟩) (Nat.le_refl _) _).setCell (p := ⟨w.heap.size, 1, none⟩) (Nat.le_refl _) _⟩
  rw [show addR xs j = ⟨xs.take (posT j xs) ++ [j] ++ xs.drop (posT j xs), 0⟩ by unfold addR; rw [if_neg hs, if_neg hnf, if_neg hh2, if_neg h9]]
  obtain ⟨P, hP⟩ : ∃ P, posT j xs = P := ⟨_, rfl⟩
  have hpl := posT_le j xs
  rw [hP] at hpl ⊢
  have i4 := fun B1 W hO => spec_putX xs j n P p c B1 W hxn (by omega) hP hO
  have HML : Hid ((xs.take P ++ [j] ++ xs.drop P).length = n + 1) := Lib.hid (by simp only [List.length_append, List.length_take, List.length_drop, List.length_cons, List.length_nil]; omega)
  have q1 : ¬ (8 : Int) ≤ (n : Int) := by omega
  have hl1 : w.heap.size < w.heap.size + 1 := Nat.lt_succ_self _
  rw [hxn] at hn i1 i3 HO ⊢
  clear hO hw hxn hk hs ha hI hnf hh hh2 h9 hP hpl
  go_enter Try.func14, Try.ntmps14
  go_wp2_with (first
    | (go_at_call 51; have _ := HA3; go_fit (i4 _ _ (HO.out _ HB3.out)); rintro e0 w4 ⟨⟨q4, k4, rfl, hv⟩, hb⟩; have HV4 := Lib.hid (hv.mono (show w.heap.size + 1 ≤ w3.heap.size from arrX_lt HA3.out)); clear hv; have HA4 := Lib.hid (arrX_on HA3.out hb); have HB4 := Lib.hid (HB3.out.trans (hb.mono HB3.out.size)); clear hb; obtain ⟨⟨c0, c1⟩, f0, f1⟩ := arrX_two HA4.out)
    | (go_at_call 50; have _ := HA2; go_fit (i3 _ (row_ownX (HO.out _ HB2.out))); rintro e0 w3 ⟨rfl, hb⟩; have HA3 := Lib.hid (arrX_on HA2.out hb); have HB3 := Lib.hid (HB2.out.trans (hb.mono HB2.out.size)); clear hb; obtain ⟨⟨c0, c1⟩, f0, f1⟩ := arrX_two HA3.out)
    | (go_at_call 49; have _ := HA1; go_fit (i2 _); rintro e0 w2 ⟨rfl, hb⟩; have HA2 := Lib.hid (arrX_on HA1.out hb); have HB2 := Lib.hid (HB1.out.trans (hb.mono HB1.out.size)); clear hb; obtain ⟨⟨c0, c1⟩, f0, f1⟩ := arrX_two HA2.out)
    | (go_at_call 20; go_fit (i1 _ (row_ownX (HO.out _ HB0.out))); rintro e0 w1 ⟨rfl, hb⟩; have HA1 := Lib.hid (arrX_on HA0.out hb); have HB1 := Lib.hid (HB0.out.trans (hb.mono HB0.out.size)); clear hb; obtain ⟨⟨c0, c1⟩, f0, f1⟩ := arrX_two HA1.out))
  have hv4 := HV4.out
  rw [← HML.out] at hv4
  obtain ⟨hE, hO2, hBl⟩ := passX (R := ⟨xs.take P ++ [j] ++ xs.drop P, 0⟩) HA4.out HB4.out (Nat.le_refl _) hl1 hv4
  rw [HML.out] at hE
  exact bodyPost_ret (v := .agg #[.slice q4 (n + 1) k4, .int .i64 0]) (results_cell_row (P := Try.prog) Try.results14 _ _ w.heap.size 27 _ (0, 0) _ rfl hE Try.underlying27 rfl (by kernel_rfl)) rfl
    ⟨⟨q4, k4, by rw [HML.out], by rw [HML.out] at hO2 ⊢; exact hO2⟩, by rw [HML.out] at hBl; exact hBl⟩
set_option maxRecDepth 100000 in
set_option maxHeartbeats 4000000 in
theorem spec_blockdel (xs : List ByteArray) (j : ByteArray) (p : Option Addr) (c B0 : Nat) (w : World) (hn : xs.length ≤ 1048576) (hj : j.size ≤ 1048576) (hw : ∀ x ∈ xs, x.size ≤ 1048576) (hO : OwnC strC w B0 9 1 (.slice p xs.length c) xs) :
    Calls Try.prog 16 #[.slice p xs.length c, .string j] w fun e w' => BoIs w.heap.size (delR xs j) e w' ∧ Below w.heap.size w w' := by
  have HA0 : Hid (Arr (w.alloc (.cells #[.slice none 0 0, .int .i64 0] 27)) w.heap.size 27 [.slice none 0 0, .int .i64 0]) := Lib.hid (Arr.fresh w _ [.slice none 0 0, .int .i64 0])
  have HB0 : Hid (Below w.heap.size w (w.alloc (.cells #[.slice none 0 0, .int .i64 0] 27))) := Lib.hid ((Below.refl _ _).alloc (Nat.le_refl _) _)
  have HO := Lib.hid (fun W (h : Below w.heap.size w W) => hO.on h)
  have i1 := fun W h => spec_bkright xs p c W hn (tx_two hw) h
  have i2 := fun W => spec_l11jid j W (by omega)
  have i3 := fun W (h : xs.length ≤ 1000) hr => spec_inX xs j p c W h hr
  obtain ⟨n, hxn⟩ : ∃ n, xs.length = n := ⟨_, rfl⟩
  have HN := Lib.hid hxn
  by_cases hs : 400 < xs.length ∨ 20000 < j.size
  · rw [show delR xs j = illB 2 by unfold delR; exact if_pos hs]
    rw [hxn] at hs ⊢
    clear hO hw i1 i2 i3 hxn hn
    by_cases h2 : 400 < n
    · clear hs
      go_enter Try.func16, Try.ntmps16
      go_wp2
      exact bodyPost_ret (v := .agg #[.slice none 0 0, .int .i64 2]) (results_cell_row (P := Try.prog) Try.results16 _ _ w.heap.size 27 _ (0, 0) _ rfl (Arr.fresh w _ [.slice none 0 0, .int .i64 2]) Try.underlying27 rfl (by kernel_rfl)) rfl
        ⟨bo_ill _ _ _, (Below.refl _ _).alloc (Nat.le_refl _) _⟩
    · have h3 : 20000 < j.size := by omega
      clear hs
      go_enter Try.func16, Try.ntmps16
      go_wp2
      exact bodyPost_ret (v := .agg #[.slice none 0 0, .int .i64 2]) (results_cell_row (P := Try.prog) Try.results16 _ _ w.heap.size 27 _ (0, 0) _ rfl (Arr.fresh w _ [.slice none 0 0, .int .i64 2]) Try.underlying27 rfl (by kernel_rfl)) rfl
        ⟨bo_ill _ _ _, (Below.refl _ _).alloc (Nat.le_refl _) _⟩
  have g1 : ¬ 400 < n := by omega
  have g2 : ¬ 20000 < j.size := by omega
  replace i3 := fun W hr => i3 W (by omega) hr
  cases hk : bkB xs
  · rw [show delR xs j = illB 1 by unfold delR; rw [if_neg hs, if_pos hk]]
    rw [hk] at i1
    rw [hxn] at hn i1 i3 HO ⊢
    clear hO hw hxn hk hs
    go_enter Try.func16, Try.ntmps16
    go_wp2_with (first
      | (go_at_call 20; go_fit (i1 _ (row_ownX (HO.out _ HB0.out))); rintro e0 w1 ⟨rfl, hb⟩; have HA1 := Lib.hid (arrX_on HA0.out hb); have HB1 := Lib.hid (HB0.out.trans (hb.mono HB0.out.size)); clear hb; obtain ⟨⟨c0, c1⟩, f0, f1⟩ := arrX_two HA1.out))
    have hE : Arr _ w.heap.size 27 [.slice none 0 0, .int .i64 1] := ((HA1.out.put 0 (.slice none 0 0)).put 1 (.int .i64 1))
    exact bodyPost_ret (v := .agg #[.slice none 0 0, .int .i64 1]) (results_cell_row (P := Try.prog) Try.results16 _ _ w.heap.size 27 _ (0, 0) _ rfl hE Try.underlying27 rfl (by kernel_rfl)) rfl
      ⟨bo_ill _ _ _, (HB1.out.setCell (p := ⟨w.heap.size, 0, none⟩) (Nat.le_refl _) _).setCell (p := ⟨w.heap.size, 1, none⟩) (Nat.le_refl _) _⟩
  rw [hk] at i1
  have hI := (bkB_iff.1 hk).2.1
  have h8 := (bkB_iff.1 hk).1
  have hnf : ¬ bkB xs = false := by rw [hk]; simp
  rw [hereT_any hI] at i3
  cases hh : hereT j xs
  · rw [show delR xs j = illB 6 by unfold delR; rw [if_neg hs, if_neg hnf, if_pos hh]]
    rw [hh] at i3
    rw [hxn] at hn i1 i3 HO ⊢
    clear hO hw hxn hk hs hI hnf hh
    go_enter Try.func16, Try.ntmps16
    go_wp2_with (first
      | (go_at_call 50; have _ := HA1; go_fit (i3 _ (row_ownX (HO.out _ HB1.out))); rintro e0 w3 ⟨rfl, hb⟩; have HA3 := Lib.hid (arrX_on HA1.out hb); have HB3 := Lib.hid (HB1.out.trans (hb.mono HB1.out.size)); clear hb; obtain ⟨⟨c0, c1⟩, f0, f1⟩ := arrX_two HA3.out)
      | (go_at_call 20; go_fit (i1 _ (row_ownX (HO.out _ HB0.out))); rintro e0 w1 ⟨rfl, hb⟩; have HA1 := Lib.hid (arrX_on HA0.out hb); have HB1 := Lib.hid (HB0.out.trans (hb.mono HB0.out.size)); clear hb; obtain ⟨⟨c0, c1⟩, f0, f1⟩ := arrX_two HA1.out))
    have hE : Arr _ w.heap.size 27 [.slice none 0 0, .int .i64 6] := ((HA3.out.put 0 (.slice none 0 0)).put 1 (.int .i64 6))
    exact bodyPost_ret (v := .agg #[.slice none 0 0, .int .i64 6]) (results_cell_row (P := Try.prog) Try.results16 _ _ w.heap.size 27 _ (0, 0) _ rfl hE Try.underlying27 rfl (by kernel_rfl)) rfl
      ⟨bo_ill _ _ _, (HB3.out.setCell (p := ⟨w.heap.size, 0, none⟩) (Nat.le_refl _) _).setCell (p := ⟨w.heap.size, 1, none⟩) (Nat.le_refl _) _⟩
  rw [hh] at i3
  have hh2 : ¬ hereT j xs = false := by rw [hh]; decide
  rw [show delR xs j = ⟨xs.take (posT j xs) ++ xs.drop (posT j xs + 1), 0⟩ by unfold delR; rw [if_neg hs, if_neg hnf, if_neg hh2]]
  have hlt := hereT_lt hh
  have i4 := fun W hr => spec_outX xs j p c W (by omega) hr
  rw [filter_out hI hh] at i4
  obtain ⟨P, hP⟩ : ∃ P, posT j xs = P := ⟨_, rfl⟩
  rw [hP] at hlt i4 ⊢
  have HML : Hid ((xs.take P ++ xs.drop (P + 1)).length = n - 1) := Lib.hid (by simp only [List.length_append, List.length_take, List.length_drop]; omega)
  have hl1 : w.heap.size < w.heap.size + 1 := Nat.lt_succ_self _
  rw [hxn, HML.out] at i4
  rw [hxn] at hn i1 i3 HO ⊢
  clear hO hw hxn hk hs hI hnf hh hh2 hP hlt
  go_enter Try.func16, Try.ntmps16
  go_wp2_with (first
    | (go_at_call 53; have _ := HA3; go_fit (i4 _ (row_ownX (HO.out _ HB3.out))); rintro e0 w4 ⟨⟨q4, k4, rfl, hv⟩, hb⟩; have HV4 := Lib.hid (hv.mono (show w.heap.size + 1 ≤ w3.heap.size from arrX_lt HA3.out)); clear hv; have HA4 := Lib.hid (arrX_on HA3.out hb); have HB4 := Lib.hid (HB3.out.trans (hb.mono HB3.out.size)); clear hb; obtain ⟨⟨c0, c1⟩, f0, f1⟩ := arrX_two HA4.out)
    | (go_at_call 50; have _ := HA1; go_fit (i3 _ (row_ownX (HO.out _ HB1.out))); rintro e0 w3 ⟨rfl, hb⟩; have HA3 := Lib.hid (arrX_on HA1.out hb); have HB3 := Lib.hid (HB1.out.trans (hb.mono HB1.out.size)); clear hb; obtain ⟨⟨c0, c1⟩, f0, f1⟩ := arrX_two HA3.out)
    | (go_at_call 20; go_fit (i1 _ (row_ownX (HO.out _ HB0.out))); rintro e0 w1 ⟨rfl, hb⟩; have HA1 := Lib.hid (arrX_on HA0.out hb); have HB1 := Lib.hid (HB0.out.trans (hb.mono HB0.out.size)); clear hb; obtain ⟨⟨c0, c1⟩, f0, f1⟩ := arrX_two HA1.out))
  have hv4 := HV4.out
  rw [← HML.out] at hv4
  obtain ⟨hE, hO2, hBl⟩ := passX (R := ⟨xs.take P ++ xs.drop (P + 1), 0⟩) HA4.out HB4.out (Nat.le_refl _) hl1 hv4
  rw [HML.out] at hE
  exact bodyPost_ret (v := .agg #[.slice q4 (n - 1) k4, .int .i64 0]) (results_cell_row (P := Try.prog) Try.results16 _ _ w.heap.size 27 _ (0, 0) _ rfl hE Try.underlying27 rfl (by kernel_rfl)) rfl
    ⟨⟨q4, k4, by rw [HML.out], by rw [HML.out] at hO2 ⊢; exact hO2⟩, by rw [HML.out] at hBl; exact hBl⟩
end Go.Proofs.Ytpjmcpfmnlfmdaa

namespace Go.Proofs.Ytpjmcpfmnlfmdaa
set_option linter.unusedSimpArgs false
set_option linter.unusedVariables false
open Go.RowKit Go.Joins

theorem twoX {w w1 : World} {cs ds : List Value} {t : Nat} (h : Below ((w.alloc (.cells cs.toArray t)).alloc (.cells ds.toArray t)).heap.size ((w.alloc (.cells cs.toArray t)).alloc (.cells ds.toArray t)) w1) :
    Arr w1 w.heap.size t cs ∧ Arr w1 (w.heap.size + 1) t ds ∧ Below w.heap.size w w1 := by
  have h2 := Arr.fresh (w.alloc (.cells cs.toArray t)) t ds
  rw [World.size_alloc] at h2
  exact ⟨arrX_on (arrX_on (Arr.fresh w t cs) ((Below.refl _ _).alloc (Nat.le_refl _) _)) h, arrX_on h2 h, ((((Below.refl _ _).alloc (Nat.le_refl _) _).alloc (by simp) _)).trans (h.mono (by simp; omega))⟩
def boC (R : BoL) (p : Option Addr) (k : Nat) : List Value := [.slice p R.l.length k, .int .i64 R.c]
def boV (R : BoL) (p : Option Addr) (k : Nat) : Value := .agg #[.slice p R.l.length k, .int .i64 R.c]
/-- An answer in a box of the law's. -/
def OutX (b B : Nat) (W : World) (R : BoL) (p : Option Addr) (k : Nat) : Prop := Arr W b 27 (boC R p k) ∧ OwnC strC W B 9 1 (.slice p R.l.length k) R.l
theorem OutX.on {b B : Nat} {W W2 : World} {R : BoL} {p : Option Addr} {k : Nat} (h : OutX b B W R p k) (hb : Below W.heap.size W W2) : OutX b B W2 R p k := ⟨arrX_on h.1 hb, h.2.on hb⟩
theorem OutX.new {B : Nat} {W : World} {R : BoL} {p : Option Addr} {k : Nat} (h : OwnC strC W B 9 1 (.slice p R.l.length k) R.l) : OutX W.heap.size B (W.alloc (.cells (boC R p k).toArray 27)) R p k := ⟨Arr.fresh W _ _, h.alloc _⟩
theorem OutX.two {b B : Nat} {W : World} {R : BoL} {p : Option Addr} {k : Nat} (h : OutX b B W R p k) : (W.cell? ⟨b, 0, none⟩ = some (.slice p R.l.length k) ∧ W.cell? ⟨b, 1, none⟩ = some (.int .i64 R.c)) ∧ b < W.heap.size := ⟨(arrX_two h.1).1, arrX_lt h.1⟩
theorem mown_frameX {α : Type} {enc : α → List Value} {B B2 e size : Nat} {v u : Value} {xs : List α} {w W : World} (h : MFrame B v w W) (ho : OwnC enc w B2 e size u xs) (hne : ∀ a b, v.ownBlock = some a → u.ownBlock = some b → b ≠ a) : OwnC enc W B2 e size u xs := by
  refine ⟨ho.1, ?_⟩
  rcases ho.2 with h0 | ⟨g, cap, cur, h1, h2, h3, h4⟩
  · exact .inl h0
  · refine .inr ⟨g, cap, cur, h1, h2, (h.2.2 g (Array.getElem?_eq_some_iff.1 h3).1 (fun a ha => hne a g ha (by rw [h1]; rfl))).trans h3, h4⟩
/-- A row of sessions is no box of an answer. -/
theorem own_neX {w : World} {B b : Nat} {v : Value} {xs : List ByteArray} {cs : List Value} (h : OwnC strC w B 9 1 v xs) (hA : Arr w b 27 cs) : ∀ g, v.ownBlock = some g → b ≠ g := by
  intro g hg e
  subst e
  rcases h.2 with ⟨h0, _⟩ | ⟨g', cap, cur, h1, h2, h3, h4⟩
  · rw [h0] at hg; cases hg
  · rw [h1] at hg
    injection hg with hg
    have hg : g' = b := hg
    subst hg
    unfold Arr at hA
    rw [h3] at hA
    injection hA with hA
    injection hA with _ hA
    cases hA
/-- Another row is marked. -/
theorem OutX.mark {b B B2 B3 : Nat} {W W2 : World} {R : BoL} {p : Option Addr} {k : Nat} {v : Value} {xs : List ByteArray} (h : OutX b B W R p k) (hF : MFrame B3 v W W2) (hv : OwnC strC W B2 9 1 v xs)
    (hne : ∀ a g, v.ownBlock = some a → (Value.slice p R.l.length k).ownBlock = some g → g ≠ a) : OutX b B W2 R p k := ⟨hF.arr h.1 (own_neX hv h.1), mown_frameX hF h.2 hne⟩
end Go.Proofs.Ytpjmcpfmnlfmdaa

namespace Go.Proofs.Ytpjmcpfmnlfmdaa
set_option linter.unusedSimpArgs false
set_option linter.unusedVariables false
open Go.RowKit

/-- The first len cells of a slice are bytes that lie below B. -/
def SrcRow (w : World) (B : Nat) (a : Option Addr) (len : Nat) : Prop :=
  ∀ k, k < len → ∃ (b off : Nat) (z : Int), a = some ⟨b, off, none⟩ ∧ b < B ∧ w.cell? ⟨b, off + k, none⟩ = some (.int .u8 z) ∧ 0 ≤ z ∧ z ≤ 255
theorem lt_of_cell {w : World} {b i : Nat} {v : Value} (h : w.cell? ⟨b, i, none⟩ = some v) : b < w.heap.size := by
  rcases Nat.lt_or_ge b w.heap.size with h1 | h1
  · exact h1
  · simp [World.cell?, Array.getElem?_eq_none h1] at h
theorem SrcRow.grown {w w' : World} {B g : Nat} {a : Option Addr} {len : Nat} (h : SrcRow w B a len) (hg : w.grownBy w' (some g)) (hB : B ≤ g) : SrcRow w' B a len := by
  intro k hk
  obtain ⟨b, off, z, ha, hb, hc, h0, h1⟩ := h k hk
  refine ⟨b, off, z, ha, hb, ?_, h0, h1⟩
  rw [World.cell?_of_block (w := w) (hg.block b (lt_of_cell hc) (by simp; omega))]
  exact hc
theorem grown_set {w w1 : World} {g : Nat} (h : w.grownBy w1 (some g)) (i : Nat) (v : Value) : w.grownBy (w1.setCell ⟨g, i, none⟩ v) (some g) :=
  ⟨h.os, h.tape, h.output, by simpa [World.setCell] using h.size, fun k hk hne => (Below.heap_setCell w1 ⟨g, i, none⟩ v k (fun e => hne (by simp at e; rw [e]))).trans (h.block k hk hne)⟩
theorem grown_drew {w w1 : World} {r : Option Nat} (h : w.grownBy w1 r) : w.grownBy w1.drew r := ⟨h.os, h.tape, h.output, h.size, h.block⟩
theorem grown_drewN {w w1 : World} {r : Option Nat} (h : w.grownBy w1 r) (n : Nat) : w.grownBy (w1.drewN n) r := ⟨h.os, h.tape, h.output, h.size, h.block⟩

/-- Block g (not below B) is a source over bytes that lie below B. -/
def Src (w : World) (B g : Nat) : Prop := B ≤ g ∧ ∃ (a : Option Addr) (len cap : Nat) (at_ mix size : Int),
  Arr w g 86 [.slice a len cap, .int .i64 at_, .int .u64 mix, .int .i64 size] ∧ 0 ≤ at_ ∧ at_ ≤ (len : Int) ∧ 0 ≤ mix ∧ mix ≤ 18446744073709551615 ∧ 0 ≤ size ∧ size ≤ 12 ∧ len ≤ 1048576 ∧
  SrcRow w B a len

/-- A call that draws: it answers some v of which P holds; only the source and what is new have turned. -/
def Drew (B g : Nat) (w : World) (P : Value → Prop) (e : Ending) (w' : World) : Prop := ∃ v, e = .returned v ∧ P v ∧ Src w' B g ∧ w.grownBy w' (some g)
def NumIn (most : Int) (v : Value) : Prop := ∃ r : Int, v = .int .i64 r ∧ 0 ≤ r ∧ (r < most ∨ r = 0)

theorem src_done {w w' : World} {B g : Nat} {P : Value → Prop} {v : Value} {a : Option Addr} {len cap : Nat} {at_ mix size : Int} (hP : P v) (hBg : B ≤ g)
    (hA : Arr w' g 86 [.slice a len cap, .int .i64 at_, .int .u64 mix, .int .i64 size]) (a0 : 0 ≤ at_) (a1 : at_ ≤ (len : Int)) (m0 : 0 ≤ mix) (m1 : mix ≤ 18446744073709551615) (s0 : 0 ≤ size) (s1 : size ≤ 12) (hl : len ≤ 1048576)
    (hr : SrcRow w B a len) (hg : w.grownBy w' (some g)) : Drew B g w P (.returned v) w' :=
  ⟨v, rfl, hP, ⟨hBg, a, len, cap, at_, mix, size, hA, a0, a1, m0, m1, s0, s1, hl, hr.grown hg hBg⟩, hg⟩
theorem rem_in {x most : Int} (_ : 0 ≤ x) (h1 : 1 < most) (hm : most ≤ 9223372036854775807) : 0 ≤ wrap64 (x % most) ∧ (wrap64 (x % most) < most ∨ wrap64 (x % most) = 0) := by
  have a := Int.emod_nonneg x (b := most) (by omega)
  have b := Int.emod_lt_of_pos x (b := most) (by omega)
  rw [IntWalk.wrap64_in _ ⟨by omega, by omega⟩]
  exact ⟨a, .inl b⟩
theorem bits_range {op : BinOp} {a b M : Int} (h : bits op IntKind.u64 a b = M) : 0 ≤ M ∧ M ≤ 18446744073709551615 := by
  have hw := wf_bits (k := .u64) op a b
  rw [h] at hw
  simpa [Lit.wf, IntKind.min, IntKind.max, IntKind.signed, IntKind.bits] using hw

set_option maxRecDepth 100000 in
set_option maxHeartbeats 2000000 in
theorem src_n (B g : Nat) (most : Int) (w : World) (hm : most ≤ 9223372036854775807) (hS : Src w B g) :
    Calls Try.prog 60 #[.pointer (some ⟨g, 0, none⟩), .int .i64 most] w (Drew B g w (NumIn most)) := by
  by_cases h1 : most ≤ 1
  · have HS := Lib.hid hS
    clear hS
    go_enter Try.func60, Try.ntmps60
    go_wp2
    go_ret
    exact ⟨_, rfl, ⟨0, rfl, by omega, .inr rfl⟩, HS.out, World.grownBy.refl w _⟩
  · obtain ⟨hBg, a, len, cap, at_, mix, size, hA, ha0, ha1, hx0, hx1, hz0, hz1, hlen, hrow⟩ := hS
    have k0 : w.cell? ⟨g, 0, none⟩ = some (.slice a len cap) := hA.cell 0
    have k1 : w.cell? ⟨g, 1, none⟩ = some (.int .i64 at_) := hA.cell 1
    have k2 : w.cell? ⟨g, 2, none⟩ = some (.int .u64 mix) := hA.cell 2
    have f1 : w.frozen? ⟨g, 1, none⟩ = false := hA.free 1
    have f2 : w.frozen? ⟨g, 2, none⟩ = false := hA.free 2
    have HA := Lib.hid hA
    have HR := Lib.hid hrow
    clear hA hrow
    obtain ⟨M1, hM1⟩ : ∃ M, bits BinOp.xor IntKind.u64 mix (IntKind.u64.wrap (mix * 8192)) = M := ⟨_, rfl⟩
    obtain ⟨b10, b11⟩ := bits_range hM1
    obtain ⟨M2, hM2⟩ : ∃ M, bits BinOp.xor IntKind.u64 M1 (M1 / 128) = M := ⟨_, rfl⟩
    obtain ⟨b20, b21⟩ := bits_range hM2
    obtain ⟨M3, hM3⟩ : ∃ M, bits BinOp.xor IntKind.u64 M2 (IntKind.u64.wrap (M2 * 131072)) = M := ⟨_, rfl⟩
    obtain ⟨b30, b31⟩ := bits_range hM3
    by_cases hend : at_ < (len : Int)
    · obtain ⟨A, rfl⟩ : ∃ A : Nat, at_ = A := ⟨at_.toNat, by omega⟩
      obtain ⟨b, off, z, rfl, hb, hcz, hz00, hz11⟩ := HR.out A (by omega)
      have hbg : b ≠ g := by omega
      have f1 : w.frozen? ⟨g, 1, none⟩ = false := f1
      have kk : ∀ n, ((w.drewN n).setCell ⟨g, 1, none⟩ (.int .i64 ((A : Int) + 1))).cell? ⟨g, 2, none⟩ = some (.int .u64 mix) := fun n => (World.cell?_setCell_other (w.drewN n) ⟨g, 1, none⟩ ⟨g, 2, none⟩ _ (by simp)).trans k2
      have hk3 : ∀ n, (((((w.drewN n).setCell ⟨g, 1, none⟩ (.int .i64 ((A : Int) + 1))).setCell ⟨g, 2, none⟩ (.int .u64 M1)).setCell ⟨g, 2, none⟩ (.int .u64 M2)).setCell ⟨g, 2, none⟩ (.int .u64 M3)).cell? ⟨g, 2, none⟩ = some (.int .u64 M3) := fun n =>
        World.cell?_setCell_same _ _ _ (World.cell?_setCell_same _ _ _ (World.cell?_setCell_same _ _ _ (kk n)))
      have hk2 : ∀ n, ((((w.drewN n).setCell ⟨g, 1, none⟩ (.int .i64 ((A : Int) + 1))).setCell ⟨g, 2, none⟩ (.int .u64 M1)).setCell ⟨g, 2, none⟩ (.int .u64 M2)).cell? ⟨g, 2, none⟩ = some (.int .u64 M2) := fun n =>
        World.cell?_setCell_same _ _ _ (World.cell?_setCell_same _ _ _ (kk n))
      have hk1 : ∀ n, (((w.drewN n).setCell ⟨g, 1, none⟩ (.int .i64 ((A : Int) + 1))).setCell ⟨g, 2, none⟩ (.int .u64 M1)).cell? ⟨g, 2, none⟩ = some (.int .u64 M1) := fun n =>
        World.cell?_setCell_same _ _ _ (kk n)
      go_enter Try.func60, Try.ntmps60
      go_wp2
      go_quiet (fail)
      go_wp2
      go_quiet (fail)
      go_wp2
      go_region
      go_wp2
      go_region
      go_wp2
      go_region
      go_wp2
      go_ret
      exact src_done ⟨wrap64 ((z + M3 / 1048576) % most), rfl, rem_in (by omega) (by omega) hm⟩ hBg (((Arr.put (w := w.drewN _) HA.out 1 _).put 2 _).put 2 _ |>.put 2 _) (by omega) (by omega) b30 b31 hz0 hz1 hlen HR.out
        (grown_drew (grown_drew (grown_drew (grown_set (grown_set (grown_set (grown_set (grown_drewN (World.grownBy.refl w _) _) _ _) _ _) _ _) _ _))))
    · have hk3 : ∀ n, ((((w.drewN n).setCell ⟨g, 2, none⟩ (.int .u64 M1)).setCell ⟨g, 2, none⟩ (.int .u64 M2)).setCell ⟨g, 2, none⟩ (.int .u64 M3)).cell? ⟨g, 2, none⟩ = some (.int .u64 M3) := fun n =>
        World.cell?_setCell_same _ _ _ (World.cell?_setCell_same _ _ _ (World.cell?_setCell_same (w.drewN n) _ _ k2))
      go_enter Try.func60, Try.ntmps60
      go_wp2
      go_quiet (fail)
      go_wp2
      go_region
      go_wp2
      go_region
      go_wp2
      go_region
      go_wp2
      go_ret
      have hgr : w.grownBy ((((w.drewN (nq + 1)).setCell ⟨g, 2, none⟩ (.int .u64 M1)).setCell ⟨g, 2, none⟩ (.int .u64 M2)).setCell ⟨g, 2, none⟩ (.int .u64 M3)).drew.drew (some g) :=
        grown_drew (grown_drew (grown_set (grown_set (grown_set (grown_drewN (World.grownBy.refl w _) _) _ _) _ _) _ _))
      have hA' : Arr (w.drewN (nq + 1)) g 86 [.slice a len cap, .int .i64 at_, .int .u64 mix, .int .i64 size] := HA.out
      refine ⟨_, rfl, ⟨wrap64 (M3 / 1048576 % most), rfl, ?_⟩, ⟨hBg, a, len, cap, at_, M3, size, ((hA'.put 2 _).put 2 _).put 2 _, ha0, ha1, b30, b31, hz0, hz1, hlen, HR.out.grown hgr hBg⟩, hgr⟩
      exact rem_in (by omega) (by omega) hm

def BoolIn (v : Value) : Prop := ∃ b : Bool, v = .bool b
theorem src_one (B g : Nat) (of : Int) (w : World) (hm : of ≤ 9223372036854775807) (hS : Src w B g) :
    Calls Try.prog 41 #[.pointer (some ⟨g, 0, none⟩), .int .i64 of] w (Drew B g w BoolIn) := by
  have HS := Lib.hid hS
  clear hS
  go_enter Try.func41, Try.ntmps41
  go_wp2_with (go_at_call 60; refine (src_n B g of _ hm HS.out).mono ?_; rintro e w1 ⟨_, rfl, ⟨r, rfl, h0, h1⟩, hS1, hg1⟩)
  all_goals
    go_ret
    exact ⟨_, rfl, ⟨_, rfl⟩, hS1, hg1⟩

theorem SrcRow.below {w w' : World} {B : Nat} {a : Option Addr} {len : Nat} (h : SrcRow w B a len) (hb : Below B w w') : SrcRow w' B a len := by
  intro k hk
  obtain ⟨b, off, z, ha, hB, hc, h0, h1⟩ := h k hk
  exact ⟨b, off, z, ha, hB, (hb.cell (p := ⟨b, off + k, none⟩) hB).trans hc, h0, h1⟩
theorem grown_alloc {w w1 : World} {r : Option Nat} (h : w.grownBy w1 r) (o : Obj) : w.grownBy (w1.alloc o) r :=
  ⟨h.os, h.tape, h.output, Nat.le_trans h.size (by simp), fun k hk hne => (Below.heap_alloc w1 o k (Nat.lt_of_lt_of_le hk h.size)).trans (h.block k hk hne)⟩
theorem Arr.alloc {w : World} {b t : Nat} {cs : List Value} (h : Arr w b t cs) (o : Obj) : Arr (w.alloc o) b t cs := by
  have hlt : b < w.heap.size := by
    rcases Nat.lt_or_ge b w.heap.size with h1 | h1
    · exact h1
    · unfold Arr at h; rw [Array.getElem?_eq_none h1] at h; cases h
  exact (Below.heap_alloc w o b hlt).trans h
theorem Src.alloc {w : World} {B g : Nat} (h : Src w B g) (o : Obj) : Src (w.alloc o) B g := by
  obtain ⟨hBg, a, len, cap, at_, mix, size, hA, h1, h2, h3, h4, h5, h6, h7, hr⟩ := h
  refine ⟨hBg, a, len, cap, at_, mix, size, hA.alloc o, h1, h2, h3, h4, h5, h6, h7, ?_⟩
  intro k hk
  obtain ⟨b, off, z, ha, hB, hc, h0, h1⟩ := hr k hk
  exact ⟨b, off, z, ha, hB, (World.cell?_alloc_lt w o ⟨b, off + k, none⟩ (lt_of_cell hc)).trans hc, h0, h1⟩
/-- What is owned elsewhere has grown: the source stands. -/
theorem Src.other {w w' : World} {B g : Nat} {r : Option Nat} (h : Src w B g) (hg : w.grownBy w' r) (hne : ∀ q, r = some q → q ≠ g) (hlt : g < w.heap.size) (hr : ∀ q, r = some q → B ≤ q) : Src w' B g := by
  obtain ⟨hBg, a, len, cap, at_, mix, size, hA, h1, h2, h3, h4, h5, h6, h7, hrow⟩ := h
  refine ⟨hBg, a, len, cap, at_, mix, size, (hg.block g hlt (fun e => hne g e.symm rfl)).trans hA, h1, h2, h3, h4, h5, h6, h7, ?_⟩
  intro k hk
  obtain ⟨b, off, z, ha, hB, hc, h0, h1⟩ := hrow k hk
  refine ⟨b, off, z, ha, hB, ?_, h0, h1⟩
  rw [World.cell?_of_block (w := w) (hg.block b (lt_of_cell hc) (fun e => by have := hr b e.symm; omega))]
  exact hc
theorem grown_same {w w1 w2 : World} {r : Option Nat} (h : w.grownBy w1 r) (k : w1.grownBy w2 r) : w.grownBy w2 r :=
  ⟨k.os.trans h.os, k.tape.trans h.tape, k.output.trans h.output, Nat.le_trans h.size k.size, fun i hi hne => (k.block i (Nat.lt_of_lt_of_le hi h.size) hne).trans (h.block i hi hne)⟩
/-- A row of the call's own has grown besides. -/
theorem grown_over {w w1 w2 : World} {r s : Option Nat} (h : w.grownBy w1 r) (k : w1.grownBy w2 s) (hs : ∀ q, s = some q → w.heap.size ≤ q) : w.grownBy w2 r :=
  ⟨k.os.trans h.os, k.tape.trans h.tape, k.output.trans h.output, Nat.le_trans h.size k.size, fun i hi hne => (k.block i (Nat.lt_of_lt_of_le hi h.size) (fun e => by have := hs i e.symm; omega)).trans (h.block i hi hne)⟩
/-- A source has been made. -/
def SrcMade (w : World) (e : Ending) (w' : World) : Prop := e = .returned (.pointer (some ⟨w.heap.size, 0, none⟩)) ∧ Src w' w.heap.size w.heap.size ∧ Below w.heap.size w w'

def SrcMadeB (B : Nat) (w : World) (e : Ending) (w' : World) : Prop := e = .returned (.pointer (some ⟨w.heap.size, 0, none⟩)) ∧ Src w' B w.heap.size ∧ Below w.heap.size w w'
theorem wrap_range {a M : Int} (h : IntKind.u64.wrap a = M) : 0 ≤ M ∧ M ≤ 18446744073709551615 := by
  rw [wrap_u64] at h
  omega

set_option maxRecDepth 100000 in
set_option maxHeartbeats 2000000 in
theorem src_sourceB (B : Nat) (a : Option Addr) (len cap : Nat) (w : World) (hlen : len ≤ 1048576) (hB : B ≤ w.heap.size) (hrow : SrcRow w B a len) :
    Calls Try.prog 39 #[.slice a len cap] w (SrcMadeB B w) := by
  have HR := Lib.hid hrow
  clear hrow
  go_enter Try.func39, Try.ntmps39
  go_wp2
  go_loopw [4] (fun i wr => ∃ (k : Nat) (mix : Int), i = .int .i64 (k : Int) ∧ k ≤ len ∧ k ≤ 64 ∧ 0 ≤ mix ∧ mix ≤ 18446744073709551615 ∧ Arr wr w.heap.size 86 [.slice a len cap, .int .i64 0, .int .u64 mix, .int .i64 0] ∧ Below w.heap.size w wr)
    (fun i _ => 64 - (intOf i).toNat)
  case atStart => exact ⟨0, 88172645463325252, rfl, by omega, by omega, by omega, by omega, Arr.fresh w _ [.slice a len cap, .int .i64 0, .int .u64 88172645463325252, .int .i64 0], (Below.refl _ _).alloc (Nat.le_refl _) _⟩
  case round =>
    obtain ⟨k, mix, rfl, hk, hk64, hm0, hm1, hA, hbel⟩ := hrel
    have k2 : wr.cell? ⟨w.heap.size, 2, none⟩ = some (.int .u64 mix) := hA.cell 2
    have k3 : wr.cell? ⟨w.heap.size, 3, none⟩ = some (.int .i64 0) := hA.cell 3
    have f2 : wr.frozen? ⟨w.heap.size, 2, none⟩ = false := hA.free 2
    have f3 : wr.frozen? ⟨w.heap.size, 3, none⟩ = false := hA.free 3
    have HA := Lib.hid hA
    clear hA
    by_cases hlt : k < len ∧ k < 64
    · obtain ⟨hl, h64⟩ := hlt
      obtain ⟨b, off, z, rfl, hb, hcz, hz0, hz1⟩ := (HR.out.below (hbel.mono hB)) k hl
      have hbne : b ≠ w.heap.size := by omega
      go_wp2
      go_region
      go_wp2
      go_roundw
      case rel =>
        obtain ⟨M, hM⟩ : ∃ M, IntKind.u64.wrap (bits BinOp.xor IntKind.u64 mix z * 1099511628211) = M := ⟨_, rfl⟩
        obtain ⟨r0, r1⟩ := wrap_range hM
        rw [hM]
        exact ⟨k + 1, M, by go_num, by omega, by omega, r0, r1, HA.out.put 2 _, (hbel.setCell (Nat.le_refl _) _).drew⟩
      case measure => simp [intOf]; omega
    · have hA3 : ∀ x : Int, (wr.setCell ⟨w.heap.size, 3, none⟩ (.int .i64 x)).cell? ⟨w.heap.size, 3, none⟩ = some (.int .i64 x) := fun x => World.cell?_setCell_same _ _ _ k3
      by_cases hbig : 12 < (len : Int) / 20
      · by_cases hl : k < len
        · have h64 : ¬ k < 64 := fun h => hlt ⟨hl, h⟩
          clear hlt
          go_wp2
          go_ret
          exact ⟨rfl, ⟨hB, a, len, cap, 0, mix, 12, (HA.out.put 3 _).put 3 _, by omega, by omega, hm0, hm1, by omega, by omega, hlen, HR.out.below (((hbel.setCell (Nat.le_refl _) _).setCell (Nat.le_refl _) _).mono hB)⟩, (hbel.setCell (Nat.le_refl _) _).setCell (Nat.le_refl _) _⟩
        · omega
      · by_cases hl : k < len
        · have h64 : ¬ k < 64 := fun h => hlt ⟨hl, h⟩
          clear hlt
          go_wp2
          go_ret
          exact ⟨rfl, ⟨hB, a, len, cap, 0, mix, _, HA.out.put 3 _, by omega, by omega, hm0, hm1, by omega, by omega, hlen, HR.out.below ((hbel.setCell (Nat.le_refl _) _).mono hB)⟩, hbel.setCell (Nat.le_refl _) _⟩
        · clear hlt
          go_wp2
          go_ret
          exact ⟨rfl, ⟨hB, a, len, cap, 0, mix, _, HA.out.put 3 _, by omega, by omega, hm0, hm1, by omega, by omega, hlen, HR.out.below ((hbel.setCell (Nat.le_refl _) _).mono hB)⟩, hbel.setCell (Nat.le_refl _) _⟩
theorem src_source (a : Option Addr) (len cap : Nat) (w : World) (hlen : len ≤ 1048576) (hrow : SrcRow w w.heap.size a len) :
    Calls Try.prog 39 #[.slice a len cap] w (SrcMade w) := src_sourceB w.heap.size a len cap w hlen (Nat.le_refl _) hrow

/-- Some bytes, at most so many. -/
def StrIn (most : Nat) (v : Value) : Prop := ∃ s : ByteArray, v = .string s ∧ s.size ≤ most

/-- A slice of bytes that came in is a row of bytes. -/
theorem srcRow_of {w : World} {x : Addr} {zs : List Int} {len : Nat} (hl : len ≤ zs.length) (hc : ∀ i, i < zs.length → w.cell? (x.add i) = some (.int .u8 (zs.getD i 0))) (hw : ∀ n ∈ zs, (Lit.int .u8 n).wf = true) : SrcRow w w.heap.size (some x) len := by
  intro k hk
  obtain ⟨b, off, rfl, hcell⟩ := ints_at hc (show 0 < zs.length by omega)
  have hk' : k < zs.length := by omega
  have h1 := hcell k hk'
  have hmem : zs.getD k 0 ∈ zs := by
    rw [List.getD_eq_getElem?_getD, List.getElem?_eq_getElem hk']
    exact List.getElem_mem hk'
  have hb := hw _ hmem
  have hr : 0 ≤ zs.getD k 0 ∧ zs.getD k 0 ≤ 255 := by simpa [Lit.wf, IntKind.min, IntKind.max, IntKind.signed, IntKind.bits] using hb
  exact ⟨b, off, _, rfl, lt_of_cell h1, h1, hr.1, hr.2⟩
theorem srcRow_nil {w : World} {B : Nat} {a : Option Addr} : SrcRow w B a 0 := fun k hk => by omega
end Go.Proofs.Ytpjmcpfmnlfmdaa

namespace Go.Proofs.Ytpjmcpfmnlfmdaa
set_option linter.unusedSimpArgs false
set_option linter.unusedVariables false
open Go.RowKit

theorem Arr.other {w w' : World} {b t : Nat} {cs : List Value} {r : Option Nat} (h : Arr w b t cs) (hg : w.grownBy w' r) (hne : r ≠ some b) : Arr w' b t cs := by
  have hlt : b < w.heap.size := by
    rcases Nat.lt_or_ge b w.heap.size with h1 | h1
    · exact h1
    · unfold Arr at h; rw [Array.getElem?_eq_none h1] at h; cases h
  exact (hg.block b hlt (fun e => hne e.symm)).trans h

theorem Src.lt {w : World} {B g : Nat} (h : Src w B g) : g < w.heap.size := by
  obtain ⟨_, a, len, cap, at_, mix, size, hA, _⟩ := h
  exact lt_of_cell (hA.cell 0)

theorem SrcRow.heap {w W : World} {B : Nat} {a : Option Addr} {len : Nat} (h : SrcRow w B a len) (hh : W.heap = w.heap) : SrcRow W B a len := by
  intro k hk
  obtain ⟨b, off, z, ha, hB, hc, h0, h1⟩ := h k hk
  exact ⟨b, off, z, ha, hB, by rw [← hc]; unfold World.cell?; rw [hh], h0, h1⟩
theorem SrcRow.lift {w w' : World} {B B' : Nat} {a : Option Addr} {len : Nat} (h : SrcRow w B a len) (hb : Below B w w') (hB : B ≤ B') : SrcRow w' B' a len := by
  intro k hk
  obtain ⟨b, off, z, ha, hlt, hc, h0, h1⟩ := h k hk
  exact ⟨b, off, z, ha, by omega, (hb.cell (p := ⟨b, off + k, none⟩) hlt).trans hc, h0, h1⟩

end Go.Proofs.Ytpjmcpfmnlfmdaa

namespace Go.Proofs.Ytpjmcpfmnlfmdaa
set_option linter.unusedSimpArgs false
set_option linter.unusedVariables false
open Go.RowKit

/-- A row of strings, each of at most M bytes. -/
def StrRow (w : World) (b n M : Nat) : Prop := ∀ j, j < n → ∃ s : ByteArray, w.cell? ⟨b, j, none⟩ = some (.string s) ∧ s.size ≤ M
theorem strRow_new (w : World) (t M : Nat) (ss : List ByteArray) (h : ∀ s ∈ ss, s.size ≤ M) : StrRow (w.alloc (.cells (ss.map Value.string).toArray t)) w.heap.size ss.length M := by
  intro j hj
  refine ⟨ss[j], ?_, h _ (List.getElem_mem hj)⟩
  rw [(Arr.fresh w t (ss.map Value.string)).cell]
  simp [List.getElem?_eq_getElem hj]
set_option maxHeartbeats 1000000 in
theorem src_pick (B g b n M : Nat) (w : World) (hn0 : 1 ≤ n) (hn : n ≤ 100) (hS : Src w B g) (hbg : b ≠ g) (hrow : StrRow w b n M) :
    Calls Try.prog 42 #[.pointer (some ⟨g, 0, none⟩), .slice (some ⟨b, 0, none⟩) n n] w (Drew B g w (StrIn M)) := by
  have HS := Lib.hid hS
  have HR := Lib.hid hrow
  clear hS hrow
  go_enter Try.func42, Try.ntmps42
  go_wp2_with fail
  refine (src_n B g (n : Int) _ (by omega) HS.out).mono ?_
  rintro e w1 ⟨_, rfl, ⟨r, rfl, h0, h1⟩, hS1, hg1⟩
  obtain ⟨R, rfl⟩ : ∃ R : Nat, r = R := ⟨r.toNat, by omega⟩
  have hR : R < n := by omega
  obtain ⟨s, hs, hM⟩ := HR.out R hR
  have hc : w1.cell? ⟨b, R, none⟩ = some (.string s) := by
    rw [World.cell?_of_block (w := w) (hg1.block b (lt_of_cell hs) (fun e => hbg (by injection e)))]
    exact hs
  clear h1
  go_wp2
  go_ret
  exact ⟨_, rfl, ⟨s, rfl, hM⟩, hS1, hg1⟩
theorem grown_setb (w : World) (b i : Nat) (v : Value) : w.grownBy (w.setCell ⟨b, i, none⟩ v) (some b) := grown_set (World.grownBy.refl w _) i v
theorem Src.set {w : World} {B g : Nat} (h : Src w B g) (b i : Nat) (v : Value) (hne : b ≠ g) (hB : B ≤ b) : Src (w.setCell ⟨b, i, none⟩ v) B g :=
  h.other (grown_setb w b i v) (fun q e => by injection e; omega) h.lt (fun q e => by injection e; omega)
theorem Src.on {w w1 : World} {B g : Nat} (h : Src w B g) (hb : Below w.heap.size w w1) : Src w1 B g := by
  obtain ⟨hBg, a, len, cap, at_, mix, size, hA, h1, h2, h3, h4, h5, h6, h7, hrow⟩ := id h
  refine ⟨hBg, a, len, cap, at_, mix, size, arr_below hA hb, h1, h2, h3, h4, h5, h6, h7, ?_⟩
  intro k hk
  obtain ⟨b, off, z, ha, hB, hc, h0, h1⟩ := hrow k hk
  exact ⟨b, off, z, ha, hB, (hb.cell (p := ⟨b, off + k, none⟩) (lt_of_cell hc)).trans hc, h0, h1⟩
theorem grown_on {w w1 w2 : World} {r : Option Nat} (h : w.grownBy w1 r) (hb : Below w1.heap.size w1 w2) : w.grownBy w2 r :=
  ⟨hb.os.trans h.os, hb.tape.trans h.tape, hb.output.trans h.output, Nat.le_trans h.size hb.size, fun k hk hne => (hb.block k (Nat.lt_of_lt_of_le hk h.size)).trans (h.block k hk hne)⟩
theorem strRow_at (w : World) (t M b : Nat) (ss : List ByteArray) (hb : b = w.heap.size) (h : ∀ s ∈ ss, s.size ≤ M) : StrRow (w.alloc (.cells (ss.map Value.string).toArray t)) b ss.length M := by
  subst hb
  exact strRow_new w t M ss h
theorem below_grown {B g : Nat} {w w1 w2 : World} (hb : Below B w w1) (hB : B ≤ w1.heap.size) (hg : w1.grownBy w2 (some g)) (hg' : B ≤ g) : Below B w w2 :=
  hb.grown hg hB (fun k hk => by simp at hk; omega)
end Go.Proofs.Ytpjmcpfmnlfmdaa

namespace Go.Proofs.Ytpjmcpfmnlfmdaa
set_option linter.unusedSimpArgs false
set_option linter.unusedVariables false
open Go.RowKit Go.Joins

/-- Small lists. -/
def TxW (xs : List ByteArray) : Prop := xs.length ≤ 8 ∧ ∀ x ∈ xs, x.size ≤ 100
theorem txw_ill (c : Int) : TxW (illB c).l := ⟨Nat.zero_le _, fun x hx => by cases hx⟩
theorem txw_add {xs : List ByteArray} {r : ByteArray} (h : TxW xs) (hr : r.size ≤ 100) : TxW (addR xs r).l := by
  unfold addR
  split
  · exact txw_ill _
  · split
    · exact txw_ill _
    · split
      · exact txw_ill _
      · split
        · exact txw_ill _
        · rename_i h5
          have hl := h.1
          refine ⟨?_, fun x hx => ?_⟩
          · show (xs.take _ ++ [r] ++ xs.drop _).length ≤ 8
            simp only [List.length_append, List.length_take, List.length_drop, List.length_cons, List.length_nil]
            omega
          · rcases List.mem_append.1 hx with hx | hx
            · rcases List.mem_append.1 hx with hx | hx
              · exact h.2 x (List.mem_of_mem_take hx)
              · obtain rfl := List.mem_singleton.1 hx
                exact hr
            · exact h.2 x (List.mem_of_mem_drop hx)
theorem who_small : ∀ s ∈ [(⟨#[97, 110, 110, 64, 97]⟩ : ByteArray), ⟨#[98, 111, 98, 64, 98, 47, 104, 111, 109, 101]⟩, ⟨#[97]⟩, ⟨#[97, 110, 110, 64, 97, 47, 120]⟩, ⟨#[99, 64, 97, 46, 98]⟩, ⟨#[98]⟩, ⟨#[98, 111, 98, 64, 98]⟩], s.size ≤ 100 := by
  intro s hs
  simp at hs
  rcases hs with rfl | rfl | rfl | rfl | rfl | rfl | rfl <;> decide
theorem odd_small : ∀ s ∈ [(⟨#[65]⟩ : ByteArray), ⟨#[97]⟩, ⟨#[122, 122]⟩], s.size ≤ 100 := by
  intro s hs
  simp at hs
  rcases hs with rfl | rfl | rfl <;> decide
set_option maxRecDepth 100000 in
set_option maxHeartbeats 1000000 in
theorem draw_bwho (B g : Nat) (w : World) (hS : Src w B g) : Calls Try.prog 43 #[.pointer (some ⟨g, 0, none⟩)] w (Drew B g w (StrIn 100)) := by
  have hlt := hS.lt
  have hBg := hS.1
  have HS := Lib.hid hS
  clear hS
  go_enter Try.func43, Try.ntmps43
  go_wp2_with fail
  refine (src_pick B g w.heap.size 7 100 _ (by omega) (by omega) (HS.out.alloc _) (by omega) (strRow_at w 9 100 _ [⟨#[97, 110, 110, 64, 97]⟩, ⟨#[98, 111, 98, 64, 98, 47, 104, 111, 109, 101]⟩, ⟨#[97]⟩, ⟨#[97, 110, 110, 64, 97, 47, 120]⟩, ⟨#[99, 64, 97, 46, 98]⟩, ⟨#[98]⟩, ⟨#[98, 111, 98, 64, 98]⟩] rfl who_small)).mono ?_
  rintro e w1 ⟨_, rfl, ⟨x, rfl, hx⟩, hS1, hg1⟩
  go_wp2
  go_ret
  exact ⟨_, rfl, ⟨x, rfl, hx⟩, hS1, grown_same (World.grownBy_alloc w _ (some g)) hg1⟩
theorem own_grownX {α : Type} {enc : α → List Value} {W W2 : World} {g B e size : Nat} {v : Value} {xs : List α} (ho : OwnC enc W B e size v xs) (hg : W.grownBy W2 (some g)) (hB : g < B) : OwnC enc W2 B e size v xs := by
  refine ⟨ho.1, ?_⟩
  rcases ho.2 with h0 | ⟨j, c, cur, h1, h2, h3, h4⟩
  · exact .inl h0
  · exact .inr ⟨j, c, cur, h1, h2, (hg.block j (Array.getElem?_eq_some_iff.1 h3).1 (fun e => by have := Option.some.inj e; omega)).trans h3, h4⟩
/-- The source, and texts that lie in a row of the call's own. -/
def TdS (w W : World) (B g : Nat) (xs : List ByteArray) (p : Option Addr) (k : Nat) : Prop :=
  Src W B g ∧ w.grownBy W (some g) ∧ OwnC strC W w.heap.size 9 1 (.slice p xs.length k) xs
theorem TdS.on {w W W2 : World} {B g : Nat} {xs : List ByteArray} {p : Option Addr} {k : Nat} (h : TdS w W B g xs p k) (hb : Below W.heap.size W W2) : TdS w W2 B g xs p k := ⟨h.1.on hb, grown_on h.2.1 hb, h.2.2.on hb⟩
theorem TdS.src {w W W2 : World} {B g : Nat} {xs : List ByteArray} {p : Option Addr} {k : Nat} (h : TdS w W B g xs p k) (hS : Src W2 B g) (hg : W.grownBy W2 (some g)) (hlt : g < w.heap.size) : TdS w W2 B g xs p k :=
  ⟨hS, grown_same h.2.1 hg, own_grownX h.2.2 hg hlt⟩
theorem tds_app {w W W2 : World} {B g : Nat} {xs ys : List ByteArray} {p : Option Addr} {k : Nat} {o : Obj} {v : Value} (h : TdS w W B g xs p k) (hlt : g < w.heap.size) (hv : OwnC strC W2 w.heap.size 9 1 v ys) (hg : (W.alloc o).grownBy W2 (Value.slice p xs.length k).ownBlock) :
    ∃ p4 k4, v = .slice p4 ys.length k4 ∧ TdS w W2 B g ys p4 k4 := by
  obtain ⟨p4, k4, e⟩ := own_lenX hv
  have hb := own_base h.2.2
  have hB := h.1.1
  have hl := h.1.lt
  exact ⟨p4, k4, e, (h.1.alloc o).other hg (fun q hq => by have := hb q hq; omega) (by rw [World.size_alloc]; omega) (fun q hq => by have := hb q hq; omega), grown_over (grown_alloc h.2.1 o) hg hb, e ▸ hv⟩
set_option maxRecDepth 100000 in
set_option maxHeartbeats 4000000 in
theorem draw_blocks (B g : Nat) (w : World) (hS : Src w B g) :
    Calls Try.prog 40 #[.pointer (some ⟨g, 0, none⟩)] w fun e w' => ∃ xs p k, e = .returned (.slice p xs.length k) ∧ TdS w w' B g xs p k ∧ (xs.length ≤ 9 ∧ ∀ x ∈ xs, x.size ≤ 100) := by
  have hlt := hS.lt
  have hBg := hS.1
  have HS0 : Hid (TdS w (w.alloc (.cells #[] 9)) B g [] (some ⟨w.heap.size, 0, none⟩) 0) := Lib.hid ⟨hS.alloc _, World.grownBy_alloc w _ _, empty_rowX w⟩
  clear hS
  go_enter Try.func40, Try.ntmps40
  go_wp2_with fail
  refine (src_n B g 7 _ (by omega) HS0.out.1).mono ?_
  rintro e w1 ⟨_, rfl, ⟨z0, rfl, hz0, hz1⟩, hS1, hg1⟩
  have HS1 := Lib.hid (HS0.out.src hS1 hg1 hlt)
  clear hS1 hg1
  go_wp2_with fail
  go_loopw [3, 4] (fun lq kq wr => ∃ (xs : List ByteArray) (p : Option Addr) (k m : Nat) (z : Int), lq = .slice p m k ∧ m = xs.length ∧ kq = .int .i64 z ∧ 0 ≤ z ∧ z ≤ 7 ∧ TdS w wr B g xs p k ∧ TxW xs) (fun _ z _ => (intOf z).toNat)
  case atStart => exact ⟨[], _, _, 0, z0, rfl, rfl, rfl, hz0, by omega, HS1.out, Nat.zero_le _, fun x hx => by cases hx⟩
  case round =>
    obtain ⟨xs, p, k, m, z, rfl, hm, rfl, hz, hz9, hs, hw⟩ := hrel
    have HS := Lib.hid hs
    have HW := Lib.hid hw
    have HM := Lib.hid hm
    have i1 := fun (r : ByteArray) (hr : r.size ≤ 100) W hO => spec_blockadd xs r p k w.heap.size W (by have := HW.out.1; omega) (by omega) (fun x hx => by have := HW.out.2 x hx; omega) hO
    unfold BoIs at i1
    rw [← hm] at i1
    clear hs hw hm
    by_cases h0 : 0 < z
    · go_wp2_with fail
      refine (draw_bwho B g wr HS.out.1).mono ?_
      rintro e w2 ⟨_, rfl, ⟨r, rfl, hr⟩, hS2, hg2⟩
      have HS2 := Lib.hid (HS.out.src hS2 hg2 hlt)
      have hww := Lib.hid HS2.out.2.1.size
      clear hS2 hg2 HS
      go_wp2_with fail
      go_fit (i1 r hr w2 (by rw [HM.out]; exact HS2.out.2.2))
      rintro e w3 ⟨⟨q, l, rfl, ho⟩, hb⟩
      have HS3 := Lib.hid (HS2.out.on hb)
      have HO3 := Lib.hid (ho.mono hww.out)
      have hRW := txw_add HW.out hr
      clear ho hb HS2 hww
      obtain ⟨R, hR⟩ : ∃ R, addR xs r = R := ⟨_, rfl⟩
      rw [hR] at HO3 hRW ⊢
      have HRW := Lib.hid hRW
      have HS4 := Lib.hid (HS3.out.on ((Below.refl _ _).alloc (Nat.le_refl _) (.cells #[.slice q R.l.length l, .int .i64 R.c] 27)))
      have HO4 := Lib.hid (HO3.out.alloc (.cells #[.slice q R.l.length l, .int .i64 R.c] 27))
      clear hR hRW
      by_cases hc : R.c = 0
      · have hsb := HS4.out
        have hob := HO4.out
        rw [hc] at hsb hob
        have HSB := Lib.hid hsb
        have HOB := Lib.hid hob
        clear hsb hob
        go_wp2_with fail
        go_roundw
        case rel => exact ⟨R.l, q, l, R.l.length, z - 1, rfl, rfl, by go_num, by omega, by omega, ⟨HSB.out.1, HSB.out.2.1, HOB.out⟩, HRW.out⟩
        case measure => simp [intOf]; omega
      · go_wp2_with fail
        go_roundw
        case rel => exact ⟨xs, _, k, m, z - 1, rfl, HM.out, by go_num, by omega, by omega, HS4.out, HW.out⟩
        case measure => simp [intOf]; omega
    · have hz00 : z = 0 := by omega
      subst hz00
      go_wp2_with fail
      refine (src_one B g 20 wr (by omega) HS.out.1).mono ?_
      rintro e w2 ⟨_, rfl, ⟨b, rfl⟩, hS2, hg2⟩
      have HS2 := Lib.hid (HS.out.src hS2 hg2 hlt)
      clear hS2 hg2 HS
      cases b
      · go_wp2_with fail
        go_ret
        have h := HM.out
        subst h
        exact ⟨xs, p, k, rfl, HS2.out, by have := HW.out.1; omega, HW.out.2⟩
      · go_wp2_with fail
        have hgw2 : g < w2.heap.size := by have := HS2.out.2.1.size; omega
        refine (src_pick B g w2.heap.size 3 100 _ (by omega) (by omega) (HS2.out.1.alloc _) (by omega) (strRow_at w2 9 100 _ [⟨#[65]⟩, ⟨#[97]⟩, ⟨#[122, 122]⟩] rfl odd_small)).mono ?_
        rintro e w3 ⟨_, rfl, ⟨sh, rfl, hsh⟩, hS3, hg3⟩
        have HS3 := Lib.hid ((HS2.out.on ((Below.refl _ _).alloc (Nat.le_refl _) _)).src hS3 hg3 hlt)
        clear hS3 hg3 HS2
        have h := HM.out
        subst h
        go_wp2_with (at_builtin; refine wpList_plain rfl fun K hK => ?_; refine wp_app_oneX _ _ rfl w.heap.size _ xs rfl (HS3.out.2.2.alloc _) w3.heap.size sh rfl (Arr.fresh w3 9 [.string sh]) (by have := HW.out.1; omega) (by rw [World.size_alloc]; have := HS3.out.2.1.size; omega) ?_; intro v4 w4 hv4 hg4; have HS4 := Lib.hid (tds_app HS3.out hlt hv4 hg4); clear hv4 hg4; refine hK _ _ ?_)
        obtain ⟨p4, k4, e4, hs4⟩ := HS4.out
        subst e4
        go_ret
        exact ⟨_, p4, k4, rfl, hs4, by have := HW.out.1; rw [List.length_append]; show _ + 1 ≤ 9; omega, fun x hx => by
          rcases List.mem_append.1 hx with hx | hx
          · exact HW.out.2 x hx
          · obtain rfl := List.mem_singleton.1 hx
            exact hsh⟩
theorem new_small : ∀ s ∈ [(⟨#[]⟩ : ByteArray), ⟨#[65]⟩, ⟨#[110, 101, 119, 64, 110]⟩], s.size ≤ 100 := by
  intro s hs
  simp at hs
  rcases hs with rfl | rfl | rfl <;> decide
/-- A drawn list and a text. -/
def BkD (B : Nat) (e : Ending) (W : World) : Prop := ∃ xs p k j, e = .returned (.tuple #[.slice p xs.length k, .string j]) ∧ OwnC strC W B 9 1 (.slice p xs.length k) xs ∧ xs.length ≤ 9 ∧ (∀ x ∈ xs, x.size ≤ 100) ∧ j.size ≤ 100
set_option maxRecDepth 100000 in
set_option maxHeartbeats 1000000 in
theorem draw_badd (a : Option Addr) (len cap : Nat) (w : World) (hlen : len ≤ 1048576) (hrow : SrcRow w w.heap.size a len) :
    Calls Try.prog 10 #[.slice a len cap] w fun e w' => BkD w.heap.size e w' ∧ Below w.heap.size w w' := by
  have HR := Lib.hid hrow
  clear hrow
  go_enter Try.func10, Try.ntmps10
  go_wp2_with fail
  refine (src_source a len cap _ hlen HR.out).mono ?_
  rintro e w1 ⟨rfl, hS1, hb1⟩
  have HS1 := Lib.hid hS1
  have HB1 := Lib.hid hb1
  have hlt := hS1.lt
  clear hS1 hb1
  go_wp2_with fail
  refine (draw_blocks w.heap.size w.heap.size w1 HS1.out).mono ?_
  rintro e w2 ⟨xs, p, k, rfl, hs, hl, hw⟩
  have HS2 := Lib.hid hs
  have HW := Lib.hid (And.intro hl hw)
  clear hs hl hw
  obtain ⟨n, hxn⟩ : ∃ n, xs.length = n := ⟨_, rfl⟩
  have HN := Lib.hid hxn
  rw [hxn]
  clear hxn
  go_wp2_with fail
  refine (src_one w.heap.size w.heap.size 8 w2 (by omega) HS2.out.1).mono ?_
  rintro e w3 ⟨_, rfl, ⟨b, rfl⟩, hS3, hg3⟩
  have HS3 := Lib.hid (HS2.out.src hS3 hg3 hlt)
  clear hS3 hg3 HS2
  cases b
  · go_wp2_with fail
    refine (draw_bwho w.heap.size w.heap.size w3 HS3.out.1).mono ?_
    rintro e w4 ⟨_, rfl, ⟨r, rfl, hr⟩, hS4, hg4⟩
    have HS4 := Lib.hid (HS3.out.src hS4 hg4 hlt)
    clear hS4 hg4 HS3
    have HB4 := Lib.hid (below_grown HB1.out HB1.out.size HS4.out.2.1 (Nat.le_refl _))
    go_wp2_with fail
    exact bodyPost_ret (v := .tuple #[.slice p n k, .string r]) (by simp [results, Try.results10, go_sem]) rfl ⟨⟨xs, p, k, r, by rw [HN.out], HS4.out.2.2.mono HB1.out.size, HW.out.1, HW.out.2, hr⟩, HB4.out⟩
  · go_wp2_with fail
    have hgw : w.heap.size < w3.heap.size := by have := HS3.out.2.1.size; omega
    refine (src_pick w.heap.size w.heap.size w3.heap.size 3 100 _ (by omega) (by omega) (HS3.out.1.alloc _) (by omega) (strRow_at w3 9 100 _ [⟨#[]⟩, ⟨#[65]⟩, ⟨#[110, 101, 119, 64, 110]⟩] rfl new_small)).mono ?_
    rintro e w4 ⟨_, rfl, ⟨r, rfl, hr⟩, hS4, hg4⟩
    have HS4 := Lib.hid ((HS3.out.on ((Below.refl _ _).alloc (Nat.le_refl _) _)).src hS4 hg4 hlt)
    clear hS4 hg4 HS3
    have HB4 := Lib.hid (below_grown HB1.out HB1.out.size HS4.out.2.1 (Nat.le_refl _))
    go_wp2_with fail
    exact bodyPost_ret (v := .tuple #[.slice p n k, .string r]) (by simp [results, Try.results10, go_sem]) rfl ⟨⟨xs, p, k, r, by rw [HN.out], HS4.out.2.2.mono HB1.out.size, HW.out.1, HW.out.2, hr⟩, HB4.out⟩
theorem draw_bdel (a : Option Addr) (len cap : Nat) (w : World) (hlen : len ≤ 1048576) (hrow : SrcRow w w.heap.size a len) :
    Calls Try.prog 12 #[.slice a len cap] w fun e w' => BkD w.heap.size e w' ∧ Below w.heap.size w w' := by
  have i1 := draw_badd a len cap w hlen hrow
  unfold BkD at i1
  clear hlen hrow
  go_enter Try.func12, Try.ntmps12
  go_wp2_with (go_at_call 10; go_fit i1; rintro e w1 ⟨⟨xs, p, k, j, rfl, h⟩, hb⟩)
  exact bodyPost_ret (v := .tuple #[.slice p xs.length k, .string j]) (by simp [results, Try.results12, go_sem]) rfl ⟨⟨xs, p, k, j, rfl, h⟩, hb⟩
end Go.Proofs.Ytpjmcpfmnlfmdaa

namespace Go.Proofs.Ytpjmcpfmnlfmdaa
set_option linter.unusedSimpArgs false
set_option linter.unusedVariables false
open Go.RowKit Go.Joins

def insT (j : ByteArray) (xs : List ByteArray) : List ByteArray := xs.take (posT j xs) ++ [j] ++ xs.drop (posT j xs)
theorem insT_len (j : ByteArray) (xs : List ByteArray) : (insT j xs).length = xs.length + 1 := by
  unfold insT
  have := posT_le j xs
  simp only [List.length_append, List.length_take, List.length_drop, List.length_cons, List.length_nil]
  omega
theorem get_of {l : List ByteArray} {i : Nat} {a : ByteArray} (h : l[i]? = some a) (hi : i < l.length) : l[i] = a := by
  rw [List.getElem?_eq_getElem hi] at h
  exact Option.some.inj h
theorem insT_lo {j : ByteArray} {xs : List ByteArray} {i : Nat} (h : i < posT j xs) (h1 : i < (insT j xs).length) (h2 : i < xs.length) : (insT j xs)[i] = xs[i] := by
  refine get_of ?_ h1
  unfold insT
  rw [List.append_assoc, List.getElem?_append_left (by rw [List.length_take]; omega), List.getElem?_take, if_pos h, List.getElem?_eq_getElem h2]
theorem insT_at {j : ByteArray} {xs : List ByteArray} (h1 : posT j xs < (insT j xs).length) : (insT j xs)[posT j xs] = j := by
  refine get_of ?_ h1
  have hp := posT_le j xs
  have hl : (xs.take (posT j xs)).length = posT j xs := by rw [List.length_take]; omega
  unfold insT
  rw [List.append_assoc, List.getElem?_append_right (by omega), hl, Nat.sub_self]
  rfl
theorem insT_hi {j : ByteArray} {xs : List ByteArray} {i : Nat} (h : posT j xs ≤ i) (h1 : i + 1 < (insT j xs).length) (h2 : i < xs.length) : (insT j xs)[i + 1] = xs[i] := by
  refine get_of ?_ h1
  have hl : (xs.take (posT j xs)).length = posT j xs := by rw [List.length_take]; omega
  unfold insT
  rw [List.append_assoc, List.getElem?_append_right (by omega), hl, List.getElem?_append_right (by simp; omega), List.getElem?_drop]
  rw [show posT j xs + (i + 1 - posT j xs - [j].length) = i by simp only [List.length_cons, List.length_nil]; omega]
  exact List.getElem?_eq_getElem h2
theorem posT_eq {j : ByteArray} {ys : List ByteArray} {P : Nat} (hP : P < ys.length) (h1 : ∀ i (h : i < ys.length), i < P → Op.bytesLess ys[i].toList j.toList = true) (h2 : Op.bytesLess ys[P].toList j.toList = false) : posT j ys = P := by
  rcases Nat.lt_trichotomy (posT j ys) P with h | h | h
  · have h3 := posT_at (r := j) (xs := ys) (by omega)
    rw [h1 _ (by omega) h] at h3
    cases h3
  · exact h
  · rw [posT_lo hP h] at h2
    cases h2
theorem insT_pos (j : ByteArray) (xs : List ByteArray) : posT j (insT j xs) = posT j xs := by
  have hp := posT_le j xs
  refine posT_eq (by rw [insT_len]; omega) (fun i h hi => ?_) ?_
  · rw [insT_lo hi h (by omega)]
    exact posT_lo (by omega) hi
  · rw [insT_at]
    exact sl_self _
theorem insT_here (j : ByteArray) (xs : List ByteArray) : hereT j (insT j xs) = true := by
  have hp := posT_le j xs
  have h1 : posT j (insT j xs) < (insT j xs).length := by rw [insT_pos, insT_len]; omega
  have h2 : (insT j xs)[posT j (insT j xs)] = j := by
    have h3 := insT_at (j := j) (xs := xs) (by rw [insT_len]; omega)
    simp only [insT_pos]
    exact h3
  rw [hereT_at h1, h2]
  exact beq_self_eq_true _
theorem insT_out (j : ByteArray) (xs : List ByteArray) : (insT j xs).take (posT j xs) ++ (insT j xs).drop (posT j xs + 1) = xs := by
  have hp := posT_le j xs
  have hl : (xs.take (posT j xs)).length = posT j xs := by rw [List.length_take]; omega
  have e1 : (insT j xs).take (posT j xs) = xs.take (posT j xs) := by
    unfold insT
    rw [List.append_assoc, List.take_append_of_le_length (by omega), List.take_of_length_le (by omega)]
  have e2 : (insT j xs).drop (posT j xs + 1) = xs.drop (posT j xs) := by
    unfold insT
    rw [List.drop_append, List.drop_eq_nil_of_le (by simp only [List.length_append, hl, List.length_cons, List.length_nil]; omega)]
    simp [hl]
  rw [e1, e2, List.take_append_drop]
theorem insT_right {j : ByteArray} {xs : List ByteArray} (hk : bkB xs = true) (ha : addrB j = true) (hh : hereT j xs = false) (h8 : xs.length < 8) : bkB (insT j xs) = true := by
  obtain ⟨q1, q2, q3⟩ := bkB_iff.1 hk
  have hp := posT_le j xs
  have hlen := insT_len j xs
  refine bkB_true ⟨by omega, fun i hi h0 _ h' => ?_, fun i hi _ => ?_⟩
  · rcases Nat.lt_trichotomy i (posT j xs) with h | h | h
    · rw [insT_lo (by omega) h' (by omega), insT_lo h hi (by omega)]
      exact q2 i (by omega) h0 (by omega) (by omega)
    · subst h
      rw [insT_lo (by omega) h' (by omega), insT_at]
      exact posT_lo (by omega) (by omega)
    · obtain ⟨k, rfl⟩ : ∃ k, i = k + 1 := ⟨i - 1, by omega⟩
      have hkx : k < xs.length := by omega
      rw [insT_hi (by omega) hi hkx]
      simp only [Nat.add_sub_cancel]
      rcases Nat.lt_or_ge (posT j xs) k with h3 | h3
      · obtain ⟨m, rfl⟩ : ∃ m, k = m + 1 := ⟨k - 1, by omega⟩
        rw [insT_hi (by omega) (by omega) (by omega)]
        exact q2 (m + 1) hkx (by omega) hkx (by omega)
      · have hkp : k = posT j xs := by omega
        subst hkp
        rw [insT_at]
        have h4 := posT_at (r := j) (xs := xs) hkx
        cases h5 : Op.bytesLess j.toList (xs[posT j xs]).toList
        · have h6 := sl_eq _ _ h4 h5
          rw [hereT_at hkx, h6] at hh
          simp at hh
        · rfl
  · rcases Nat.lt_trichotomy i (posT j xs) with h | h | h
    · rw [insT_lo h hi (by omega)]
      exact q3 i (by omega) (by omega)
    · subst h
      rw [insT_at]
      exact ha
    · obtain ⟨k, rfl⟩ : ∃ k, i = k + 1 := ⟨i - 1, by omega⟩
      rw [insT_hi (by omega) hi (by omega)]
      exact q3 k (by omega) (by omega)
/-- Added and removed again, the list is as before. -/
theorem add_del {j : ByteArray} {xs : List ByteArray} (h : (addR xs j).c = 0) : (addR xs j).l = insT j xs ∧ bkB xs = true ∧ addrB j = true ∧ bkB (insT j xs) = true ∧ delR (insT j xs) j = ⟨xs, 0⟩ := by
  unfold addR illB at h ⊢
  by_cases h1 : 400 < xs.length ∨ 20000 < j.size
  · rw [if_pos h1] at h; cases h
  rw [if_neg h1] at h ⊢
  by_cases h2 : bkB xs = false ∨ addrB j = false
  · rw [if_pos h2] at h; cases h
  rw [if_neg h2] at h ⊢
  by_cases h3 : hereT j xs = true
  · rw [if_pos h3] at h; cases h
  rw [if_neg h3] at h ⊢
  by_cases h4 : 8 ≤ xs.length
  · rw [if_pos h4] at h; cases h
  rw [if_neg h4]
  have hk : bkB xs = true := by cases e : bkB xs with
    | true => rfl
    | false => exact absurd (.inl e) h2
  have ha : addrB j = true := by cases e : addrB j with
    | true => rfl
    | false => exact absurd (.inr e) h2
  have hh : hereT j xs = false := by simpa using h3
  have hi := insT_right hk ha hh (by omega)
  refine ⟨rfl, hk, ha, hi, ?_⟩
  unfold delR
  have hlen := insT_len j xs
  rw [if_neg (by omega), if_neg (by rw [hi]; decide), if_neg (by rw [insT_here]; decide), insT_pos, insT_out]
end Go.Proofs.Ytpjmcpfmnlfmdaa

namespace Go.Proofs.Ytpjmcpfmnlfmdaa
set_option linter.unusedSimpArgs false
set_option linter.unusedVariables false
open Go.RowKit Go.Joins

set_option maxRecDepth 100000 in
set_option maxHeartbeats 2000000 in
theorem lw_texts (xs : List ByteArray) (p q : Option Addr) (c d : Nat) (w : World) (hn : xs.length ≤ 2000000) (hp : RowC strC 1 w p xs) (hq : RowC strC 1 w q xs) :
    Calls Try.prog 21 #[.slice p xs.length c, .slice q xs.length d] w fun e w' => e = .returned (.bool true) ∧ Below w.heap.size w w' := by
  obtain ⟨n, hxn⟩ : ∃ n, xs.length = n := ⟨_, rfl⟩
  have HP := Lib.hid (fun W (h : Below w.heap.size w W) => hp.on h)
  have HQ := Lib.hid (fun W (h : Below w.heap.size w W) => hq.on h)
  have HN := Lib.hid hxn
  rw [hxn] at hn ⊢
  clear hp hq hxn
  go_enter Try.func21, Try.ntmps21
  go_wp2
  go_loopw [5] (fun iq wr => ∃ i : Nat, i ≤ n ∧ iq = .int .i64 i ∧ Below w.heap.size w wr) (fun i _ => n - (intOf i).toNat)
  case atStart => exact ⟨0, Nat.zero_le _, rfl, Below.refl _ _⟩
  case round =>
    obtain ⟨i, hi, rfl, hb⟩ := hrel
    have HB := Lib.hid hb
    by_cases hlt : i < n
    · have hlt1 : i < xs.length := by rw [HN.out]; exact hlt
      obtain ⟨a, rfl, ha, hc⟩ := HP.out _ hb (List.ne_nil_of_length_pos (by omega))
      obtain ⟨b, rfl, hb0, hd⟩ := HQ.out _ hb (List.ne_nil_of_length_pos (by omega))
      have c0 := hc i hlt1 0 (by decide)
      have d0 := hd i hlt1 0 (by decide)
      obtain ⟨x, hx⟩ : ∃ x, xs[i] = x := ⟨_, rfl⟩
      rw [hx, Nat.mul_one, Nat.add_zero] at c0 d0
      replace c0 : wr.cell? ⟨a, i, none⟩ = some (.string x) := c0
      replace d0 : wr.cell? ⟨b, i, none⟩ = some (.string x) := d0
      clear hc hd hx hb
      go_wp2
      go_region
      all_goals (try go_wp2)
      exact ⟨⟨i + 1, by omega, by go_num, HB.out.drew⟩, by simp [intOf]; omega⟩
    · obtain rfl : i = n := by omega
      clear hb
      go_wp2
      go_ret
      exact ⟨rfl, HB.out⟩
end Go.Proofs.Ytpjmcpfmnlfmdaa

namespace Go.Proofs.Ytpjmcpfmnlfmdaa
set_option linter.unusedSimpArgs false
set_option linter.unusedVariables false
open Go.RowKit

end Go.Proofs.Ytpjmcpfmnlfmdaa

namespace Go.Proofs.Ytpjmcpfmnlfmdaa
set_option linter.unusedSimpArgs false
set_option linter.unusedVariables false
open Go.RowKit

/-- Two boxes of three cells that were laid ahead of a call stand behind it. -/
theorem six_kept {w w1 : World} {a b c x y z : Value} {t u : Nat} (h : Below ((w.alloc (.cells #[a, b, c] t)).alloc (.cells #[x, y, z] u)).heap.size ((w.alloc (.cells #[a, b, c] t)).alloc (.cells #[x, y, z] u)) w1) :
    (w1.cell? ⟨w.heap.size, 0, none⟩ = some a ∧ w1.cell? ⟨w.heap.size, 1, none⟩ = some b ∧ w1.cell? ⟨w.heap.size, 2, none⟩ = some c) ∧
    (w1.cell? ⟨w.heap.size + 1, 0, none⟩ = some x ∧ w1.cell? ⟨w.heap.size + 1, 1, none⟩ = some y ∧ w1.cell? ⟨w.heap.size + 1, 2, none⟩ = some z) ∧
    (w1.frozen? ⟨w.heap.size, 0, none⟩ = false ∧ w1.frozen? ⟨w.heap.size, 1, none⟩ = false ∧ w1.frozen? ⟨w.heap.size, 2, none⟩ = false) := by
  have h1 : Below (w.alloc (.cells #[a, b, c] t)).heap.size (w.alloc (.cells #[a, b, c] t)) w1 := below_one h
  have h2 := three_kept h1
  have h3 := three_kept h
  rw [World.size_alloc] at h3
  exact ⟨h2.1, h3.1, h2.2.1⟩
end Go.Proofs.Ytpjmcpfmnlfmdaa

namespace Go.Proofs.Ytpjmcpfmnlfmdaa
set_option linter.unusedSimpArgs false
set_option linter.unusedVariables false
open Go.RowKit

noncomputable def matchJ (l d r x y z : ByteArray) : Bool :=
  if jidB l d r && jidB x y z then (decide (l.size = 0) || l.toList == x.toList) && d.toList == y.toList && (decide (r.size = 0) || r.toList == z.toList) else false
theorem empty_cases (s : ByteArray) : (s.size = 0 ∧ s.toList = [] ∧ s.toList.isEmpty = true ∧ decide (s.size = 0) = true) ∨ (0 < s.size ∧ s.toList ≠ [] ∧ s.toList.isEmpty = false ∧ decide (s.size = 0) = false) := by
  rcases Nat.eq_zero_or_pos s.size with h | h
  · exact .inl ⟨h, (empty_of h).1, (empty_of h).2, decide_eq_true h⟩
  · exact .inr ⟨h, ne_nil h, not_empty h, decide_eq_false (by omega)⟩
set_option maxHeartbeats 8000000 in
theorem spec_match (l d r x y z : ByteArray) (w : World) (hl : l.size ≤ maxLen) (hd : d.size ≤ maxLen) (hr : r.size ≤ maxLen) (hx : x.size ≤ maxLen) (hy : y.size ≤ maxLen) (hz : z.size ≤ maxLen) :
    Calls Try.prog 85 #[.agg #[.string l, .string d, .string r], .agg #[.string x, .string y, .string z]] w fun e w' => e = .returned (.bool (matchJ l d r x y z)) ∧ Below w.heap.size w w' := by
  have i1 := fun w => spec_right l d r w hl hd hr
  have i2 := fun w => spec_right x y z w hx hy hz
  obtain ⟨v, hv⟩ : ∃ v, matchJ l d r x y z = v := ⟨_, rfl⟩
  rw [hv]
  unfold matchJ at hv
  obtain ⟨b1, h1⟩ : ∃ b, jidB l d r = b := ⟨_, rfl⟩
  obtain ⟨b2, h2⟩ : ∃ b, jidB x y z = b := ⟨_, rfl⟩
  obtain ⟨b3, h3⟩ : ∃ b, (d.toList == y.toList) = b := ⟨_, rfl⟩
  obtain ⟨b4, h4⟩ : ∃ b, (l.toList == x.toList) = b := ⟨_, rfl⟩
  obtain ⟨b5, h5⟩ : ∃ b, (r.toList == z.toList) = b := ⟨_, rfl⟩
  rw [h1] at i1
  rw [h2] at i2
  rw [h1, h2, h3, h4, h5] at hv
  clear h1 h2
  have HK := Lib.hid (fun w1 (h : Below ((w.alloc (.cells #[.string l, .string d, .string r] 69)).alloc (.cells #[.string x, .string y, .string z] 69)).heap.size ((w.alloc (.cells #[.string l, .string d, .string r] 69)).alloc (.cells #[.string x, .string y, .string z] 69)) w1) => six_kept h)
  cases b1
  · have HV := Lib.hid hv
    clear hv
    go_enter Try.func85, Try.ntmps85
    go_wp2_with (first | (go_at_call 103; go_fit (i1 _); rintro e w1 ⟨rfl, hb⟩))
    go_ret
    exact ⟨ret_bool (by rw [← HV.out]; rfl), below_one (below_one hb)⟩
  · cases b2
    · have HV := Lib.hid hv
      clear hv
      go_enter Try.func85, Try.ntmps85
      go_wp2_with (first
        | (go_at_call 103; go_fit (i1 _); rintro e w1 ⟨rfl, hb⟩; obtain ⟨⟨c0, c1, c2⟩, ⟨d0, d1, d2⟩, _⟩ := HK.out _ hb)
        | (go_at_call 103; go_fit (i2 _); rintro e w2 ⟨rfl, hb2⟩; replace hb := hb.trans (hb2.mono hb.size); clear hb2))
      go_ret
      exact ⟨ret_bool (by rw [← HV.out]; rfl), below_one (below_one hb)⟩
    · rcases empty_cases l with ⟨_, n1, n2, n3⟩ | ⟨_, n1, n2, n3⟩ <;> rcases empty_cases r with ⟨_, m1, m2, m3⟩ | ⟨_, m1, m2, m3⟩ <;> rw [n3, m3] at hv <;> have HV := Lib.hid hv <;> clear hv n3 m3 <;> cases b3 <;> cases b4 <;>
       (go_enter Try.func85, Try.ntmps85
        go_wp2_with (first
          | (go_at_call 103; go_fit (i1 _); rintro e w1 ⟨rfl, hb⟩; obtain ⟨⟨c0, c1, c2⟩, ⟨d0, d1, d2⟩, _⟩ := HK.out _ hb)
          | (go_at_call 103; go_fit (i2 _); rintro e w2 ⟨rfl, hb2⟩; replace hb := hb.trans (hb2.mono hb.size); clear hb2; obtain ⟨⟨c0, c1, c2⟩, ⟨d0, d1, d2⟩, _⟩ := HK.out _ hb))
        go_ret
        exact ⟨ret_bool (by rw [← HV.out]; rfl), below_one (below_one hb)⟩)
set_option maxHeartbeats 8000000 in
theorem impl_match (l d r x y z : ByteArray) (w : World) (hl : l.size ≤ maxLen) (hd : d.size ≤ maxLen) (hr : r.size ≤ maxLen) (hx : x.size ≤ maxLen) (hy : y.size ≤ maxLen) (hz : z.size ≤ maxLen) (hm : MaxL w) :
    Calls Try.prog 80 #[.agg #[.string l, .string d, .string r], .agg #[.string x, .string y, .string z]] w fun e w' => e = .returned (.bool (matchJ l d r x y z)) ∧ Below w.heap.size w w' := by
  have i1 := fun w => impl_right l d r w hl hd hr
  have i2 := fun w => impl_right x y z w hx hy hz
  obtain ⟨v, hv⟩ : ∃ v, matchJ l d r x y z = v := ⟨_, rfl⟩
  rw [hv]
  unfold matchJ at hv
  obtain ⟨b1, h1⟩ : ∃ b, jidB l d r = b := ⟨_, rfl⟩
  obtain ⟨b2, h2⟩ : ∃ b, jidB x y z = b := ⟨_, rfl⟩
  obtain ⟨b3, h3⟩ : ∃ b, (d.toList == y.toList) = b := ⟨_, rfl⟩
  obtain ⟨b4, h4⟩ : ∃ b, (l.toList == x.toList) = b := ⟨_, rfl⟩
  obtain ⟨b5, h5⟩ : ∃ b, (r.toList == z.toList) = b := ⟨_, rfl⟩
  rw [h1] at i1
  rw [h2] at i2
  rw [h1, h2, h3, h4, h5] at hv
  clear h1 h2
  have HK := Lib.hid (fun w1 (h : Below ((w.alloc (.cells #[.string l, .string d, .string r] 69)).alloc (.cells #[.string x, .string y, .string z] 69)).heap.size ((w.alloc (.cells #[.string l, .string d, .string r] 69)).alloc (.cells #[.string x, .string y, .string z] 69)) w1) => six_kept h)
  have HM := Lib.hid (fun w1 (h : Below ((w.alloc (.cells #[.string l, .string d, .string r] 69)).alloc (.cells #[.string x, .string y, .string z] 69)).heap.size ((w.alloc (.cells #[.string l, .string d, .string r] 69)).alloc (.cells #[.string x, .string y, .string z] 69)) w1) => hm.below (below_one (below_one h)) hm.pos)
  clear hm
  cases b1
  · have HV := Lib.hid hv
    clear hv
    go_enter Try.func80, Try.ntmps80
    go_wp2_with (first | (go_at_call 83; go_fit (i1 _ (HM.out _ (Below.refl _ _))); rintro e w1 ⟨rfl, hb⟩))
    go_ret
    exact ⟨ret_bool (by rw [← HV.out]; rfl), below_one (below_one hb)⟩
  · cases b2
    · have HV := Lib.hid hv
      clear hv
      go_enter Try.func80, Try.ntmps80
      go_wp2_with (first
        | (go_at_call 83; go_fit (i1 _ (HM.out _ (Below.refl _ _))); rintro e w1 ⟨rfl, hb⟩; obtain ⟨⟨c0, c1, c2⟩, ⟨d0, d1, d2⟩, _⟩ := HK.out _ hb)
        | (go_at_call 83; go_fit (i2 _ (HM.out _ hb)); rintro e w2 ⟨rfl, hb2⟩; replace hb := hb.trans (hb2.mono hb.size); clear hb2))
      go_ret
      exact ⟨ret_bool (by rw [← HV.out]; rfl), below_one (below_one hb)⟩
    · rcases empty_cases l with ⟨_, n1, n2, n3⟩ | ⟨_, n1, n2, n3⟩ <;> rcases empty_cases r with ⟨_, m1, m2, m3⟩ | ⟨_, m1, m2, m3⟩ <;> rw [n3, m3] at hv <;> have HV := Lib.hid hv <;> clear hv n3 m3 <;> cases b3 <;> cases b4 <;> cases b5 <;>
       (go_enter Try.func80, Try.ntmps80
        go_wp2_with (first
          | (go_at_call 83; go_fit (i1 _ (HM.out _ (Below.refl _ _))); rintro e w1 ⟨rfl, hb⟩; obtain ⟨⟨c0, c1, c2⟩, ⟨d0, d1, d2⟩, _⟩ := HK.out _ hb)
          | (go_at_call 83; go_fit (i2 _ (HM.out _ hb)); rintro e w2 ⟨rfl, hb2⟩; replace hb := hb.trans (hb2.mono hb.size); clear hb2; obtain ⟨⟨c0, c1, c2⟩, ⟨d0, d1, d2⟩, ⟨f0, f1, f2⟩⟩ := HK.out _ hb))
        go_ret
        first
          | exact ⟨ret_bool (by rw [← HV.out]; rfl), below_one (below_one hb)⟩
          | exact ⟨ret_bool (by rw [← HV.out]; rfl), (below_one (below_one hb)).setCell (Nat.le_refl _) _⟩
          | exact ⟨ret_bool (by rw [← HV.out]; rfl), ((below_one (below_one hb)).setCell (Nat.le_refl _) _).setCell (Nat.le_refl _) _⟩)
end Go.Proofs.Ytpjmcpfmnlfmdaa

namespace Go.Proofs.Ytpjmcpfmnlfmdaa
set_option linter.unusedSimpArgs false
set_option linter.unusedVariables false
open Go.RowKit Go.Joins
attribute [local go_sem] Oper.semAt_some

/-- The parts of an address that is read. -/
noncomputable def rdL (s : ByteArray) : ByteArray := if 20000 < s.size then ⟨#[]⟩ else if goodR s.data.toList = true then strOf (readL s.data.toList).1 else ⟨#[]⟩
noncomputable def rdD (s : ByteArray) : ByteArray := if 20000 < s.size then ⟨#[]⟩ else if goodR s.data.toList = true then strOf (readL s.data.toList).2.1 else ⟨#[]⟩
noncomputable def rdR (s : ByteArray) : ByteArray := if 20000 < s.size then ⟨#[]⟩ else if goodR s.data.toList = true then strOf (readL s.data.toList).2.2 else ⟨#[]⟩
noncomputable def rdC (s : ByteArray) : Int := if 20000 < s.size then 2 else if goodR s.data.toList = true then 0 else 3
theorem rd_eq (s : ByteArray) : jidReadV s = jo (rdL s) (rdD s) (rdR s) (rdC s) := by
  unfold jidReadV rdL rdD rdR rdC
  split
  · rfl
  · split <;> rfl
theorem str_size (l : List UInt8) : (strOf l).size = l.length := by unfold strOf; simp [ByteArray.size]
theorem rd_sizes (s : ByteArray) : (rdL s).size ≤ maxLen ∧ (rdD s).size ≤ maxLen ∧ (rdR s).size ≤ maxLen := by
  have hz : (⟨#[]⟩ : ByteArray).size ≤ maxLen := Nat.zero_le _
  unfold rdL rdD rdR
  by_cases h : 20000 < s.size
  · rw [if_pos h, if_pos h, if_pos h]; exact ⟨hz, hz, hz⟩
  · rw [if_neg h, if_neg h, if_neg h]
    by_cases h2 : goodR s.data.toList = true
    · rw [if_pos h2, if_pos h2, if_pos h2, str_size, str_size, str_size]
      have := read_le s.data.toList
      rw [size_data] at this
      unfold maxLen
      omega
    · rw [if_neg h2, if_neg h2, if_neg h2]; exact ⟨hz, hz, hz⟩
/-- A pattern. -/
abbrev PtL := { q : ByteArray × ByteArray × ByteArray // q.1.size ≤ maxLen ∧ q.2.1.size ≤ maxLen ∧ q.2.2.size ≤ maxLen }
noncomputable def ptOf (s : ByteArray) : PtL := ⟨(rdL s, rdD s, rdR s), rd_sizes s⟩
def ptV (x : PtL) : Value := .agg #[.string x.1.1, .string x.1.2.1, .string x.1.2.2]
/-- The row of a slice below a bound. -/
def RowB (B : Nat) (W : World) (p : Option Addr) (xs : List ByteArray) : Prop := xs ≠ [] → ∃ g, p = some ⟨g, 0, none⟩ ∧ g < B ∧ ∀ i (h : i < xs.length), W.cell? ⟨g, i, none⟩ = some (.string xs[i])
theorem RowB.below {B : Nat} {W W2 : World} {p : Option Addr} {xs : List ByteArray} (h : RowB B W p xs) (hb : Below B W W2) : RowB B W2 p xs := by
  intro hx
  obtain ⟨g, h1, h2, h3⟩ := h hx
  exact ⟨g, h1, h2, fun i hi => (hb.cell (p := ⟨g, i, none⟩) h2).trans (h3 i hi)⟩
theorem RowB.of {W : World} {p : Option Addr} {xs : List ByteArray} (h : RowC strC 1 W p xs) : RowB W.heap.size W p xs := by
  intro hx
  obtain ⟨g, h1, h2, h3⟩ := h hx
  refine ⟨g, h1, h2, fun i hi => ?_⟩
  have := h3 i hi 0 (by decide)
  rw [Nat.mul_one, Nat.add_zero] at this
  exact this
set_option maxRecDepth 100000 in
set_option maxHeartbeats 2000000 in
theorem jid_field7 (l d r : ByteArray) (c : Int) (W : World) : (Instr.field 71 (.agg #[.string l, .string d, .string r, .int .i64 c]) 0).run Try.prog W = .ok (.agg #[.string l, .string d, .string r]) W := by kernel_rfl
set_option maxRecDepth 100000 in
set_option maxHeartbeats 2000000 in
theorem pat_in (n l Bn n₀ : Nat) (p : Option Addr) (c : Nat) (xs : List ByteArray) (hn : 1 ≤ n) (hl : xs.length ≤ 1048576) (hw : ∀ x ∈ xs, x.size ≤ maxLen) (J Jx : List PtL → World → Prop)
    (hY : ∀ pre x W, J pre W → pre.length < xs.length → YieldAt Fence.wide (n - 1) Try.prog l #[ptV x] W fun e W' =>
      (e = .returned (.bool true) ∧ J (pre ++ [x]) W' ∧ Below n₀ W W') ∨ (e = .returned (.bool false) ∧ Jx (pre ++ [x]) W'))
    (W : World) (hn₀ : n₀ ≤ W.heap.size) (hJ : ∀ pre W1 W2, J pre W1 → W.heap.size ≤ W1.heap.size → Below W1.heap.size W1 W2 → J pre W2) (hBn : W.cell? ⟨Bn, 0, none⟩ = some (.slice p xs.length c)) (hR : RowB n₀ W p xs) (hm : ∀ W1, Below n₀ W W1 → MaxL W1) (h0 : J [] W) :
    CallsIn Fence.wide n Try.prog 97 #[.func (.yield l) #[] #[], .pointer (some ⟨Bn, 0, none⟩)] W fun e W' => (∃ v, e = .returned v) ∧
      ((∃ ys, ys = xs.map ptOf ∧ J ys W') ∨ (∃ pre, pre <+: xs.map ptOf ∧ Jx pre W')) := by
  obtain ⟨m, hxm⟩ : ∃ m, xs.length = m := ⟨_, rfl⟩
  have HN := Lib.hid hxm
  have HR := Lib.hid hR
  have HM := Lib.hid hm
  have HW := Lib.hid hw
  have HJ := Lib.hid hJ
  have HY := Lib.hid hY
  have HK := Lib.hid hn₀
  rw [hxm] at hl hBn
  clear hR hm hw hJ hY hxm hn₀
  refine callsIn_of_wp Try.func97 rfl trivial ?_ rfl
  simp only [Try.ntmps97, List.size_toArray, List.length_cons, List.length_nil, Nat.reduceAdd, Nat.reduceSub, Array.replicate_succ, Array.replicate_zero, List.push_toArray, List.append_toArray, List.nil_append, List.cons_append]
  gi_wp2
  gi_loopw [7] (fun iq wr => ∃ k : Nat, k ≤ m ∧ iq = .int .i64 k ∧ J ((xs.take k).map ptOf) wr ∧ Below n₀ W wr) (fun iq wr => m - (intOf iq).toNat)
  case atStart => exact ⟨0, Nat.zero_le _, rfl, h0, Below.refl _ _⟩
  case round =>
    obtain ⟨k, hk, rfl, hJk, hb⟩ := hrel
    have HB := Lib.hid hb
    have HJk := Lib.hid hJk
    clear hJk
    by_cases hlt : k < m
    · have hlt1 : k < xs.length := by rw [HN.out]; exact hlt
      obtain ⟨g, rfl, hg, hc⟩ := (HR.out.below hb) (List.ne_nil_of_length_pos (by omega))
      have a0 := hc k hlt1
      have hxw := HW.out _ (List.getElem_mem hlt1)
      obtain ⟨x, hx⟩ : ∃ x, xs[k] = x := ⟨_, rfl⟩
      have HT : Hid ((xs.take (k + 1)).map ptOf = (xs.take k).map ptOf ++ [ptOf x]) := Lib.hid (by rw [List.take_succ_eq_append_getElem hlt1, hx, List.map_append]; rfl)
      have HL : Hid (((xs.take k).map ptOf).length < xs.length) := Lib.hid (by rw [List.length_map, List.length_take]; omega)
      rw [hx] at a0 hxw
      have i1 := fun W hm => impl_read x W hxw hm
      rw [rd_eq] at i1
      unfold jo at i1
      have fld := fun W => jid_field7 (rdL x) (rdD x) (rdR x) (rdC x) W
      have HS : Hid (W.heap.size ≤ wr.heap.size) := Lib.hid hb.size
      clear hb hc hx hxw
      gi_wp2_with (refine ⟨trivial, ?_⟩; gi_at_call 56; refine (callsIn_wide.2 (i1 _ (HM.out _ HB.out))).mono ?_; rintro e w1 ⟨rfl, hb1⟩; have HB1 := Lib.hid (HB.out.trans (hb1.mono (Nat.le_trans HK.out HS.out))); have HJ1 := Lib.hid (HJ.out _ _ _ HJk.out HS.out hb1); clear hb1; obtain ⟨fn, tmps, assign, body, hy, hRd⟩ := HY.out _ (ptOf x) w1 HJ1.out HL.out; unfold ptV ptOf at hy; dsimp only at hy)
      refine hRd.mono ?_
      rintro e W3 (⟨rfl, hJ3, hk3⟩ | ⟨rfl, hx3⟩)
      · rw [← HT.out] at hJ3
        have HJ3 := Lib.hid hJ3
        have HB3 := Lib.hid (HB1.out.trans hk3)
        clear hJ3 hk3
        gi_wp2
        go_roundw
        case rel => exact ⟨k + 1, by omega, by go_num, HJ3.out, HB3.out⟩
        case measure => simp [intOf]; omega
      · gi_wp2
        refine bodyPost_ret (results_none rfl _ _ _) rfl ?_
        rw [← HT.out] at hx3
        refine ⟨⟨_, rfl⟩, .inr ⟨_, ?_, hx3⟩⟩
        rw [List.map_take]
        exact List.take_prefix _ _
    · obtain rfl : k = m := by omega
      have HT : Hid (xs.take k = xs) := Lib.hid (List.take_of_length_le (by rw [HN.out]; exact Nat.le_refl _))
      clear hb
      gi_wp2
      go_end0
      have hj := HJk.out
      rw [HT.out] at hj
      exact ⟨⟨_, rfl⟩, .inl ⟨_, rfl, hj⟩⟩
theorem pats_stops (n : Nat) (hn : 1 ≤ n) (Bn n₀ : Nat) (p : Option Addr) (c : Nat) (xs : List ByteArray) (w : World) (hl : xs.length ≤ 1048576) (hw : ∀ x ∈ xs, x.size ≤ maxLen) (hBn : Bn < w.heap.size) (hn₀ : n₀ ≤ w.heap.size)
    (hc : w.cell? ⟨Bn, 0, none⟩ = some (.slice p xs.length c)) (hR : RowB n₀ w p xs) (hm : ∀ W1, Below n₀ w W1 → MaxL W1) :
    SeqStopsK Fence.wide n Try.prog 97 #[.pointer (some ⟨Bn, 0, none⟩)] (fun x : PtL => #[ptV x]) (Below n₀) (fun ys => ys = xs.map ptOf) (fun pre => pre <+: xs.map ptOf) xs.length w := fun l J Jx W hW hJ _ hY h0 =>
  pat_in n l Bn n₀ p c xs hn hl hw J Jx hY W (Nat.le_trans hn₀ hW.size) (fun pre W1 W2 h hs hb => hJ pre W1 W2 none h ⟨hb.os, hb.tape, hb.output, hb.size, fun i hi _ => hb.block i hi⟩ (fun r e => by cases e))
    ((hW.cell (p := ⟨Bn, 0, none⟩) hBn).trans hc) (hR.below (hW.mono hn₀)) (fun W1 h => hm W1 ((hW.mono hn₀).trans h)) h0
theorem impl_pats (v : Value) (hv : ∃ p m c, v = .slice p m c) (w : World) : Calls Try.prog 79 #[v] w fun e w' => e = .returned (.func (.func 97) #[] #[.pointer (some ⟨w.heap.size, 0, none⟩)]) ∧ w' = w.alloc (.cells #[v] 23) := by
  obtain ⟨p, m, c, rfl⟩ := hv
  go_enter Try.func79, Try.ntmps79
  go_wp2
  go_ret
  exact ⟨rfl, rfl⟩
theorem impl_pmatch (l d r x y z : ByteArray) (w : World) (hl : l.size ≤ maxLen) (hd : d.size ≤ maxLen) (hr : r.size ≤ maxLen) (hx : x.size ≤ maxLen) (hy : y.size ≤ maxLen) (hz : z.size ≤ maxLen) (hm : MaxL w) :
    Calls Try.prog 55 #[.agg #[.string l, .string d, .string r], .agg #[.string x, .string y, .string z]] w fun e w' => e = .returned (.bool (matchJ l d r x y z)) ∧ Below w.heap.size w w' := by
  have i1 := fun W hm => impl_match l d r x y z W hl hd hr hx hy hz hm
  have HM := Lib.hid (fun W (h : Below w.heap.size w W) => hm.below h hm.pos)
  have HB : Hid (Below w.heap.size w ((w.alloc (.cells #[.string l, .string d, .string r] 68)).alloc (.cells #[.string x, .string y, .string z] 69))) := Lib.hid (((Below.refl _ _).alloc (Nat.le_refl _) _).alloc (by simp) _)
  clear hl hd hr hx hy hz hm
  go_enter Try.func55, Try.ntmps55
  go_wp2_with (go_at_call 80; go_fit (i1 _ (HM.out _ HB.out)); rintro e w1 ⟨rfl, hb⟩)
  go_ret
  exact ⟨rfl, HB.out.trans (hb.mono HB.out.size)⟩
theorem arr9_ltB {w : World} {b t : Nat} {cs : List Value} (h : Arr w b t cs) : b < w.heap.size := (Array.getElem?_eq_some_iff.1 h).1
theorem arr_own {β : Type} (b t : Nat) (f : β → List Value) : Own (fun s W => Arr W b t (f s)) := fun s X Y row hs hg hr =>
  (hg.block b (arr9_ltB hs) (fun e => by obtain ⟨o, ho, hc⟩ := hr b e.symm; unfold Arr at hs; rw [hs] at ho; cases ho; cases hc)).trans hs
/-- The boxes of anyPasses: the test, the address, the answer. -/
def ApB (w W : World) (x y z : ByteArray) (r : Bool) : Prop := (Arr W w.heap.size 65 [.func (.func 55) #[] #[]] ∧ Arr W (w.heap.size + 1) 69 [.string x, .string y, .string z] ∧ Arr W (w.heap.size + 1 + 1) 4 [.bool r]) ∧ Below w.heap.size w W
theorem ApB.on {w W W2 : World} {x y z : ByteArray} {r : Bool} (h : ApB w W x y z r) (hb : Below W.heap.size W W2) : ApB w W2 x y z r :=
  ⟨⟨(hb.block _ (arr9_ltB h.1.1)).trans h.1.1, (hb.block _ (arr9_ltB h.1.2.1)).trans h.1.2.1, (hb.block _ (arr9_ltB h.1.2.2)).trans h.1.2.2⟩, h.2.trans (hb.mono h.2.size)⟩
theorem apB_start (w : World) (x y z : ByteArray) : ApB w (((w.alloc (.cells #[.func (.func 55) #[] #[]] 65)).alloc (.cells #[.string x, .string y, .string z] 69)).alloc (.cells #[.bool false] 4)) x y z false := by
  have h1 := Arr.fresh (w.alloc (.cells #[.func (.func 55) #[] #[]] 65)) 69 [.string x, .string y, .string z]
  have h2 := Arr.fresh ((w.alloc (.cells #[.func (.func 55) #[] #[]] 65)).alloc (.cells #[.string x, .string y, .string z] 69)) 4 [.bool false]
  simp only [World.size_alloc] at h1 h2
  have al : ∀ (W : World) (o : Obj), Below W.heap.size W (W.alloc o) := fun W o => (Below.refl _ _).alloc (Nat.le_refl _) _
  have on : ∀ {W W1 : World} {b t : Nat} {cs : List Value}, Arr W b t cs → Below W.heap.size W W1 → Arr W1 b t cs := fun h hb => (hb.block _ (arr9_ltB h)).trans h
  exact ⟨⟨on (on (Arr.fresh w 65 [.func (.func 55) #[] #[]]) (al _ _)) (al _ _), on h1 (al _ _), h2⟩, (((Below.refl _ _).alloc (Nat.le_refl _) _).alloc (by simp) _).alloc (by simp; omega) _⟩
theorem apB_own (w : World) (x y z : ByteArray) (r : Bool) (B : Nat) (hB : w.heap.size ≤ B) {β : Type} : OwnFrom B (fun (_ : β) W => ApB w W x y z r) :=
  OwnFrom.and (Own.from (fun s A B row hs hg hr => ⟨arr_own _ _ (fun _ : β => [Value.func (.func 55) #[] #[]]) s A B row hs.1 hg hr, arr_own _ _ (fun _ : β => [Value.string x, .string y, .string z]) s A B row hs.2.1 hg hr, arr_own _ _ (fun _ : β => [Value.bool r]) s A B row hs.2.2 hg hr⟩) _) (ownFrom_below (Nat.le_refl _) hB)
noncomputable def hitP (x y z : ByteArray) (q : PtL) : Bool := matchJ q.1.1 q.1.2.1 q.1.2.2 x y z
theorem hit_any (xs : List ByteArray) (x y z : ByteArray) : (xs.any fun s => matchJ (rdL s) (rdD s) (rdR s) x y z) = (xs.map ptOf).any (hitP x y z) := by
  rw [List.any_map]
  rfl
theorem keeps_below {B : Nat} {W W2 : World} (h : Below W.heap.size W W2) : KeepsFrom B W W2 := ⟨h.size, fun k o _ hk _ => (h.block k (Array.getElem?_eq_some_iff.1 hk).1).trans hk⟩
theorem ApB.put {w W : World} {x y z : ByteArray} {r : Bool} (h : ApB w W x y z r) (s : Bool) : ApB w (W.setCell ⟨w.heap.size + 1 + 1, 0, none⟩ (.bool s)) x y z s :=
  ⟨⟨(heap_setCell_other W ⟨w.heap.size + 1 + 1, 0, none⟩ w.heap.size (.bool s) (by show w.heap.size ≠ w.heap.size + 1 + 1; omega)).trans h.1.1, (heap_setCell_other W ⟨w.heap.size + 1 + 1, 0, none⟩ (w.heap.size + 1) (.bool s) (by show w.heap.size + 1 ≠ w.heap.size + 1 + 1; omega)).trans h.1.2.1, h.1.2.2.put 0 _⟩, h.2.setCell (p := ⟨w.heap.size + 1 + 1, 0, none⟩) (by show w.heap.size ≤ w.heap.size + 1 + 1; omega) _⟩
theorem ApB.cells {w W : World} {x y z : ByteArray} {r : Bool} (h : ApB w W x y z r) : W.cell? ⟨w.heap.size, 0, none⟩ = some (.func (.func 55) #[] #[]) ∧ W.cell? ⟨w.heap.size + 1, 0, none⟩ = some (.string x) ∧ W.cell? ⟨w.heap.size + 1, 1, none⟩ = some (.string y) ∧ W.cell? ⟨w.heap.size + 1, 2, none⟩ = some (.string z) ∧ W.cell? ⟨w.heap.size + 1 + 1, 0, none⟩ = some (.bool r) ∧ W.frozen? ⟨w.heap.size + 1 + 1, 0, none⟩ = false :=
  ⟨h.1.1.cell 0, h.1.2.1.cell 0, h.1.2.1.cell 1, h.1.2.1.cell 2, h.1.2.2.cell 0, h.1.2.2.free 0⟩
set_option maxRecDepth 100000 in
set_option maxHeartbeats 4000000 in
theorem impl_anyp (xs : List ByteArray) (p : Option Addr) (c : Nat) (x y z : ByteArray) (w : World) (hl : xs.length ≤ 1048576) (hw : ∀ x ∈ xs, x.size ≤ maxLen) (hR : RowC strC 1 w p xs) (hm : MaxL w) (hx : x.size ≤ maxLen) (hy : y.size ≤ maxLen) (hz : z.size ≤ maxLen) :
    Calls Try.prog 54 #[.slice p xs.length c, .func (.func 55) #[] #[], .agg #[.string x, .string y, .string z]] w fun e w' => e = .returned (.bool (xs.any fun s => matchJ (rdL s) (rdD s) (rdR s) x y z)) ∧ Below w.heap.size w w' := by
  have HR := Lib.hid (RowB.of hR)
  have HW := Lib.hid hw
  have HL := Lib.hid hl
  have HM := Lib.hid (fun W (h : Below w.heap.size w W) => hm.below h hm.pos)
  have HS := Lib.hid (apB_start w x y z)
  obtain ⟨n, hxn⟩ : ∃ n, xs.length = n := ⟨_, rfl⟩
  have HN := Lib.hid hxn
  have i1 := fun W => impl_pats (.slice p n c) ⟨p, n, c, rfl⟩ W
  have i2 := fun (q : PtL) W hm => impl_pmatch q.1.1 q.1.2.1 q.1.2.2 x y z W q.2.1 q.2.2.1 q.2.2.2 hx hy hz hm
  rw [hxn] at hl ⊢
  clear hR hw hm hxn hx hy hz
  refine (callsIn_wide (n := 3)).1 ?_
  refine callsIn_of_wp_marks Try.func54 rfl trivial ?_ rfl
  simp only [Try.ntmps54, List.size_toArray, List.length_cons, List.length_nil, Nat.reduceAdd, Nat.reduceSub, Array.replicate_succ, Array.replicate_zero, List.push_toArray, List.append_toArray, List.nil_append, List.cons_append]
  gi_wp2_with (refine ⟨trivial, ?_⟩; gi_at_call 79; refine (callsIn_wide.2 (i1 _)).mono ?_; rintro e w' ⟨rfl, rfl⟩)
  obtain ⟨W0, hW0⟩ : ∃ W0, ((((w.alloc (.cells #[.func (.func 55) #[] #[]] 65)).alloc (.cells #[.string x, .string y, .string z] 69)).alloc (.cells #[.bool false] 4)).alloc (.cells #[.slice p n c] 23)) = W0 := ⟨_, rfl⟩
  have hs0 : W0.heap.size = w.heap.size + 1 + 1 + 1 + 1 := by rw [← hW0]; simp
  have hS0 : ApB w W0 x y z false := by rw [← hW0]; exact HS.out.on ((Below.refl _ _).alloc (Nat.le_refl _) _)
  have hB0 : W0.cell? ⟨w.heap.size + 1 + 1 + 1, 0, none⟩ = some (.slice p n c) := by
    have := (Arr.fresh (((w.alloc (.cells #[.func (.func 55) #[] #[]] 65)).alloc (.cells #[.string x, .string y, .string z] 69)).alloc (.cells #[.bool false] 4)) 23 [.slice p n c]).cell 0
    simp only [World.size_alloc] at this
    rw [← hW0]
    exact this
  rw [hW0]
  have HS0 := Lib.hid hS0
  clear hW0 HS hS0
  refine wpIn_rangeFunc_ownH rfl (by decide) (gf := 97) (lb := #[.pointer (some ⟨w.heap.size + 1 + 1 + 1, 0, none⟩)]) rfl trivial (enters_of Try.func97 (by kernel_rfl) rfl)
    (pats_stops (3 - 1) (by decide) (w.heap.size + 1 + 1 + 1) w.heap.size p c xs W0 HL.out HW.out (by omega) (by omega) (by rw [HN.out]; exact hB0) (HR.out.below HS0.out.2) (fun W1 h => HM.out _ (HS0.out.2.trans h))) belowK_t (belowK_b (by omega)) (Below.refl _ _) (fun _ => rfl)
    (fun pre W => (∀ q ∈ pre, hitP x y z q = false) ∧ ApB w W x y z false)
    (fun cd pre W => (cd = .ret ∧ ∃ q ∈ pre, hitP x y z q = true) ∧ ApB w W x y z true)
    (OwnFrom.and (fun s A B row hs _ _ => hs) (apB_own w x y z false _ (by omega)))
    (fun cd => OwnFrom.and (fun s A B row hs _ _ => hs) (apB_own w x y z true _ (by omega)))
    ⟨fun q hq => (by cases hq), HS0.out⟩
    (fun q a' W => ∃ Bx, Arr W Bx 68 [.string q.1.1, .string q.1.2.1, .string q.1.2.2] ∧ a' = { tmps := #[.slice p n c, .func (.func 55) #[] #[], .agg #[.string x, .string y, .string z], undef, .pointer (some ⟨w.heap.size, 0, none⟩), .pointer (some ⟨w.heap.size + 1, 0, none⟩), .pointer (some ⟨w.heap.size + 1 + 1, 0, none⟩), .pointer (some ⟨Bx, 0, none⟩), .slice p n c, .func (.func 97) #[] #[.pointer (some ⟨w.heap.size + 1 + 1 + 1, 0, none⟩)], .agg #[.string q.1.1, .string q.1.2.1, .string q.1.2.2], undef, undef, undef, undef], defers := [] })
    (fun q a' s A B row hs hg hr => by obtain ⟨Bx, h1, h2⟩ := hs; exact ⟨Bx, arr_own Bx _ (fun _ : Unit => [Value.string q.1.1, .string q.1.2.1, .string q.1.2.2]) () A B row h1 hg (fun r e => (hr r e).2), h2⟩)
    ?assign ?body ?done ?stop
  case assign =>
    rintro l pre q W K hI hK
    have hle : w.heap.size ≤ W.heap.size := hI.2.2.size
    have hf := Arr.fresh W 68 [.string q.1.1, .string q.1.2.1, .string q.1.2.2]
    have hon := hI.2.on ((Below.refl _ _).alloc (Nat.le_refl _) (.cells #[.string q.1.1, .string q.1.2.1, .string q.1.2.2] 68))
    unfold ptV
    gi_wp2
    exact hK _ _ ((KeepsOthers.alloc W _).from _) ((Below.refl _ _).alloc hle _) ⟨hI.1, hon⟩ ⟨W.heap.size, hf, rfl⟩
  case body =>
    rintro l pre q a' W hl2 hrec ⟨hp, hS⟩ ⟨Bx, hA, rfl⟩ hlen
    have HSb := Lib.hid hS
    have HP := Lib.hid hp
    obtain ⟨c0, c1, c2, c3, c4, c5⟩ := hS.cells
    have d0 := hA.cell 0
    have d1 := hA.cell 1
    have d2 := hA.cell 2
    simp only [List.getElem?_cons_zero, List.getElem?_cons_succ] at d0 d1 d2
    have i3 := i2 q
    obtain ⟨b, hb⟩ : ∃ b, hitP x y z q = b := ⟨_, rfl⟩
    have HBQ := Lib.hid hb
    unfold hitP at hb
    rw [hb] at i3
    have hd : 1 ≤ 3 - 1 - 1 := by decide
    have hmx : Try.prog.follows .mixedOrders = true := by kernel_rfl
    clear hp hS hA hb i2 hlen hrec hl2
    cases b
    · gi_wp2_with (refine ⟨trivial, ?_⟩; gi_at_call 55; refine (CallsIn.inRound l (callsIn_wide.2 (i3 _ (HM.out _ HSb.out.2)))).mono ?_; rintro e w1 ⟨rfl, hb1⟩; have HB1 := Lib.hid hb1; clear hb1)
      refine ⟨keeps_below HB1.out, HB1.out.mono HSb.out.2.size, fun q' hq' => ?_, HSb.out.on HB1.out⟩
      rcases List.mem_append.1 hq' with h | h
      · exact HP.out q' h
      · obtain rfl := List.mem_singleton.1 h
        exact HBQ.out
    · gi_wp2_with (refine ⟨trivial, ?_⟩; gi_at_call 55; refine (CallsIn.inRound l (callsIn_wide.2 (i3 _ (HM.out _ HSb.out.2)))).mono ?_; rintro e w1 ⟨rfl, hb1⟩; have HB1 := Lib.hid hb1; have HS1 := Lib.hid (HSb.out.on hb1); clear hb1; obtain ⟨c0, c1, c2, c3, c4, c5⟩ := HS1.out.cells)
      exact ⟨(keeps_below HB1.out).trans ((KeepsOthers.setCell _ _ _).from _), ⟨rfl, q, List.mem_append.2 (.inr (List.mem_singleton.2 rfl)), HBQ.out⟩, HS1.out.put true⟩
  case done =>
    rintro D ys W hD rfl ⟨hne, hS⟩ hK
    have HSd := Lib.hid hS
    obtain ⟨c0, c1, c2, c3, c4, c5⟩ := hS.cells
    have hany : (xs.any fun s => matchJ (rdL s) (rdD s) (rdR s) x y z) = false := by
      rw [hit_any, List.any_eq_false]
      intro q hq
      rw [hne q hq]
      decide
    have HANY := Lib.hid hany
    have HK := Lib.hid hK
    clear hany hS hne hK i2
    gi_wp2
    have hK' := (KeepsOthers.setCell W ⟨w.heap.size + 1 + 1, 0, none⟩ (.bool false)).same D _ HK.out rfl
    have hP := HSd.out.put false
    have hc5 := cell_kept (hP.1.2.2.cell 0) (grownBy_putObj' _ D (.deferred none)) (fun r e => by cases e; exact ⟨_, hK', rfl⟩)
    refine ⟨by simp, .inl ⟨_, _, rfl, run_takeDeferred hK', ?_⟩⟩
    refine ⟨.bool false, ?_, by rw [HANY.out], hP.2.trans (belowK_b (w := w) (Nat.le_refl _) _ D _ _ (by omega) hK' rfl rfl)⟩
    simp [results, Try.results54, go_sem, hc5]
  case stop =>
    rintro D cd pre W hD hpre ⟨⟨rfl, q, hq, hh⟩, hS⟩ hK
    have HSd := Lib.hid hS
    obtain ⟨c0, c1, c2, c3, c4, c5⟩ := hS.cells
    have hany : (xs.any fun s => matchJ (rdL s) (rdD s) (rdR s) x y z) = true := by
      rw [hit_any, List.any_eq_true]
      exact ⟨q, hpre.subset hq, hh⟩
    have HANY := Lib.hid hany
    have HK := Lib.hid hK
    clear hany hS hq hh hpre hK i2
    gi_wp2
    have hc5 := cell_kept (HSd.out.1.2.2.cell 0) (grownBy_putObj' _ D (.deferred none)) (fun r e => by cases e; exact ⟨_, HK.out, rfl⟩)
    refine ⟨by simp, .inl ⟨_, _, rfl, run_takeDeferred HK.out, ?_⟩⟩
    refine ⟨.bool true, ?_, by rw [HANY.out], HSd.out.2.trans (belowK_b (w := w) (Nat.le_refl _) _ D _ _ (by omega) HK.out rfl rfl)⟩
    simp [results, Try.results54, go_sem, hc5]
end Go.Proofs.Ytpjmcpfmnlfmdaa

namespace Go.Proofs.Ytpjmcpfmnlfmdaa
set_option linter.unusedSimpArgs false
set_option linter.unusedVariables false
open Go.RowKit Go.Joins

def outT (j : ByteArray) (xs : List ByteArray) : List ByteArray := xs.take (posT j xs) ++ xs.drop (posT j xs + 1)
theorem outT_lo {j : ByteArray} {xs : List ByteArray} {i : Nat} (h : i < posT j xs) (h1 : i < (outT j xs).length) (h2 : i < xs.length) : (outT j xs)[i] = xs[i] := by
  refine get_of ?_ h1
  unfold outT
  rw [List.getElem?_append_left (by rw [List.length_take]; omega), List.getElem?_take, if_pos h, List.getElem?_eq_getElem h2]
theorem outT_hi {j : ByteArray} {xs : List ByteArray} {i : Nat} (h : posT j xs ≤ i) (h1 : i < (outT j xs).length) (h2 : i + 1 < xs.length) : (outT j xs)[i] = xs[i + 1] := by
  refine get_of ?_ h1
  have hl : (xs.take (posT j xs)).length = posT j xs := by rw [List.length_take]; omega
  unfold outT
  rw [List.getElem?_append_right (by omega), hl, List.getElem?_drop, show posT j xs + 1 + (i - posT j xs) = i + 1 by omega]
  exact List.getElem?_eq_getElem h2
theorem outT_right {j : ByteArray} {xs : List ByteArray} (hk : bkB xs = true) (hh : hereT j xs = true) : bkB (outT j xs) = true := by
  obtain ⟨q1, q2, q3⟩ := bkB_iff.1 hk
  have hp := hereT_lt hh
  have hlen : (outT j xs).length = xs.length - 1 := by
    unfold outT
    rw [List.length_append, List.length_take, List.length_drop]
    omega
  refine bkB_true ⟨by omega, fun i hi h0 _ h' => ?_, fun i hi _ => ?_⟩
  · rcases Nat.lt_trichotomy i (posT j xs) with h | h | h
    · rw [outT_lo (by omega) h' (by omega), outT_lo h hi (by omega)]
      exact q2 i (by omega) h0 (by omega) (by omega)
    · rw [outT_lo (by omega) h' (by omega), outT_hi (by omega) hi (by omega)]
      exact incT_all q2 (i + 1) (i - 1) (by omega) (by omega)
    · rw [outT_hi (by omega) h' (by omega), outT_hi (by omega) hi (by omega)]
      exact incT_all q2 (i + 1) (i - 1 + 1) (by omega) (by omega)
  · rcases Nat.lt_or_ge i (posT j xs) with h | h
    · rw [outT_lo h hi (by omega)]
      exact q3 i (by omega) (by omega)
    · rw [outT_hi h hi (by omega)]
      exact q3 (i + 1) (by omega) (by omega)
theorem del_ok {j : ByteArray} {xs : List ByteArray} (h : (delR xs j).c = 0) : bkB (delR xs j).l = true := by
  unfold delR illB at h ⊢
  by_cases h1 : 400 < xs.length ∨ 20000 < j.size
  · rw [if_pos h1] at h; cases h
  rw [if_neg h1] at h ⊢
  by_cases h2 : bkB xs = false
  · rw [if_pos h2] at h; cases h
  rw [if_neg h2] at h ⊢
  by_cases h3 : hereT j xs = false
  · rw [if_pos h3] at h; cases h
  rw [if_neg h3]
  exact outT_right (by simpa using h2) (by simpa using h3)
/-- What was added is blocked. -/
theorem add_blk {j : ByteArray} {xs : List ByteArray} (h : (addR xs j).c = 0) : bkB (addR xs j).l = true ∧ addrB j = true ∧ j ∈ (addR xs j).l ∧ delR (addR xs j).l j = ⟨xs, 0⟩ := by
  obtain ⟨h1, h2, h3, h4, h5⟩ := add_del h
  rw [h1]
  refine ⟨h4, h3, ?_, h5⟩
  unfold insT
  exact List.mem_append.2 (.inl (List.mem_append.2 (.inr (List.mem_singleton.2 rfl))))
theorem match_self {l d r : ByteArray} (h : jidB l d r = true) : matchJ l d r l d r = true := by
  unfold matchJ
  rw [h]
  simp
set_option maxRecDepth 100000 in
set_option maxHeartbeats 1000000 in
theorem lw_blocks (R : BoL) (p q : Option Addr) (k l : Nat) (w : World) (hn : R.l.length ≤ 1048576) (hz : ∀ x ∈ R.l, x.size ≤ 2000000) (hok : R.c = 0 → bkB R.l = true) (hp : RowC strC 1 w p R.l) (hq : RowC strC 1 w q R.l) :
    Calls Try.prog 13 #[boV R p k, boV R q l] w fun e w' => e = .returned (.bool true) ∧ Below w.heap.size w w' := by
  have i1 := fun W hp hq => lw_texts R.l p q k l W (by omega) hp hq
  have i2 := fun W h => spec_bkright R.l p k W hn hz h
  have HK := Lib.hid (fun w1 (h : Below ((w.alloc (.cells (boC R p k).toArray 27)).alloc (.cells (boC R q l).toArray 27)).heap.size ((w.alloc (.cells (boC R p k).toArray 27)).alloc (.cells (boC R q l).toArray 27)) w1) => twoX h)
  have HP := Lib.hid (hp.on (((Below.refl _ _).alloc (Nat.le_refl _) (.cells (boC R p k).toArray 27)).alloc (by simp) (.cells (boC R q l).toArray 27)))
  have HQ := Lib.hid (hq.on (((Below.refl _ _).alloc (Nat.le_refl _) (.cells (boC R p k).toArray 27)).alloc (by simp) (.cells (boC R q l).toArray 27)))
  have HP0 := Lib.hid (fun W (h : Below w.heap.size w W) => hp.on h)
  clear hp hq
  unfold boV
  by_cases hc : R.c = 0
  · have hb := hok hc
    rw [hb] at i2
    have q1 : (R.c == 0) = true := by rw [hc]; rfl
    have q2 : (R.c != 0) = false := by rw [hc]; rfl
    have HC := Lib.hid hc
    clear hc hok hb
    go_enter Try.func13, Try.ntmps13
    go_wp2_with (first
      | (go_at_call 20; have _ := HB1; go_fit (i2 _ (HP0.out _ HB1.out)); rintro e w2 ⟨rfl, hb2⟩; have HB2 := Lib.hid (HB1.out.trans (hb2.mono HB1.out.size)); clear hb2)
      | (go_at_call 21; go_fit (i1 _ HP.out HQ.out); rintro e w1 ⟨rfl, hb1⟩; obtain ⟨hA, hB, hb⟩ := HK.out _ hb1; have HB1 := Lib.hid hb; obtain ⟨⟨c0, c1⟩, _⟩ := arrX_two hA; obtain ⟨⟨d0, d1⟩, _⟩ := arrX_two hB; clear hA hB hb1 hb))
    go_ret
    exact ⟨rfl, HB2.out⟩
  · have q1 : (R.c != 0) = true := by simpa using hc
    go_enter Try.func13, Try.ntmps13
    go_wp2_with (go_at_call 21; go_fit (i1 _ HP.out HQ.out); rintro e w1 ⟨rfl, hb1⟩; obtain ⟨hA, hB, hb⟩ := HK.out _ hb1; have HB1 := Lib.hid hb; obtain ⟨⟨c0, c1⟩, _⟩ := arrX_two hA; obtain ⟨⟨d0, d1⟩, _⟩ := arrX_two hB; clear hA hB hb1 hb)
    go_ret
    exact ⟨rfl, HB1.out⟩
end Go.Proofs.Ytpjmcpfmnlfmdaa

namespace Go.Proofs.Ytpjmcpfmnlfmdaa
set_option linter.unusedSimpArgs false
set_option linter.unusedVariables false
open Go.RowKit Go.Joins

noncomputable def anyM (xs : List ByteArray) (j : ByteArray) : Bool := xs.any fun s => matchJ (rdL s) (rdD s) (rdR s) (rdL j) (rdD j) (rdR j)
noncomputable def blkB (xs : List ByteArray) (j : ByteArray) : Bool := bkB xs && (addrB j && anyM xs j)
theorem rd_good {s : ByteArray} (h : addrB s = true) : rdL s = strOf (readL s.data.toList).1 ∧ rdD s = strOf (readL s.data.toList).2.1 ∧ rdR s = strOf (readL s.data.toList).2.2 := by
  have h1 : ¬ 20000 < s.size := fun hb => by rw [addr_big hb] at h; cases h
  have h2 : goodR s.data.toList = true := by
    unfold addrB at h
    simp only [Bool.and_eq_true] at h
    exact h.1
  unfold rdL rdD rdR
  rw [if_neg h1, if_neg h1, if_neg h1, if_pos h2, if_pos h2, if_pos h2]
  exact ⟨rfl, rfl, rfl⟩
/-- What l04Jid answers of an address. -/
theorem spec_jidG (s : ByteArray) (w : World) (hs : s.size ≤ 2000000) (ha : addrB s = true) :
    Calls Try.prog 78 #[.string s] w fun e w' => e = .returned (.tuple #[.agg #[.string (rdL s), .string (rdD s), .string (rdR s)], .bool true]) ∧ Below w.heap.size w w' := by
  refine (spec_l04jidP s w hs).mono ?_
  rintro e w' ⟨⟨x, y, z, rfl, h⟩, hb⟩
  obtain ⟨h1, h2, h3⟩ := h ha
  obtain ⟨g1, g2, g3⟩ := rd_good ha
  rw [h1, h2, h3, g1, g2, g3, ha]
  exact ⟨rfl, hb⟩
/-- The box of an address, low. -/
def JbW (w W : World) (b : Nat) (x y z : ByteArray) : Prop := Arr W b 69 [.string x, .string y, .string z] ∧ Below w.heap.size w W
theorem JbW.on {w W W2 : World} {b : Nat} {x y z : ByteArray} (h : JbW w W b x y z) (hb : Below W.heap.size W W2) : JbW w W2 b x y z := ⟨(hb.block b (arr9_ltB h.1)).trans h.1, h.2.trans (hb.mono h.2.size)⟩
theorem jb_three {w W : World} {b : Nat} {x y z : ByteArray} (h : JbW w W b x y z) : (W.cell? ⟨b, 0, none⟩ = some (.string x) ∧ W.cell? ⟨b, 1, none⟩ = some (.string y) ∧ W.cell? ⟨b, 2, none⟩ = some (.string z)) ∧ b < W.heap.size := ⟨⟨h.1.cell 0, h.1.cell 1, h.1.cell 2⟩, arr9_ltB h.1⟩
set_option maxRecDepth 100000 in
set_option maxHeartbeats 2000000 in
theorem spec_blk0 (xs : List ByteArray) (j : ByteArray) (p : Option Addr) (c : Nat) (w : World) (hn : xs.length ≤ 1048576) (hj : j.size ≤ 2000000) (hw : ∀ x ∈ xs, x.size ≤ 2000000) (hA : AllT xs xs.length) (hR : RowC strC 1 w p xs) :
    Calls Try.prog 57 #[.slice p xs.length c, .string j] w fun e w' => e = .returned (.bool (addrB j && anyM xs j)) ∧ Below w.heap.size w w' := by
  have HP := Lib.hid (fun W (h : Below w.heap.size w W) => hR.on h)
  obtain ⟨n, hxn⟩ : ∃ n, xs.length = n := ⟨_, rfl⟩
  have HN := Lib.hid hxn
  have HW := Lib.hid hw
  have HA := Lib.hid hA
  cases ha : addrB j
  · have i1 := fun W => spec_l04jid j W hj
    rw [ha] at i1
    rw [hxn] at hn ⊢
    clear hR hw hA hxn ha
    go_enter Try.func57, Try.ntmps57
    go_wp2_with (go_at_call 78; go_fit (i1 _); rintro e w1 ⟨⟨x, y, z, rfl⟩, hb1⟩; have HB1 := Lib.hid (hb1.alloc hb1.size (.cells #[.string x, .string y, .string z] 69)); clear hb1)
    go_loopw [7] (fun iq wr => iq = .int .i64 0 ∧ Below w.heap.size w wr) (fun _ _ => 0)
    case atStart => exact ⟨rfl, HB1.out⟩
    case round =>
      obtain ⟨rfl, hb⟩ := hrel
      have HB := Lib.hid hb
      clear hb
      by_cases h0 : 0 < n
      · have q1 : (0 : Int) < (n : Int) := by omega
        go_wp2
        go_ret
        exact ⟨rfl, HB.out⟩
      · have q1 : ¬ (0 : Int) < (n : Int) := by omega
        go_wp2
        go_ret
        exact ⟨rfl, HB.out⟩
  · have i1 := fun W => spec_jidG j W hj ha
    obtain ⟨hj1, hj2, hj3⟩ := rd_sizes j
    obtain ⟨Z, hZ⟩ : ∃ Z, anyM xs j = Z := ⟨_, rfl⟩
    have HZ := Lib.hid hZ
    have HM : Hid (∀ s, matchJ (rdL s) (rdD s) (rdR s) (rdL j) (rdD j) (rdR j) = true → s ∈ xs → Z = true) := Lib.hid (fun s h hs => by rw [← hZ]; unfold anyM; rw [List.any_eq_true]; exact ⟨s, hs, h⟩)
    have HM2 : Hid ((∀ i (h : i < xs.length), matchJ (rdL xs[i]) (rdD xs[i]) (rdR xs[i]) (rdL j) (rdD j) (rdR j) = false) → Z = false) := Lib.hid (fun h => by
      rw [← hZ]; unfold anyM; rw [List.any_eq_false]
      intro s hs
      obtain ⟨i, hi, rfl⟩ := List.mem_iff_getElem.1 hs
      rw [h i hi]; decide)
    obtain ⟨f, hf⟩ : ∃ f : ByteArray → Bool, (fun s => matchJ (rdL s) (rdD s) (rdR s) (rdL j) (rdD j) (rdR j)) = f := ⟨_, rfl⟩
    have HF : Hid (∀ s, matchJ (rdL s) (rdD s) (rdR s) (rdL j) (rdD j) (rdR j) = f s) := Lib.hid (fun s => by rw [← hf])
    have i2 := fun (s : ByteArray) W => spec_match (rdL s) (rdD s) (rdR s) (rdL j) (rdD j) (rdR j) W (rd_sizes s).1 (rd_sizes s).2.1 (rd_sizes s).2.2 hj1 hj2 hj3
    obtain ⟨jl, hjl⟩ : ∃ a, rdL j = a := ⟨_, rfl⟩
    obtain ⟨jd, hjd⟩ : ∃ a, rdD j = a := ⟨_, rfl⟩
    obtain ⟨jr, hjr⟩ : ∃ a, rdR j = a := ⟨_, rfl⟩
    rw [hjl, hjd, hjr] at i1 i2 HM HM2 HF
    rw [hZ, hxn]
    rw [hxn] at hn
    clear hR hw hA hxn ha hZ hf hjl hjd hjr hj1 hj2 hj3
    go_enter Try.func57, Try.ntmps57
    go_wp2_with (go_at_call 78; go_fit (i1 _); rintro e w1 ⟨rfl, hb1⟩; have HJ1 : Hid (JbW w (w1.alloc (.cells #[.string jl, .string jd, .string jr] 69)) w1.heap.size jl jd jr) := Lib.hid ⟨Arr.fresh w1 _ [.string jl, .string jd, .string jr], hb1.alloc hb1.size _⟩; clear hb1)
    go_loopw [7] (fun iq wr => ∃ k : Nat, k ≤ n ∧ iq = .int .i64 k ∧ (∀ i (h : i < xs.length), i < k → f xs[i] = false) ∧ JbW w wr w1.heap.size jl jd jr) (fun i _ => n - (intOf i).toNat)
    case atStart => exact ⟨0, Nat.zero_le _, rfl, fun i _ h => absurd h (Nat.not_lt_zero _), HJ1.out⟩
    case round =>
      obtain ⟨k, hk, rfl, hno, hJ⟩ := hrel
      have HNO := Lib.hid hno
      have HJ := Lib.hid hJ
      clear hno
      by_cases hlt : k < n
      · have hlt1 : k < xs.length := by rw [HN.out]; exact hlt
        obtain ⟨g, rfl, hg, a0⟩ := row_tx (HP.out _ hJ.2) hlt1
        have hxw := HW.out _ (List.getElem_mem hlt1)
        have hxa := HA.out k hlt1 hlt1
        have hmem : xs[k] ∈ xs := List.getElem_mem hlt1
        obtain ⟨x, hx⟩ : ∃ x, xs[k] = x := ⟨_, rfl⟩
        have HX := Lib.hid hx
        rw [hx] at a0 hxw hxa hmem
        have HMEM := Lib.hid hmem
        have i3 := fun W => spec_jidG x W hxw hxa
        have i4 := i2 x
        obtain ⟨b, hb⟩ : ∃ b, f x = b := ⟨_, rfl⟩
        have HBX := Lib.hid hb
        have hfx := HF.out x
        rw [hfx, hb] at i4
        clear hJ hx hxw hxa hmem hb hfx
        cases b
        · go_wp2_with (first
            | (go_at_call 85; have _ := HJ3; go_fit (i4 _); rintro e w4 ⟨rfl, hb4⟩; have HJ4 := Lib.hid (HJ3.out.on hb4); clear hb4)
            | (go_at_call 78; go_fit (i3 _); rintro e w3 ⟨rfl, hb3⟩; have HJ3 := Lib.hid ((HJ.out.on hb3).on ((Below.refl _ _).alloc (Nat.le_refl _) (.cells #[.string (rdL x), .string (rdD x), .string (rdR x)] 69))); clear hb3; obtain ⟨⟨c0, c1, c2⟩, hbz⟩ := jb_three HJ3.out; have hbz2 := arr9_ltB (HJ.out).1))
          go_roundw
          case rel =>
            refine ⟨k + 1, by omega, by go_num, fun i hi h => ?_, HJ4.out⟩
            by_cases e : i = k
            · subst e; rw [HX.out]; exact HBX.out
            · exact HNO.out i hi (by omega)
          case measure => simp [intOf]; omega
        · have HL : Hid (Z = true) := Lib.hid (HM.out x (by rw [HF.out]; exact HBX.out) HMEM.out)
          go_wp2_with (first
            | (go_at_call 85; have _ := HJ3; go_fit (i4 _); rintro e w4 ⟨rfl, hb4⟩; have HJ4 := Lib.hid (HJ3.out.on hb4); clear hb4)
            | (go_at_call 78; go_fit (i3 _); rintro e w3 ⟨rfl, hb3⟩; have HJ3 := Lib.hid ((HJ.out.on hb3).on ((Below.refl _ _).alloc (Nat.le_refl _) (.cells #[.string (rdL x), .string (rdD x), .string (rdR x)] 69))); clear hb3; obtain ⟨⟨c0, c1, c2⟩, hbz⟩ := jb_three HJ3.out; have hbz2 := arr9_ltB (HJ.out).1))
          go_ret
          exact ⟨ret_bool (by rw [HL.out]; rfl), HJ4.out.2⟩
      · have HL : Hid (Z = false) := Lib.hid (HM2.out (fun i hi => by rw [HF.out]; exact HNO.out i hi (by rw [HN.out] at hi; omega)))
        clear hJ
        go_wp2
        go_ret
        exact ⟨ret_bool (by rw [HL.out]; rfl), HJ.out.2⟩
set_option maxHeartbeats 1000000 in
theorem spec_blocked (xs : List ByteArray) (j : ByteArray) (p : Option Addr) (c : Nat) (w : World) (hn : xs.length ≤ 1048576) (hj : j.size ≤ 2000000) (hw : ∀ x ∈ xs, x.size ≤ 2000000) (hR : RowC strC 1 w p xs) :
    Calls Try.prog 18 #[.slice p xs.length c, .string j] w fun e w' => e = .returned (.bool (blkB xs j)) ∧ Below w.heap.size w w' := by
  have HP := Lib.hid (fun W (h : Below w.heap.size w W) => hR.on h)
  have i1 := fun W h => spec_bkright xs p c W hn hw h
  by_cases hs : 20000 < j.size
  · have hz : blkB xs j = false := by unfold blkB; rw [addr_big hs]; simp
    rw [hz]
    have q1 : ¬ ((j.size : Int) ≤ 20000) := by omega
    clear i1 hR hw
    go_enter Try.func18, Try.ntmps18
    go_wp2
    go_ret
    exact ⟨rfl, Below.refl _ _⟩
  have q1 : (j.size : Int) ≤ 20000 := by omega
  unfold blkB
  cases hk : bkB xs
  · rw [hk] at i1
    clear hR hw hk hs
    go_enter Try.func18, Try.ntmps18
    go_wp2_with (go_at_call 20; go_fit (i1 _ (HP.out _ (Below.refl _ _))); rintro e w1 ⟨rfl, hb⟩; have HB := Lib.hid hb; clear hb)
    go_ret
    exact ⟨rfl, HB.out⟩
  · have i2 := fun W h => spec_blk0 xs j p c W hn hj hw (bkB_iff.1 hk).2.2 h
    rw [hk] at i1
    obtain ⟨Z, hZ⟩ : ∃ Z, (addrB j && anyM xs j) = Z := ⟨_, rfl⟩
    rw [hZ] at i2 ⊢
    clear hR hw hk hs hZ
    go_enter Try.func18, Try.ntmps18
    go_wp2_with (first
      | (go_at_call 57; have _ := HB; go_fit (i2 _ (HP.out _ HB.out)); rintro e w2 ⟨rfl, hb⟩; have HB2 := Lib.hid (HB.out.trans (hb.mono HB.out.size)); clear hb)
      | (go_at_call 20; go_fit (i1 _ (HP.out _ (Below.refl _ _))); rintro e w1 ⟨rfl, hb⟩; have HB := Lib.hid hb; clear hb))
    go_ret
    exact ⟨rfl, HB2.out⟩
set_option maxHeartbeats 1000000 in
theorem impl_blocked (xs : List ByteArray) (j : ByteArray) (p : Option Addr) (c : Nat) (w : World) (hn : xs.length ≤ 1048576) (hj : j.size ≤ maxLen) (hw : ∀ x ∈ xs, x.size ≤ maxLen) (hR : RowC strC 1 w p xs) (hm : MaxL w) :
    Calls Try.prog 17 #[.slice p xs.length c, .string j] w fun e w' => e = .returned (.bool (blkB xs j)) ∧ Below w.heap.size w w' := by
  have HP := Lib.hid (fun W (h : Below w.heap.size w W) => hR.on h)
  have HM := Lib.hid (fun W (h : Below w.heap.size w W) => hm.below h hm.pos)
  have i1 := fun W h hm => impl_bkright xs p c W hn hw h hm
  have i2 := fun W hm => impl_address j W hj hm
  have i3 := fun W hm => impl_read j W hj hm
  rw [rd_eq] at i3
  unfold jo at i3
  have fld := fun W => jid_field7 (rdL j) (rdD j) (rdR j) (rdC j) W
  obtain ⟨s1, s2, s3⟩ := rd_sizes j
  have i4 := fun W h hm => impl_anyp xs p c (rdL j) (rdD j) (rdR j) W hn hw h hm s1 s2 s3
  unfold blkB
  cases hk : bkB xs
  · rw [hk] at i1
    clear hR hw hk hm i3 i4 i2 fld s1 s2 s3
    go_enter Try.func17, Try.ntmps17
    go_wp2_with (go_at_call 19; go_fit (i1 _ (HP.out _ (Below.refl _ _)) (HM.out _ (Below.refl _ _))); rintro e w1 ⟨rfl, hb⟩; have HB := Lib.hid hb; clear hb)
    go_ret
    exact ⟨rfl, HB.out⟩
  rw [hk] at i1
  cases ha : addrB j
  · rw [ha] at i2
    clear hR hw hk hm i3 i4 fld ha s1 s2 s3
    go_enter Try.func17, Try.ntmps17
    go_wp2_with (first
      | (go_at_call 45; have _ := HB; go_fit (i2 _ (HM.out _ HB.out)); rintro e w2 ⟨rfl, hb⟩; have HB2 := Lib.hid (HB.out.trans (hb.mono HB.out.size)); clear hb)
      | (go_at_call 19; go_fit (i1 _ (HP.out _ (Below.refl _ _)) (HM.out _ (Below.refl _ _))); rintro e w1 ⟨rfl, hb⟩; have HB := Lib.hid hb; clear hb))
    go_ret
    exact ⟨rfl, HB2.out⟩
  · rw [ha] at i2
    unfold anyM
    obtain ⟨Z, hZ⟩ : ∃ Z, (xs.any fun s => matchJ (rdL s) (rdD s) (rdR s) (rdL j) (rdD j) (rdR j)) = Z := ⟨_, rfl⟩
    rw [hZ] at i4 ⊢
    clear hR hw hk hm ha hZ s1 s2 s3
    go_enter Try.func17, Try.ntmps17
    go_wp2_with (first
      | (go_at_call 54; have _ := HB3; go_fit (i4 _ (HP.out _ HB3.out) (HM.out _ HB3.out)); rintro e w4 ⟨rfl, hb⟩; have HB4 := Lib.hid (HB3.out.trans (hb.mono HB3.out.size)); clear hb)
      | (go_at_call 56; have _ := HB2; go_fit (i3 _ (HM.out _ HB2.out)); rintro e w3 ⟨rfl, hb⟩; have HB3 := Lib.hid (HB2.out.trans (hb.mono HB2.out.size)); clear hb)
      | (go_at_call 45; have _ := HB; go_fit (i2 _ (HM.out _ HB.out)); rintro e w2 ⟨rfl, hb⟩; have HB2 := Lib.hid (HB.out.trans (hb.mono HB.out.size)); clear hb)
      | (go_at_call 19; go_fit (i1 _ (HP.out _ (Below.refl _ _)) (HM.out _ (Below.refl _ _))); rintro e w1 ⟨rfl, hb⟩; have HB := Lib.hid hb; clear hb))
    go_ret
    exact ⟨rfl, HB4.out⟩
end Go.Proofs.Ytpjmcpfmnlfmdaa

namespace Go.Proofs.Ytpjmcpfmnlfmdaa
set_option linter.unusedSimpArgs false
set_option linter.unusedVariables false
open Go.RowKit Go.Joins

theorem bo_field (R : BoL) (p : Option Addr) (k : Nat) (W : World) : (Instr.field 27 (.agg #[.slice p R.l.length k, .int .i64 R.c]) 0).run Try.prog W = .ok (.slice p R.l.length k) W := by kernel_rfl
theorem bo_field2 (n : Nat) (p : Option Addr) (k : Nat) (W : World) : (Instr.field 27 (.agg #[.slice p n k, .int .i64 0]) 0).run Try.prog W = .ok (.slice p n k) W := by kernel_rfl
theorem txw_of {xs : List ByteArray} (h : TxW xs) : xs.length ≤ 1048576 ∧ (∀ x ∈ xs, x.size ≤ 2000000) ∧ (∀ x ∈ xs, x.size ≤ 1048576) ∧ ∀ x ∈ xs, x.size ≤ maxLen := by
  have h1 := h.1
  refine ⟨by omega, fun x hx => ?_, fun x hx => ?_, fun x hx => ?_⟩ <;> have := h.2 x hx
  · omega
  · omega
  · unfold maxLen; omega
theorem jid_good {j : ByteArray} (h : addrB j = true) : jidB (rdL j) (rdD j) (rdR j) = true := by
  obtain ⟨h1, h2, h3⟩ := rd_good h
  rw [h1, h2, h3]
  unfold addrB goodR at h
  simp only [Bool.and_eq_true] at h
  exact h.1.2
theorem blk_mem {xs : List ByteArray} {j : ByteArray} (hk : bkB xs = true) (ha : addrB j = true) (hm : j ∈ xs) : blkB xs j = true := by
  unfold blkB anyM
  rw [hk, ha, Bool.true_and, Bool.true_and, List.any_eq_true]
  exact ⟨j, hm, match_self (jid_good ha)⟩
theorem add_okc {xs : List ByteArray} {j : ByteArray} : (addR xs j).c = 0 → bkB (addR xs j).l = true := fun h => (add_blk h).1
/-- The drawn answer's box. -/
def XbW (w W : World) (b : Nat) (R : BoL) (p : Option Addr) (k : Nat) : Prop := Arr W b 27 [.slice p R.l.length k, .int .i64 R.c] ∧ Below w.heap.size w W
theorem XbW.on {w W W2 : World} {b : Nat} {R : BoL} {p : Option Addr} {k : Nat} (h : XbW w W b R p k) (hb : Below W.heap.size W W2) : XbW w W2 b R p k := ⟨arrX_on h.1 hb, h.2.trans (hb.mono h.2.size)⟩
set_option maxRecDepth 100000 in
set_option maxHeartbeats 8000000 in
theorem block_law (w : World) (a0 : Option Addr) (len0 cap0 : Nat) (w0 : SrcRow w w.heap.size a0 len0) (a1 : Option Addr) (len1 cap1 : Nat) (w1 : SrcRow w w.heap.size a1 len1) (h0 : len0 ≤ 1048576) (h1 : len1 ≤ 1048576) (hm : MaxL w) :
    Calls Try.prog 3 #[.slice a0 len0 cap0, .slice a1 len1 cap1] w fun e w' => e = .returned (.bool true) ∧ Below w.heap.size w w' := by
  have HM := Lib.hid (fun W (h : Below w.heap.size w W) => hm.below h hm.pos)
  have R0 := Lib.hid w0
  have R1 := Lib.hid (fun W (h : Below w.heap.size w W) => (w1.lift h h.size : SrcRow W W.heap.size a1 len1))
  clear w0 w1 hm
  go_enter Try.func3, Try.ntmps3
  go_wp2_with fail
  refine (draw_badd a0 len0 cap0 _ h0 R0.out).mono ?_
  rintro e v1 ⟨⟨xs, p, k, j, rfl, ho, hxl, hxw, hjw⟩, hb1⟩
  have HB1 := Lib.hid hb1
  have HX1 := Lib.hid ho
  have hxw2 : ∀ x ∈ xs, x.size ≤ 1048576 := fun x hx => by have := hxw x hx; omega
  have i1 := fun W h hm => impl_blockadd xs j p k W (by omega) (by omega) hxw2 h hm
  have i2 := fun B W h => spec_blockadd xs j p k B W (by omega) (by omega) hxw2 h
  have HXX : Hid (xs.length ≤ 9 ∧ (∀ x ∈ xs, x.size ≤ 100)) := Lib.hid ⟨hxl, hxw⟩
  unfold BoIs at i1 i2
  have hRl : (addR xs j).l.length ≤ 1048576 ∧ ∀ x ∈ (addR xs j).l, x.size ≤ 100 := by
    unfold addR illB
    split
    · exact ⟨by simp, fun x hx => by cases hx⟩
    · split
      · exact ⟨by simp, fun x hx => by cases hx⟩
      · split
        · exact ⟨by simp, fun x hx => by cases hx⟩
        · split
          · exact ⟨by simp, fun x hx => by cases hx⟩
          · refine ⟨?_, fun x hx => ?_⟩
            · show (xs.take _ ++ [j] ++ xs.drop _).length ≤ 1048576
              simp only [List.length_append, List.length_take, List.length_drop, List.length_cons, List.length_nil]
              omega
            · rcases List.mem_append.1 hx with hx | hx
              · rcases List.mem_append.1 hx with hx | hx
                · exact hxw x (List.mem_of_mem_take hx)
                · obtain rfl := List.mem_singleton.1 hx
                  exact hjw
              · exact hxw x (List.mem_of_mem_drop hx)
  have HAD : Hid ((addR xs j).c = 0 → bkB (addR xs j).l = true ∧ addrB j = true ∧ j ∈ (addR xs j).l ∧ delR (addR xs j).l j = ⟨xs, 0⟩) := Lib.hid add_blk
  obtain ⟨R, hR⟩ : ∃ R, addR xs j = R := ⟨_, rfl⟩
  rw [hR] at i1 i2 hRl HAD
  have j1 := fun p q k l W hp hq => lw_blocks R p q k l W hRl.1 (fun x hx => by have := hRl.2 x hx; omega) (fun h => (HAD.out h).1) hp hq
  unfold boV at j1
  have i3 := fun p k W h hm => impl_blocked R.l j p k W hRl.1 (by unfold maxLen; omega) (fun x hx => by have := hRl.2 x hx; unfold maxLen; omega) h hm
  have i4 := fun p k W h hm => impl_blockdel R.l j p k W hRl.1 (by omega) (fun x hx => by have := hRl.2 x hx; omega) h hm
  have i5 := fun p q k l W hp hq => lw_texts xs p q k l W (by omega) hp hq
  unfold BoIs at i4
  obtain ⟨n, hxn⟩ : ∃ n, xs.length = n := ⟨_, rfl⟩
  have HN := Lib.hid hxn
  rw [hxn] at i1 i2 i5 HX1 ⊢
  clear hb1 ho hxl hxw hjw hxw2 hR hRl hxn h0
  go_wp2_with (go_at_call 11; go_fit (i1 _ (row_ownX HX1.out) (HM.out _ HB1.out)); rintro e v2 ⟨⟨p2, k2, rfl, hv⟩, hb⟩; have HB2 := Lib.hid (HB1.out.trans (hb.mono HB1.out.size)); have HX2 := Lib.hid (HX1.out.on hb); have HR2 := Lib.hid hv; clear hb hv)
  have HB2a := Lib.hid (HB2.out.alloc HB2.out.size (.cells #[.slice p2 R.l.length k2, .int .i64 R.c] 27))
  have HX2a := Lib.hid (HX2.out.alloc (.cells #[.slice p2 R.l.length k2, .int .i64 R.c] 27))
  have HR2a := Lib.hid (HR2.out.alloc (.cells #[.slice p2 R.l.length k2, .int .i64 R.c] 27))
  have HA2a := Lib.hid (Arr.fresh v2 27 [.slice p2 R.l.length k2, .int .i64 R.c])
  refine (draw_bdel a1 len1 cap1 _ h1 (R1.out _ HB2a.out)).mono ?_
  rintro e v3 ⟨⟨ys, q, l, u, rfl, ho, hyl, hyw, huw⟩, hb3⟩
  have HB3 := Lib.hid (HB2a.out.trans (hb3.mono HB2a.out.size))
  have HX3 := Lib.hid (HX2a.out.on hb3)
  have HR3 := Lib.hid (HR2a.out.on hb3)
  have HA3 := Lib.hid (arrX_on HA2a.out hb3)
  have HY3 := Lib.hid ho
  have hyw2 : ∀ x ∈ ys, x.size ≤ 1048576 := fun x hx => by have := hyw x hx; omega
  have k1 := fun W h hm => impl_blockdel ys u q l W (by omega) (by omega) hyw2 h hm
  have k2' := fun B W h => spec_blockdel ys u q l B W (by omega) (by omega) hyw2 h
  have k3 := fun W h hm => impl_blocked ys u q l W (by omega) (by unfold maxLen; omega) (tx_max hyw2) h hm
  have k4 := fun W h => spec_blocked ys u q l W (by omega) (by omega) (tx_two hyw2) h
  have k5 := fun W h hm => impl_bkright ys q l W (by omega) (tx_max hyw2) h hm
  have k6 := fun W h => spec_bkright ys q l W (by omega) (tx_two hyw2) h
  unfold BoIs at k1 k2'
  have hDl : (delR ys u).l.length ≤ 1048576 ∧ ∀ x ∈ (delR ys u).l, x.size ≤ 100 := by
    unfold delR illB
    split
    · exact ⟨by simp, fun x hx => by cases hx⟩
    · split
      · exact ⟨by simp, fun x hx => by cases hx⟩
      · split
        · exact ⟨by simp, fun x hx => by cases hx⟩
        · refine ⟨?_, fun x hx => ?_⟩
          · show (ys.take _ ++ ys.drop _).length ≤ 1048576
            simp only [List.length_append, List.length_take, List.length_drop]
            omega
          · rcases List.mem_append.1 hx with hx | hx
            · exact hyw x (List.mem_of_mem_take hx)
            · exact hyw x (List.mem_of_mem_drop hx)
  have hDok : (delR ys u).c = 0 → bkB (delR ys u).l = true := del_ok
  obtain ⟨D, hD⟩ : ∃ D, delR ys u = D := ⟨_, rfl⟩
  rw [hD] at k1 k2' hDl hDok
  have j2 := fun p q k l W hp hq => lw_blocks D p q k l W hDl.1 (fun x hx => by have := hDl.2 x hx; omega) hDok hp hq
  unfold boV at j2
  obtain ⟨bb, hbb⟩ : ∃ b, blkB ys u = b := ⟨_, rfl⟩
  obtain ⟨br, hbr⟩ : ∃ b, bkB ys = b := ⟨_, rfl⟩
  rw [hbb] at k3 k4
  rw [hbr] at k5 k6
  obtain ⟨m, hym⟩ : ∃ m, ys.length = m := ⟨_, rfl⟩
  rw [hym] at k1 k2' k3 k4 k5 k6 HY3 ⊢
  have HP3 := Lib.hid (fun W (h : Below v3.heap.size v3 W) => (And.intro (HX3.out.on h) (And.intro (HR3.out.on h) (And.intro (arrX_on HA3.out h) (HY3.out.on h)))))
  have HM3 := Lib.hid (fun W (h : Below v3.heap.size v3 W) => HM.out W (HB3.out.trans (h.mono HB3.out.size)))
  clear hb3 ho hyl hyw huw hyw2 hD hDl hDok hbb hbr hym h1 HX1 HX2 HR2 HX2a HR2a HA2a
  go_wp2_with fail
  refine region_join [31, 32, 33, 34, 35, 36, 37, 38, 39, 40, 41, 42, 43, 44, 45, 46, 47, 48, 49, 50, 51, 52, 53, 54, 55, 56, 57, 58, 59, 60, 61, 62] (fun vs W => vs 62 = .bool false ∧ Below v3.heap.size v3 W) ?_ ?_
  · refine wp_region_held_drew (S := fun W => Below v3.heap.size v3 W) (by kernel_rfl) (Below.refl _ _).drew (fun hHeld => ?_)
    have HS0 : Hid (Below v3.heap.size v3 v3.drew) := Lib.hid (Below.refl _ _).drew
    generalize v3.drew = wd at HS0 hHeld ⊢
    refine takeQ (i := 0) (k := 31) (v := .agg #[.slice p2 R.l.length k2, .int .i64 R.c]) rfl (by rfl) (by kernel_rfl) (by kernel_rfl) (by kernel_rfl) (fun _ _ _ h => h) (by rfl) ?_ hHeld ?_
    · intro w1 hSw; obtain ⟨⟨m0, m1⟩, _⟩ := arrX_two (HP3.out _ hSw).2.2.1; go_simp
    (try simp only [Act.put, List.setIfInBounds_toArray, List.set_cons_zero, List.set_cons_succ])
    refine takeQ (i := 1) (k := 32) (v := .slice p n k) rfl (by rfl) (by kernel_rfl) (by kernel_rfl) (by kernel_rfl) (fun _ _ _ h => h) (by rfl) ?_ hHeld ?_
    · intro w1 hSw; go_simp
    (try simp only [Act.put, List.setIfInBounds_toArray, List.set_cons_zero, List.set_cons_succ])
    refine takeQ (i := 2) (k := 33) (v := .string j) rfl (by rfl) (by kernel_rfl) (by kernel_rfl) (by kernel_rfl) (fun _ _ _ h => h) (by rfl) ?_ hHeld ?_
    · intro w1 hSw; go_simp
    (try simp only [Act.put, List.setIfInBounds_toArray, List.set_cons_zero, List.set_cons_succ])
    refine wpAnyH_ready (rs := [3]) (by kernel_rfl) (by simp) ?_
    refine AllReadyH.cons rfl (fun K hK => ?_) AllReadyH.nil
    rw [if_pos (by rfl)]
    go_simp
    go_fit (i2 _ _ (HP3.out _ HS0.out).1)
    rintro e W1r ⟨⟨pa, ka, rfl, hv⟩, hb⟩
    have HS2r := Lib.hid (HS0.out.trans (hb.mono HS0.out.size))
    have RA3r := Lib.hid hv
    clear hb hv
    refine hK.out _ _ HS2r.out (fun hHeld => ?_)
    clear hK K
    (try simp only [Act.put, List.setIfInBounds_toArray, List.set_cons_zero, List.set_cons_succ])
    refine wpAnyH_ready (rs := [4]) (by kernel_rfl) (by simp) ?_
    refine AllReadyH.cons rfl (fun K hK => ?_) AllReadyH.nil
    rw [if_pos (by rfl)]
    go_simp
    go_fit (j1 p2 pa k2 ka _ (row_ownX (HP3.out _ HS2r.out).2.1) (row_ownX RA3r.out))
    rintro e W4r ⟨rfl, hb⟩
    have HS5r := Lib.hid (HS2r.out.trans (hb.mono HS2r.out.size))
    have RA6r := Lib.hid (RA3r.out.on hb)
    clear hb
    refine hK.out _ _ HS5r.out (fun hHeld => ?_)
    clear hK K
    (try simp only [Act.put, List.setIfInBounds_toArray, List.set_cons_zero, List.set_cons_succ])
    refine takeQ (i := 5) (k := 36) (v := .bool false) rfl (by rfl) (by kernel_rfl) (by kernel_rfl) (by kernel_rfl) (fun _ _ _ h => h) (by rfl) ?_ hHeld ?_
    · intro w1 hSw; go_simp
    (try simp only [Act.put, List.setIfInBounds_toArray, List.set_cons_zero, List.set_cons_succ])
    refine takeQ (i := 6) (k := 37) (v := .bool false) rfl (by rfl) (by kernel_rfl) (by kernel_rfl) (by kernel_rfl) (fun _ _ _ h => h) (by rfl) ?_ hHeld ?_
    · intro w1 hSw; go_simp
    (try simp only [Act.put, List.setIfInBounds_toArray, List.set_cons_zero, List.set_cons_succ])
    refine takeQ (i := 7) (k := 38) (v := .slice q m l) rfl (by rfl) (by kernel_rfl) (by kernel_rfl) (by kernel_rfl) (fun _ _ _ h => h) (by rfl) ?_ hHeld ?_
    · intro w1 hSw; go_simp
    (try simp only [Act.put, List.setIfInBounds_toArray, List.set_cons_zero, List.set_cons_succ])
    refine takeQ (i := 8) (k := 39) (v := .string u) rfl (by rfl) (by kernel_rfl) (by kernel_rfl) (by kernel_rfl) (fun _ _ _ h => h) (by rfl) ?_ hHeld ?_
    · intro w1 hSw; go_simp
    (try simp only [Act.put, List.setIfInBounds_toArray, List.set_cons_zero, List.set_cons_succ])
    refine takeQ (i := 10) (k := 41) (v := .slice q m l) rfl (by rfl) (by kernel_rfl) (by kernel_rfl) (by kernel_rfl) (fun _ _ _ h => h) (by rfl) ?_ hHeld ?_
    · intro w1 hSw; go_simp
    (try simp only [Act.put, List.setIfInBounds_toArray, List.set_cons_zero, List.set_cons_succ])
    refine takeQ (i := 11) (k := 42) (v := .string u) rfl (by rfl) (by kernel_rfl) (by kernel_rfl) (by kernel_rfl) (fun _ _ _ h => h) (by rfl) ?_ hHeld ?_
    · intro w1 hSw; go_simp
    (try simp only [Act.put, List.setIfInBounds_toArray, List.set_cons_zero, List.set_cons_succ])
    refine wpAnyH_ready (rs := [9]) (by kernel_rfl) (by simp) ?_
    refine AllReadyH.cons rfl (fun K hK => ?_) AllReadyH.nil
    rw [if_pos (by rfl)]
    go_simp
    go_fit (k1 _ (row_ownX (HP3.out _ HS5r.out).2.2.2) (HM3.out _ HS5r.out))
    rintro e W7r ⟨⟨pb, kb, rfl, hv⟩, hb⟩
    have HS8r := Lib.hid (HS5r.out.trans (hb.mono HS5r.out.size))
    have RA9r := Lib.hid (RA6r.out.on hb)
    have RB10r := Lib.hid hv
    clear hb hv
    refine hK.out _ _ HS8r.out (fun hHeld => ?_)
    clear hK K
    (try simp only [Act.put, List.setIfInBounds_toArray, List.set_cons_zero, List.set_cons_succ])
    refine wpAnyH_ready (rs := [12]) (by kernel_rfl) (by simp) ?_
    refine AllReadyH.cons rfl (fun K hK => ?_) AllReadyH.nil
    rw [if_pos (by rfl)]
    go_simp
    go_fit (k2' _ _ (HP3.out _ HS8r.out).2.2.2)
    rintro e W11r ⟨⟨pc, kc, rfl, hv⟩, hb⟩
    have HS12r := Lib.hid (HS8r.out.trans (hb.mono HS8r.out.size))
    have RA13r := Lib.hid (RA9r.out.on hb)
    have RB14r := Lib.hid (RB10r.out.on hb)
    have RC15r := Lib.hid hv
    clear hb hv
    refine hK.out _ _ HS12r.out (fun hHeld => ?_)
    clear hK K
    (try simp only [Act.put, List.setIfInBounds_toArray, List.set_cons_zero, List.set_cons_succ])
    refine wpAnyH_ready (rs := [13]) (by kernel_rfl) (by simp) ?_
    refine AllReadyH.cons rfl (fun K hK => ?_) AllReadyH.nil
    rw [if_pos (by rfl)]
    go_simp
    go_fit (j2 pb pc kb kc _ (row_ownX RB14r.out) (row_ownX RC15r.out))
    rintro e W16r ⟨rfl, hb⟩
    have HS17r := Lib.hid (HS12r.out.trans (hb.mono HS12r.out.size))
    have RA18r := Lib.hid (RA13r.out.on hb)
    have RB19r := Lib.hid (RB14r.out.on hb)
    have RC20r := Lib.hid (RC15r.out.on hb)
    clear hb
    refine hK.out _ _ HS17r.out (fun hHeld => ?_)
    clear hK K
    (try simp only [Act.put, List.setIfInBounds_toArray, List.set_cons_zero, List.set_cons_succ])
    refine takeQ (i := 14) (k := 45) (v := .bool false) rfl (by rfl) (by kernel_rfl) (by kernel_rfl) (by kernel_rfl) (fun _ _ _ h => h) (by rfl) ?_ hHeld ?_
    · intro w1 hSw; go_simp
    (try simp only [Act.put, List.setIfInBounds_toArray, List.set_cons_zero, List.set_cons_succ])
    refine takeQ (i := 15) (k := 46) (v := .bool false) rfl (by rfl) (by kernel_rfl) (by kernel_rfl) (by kernel_rfl) (fun _ _ _ h => h) (by rfl) ?_ hHeld ?_
    · intro w1 hSw; go_simp
    (try simp only [Act.put, List.setIfInBounds_toArray, List.set_cons_zero, List.set_cons_succ])
    refine takeQ (i := 16) (k := 47) (v := .bool false) rfl (by rfl) (by kernel_rfl) (by kernel_rfl) (by kernel_rfl) (fun _ _ _ h => h) (by rfl) ?_ hHeld ?_
    · intro w1 hSw; go_simp
    (try simp only [Act.put, List.setIfInBounds_toArray, List.set_cons_zero, List.set_cons_succ])
    refine takeQ (i := 17) (k := 48) (v := .slice q m l) rfl (by rfl) (by kernel_rfl) (by kernel_rfl) (by kernel_rfl) (fun _ _ _ h => h) (by rfl) ?_ hHeld ?_
    · intro w1 hSw; go_simp
    (try simp only [Act.put, List.setIfInBounds_toArray, List.set_cons_zero, List.set_cons_succ])
    refine takeQ (i := 18) (k := 49) (v := .string u) rfl (by rfl) (by kernel_rfl) (by kernel_rfl) (by kernel_rfl) (fun _ _ _ h => h) (by rfl) ?_ hHeld ?_
    · intro w1 hSw; go_simp
    (try simp only [Act.put, List.setIfInBounds_toArray, List.set_cons_zero, List.set_cons_succ])
    refine takeQ (i := 20) (k := 51) (v := .slice q m l) rfl (by rfl) (by kernel_rfl) (by kernel_rfl) (by kernel_rfl) (fun _ _ _ h => h) (by rfl) ?_ hHeld ?_
    · intro w1 hSw; go_simp
    (try simp only [Act.put, List.setIfInBounds_toArray, List.set_cons_zero, List.set_cons_succ])
    refine takeQ (i := 21) (k := 52) (v := .string u) rfl (by rfl) (by kernel_rfl) (by kernel_rfl) (by kernel_rfl) (fun _ _ _ h => h) (by rfl) ?_ hHeld ?_
    · intro w1 hSw; go_simp
    (try simp only [Act.put, List.setIfInBounds_toArray, List.set_cons_zero, List.set_cons_succ])
    refine wpAnyH_ready (rs := [19]) (by kernel_rfl) (by simp) ?_
    refine AllReadyH.cons rfl (fun K hK => ?_) AllReadyH.nil
    rw [if_pos (by rfl)]
    go_simp
    go_fit (k3 _ (row_ownX (HP3.out _ HS17r.out).2.2.2) (HM3.out _ HS17r.out))
    rintro e W21r ⟨rfl, hb⟩
    have HS22r := Lib.hid (HS17r.out.trans (hb.mono HS17r.out.size))
    have RA23r := Lib.hid (RA18r.out.on hb)
    have RB24r := Lib.hid (RB19r.out.on hb)
    have RC25r := Lib.hid (RC20r.out.on hb)
    clear hb
    refine hK.out _ _ HS22r.out (fun hHeld => ?_)
    clear hK K
    (try simp only [Act.put, List.setIfInBounds_toArray, List.set_cons_zero, List.set_cons_succ])
    refine wpAnyH_ready (rs := [22]) (by kernel_rfl) (by simp) ?_
    refine AllReadyH.cons rfl (fun K hK => ?_) AllReadyH.nil
    rw [if_pos (by rfl)]
    go_simp
    go_fit (k4 _ (row_ownX (HP3.out _ HS22r.out).2.2.2))
    rintro e W26r ⟨rfl, hb⟩
    have HS27r := Lib.hid (HS22r.out.trans (hb.mono HS22r.out.size))
    have RA28r := Lib.hid (RA23r.out.on hb)
    have RB29r := Lib.hid (RB24r.out.on hb)
    have RC30r := Lib.hid (RC25r.out.on hb)
    clear hb
    refine hK.out _ _ HS27r.out (fun hHeld => ?_)
    clear hK K
    (try simp only [Act.put, List.setIfInBounds_toArray, List.set_cons_zero, List.set_cons_succ])
    refine takeQ (i := 23) (k := 54) (v := .bool false) rfl (by rfl) (by kernel_rfl) (by kernel_rfl) (by kernel_rfl) (fun _ _ _ h => h) (by rfl) ?_ hHeld ?_
    · intro w1 hSw; go_simp
    (try simp only [Act.put, List.setIfInBounds_toArray, List.set_cons_zero, List.set_cons_succ])
    refine takeQ (i := 24) (k := 55) (v := .bool false) rfl (by rfl) (by kernel_rfl) (by kernel_rfl) (by kernel_rfl) (fun _ _ _ h => h) (by rfl) ?_ hHeld ?_
    · intro w1 hSw; go_simp
    (try simp only [Act.put, List.setIfInBounds_toArray, List.set_cons_zero, List.set_cons_succ])
    refine takeQ (i := 25) (k := 56) (v := .bool false) rfl (by rfl) (by kernel_rfl) (by kernel_rfl) (by kernel_rfl) (fun _ _ _ h => h) (by rfl) ?_ hHeld ?_
    · intro w1 hSw; go_simp
    (try simp only [Act.put, List.setIfInBounds_toArray, List.set_cons_zero, List.set_cons_succ])
    refine takeQ (i := 26) (k := 57) (v := .slice q m l) rfl (by rfl) (by kernel_rfl) (by kernel_rfl) (by kernel_rfl) (fun _ _ _ h => h) (by rfl) ?_ hHeld ?_
    · intro w1 hSw; go_simp
    (try simp only [Act.put, List.setIfInBounds_toArray, List.set_cons_zero, List.set_cons_succ])
    refine takeQ (i := 28) (k := 59) (v := .slice q m l) rfl (by rfl) (by kernel_rfl) (by kernel_rfl) (by kernel_rfl) (fun _ _ _ h => h) (by rfl) ?_ hHeld ?_
    · intro w1 hSw; go_simp
    (try simp only [Act.put, List.setIfInBounds_toArray, List.set_cons_zero, List.set_cons_succ])
    refine wpAnyH_ready (rs := [27]) (by kernel_rfl) (by simp) ?_
    refine AllReadyH.cons rfl (fun K hK => ?_) AllReadyH.nil
    rw [if_pos (by rfl)]
    go_simp
    go_fit (k5 _ (row_ownX (HP3.out _ HS27r.out).2.2.2) (HM3.out _ HS27r.out))
    rintro e W31r ⟨rfl, hb⟩
    have HS32r := Lib.hid (HS27r.out.trans (hb.mono HS27r.out.size))
    have RA33r := Lib.hid (RA28r.out.on hb)
    have RB34r := Lib.hid (RB29r.out.on hb)
    have RC35r := Lib.hid (RC30r.out.on hb)
    clear hb
    refine hK.out _ _ HS32r.out (fun hHeld => ?_)
    clear hK K
    (try simp only [Act.put, List.setIfInBounds_toArray, List.set_cons_zero, List.set_cons_succ])
    refine wpAnyH_ready (rs := [29]) (by kernel_rfl) (by simp) ?_
    refine AllReadyH.cons rfl (fun K hK => ?_) AllReadyH.nil
    rw [if_pos (by rfl)]
    go_simp
    go_fit (k6 _ (row_ownX (HP3.out _ HS32r.out).2.2.2))
    rintro e W36r ⟨rfl, hb⟩
    have HS37r := Lib.hid (HS32r.out.trans (hb.mono HS32r.out.size))
    have RA38r := Lib.hid (RA33r.out.on hb)
    have RB39r := Lib.hid (RB34r.out.on hb)
    have RC40r := Lib.hid (RC35r.out.on hb)
    clear hb
    refine hK.out _ _ HS37r.out (fun hHeld => ?_)
    clear hK K
    (try simp only [Act.put, List.setIfInBounds_toArray, List.set_cons_zero, List.set_cons_succ])
    refine takeQ (i := 30) (k := 61) (v := .bool false) rfl (by rfl) (by kernel_rfl) (by kernel_rfl) (by kernel_rfl) (fun _ _ _ h => h) (by rfl) ?_ hHeld ?_
    · intro w1 hSw; go_simp
    (try simp only [Act.put, List.setIfInBounds_toArray, List.set_cons_zero, List.set_cons_succ])
    refine takeQ (i := 31) (k := 62) (v := .bool false) rfl (by rfl) (by kernel_rfl) (by kernel_rfl) (by kernel_rfl) (fun _ _ _ h => h) (by rfl) ?_ hHeld ?_
    · intro w1 hSw; go_simp
    (try simp only [Act.put, List.setIfInBounds_toArray, List.set_cons_zero, List.set_cons_succ])
    refine wpAnyH_done (by kernel_rfl) ?_ _
    exact ⟨⟨rfl, HS37r.out⟩, by simp only [putAll, Act.put, List.setIfInBounds_toArray, List.set_cons_zero, List.set_cons_succ]; rfl⟩
  · rintro vs v4 ⟨e62, hS⟩
    have HB4 := Lib.hid (HB3.out.trans (hS.mono HB3.out.size))
    obtain ⟨hX4, hR4, hA4, hY4⟩ := HP3.out _ hS
    have HX4 := Lib.hid hX4
    have HR4 := Lib.hid hR4
    have HA4 := Lib.hid hA4
    simp only [putAll, Act.put, List.setIfInBounds_toArray, List.set_cons_zero, List.set_cons_succ, e62]
    clear e62 hS hX4 hR4 hA4 hY4 j1 j2 k1 k2' k3 k4 k5 k6
    obtain ⟨⟨c0, c1⟩, f0, f1⟩ := arrX_two HA4.out
    by_cases hc : R.c = 0
    · obtain ⟨g1, g2, g3, g4⟩ := HAD.out hc
      have g5 := blk_mem g1 g2 g3
      rw [g5] at i3
      rw [g4] at i4
      dsimp only at i4
      rw [HN.out] at i4
      have q1 : (R.c != 0) = false := by rw [hc]; rfl
      have fld := fun p k W => bo_field2 n p k W
      clear g1 g2 g3 g4 g5 hc HAD
      go_wp2_with (first
        | (go_at_call 21; have _ := HB6; go_fit (i5 _ _ _ _ _ (row_ownX HD6.out) (row_ownX HX6.out)); rintro e v7 ⟨rfl, hb⟩; have HB7 := Lib.hid (HB6.out.trans (hb.mono HB6.out.size)); clear hb)
        | (go_at_call 15; have _ := HB5; go_fit (i4 p2 k2 _ (row_ownX HR5.out) (HM.out _ HB5.out)); rintro e v6 ⟨⟨p6, k6, rfl, hv⟩, hb⟩; have HB6 := Lib.hid (HB5.out.trans (hb.mono HB5.out.size)); have HX6 := Lib.hid (HX5.out.on hb); have HD6 := Lib.hid hv; clear hb hv)
        | (go_at_call 17; go_fit (i3 p2 k2 _ (row_ownX HR4.out) (HM.out _ HB4.out)); rintro e v5 ⟨rfl, hb⟩; have HB5 := Lib.hid (HB4.out.trans (hb.mono HB4.out.size)); have HX5 := Lib.hid (HX4.out.on hb); have HR5 := Lib.hid (HR4.out.on hb); have HA5 := Lib.hid (arrX_on HA4.out hb); clear hb; obtain ⟨⟨c0, c1⟩, f0, f1⟩ := arrX_two HA5.out))
      go_ret
      exact ⟨rfl, HB7.out⟩
    · have q1 : (R.c != 0) = true := by simpa using hc
      go_wp2_with fail
      go_ret
      exact ⟨rfl, HB4.out⟩
end Go.Proofs.Ytpjmcpfmnlfmdaa
