/- What Blocked answers, on both sides; FnExactBlocked's walk. -/
import Derived.Test.YtpjmcpfmnlfmdaaBkIter
namespace Go.Proofs.Ytpjmcpfmnlfmdaa
set_option linter.unusedSimpArgs false
set_option linter.unusedVariables false
open Go.RowKit Go.Joins

noncomputable def anyM (xs : List ByteArray) (j : ByteArray) : Bool := xs.any fun s => matchJ (rdL s) (rdD s) (rdR s) (rdL j) (rdD j) (rdR j)
noncomputable def blkB (xs : List ByteArray) (j : ByteArray) : Bool := bkB xs && (addrB j && anyM xs j)
theorem rd_good {s : ByteArray} (h : addrB s = true) : rdL s = strOf (readL s.data.toList).1 ∧ rdD s = strOf (readL s.data.toList).2.1 ∧ rdR s = strOf (readL s.data.toList).2.2 := by
  have h1 : ¬ 20000 < s.size := fun hb => by rw [addr_big hb] at h; cases h
  have h2 : goodR s.data.toList = true := by
    unfold addrB at h
    simp only [Bool.and_eq_true] at h
    exact h.1
  unfold rdL rdD rdR
  rw [if_neg h1, if_neg h1, if_neg h1, if_pos h2, if_pos h2, if_pos h2]
  exact ⟨rfl, rfl, rfl⟩
/-- What l04Jid answers of an address. -/
theorem spec_jidG (s : ByteArray) (w : World) (hs : s.size ≤ 2000000) (ha : addrB s = true) :
    Calls Try.prog 78 #[.string s] w fun e w' => e = .returned (.tuple #[.agg #[.string (rdL s), .string (rdD s), .string (rdR s)], .bool true]) ∧ Below w.heap.size w w' := by
  refine (spec_l04jidP s w hs).mono ?_
  rintro e w' ⟨⟨x, y, z, rfl, h⟩, hb⟩
  obtain ⟨h1, h2, h3⟩ := h ha
  obtain ⟨g1, g2, g3⟩ := rd_good ha
  rw [h1, h2, h3, g1, g2, g3, ha]
  exact ⟨rfl, hb⟩
/-- The box of an address, low. -/
def JbW (w W : World) (b : Nat) (x y z : ByteArray) : Prop := Arr W b 69 [.string x, .string y, .string z] ∧ Below w.heap.size w W
theorem JbW.on {w W W2 : World} {b : Nat} {x y z : ByteArray} (h : JbW w W b x y z) (hb : Below W.heap.size W W2) : JbW w W2 b x y z := ⟨(hb.block b (arr9_ltB h.1)).trans h.1, h.2.trans (hb.mono h.2.size)⟩
theorem jb_three {w W : World} {b : Nat} {x y z : ByteArray} (h : JbW w W b x y z) : (W.cell? ⟨b, 0, none⟩ = some (.string x) ∧ W.cell? ⟨b, 1, none⟩ = some (.string y) ∧ W.cell? ⟨b, 2, none⟩ = some (.string z)) ∧ b < W.heap.size := ⟨⟨h.1.cell 0, h.1.cell 1, h.1.cell 2⟩, arr9_ltB h.1⟩
set_option maxRecDepth 100000 in
set_option maxHeartbeats 2000000 in
theorem spec_blk0 (xs : List ByteArray) (j : ByteArray) (p : Option Addr) (c : Nat) (w : World) (hn : xs.length ≤ 1048576) (hj : j.size ≤ 2000000) (hw : ∀ x ∈ xs, x.size ≤ 2000000) (hA : AllT xs xs.length) (hR : RowC strC 1 w p xs) :
    Calls Try.prog 57 #[.slice p xs.length c, .string j] w fun e w' => e = .returned (.bool (addrB j && anyM xs j)) ∧ Below w.heap.size w w' := by
  have HP := Lib.hid (fun W (h : Below w.heap.size w W) => hR.on h)
  obtain ⟨n, hxn⟩ : ∃ n, xs.length = n := ⟨_, rfl⟩
  have HN := Lib.hid hxn
  have HW := Lib.hid hw
  have HA := Lib.hid hA
  cases ha : addrB j
  · have i1 := fun W => spec_l04jid j W hj
    rw [ha] at i1
    rw [hxn] at hn ⊢
    clear hR hw hA hxn ha
    go_enter Try.func57, Try.ntmps57
    go_wp2_with (go_at_call 78; go_fit (i1 _); rintro e w1 ⟨⟨x, y, z, rfl⟩, hb1⟩; have HB1 := Lib.hid (hb1.alloc hb1.size (.cells #[.string x, .string y, .string z] 69)); clear hb1)
    go_loopw [7] (fun iq wr => iq = .int .i64 0 ∧ Below w.heap.size w wr) (fun _ _ => 0)
    case atStart => exact ⟨rfl, HB1.out⟩
    case round =>
      obtain ⟨rfl, hb⟩ := hrel
      have HB := Lib.hid hb
      clear hb
      by_cases h0 : 0 < n
      · have q1 : (0 : Int) < (n : Int) := by omega
        go_wp2
        go_ret
        exact ⟨rfl, HB.out⟩
      · have q1 : ¬ (0 : Int) < (n : Int) := by omega
        go_wp2
        go_ret
        exact ⟨rfl, HB.out⟩
  · have i1 := fun W => spec_jidG j W hj ha
    obtain ⟨hj1, hj2, hj3⟩ := rd_sizes j
    obtain ⟨Z, hZ⟩ : ∃ Z, anyM xs j = Z := ⟨_, rfl⟩
    have HZ := Lib.hid hZ
    have HM : Hid (∀ s, matchJ (rdL s) (rdD s) (rdR s) (rdL j) (rdD j) (rdR j) = true → s ∈ xs → Z = true) := Lib.hid (fun s h hs => by rw [← hZ]; unfold anyM; rw [List.any_eq_true]; exact ⟨s, hs, h⟩)
    have HM2 : Hid ((∀ i (h : i < xs.length), matchJ (rdL xs[i]) (rdD xs[i]) (rdR xs[i]) (rdL j) (rdD j) (rdR j) = false) → Z = false) := Lib.hid (fun h => by
      rw [← hZ]; unfold anyM; rw [List.any_eq_false]
      intro s hs
      obtain ⟨i, hi, rfl⟩ := List.mem_iff_getElem.1 hs
      rw [h i hi]; decide)
    obtain ⟨f, hf⟩ : ∃ f : ByteArray → Bool, (fun s => matchJ (rdL s) (rdD s) (rdR s) (rdL j) (rdD j) (rdR j)) = f := ⟨_, rfl⟩
    have HF : Hid (∀ s, matchJ (rdL s) (rdD s) (rdR s) (rdL j) (rdD j) (rdR j) = f s) := Lib.hid (fun s => by rw [← hf])
    have i2 := fun (s : ByteArray) W => spec_match (rdL s) (rdD s) (rdR s) (rdL j) (rdD j) (rdR j) W (rd_sizes s).1 (rd_sizes s).2.1 (rd_sizes s).2.2 hj1 hj2 hj3
    obtain ⟨jl, hjl⟩ : ∃ a, rdL j = a := ⟨_, rfl⟩
    obtain ⟨jd, hjd⟩ : ∃ a, rdD j = a := ⟨_, rfl⟩
    obtain ⟨jr, hjr⟩ : ∃ a, rdR j = a := ⟨_, rfl⟩
    rw [hjl, hjd, hjr] at i1 i2 HM HM2 HF
    rw [hZ, hxn]
    rw [hxn] at hn
    clear hR hw hA hxn ha hZ hf hjl hjd hjr hj1 hj2 hj3
    go_enter Try.func57, Try.ntmps57
    go_wp2_with (go_at_call 78; go_fit (i1 _); rintro e w1 ⟨rfl, hb1⟩; have HJ1 : Hid (JbW w (w1.alloc (.cells #[.string jl, .string jd, .string jr] 69)) w1.heap.size jl jd jr) := Lib.hid ⟨Arr.fresh w1 _ [.string jl, .string jd, .string jr], hb1.alloc hb1.size _⟩; clear hb1)
    go_loopw [7] (fun iq wr => ∃ k : Nat, k ≤ n ∧ iq = .int .i64 k ∧ (∀ i (h : i < xs.length), i < k → f xs[i] = false) ∧ JbW w wr w1.heap.size jl jd jr) (fun i _ => n - (intOf i).toNat)
    case atStart => exact ⟨0, Nat.zero_le _, rfl, fun i _ h => absurd h (Nat.not_lt_zero _), HJ1.out⟩
    case round =>
      obtain ⟨k, hk, rfl, hno, hJ⟩ := hrel
      have HNO := Lib.hid hno
      have HJ := Lib.hid hJ
      clear hno
      by_cases hlt : k < n
      · have hlt1 : k < xs.length := by rw [HN.out]; exact hlt
        obtain ⟨g, rfl, hg, a0⟩ := row_tx (HP.out _ hJ.2) hlt1
        have hxw := HW.out _ (List.getElem_mem hlt1)
        have hxa := HA.out k hlt1 hlt1
        have hmem : xs[k] ∈ xs := List.getElem_mem hlt1
        obtain ⟨x, hx⟩ : ∃ x, xs[k] = x := ⟨_, rfl⟩
        have HX := Lib.hid hx
        rw [hx] at a0 hxw hxa hmem
        have HMEM := Lib.hid hmem
        have i3 := fun W => spec_jidG x W hxw hxa
        have i4 := i2 x
        obtain ⟨b, hb⟩ : ∃ b, f x = b := ⟨_, rfl⟩
        have HBX := Lib.hid hb
        have hfx := HF.out x
        rw [hfx, hb] at i4
        clear hJ hx hxw hxa hmem hb hfx
        cases b
        · go_wp2_with (first
            | (go_at_call 85; have _ := HJ3; go_fit (i4 _); rintro e w4 ⟨rfl, hb4⟩; have HJ4 := Lib.hid (HJ3.out.on hb4); clear hb4)
            | (go_at_call 78; go_fit (i3 _); rintro e w3 ⟨rfl, hb3⟩; have HJ3 := Lib.hid ((HJ.out.on hb3).on ((Below.refl _ _).alloc (Nat.le_refl _) (.cells #[.string (rdL x), .string (rdD x), .string (rdR x)] 69))); clear hb3; obtain ⟨⟨c0, c1, c2⟩, hbz⟩ := jb_three HJ3.out; have hbz2 := arr9_ltB (HJ.out).1))
          go_roundw
          case rel =>
            refine ⟨k + 1, by omega, by go_num, fun i hi h => ?_, HJ4.out⟩
            by_cases e : i = k
            · subst e; rw [HX.out]; exact HBX.out
            · exact HNO.out i hi (by omega)
          case measure => simp [intOf]; omega
        · have HL : Hid (Z = true) := Lib.hid (HM.out x (by rw [HF.out]; exact HBX.out) HMEM.out)
          go_wp2_with (first
            | (go_at_call 85; have _ := HJ3; go_fit (i4 _); rintro e w4 ⟨rfl, hb4⟩; have HJ4 := Lib.hid (HJ3.out.on hb4); clear hb4)
            | (go_at_call 78; go_fit (i3 _); rintro e w3 ⟨rfl, hb3⟩; have HJ3 := Lib.hid ((HJ.out.on hb3).on ((Below.refl _ _).alloc (Nat.le_refl _) (.cells #[.string (rdL x), .string (rdD x), .string (rdR x)] 69))); clear hb3; obtain ⟨⟨c0, c1, c2⟩, hbz⟩ := jb_three HJ3.out; have hbz2 := arr9_ltB (HJ.out).1))
          go_ret
          exact ⟨ret_bool (by rw [HL.out]; rfl), HJ4.out.2⟩
      · have HL : Hid (Z = false) := Lib.hid (HM2.out (fun i hi => by rw [HF.out]; exact HNO.out i hi (by rw [HN.out] at hi; omega)))
        clear hJ
        go_wp2
        go_ret
        exact ⟨ret_bool (by rw [HL.out]; rfl), HJ.out.2⟩
set_option maxHeartbeats 1000000 in
theorem spec_blocked (xs : List ByteArray) (j : ByteArray) (p : Option Addr) (c : Nat) (w : World) (hn : xs.length ≤ 1048576) (hj : j.size ≤ 2000000) (hw : ∀ x ∈ xs, x.size ≤ 2000000) (hR : RowC strC 1 w p xs) :
    Calls Try.prog 18 #[.slice p xs.length c, .string j] w fun e w' => e = .returned (.bool (blkB xs j)) ∧ Below w.heap.size w w' := by
  have HP := Lib.hid (fun W (h : Below w.heap.size w W) => hR.on h)
  have i1 := fun W h => spec_bkright xs p c W hn hw h
  by_cases hs : 20000 < j.size
  · have hz : blkB xs j = false := by unfold blkB; rw [addr_big hs]; simp
    rw [hz]
    have q1 : ¬ ((j.size : Int) ≤ 20000) := by omega
    clear i1 hR hw
    go_enter Try.func18, Try.ntmps18
    go_wp2
    go_ret
    exact ⟨rfl, Below.refl _ _⟩
  have q1 : (j.size : Int) ≤ 20000 := by omega
  unfold blkB
  cases hk : bkB xs
  · rw [hk] at i1
    clear hR hw hk hs
    go_enter Try.func18, Try.ntmps18
    go_wp2_with (go_at_call 20; go_fit (i1 _ (HP.out _ (Below.refl _ _))); rintro e w1 ⟨rfl, hb⟩; have HB := Lib.hid hb; clear hb)
    go_ret
    exact ⟨rfl, HB.out⟩
  · have i2 := fun W h => spec_blk0 xs j p c W hn hj hw (bkB_iff.1 hk).2.2 h
    rw [hk] at i1
    obtain ⟨Z, hZ⟩ : ∃ Z, (addrB j && anyM xs j) = Z := ⟨_, rfl⟩
    rw [hZ] at i2 ⊢
    clear hR hw hk hs hZ
    go_enter Try.func18, Try.ntmps18
    go_wp2_with (first
      | (go_at_call 57; have _ := HB; go_fit (i2 _ (HP.out _ HB.out)); rintro e w2 ⟨rfl, hb⟩; have HB2 := Lib.hid (HB.out.trans (hb.mono HB.out.size)); clear hb)
      | (go_at_call 20; go_fit (i1 _ (HP.out _ (Below.refl _ _))); rintro e w1 ⟨rfl, hb⟩; have HB := Lib.hid hb; clear hb))
    go_ret
    exact ⟨rfl, HB2.out⟩
set_option maxHeartbeats 1000000 in
theorem impl_blocked (xs : List ByteArray) (j : ByteArray) (p : Option Addr) (c : Nat) (w : World) (hn : xs.length ≤ 1048576) (hj : j.size ≤ maxLen) (hw : ∀ x ∈ xs, x.size ≤ maxLen) (hR : RowC strC 1 w p xs) (hm : MaxL w) :
    Calls Try.prog 17 #[.slice p xs.length c, .string j] w fun e w' => e = .returned (.bool (blkB xs j)) ∧ Below w.heap.size w w' := by
  have HP := Lib.hid (fun W (h : Below w.heap.size w W) => hR.on h)
  have HM := Lib.hid (fun W (h : Below w.heap.size w W) => hm.below h hm.pos)
  have i1 := fun W h hm => impl_bkright xs p c W hn hw h hm
  have i2 := fun W hm => impl_address j W hj hm
  have i3 := fun W hm => impl_read j W hj hm
  rw [rd_eq] at i3
  unfold jo at i3
  have fld := fun W => jid_field7 (rdL j) (rdD j) (rdR j) (rdC j) W
  obtain ⟨s1, s2, s3⟩ := rd_sizes j
  have i4 := fun W h hm => impl_anyp xs p c (rdL j) (rdD j) (rdR j) W hn hw h hm s1 s2 s3
  unfold blkB
  cases hk : bkB xs
  · rw [hk] at i1
    clear hR hw hk hm i3 i4 i2 fld s1 s2 s3
    go_enter Try.func17, Try.ntmps17
    go_wp2_with (go_at_call 19; go_fit (i1 _ (HP.out _ (Below.refl _ _)) (HM.out _ (Below.refl _ _))); rintro e w1 ⟨rfl, hb⟩; have HB := Lib.hid hb; clear hb)
    go_ret
    exact ⟨rfl, HB.out⟩
  rw [hk] at i1
  cases ha : addrB j
  · rw [ha] at i2
    clear hR hw hk hm i3 i4 fld ha s1 s2 s3
    go_enter Try.func17, Try.ntmps17
    go_wp2_with (first
      | (go_at_call 45; have _ := HB; go_fit (i2 _ (HM.out _ HB.out)); rintro e w2 ⟨rfl, hb⟩; have HB2 := Lib.hid (HB.out.trans (hb.mono HB.out.size)); clear hb)
      | (go_at_call 19; go_fit (i1 _ (HP.out _ (Below.refl _ _)) (HM.out _ (Below.refl _ _))); rintro e w1 ⟨rfl, hb⟩; have HB := Lib.hid hb; clear hb))
    go_ret
    exact ⟨rfl, HB2.out⟩
  · rw [ha] at i2
    unfold anyM
    obtain ⟨Z, hZ⟩ : ∃ Z, (xs.any fun s => matchJ (rdL s) (rdD s) (rdR s) (rdL j) (rdD j) (rdR j)) = Z := ⟨_, rfl⟩
    rw [hZ] at i4 ⊢
    clear hR hw hk hm ha hZ s1 s2 s3
    go_enter Try.func17, Try.ntmps17
    go_wp2_with (first
      | (go_at_call 54; have _ := HB3; go_fit (i4 _ (HP.out _ HB3.out) (HM.out _ HB3.out)); rintro e w4 ⟨rfl, hb⟩; have HB4 := Lib.hid (HB3.out.trans (hb.mono HB3.out.size)); clear hb)
      | (go_at_call 56; have _ := HB2; go_fit (i3 _ (HM.out _ HB2.out)); rintro e w3 ⟨rfl, hb⟩; have HB3 := Lib.hid (HB2.out.trans (hb.mono HB2.out.size)); clear hb)
      | (go_at_call 45; have _ := HB; go_fit (i2 _ (HM.out _ HB.out)); rintro e w2 ⟨rfl, hb⟩; have HB2 := Lib.hid (HB.out.trans (hb.mono HB.out.size)); clear hb)
      | (go_at_call 19; go_fit (i1 _ (HP.out _ (Below.refl _ _)) (HM.out _ (Below.refl _ _))); rintro e w1 ⟨rfl, hb⟩; have HB := Lib.hid hb; clear hb))
    go_ret
    exact ⟨rfl, HB4.out⟩
set_option maxRecDepth 100000 in
set_option maxHeartbeats 2000000 in
theorem blocked_law (w : World) (a : Option Addr) (len cap : Nat) (xs : List ByteArray) (x0 : TxArg w a len xs) (r : ByteArray) (wr : r.size ≤ maxLen) (hm : MaxL w) :
    Calls Try.prog 8 #[.slice a len cap, .string r] w fun e w' => e = .returned (.bool true) ∧ Below w.heap.size w w' := by
  unfold maxLen at wr
  by_cases hfr : 1048576 < r.size
  · go_enter Try.func8, Try.ntmps8
    go_wp2
    go_ret
    exact ⟨rfl, Below.refl _ _⟩
  have HX := Lib.hid x0
  have HM := Lib.hid (fun W (h : Below w.heap.size w W) => hm.below h hm.pos)
  have i1 := fun W hb => sz_argX (cap := cap) HX.out W hb
  have i2 := fun (hl : len ≤ 1048576) W hb => to_argX (cap := cap) HX.out hl W hb
  have i3 := fun p c W (hl : len ≤ 1048576) (hw : ∀ x ∈ xs, x.size ≤ 1048576) hR => spec_blocked xs r p c W (by rw [HX.out.1]; exact hl) (by omega) (tx_two hw) hR
  have i4 := fun p c W (hl : len ≤ 1048576) (hw : ∀ x ∈ xs, x.size ≤ 1048576) hR hm => impl_blocked xs r p c W (by rw [HX.out.1]; exact hl) (by unfold maxLen; omega) (tx_max hw) hR hm
  have i5 := fun p q c d W (hl : len ≤ 1048576) hp hq => eqs_ss xs p q c d W (by rw [HX.out.1]; omega) hp hq
  rw [HX.out.1] at i3 i4 i5
  obtain ⟨Z, hZ⟩ : ∃ Z, blkB xs r = Z := ⟨_, rfl⟩
  rw [hZ] at i3 i4
  clear x0 hZ hm
  have HB0 : Hid (Below w.heap.size w w) := Lib.hid (Below.refl _ _)
  go_enter Try.func8, Try.ntmps8
  go_wp2_with (first
    | (go_at_call 29; have _ := HB6; go_fit (i5 p4 p6 k4 k6 _ hz2 (row_ownX HV6.out) (row_ownX HV7.out)); rintro e w7 ⟨rfl, hb⟩; have HB7 := Lib.hid (HB6.out.trans (hb.mono HB6.out.size)); clear hb)
    | (go_at_call 28; have _ := HB5; go_fit (i2 hz2 _ HB5.out); rintro e w6 ⟨⟨p6, k6, rfl, hv⟩, hb⟩; have HB6 := Lib.hid (HB5.out.trans (hb.mono HB5.out.size)); have HV7 := Lib.hid hv; have HV6 := Lib.hid (HV5.out.on hb); clear hb hv)
    | (go_at_call 17; have _ := HB4; go_fit (i4 p4 k4 _ hz2 hz3 (row_ownX HV4.out) (HM.out _ HB4.out)); rintro e w5 ⟨rfl, hb⟩; have HB5 := Lib.hid (HB4.out.trans (hb.mono HB4.out.size)); have HV5 := Lib.hid (HV4.out.on hb); clear hb)
    | (go_at_call 28; have _ := HB3; go_fit (i2 hz2 _ HB3.out); rintro e w4 ⟨⟨p4, k4, rfl, hv⟩, hb⟩; have HB4 := Lib.hid (HB3.out.trans (hb.mono HB3.out.size)); have HV4 := Lib.hid hv; clear hb hv)
    | (go_at_call 18; have _ := HB2; go_fit (i3 p2 k2 _ hz2 hz3 (row_ownX HV2.out)); rintro e w3 ⟨rfl, hb⟩; have HB3 := Lib.hid (HB2.out.trans (hb.mono HB2.out.size)); clear hb)
    | (go_at_call 28; have _ := HB1; go_fit (i2 hz2 _ HB1.out); rintro e w2 ⟨⟨p2, k2, rfl, hv⟩, hb⟩; have HB2 := Lib.hid (HB1.out.trans (hb.mono HB1.out.size)); have HV2 := Lib.hid hv; clear hb hv)
    | (go_at_call 27; go_fit (i1 _ HB0.out); rintro e w1 ⟨⟨z, rfl, hz⟩, hb1⟩; have HB1 := Lib.hid hb1; clear hb1; rcases hz with rfl | ⟨hz1, hz2, hz3⟩))
  · go_ret
    exact ⟨rfl, HB1.out⟩
  · go_ret
    exact ⟨rfl, HB7.out⟩
end Go.Proofs.Ytpjmcpfmnlfmdaa
