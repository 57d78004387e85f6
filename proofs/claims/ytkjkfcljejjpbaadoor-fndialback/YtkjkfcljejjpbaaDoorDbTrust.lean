/- What peerAt (l06Peer) and DbTrusts answer, the program's and the specification's. -/
import Derived.Test.YtkjkfcljejjpbaaDoorDbRightS
namespace Go.Proofs.YtkjkfcljejjpbaaDoor
set_option linter.unusedSimpArgs false
set_option linter.unusedVariables false
open Go.RowKit

/-- The place of the peer with this number. -/
def atK (id : Int) : List PrL → Option Nat
  | [] => none
  | x :: r => if x.i = id then some 0 else (atK id r).map (· + 1)
def atI (id : Int) (ps : List PrL) : Int := match atK id ps with | some k => (k : Int) | none => -1
theorem atK_lt {id : Int} : ∀ {ps : List PrL} {k : Nat}, atK id ps = some k → ∃ h : k < ps.length, ps[k].i = id
  | [], k, h => by cases h
  | x :: r, k, h => by
    unfold atK at h
    split at h
    · rename_i hx
      injection h with h
      subst h
      exact ⟨by simp, hx⟩
    · cases hr : atK id r with
      | none => rw [hr] at h; cases h
      | some j =>
        rw [hr] at h
        injection h with h
        subst h
        obtain ⟨h1, h2⟩ := atK_lt hr
        exact ⟨by simp; omega, by simpa using h2⟩
/-- What is found from element k on. -/
theorem at_drop {id : Int} {ps : List PrL} {k : Nat} (hk : k < ps.length) (h : ps[k].i ≠ id) : atK id (ps.drop k) = (atK id (ps.drop (k + 1))).map (· + 1) := by
  rw [List.drop_eq_getElem_cons hk, atK, if_neg h]
theorem at_hit {id : Int} {ps : List PrL} {k : Nat} (hk : k < ps.length) (h : ps[k].i = id) : atK id (ps.drop k) = some 0 := by
  rw [List.drop_eq_getElem_cons hk, atK, if_pos h]
set_option maxRecDepth 100000 in
set_option maxHeartbeats 1000000 in
theorem spec_peer (d : ByteArray) (n : Int) (ps : List PrL) (p : Option Addr) (cap : Nat) (id : Int) (w : World) (hl : ps.length ≤ 1048576) (hR : RowC prC 4 w p ps) :
    Calls Tryd.prog 33 #[dbV d n p ps.length cap, .int .i64 id] w fun e w' => e = .returned (.int .i64 (atI id ps)) ∧ Below w.heap.size w w' := by
  have HR := Lib.hid (fun W (h : Below w.heap.size w W) => RowC.on hR h)
  obtain ⟨N, hN⟩ : ∃ N, ps.length = N := ⟨_, rfl⟩
  have HN := Lib.hid hN
  rw [hN] at hl ⊢
  unfold dbV
  clear hR hN
  go_enter Tryd.func33, Tryd.ntmps33
  go_wp2
  go_loopw [5] (fun iq wr => ∃ k : Nat, k ≤ N ∧ iq = .int .i64 k ∧ atK id ps = (atK id (ps.drop k)).map (· + k) ∧ Arr wr w.heap.size 25 [.string d, .int .i64 n, .slice p N cap] ∧ Below w.heap.size w wr) (fun i _ => N - (intOf i).toNat)
  case atStart => exact ⟨0, Nat.zero_le _, rfl, by simp, Arr.fresh w 25 [.string d, .int .i64 n, .slice p N cap], (Below.refl _ _).alloc (Nat.le_refl _) _⟩
  case round =>
    obtain ⟨k, hk, rfl, hz, hA, hb⟩ := hrel
    obtain ⟨c0, c1, c2, _⟩ := arr_three hA
    have HB := Lib.hid hb
    have HA := Lib.hid hA
    by_cases hlt : k < N
    · have hlt' : k < ps.length := by rw [HN.out]; exact hlt
      obtain ⟨g, rfl, hg, a0, a1, a2, a3⟩ := row4 (HR.out _ hb) hlt'
      by_cases hx : ps[k].i = id
      · have HZ : Hid (atI id ps = k) := Lib.hid (by unfold atI; rw [hz, at_hit hlt' hx]; simp)
        have hx' : (ps[k].i == id) = true := by rw [beq_iff_eq]; exact hx
        clear hz hx hb hA
        go_wp2
        go_ret
        exact ⟨ret_int HZ.out.symm, HB.out⟩
      · have HZ : Hid (atK id ps = (atK id (ps.drop (k + 1))).map (· + (k + 1))) := Lib.hid (by rw [hz, at_drop hlt' hx, Option.map_map]; congr 1; funext j; simp; omega)
        have hx' : (ps[k].i == id) = false := by rw [beq_eq_false_iff_ne]; exact hx
        clear hz hx hb hA
        go_wp2
        go_roundw
        case rel => exact ⟨k + 1, by omega, by go_num, HZ.out, HA.out, HB.out⟩
        case measure => simp [intOf]; omega
    · obtain rfl : k = N := by omega
      have HZ : Hid (atI id ps = -1) := Lib.hid (by unfold atI; rw [hz, List.drop_eq_nil_of_le (by rw [HN.out]; exact Nat.le_refl _)]; rfl)
      clear hz
      go_wp2
      go_ret
      exact ⟨ret_int HZ.out.symm, HB.out⟩
/-- The test that impl.peerAt hands to slices.IndexFunc. -/
theorem impl_peertest (x : PrL) (b : Nat) (id : Int) (w : World) (hc : w.cell? ⟨b, 0, none⟩ = some (.int .i64 id)) :
    Calls Tryd.prog 43 #[prV x, .pointer (some ⟨b, 0, none⟩)] w fun e w' => e = .returned (.bool (x.i == id)) ∧ Below w.heap.size w w' := by
  have hlt := block_lt_of_cell hc
  dsimp only at hlt
  unfold prV
  go_enter Tryd.func43, Tryd.ntmps43
  go_wp2
  go_ret
  exact ⟨rfl, (Below.refl _ _).alloc (Nat.le_refl _) _⟩
set_option maxRecDepth 100000 in
set_option maxHeartbeats 1000000 in
theorem lib_index (ps : List PrL) (p : Option Addr) (cap b : Nat) (id : Int) (w : World) (hl : ps.length ≤ 1048576) (hR : RowC prC 4 w p ps) (hc : w.cell? ⟨b, 0, none⟩ = some (.int .i64 id)) :
    Calls Tryd.prog 42 #[.slice p ps.length cap, .func (.func 43) #[] #[.pointer (some ⟨b, 0, none⟩)]] w fun e w' => e = .returned (.int .i64 (atI id ps)) ∧ Below w.heap.size w w' := by
  have HR := Lib.hid (fun W (h : Below w.heap.size w W) => RowC.on hR h)
  have hblt : b < w.heap.size := block_lt_of_cell hc
  have HC := Lib.hid (fun W (h : Below w.heap.size w W) => (h.cell (p := ⟨b, 0, none⟩) hblt).trans hc)
  obtain ⟨N, hN⟩ : ∃ N, ps.length = N := ⟨_, rfl⟩
  have HN := Lib.hid hN
  rw [hN] at hl ⊢
  clear hR hN hc
  go_enter Tryd.func42, Tryd.ntmps42
  go_wp2
  go_loopw [8] (fun iq wr => ∃ k : Nat, k ≤ N ∧ iq = .int .i64 k ∧ atK id ps = (atK id (ps.drop k)).map (· + k) ∧ Below w.heap.size w wr) (fun i _ => N - (intOf i).toNat)
  case atStart => exact ⟨0, Nat.zero_le _, rfl, by simp, Below.refl _ _⟩
  case round =>
    obtain ⟨k, hk, rfl, hz, hb⟩ := hrel
    have HB := Lib.hid hb
    by_cases hlt : k < N
    · have hlt' : k < ps.length := by rw [HN.out]; exact hlt
      obtain ⟨g, rfl, hg, a0, a1, a2, a3⟩ := row4 (HR.out _ hb) hlt'
      have i1 := fun W hc => impl_peertest ps[k] b id W hc
      unfold prV at i1
      obtain ⟨x, hx0⟩ : ∃ x, ps[k] = x := ⟨_, rfl⟩
      by_cases hx : ps[k].i = id
      · have HZ : Hid (atI id ps = k) := Lib.hid (by unfold atI; rw [hz, at_hit hlt' hx]; simp)
        have hx' : (ps[k].i == id) = true := by rw [beq_iff_eq]; exact hx
        rw [hx'] at i1
        rw [hx0] at i1 a0 a1 a2 a3
        clear hz hx hb hx' hx0
        go_wp2_with (go_at_call 43; go_fit (i1 _ (HC.out _ HB.out)); rintro e w1 ⟨rfl, hb1⟩)
        go_ret
        exact ⟨ret_int HZ.out.symm, HB.out.trans (hb1.mono HB.out.size)⟩
      · have HZ : Hid (atK id ps = (atK id (ps.drop (k + 1))).map (· + (k + 1))) := Lib.hid (by rw [hz, at_drop hlt' hx, Option.map_map]; congr 1; funext j; simp; omega)
        have hx' : (ps[k].i == id) = false := by rw [beq_eq_false_iff_ne]; exact hx
        rw [hx'] at i1
        rw [hx0] at i1 a0 a1 a2 a3
        clear hz hx hb hx' hx0
        go_wp2_with (go_at_call 43; go_fit (i1 _ (HC.out _ HB.out)); rintro e w1 ⟨rfl, hb1⟩)
        go_roundw
        case rel => exact ⟨k + 1, by omega, by go_num, HZ.out, HB.out.trans (hb1.mono HB.out.size)⟩
        case measure => simp [intOf]; omega
    · obtain rfl : k = N := by omega
      have HZ : Hid (atI id ps = -1) := Lib.hid (by unfold atI; rw [hz, List.drop_eq_nil_of_le (by rw [HN.out]; exact Nat.le_refl _)]; rfl)
      clear hz
      go_wp2
      go_ret
      exact ⟨ret_int HZ.out.symm, HB.out⟩
set_option maxHeartbeats 1000000 in
theorem impl_peerat (ps : List PrL) (p : Option Addr) (cap : Nat) (id : Int) (w : World) (hl : ps.length ≤ 1048576) (hR : RowC prC 4 w p ps) :
    Calls Tryd.prog 34 #[.slice p ps.length cap, .int .i64 id] w fun e w' => e = .returned (.int .i64 (atI id ps)) ∧ Below w.heap.size w w' := by
  have i1 := lib_index ps p cap w.heap.size id (w.alloc (.cells #[.int .i64 id] 2)) hl (RowC.on hR ((Below.refl _ _).alloc (Nat.le_refl _) _)) ((Arr.fresh w 2 [.int .i64 id]).cell 0)
  clear hR
  go_enter Tryd.func34, Tryd.ntmps34
  go_wp2_with (go_at_call 42; go_fit i1; rintro e w1 ⟨rfl, hb1⟩)
  go_ret
  exact ⟨rfl, ((Below.refl _ _).alloc (Nat.le_refl _) _).trans (hb1.mono (by simp))⟩
/-- There is such a peer, of this domain, and it is good. -/
def fdB (ps : List PrL) (f : ByteArray) (id : Int) : Bool :=
  match atK id ps with
  | some k => (match ps[k]? with | some x => (x.d.toList == f.toList) && (x.s == 2) | none => false)
  | none => false
theorem fd_none {ps : List PrL} {f : ByteArray} {id : Int} (h : atK id ps = none) : fdB ps f id = false := by unfold fdB; rw [h]
theorem fd_some {ps : List PrL} {f : ByteArray} {id : Int} {k : Nat} {x : PrL} (h : atK id ps = some k) (hx : ps[k]? = some x) : fdB ps f id = ((x.d.toList == f.toList) && (x.s == 2)) := by
  unfold fdB
  rw [h]
  dsimp only
  rw [hx]
/-- A verified stream of this domain. -/
noncomputable def trB (d : ByteArray) (n : Int) (ps : List PrL) (f : ByteArray) (id : Int) : Bool := dbB d n ps && fdB ps f id
theorem prsB_all {n : Int} : ∀ {l : Int} {ps : List PrL}, prsB n l ps = true → ∀ x ∈ ps, prB x = true
  | _, [], _, x, hx => by cases hx
  | l, y :: r, h, x, hx => by
    unfold prsB at h
    simp only [Bool.and_eq_true] at h
    rcases List.mem_cons.1 hx with rfl | hx
    · exact h.1.1.1
    · exact prsB_all h.2 x hx
/-- No domain is so long. -/
theorem tr_big {d : ByteArray} {n : Int} {ps : List PrL} {f : ByteArray} {id : Int} (h : 20000 < f.size) : trB d n ps f id = false := by
  unfold trB
  cases hb : dbB d n ps with
  | false => rfl
  | true =>
    rw [Bool.true_and]
    cases hk : atK id ps with
    | none => exact fd_none hk
    | some k =>
      obtain ⟨hlt, _⟩ := atK_lt hk
      rw [fd_some hk (List.getElem?_eq_getElem hlt)]
      unfold dbB at hb
      simp only [Bool.and_eq_true] at hb
      have h2 := prsB_all hb.2 _ (List.getElem_mem hlt)
      unfold prB at h2
      simp only [Bool.and_eq_true] at h2
      have h3 := (domB_iff.1 h2.1.1.1).2.1
      unfold partB at h3
      simp only [Bool.and_eq_true, decide_eq_true_eq] at h3
      have h4 : ((ps[k]).d.toList == f.toList) = false := by
        rw [beq_eq_false_iff_ne, ByteArray.toList_eq, ByteArray.toList_eq]
        intro e
        have := congrArg List.length e
        rw [size_data, size_data] at this
        omega
      rw [h4]
      rfl
set_option maxRecDepth 100000 in
set_option maxHeartbeats 1000000 in
theorem impl_trusts (d : ByteArray) (n : Int) (ps : List PrL) (p : Option Addr) (cap : Nat) (f : ByteArray) (id : Int) (w : World) (hd : d.size ≤ maxLen) (hf : f.size ≤ 1048576) (hl : ps.length ≤ 1048576) (hw : ∀ x ∈ ps, x.d.size ≤ maxLen ∧ x.k.size ≤ maxLen) (hR : RowC prC 4 w p ps) (hm : MaxL w) :
    Calls Tryd.prog 14 #[dbV d n p ps.length cap, .string f, .int .i64 id] w fun e w' => e = .returned (.bool (trB d n ps f id)) ∧ Below w.heap.size w w' := by
  have HA := Lib.hid (fun W (h : Below (w.alloc (.cells #[.string d, .int .i64 n, .slice p ps.length cap] 25)).heap.size (w.alloc (.cells #[.string d, .int .i64 n, .slice p ps.length cap] 25)) W) => box3 h)
  have hb0 : Below w.heap.size w (w.alloc (.cells #[.string d, .int .i64 n, .slice p ps.length cap] 25)) := (Below.refl _ _).alloc (Nat.le_refl _) _
  have i1 := impl_dbright d n ps p cap _ hd hl hw (RowC.on hR hb0) (hm.below hb0 hm.pos)
  have i2 := fun W hR => impl_peerat ps p cap id W hl hR
  have HR := Lib.hid (fun W (h : Below w.heap.size w W) => RowC.on hR h)
  unfold trB
  obtain ⟨b, hb⟩ : ∃ b, dbB d n ps = b := ⟨_, rfl⟩
  rw [hb] at i1 ⊢
  unfold dbV at *
  clear hb hw hR hd hb0 hm
  cases b
  · rw [Bool.false_and]
    go_enter Tryd.func14, Tryd.ntmps14
    go_wp2_with (go_at_call 18; go_fit i1; rintro e w1 ⟨rfl, hb1⟩)
    go_ret
    exact ⟨rfl, (HA.out _ hb1).2⟩
  · rw [Bool.true_and]
    unfold atI at i2
    cases hk : atK id ps with
    | none =>
      rw [fd_none hk]
      rw [hk] at i2
      dsimp only at i2
      clear hk
      go_enter Tryd.func14, Tryd.ntmps14
      go_wp2_with (first
        | (go_at_call 18; go_fit i1; rintro e w1 ⟨rfl, hb1⟩; obtain ⟨hA1, hB1⟩ := HA.out _ hb1; obtain ⟨c0, c1, c2, _⟩ := arr_three hA1)
        | (go_at_call 34; go_fit (i2 _ (HR.out _ hB1)); rintro e w2 ⟨rfl, hb2⟩))
      go_ret
      exact ⟨rfl, hB1.trans (hb2.mono hB1.size)⟩
    | some k =>
      obtain ⟨hlt, _⟩ := atK_lt hk
      obtain ⟨x, hx⟩ : ∃ x, ps[k] = x := ⟨_, rfl⟩
      rw [fd_some hk (show ps[k]? = some x by rw [List.getElem?_eq_getElem hlt, hx])]
      rw [hk] at i2
      dsimp only at i2
      obtain ⟨g, rfl⟩ : ∃ g, p = some ⟨g, 0, none⟩ := by obtain ⟨g, h1, _⟩ := row4 (HR.out w (Below.refl _ _)) hlt; exact ⟨g, h1⟩
      have HROW : Hid (∀ W, Below w.heap.size w W → W.cell? ⟨g, k * 4, none⟩ = some (.string x.d) ∧ W.cell? ⟨g, k * 4 + 1, none⟩ = some (.int .i64 x.i) ∧ W.cell? ⟨g, k * 4 + 2, none⟩ = some (.int .i64 x.s) ∧ W.cell? ⟨g, k * 4 + 3, none⟩ = some (.string x.k)) := Lib.hid (fun W h => by
        obtain ⟨g2, hg2, _, a0, a1, a2, a3⟩ := row4 (HR.out W h) hlt
        injection hg2 with hg2
        injection hg2 with hg2
        subst hg2
        rw [hx] at a0 a1 a2 a3
        exact ⟨a0, a1, a2, a3⟩)
      clear hk hx
      obtain ⟨b5, h5⟩ : ∃ b, (x.d.toList == f.toList) = b := ⟨_, rfl⟩
      rw [h5]
      obtain ⟨N, hN⟩ : ∃ N, ps.length = N := ⟨_, rfl⟩
      rw [hN] at i1 i2 hlt HA hl ⊢
      clear hN
      cases b5
      · go_enter Tryd.func14, Tryd.ntmps14
        go_wp2_with (first
          | (go_at_call 18; go_fit i1; rintro e w1 ⟨rfl, hb1⟩; obtain ⟨hA1, hB1⟩ := HA.out _ hb1; obtain ⟨c0, c1, c2, _⟩ := arr_three hA1)
          | (go_at_call 34; go_fit (i2 _ (HR.out _ hB1)); rintro e w2 ⟨rfl, hb2⟩; obtain ⟨d0, d1, d2, _⟩ := arr_three (arr_below hA1 hb2); obtain ⟨a0, a1, a2, a3⟩ := HROW.out _ (hB1.trans (hb2.mono hB1.size))))
        go_ret
        exact ⟨rfl, hB1.trans (hb2.mono hB1.size)⟩
      · go_enter Tryd.func14, Tryd.ntmps14
        go_wp2_with (first
          | (go_at_call 18; go_fit i1; rintro e w1 ⟨rfl, hb1⟩; obtain ⟨hA1, hB1⟩ := HA.out _ hb1; obtain ⟨c0, c1, c2, _⟩ := arr_three hA1)
          | (go_at_call 34; go_fit (i2 _ (HR.out _ hB1)); rintro e w2 ⟨rfl, hb2⟩; obtain ⟨d0, d1, d2, _⟩ := arr_three (arr_below hA1 hb2); obtain ⟨a0, a1, a2, a3⟩ := HROW.out _ (hB1.trans (hb2.mono hB1.size))))
        all_goals
          go_ret
          exact ⟨ret_bool (by first | rfl | simp | (simp; omega)), hB1.trans (hb2.mono hB1.size)⟩
set_option maxRecDepth 100000 in
set_option maxHeartbeats 1000000 in
theorem spec_trusts (d : ByteArray) (n : Int) (ps : List PrL) (p : Option Addr) (cap : Nat) (f : ByteArray) (id : Int) (w : World) (hd : d.size ≤ maxLen) (hf : f.size ≤ 1048576) (hl : ps.length ≤ 1048576) (hw : ∀ x ∈ ps, x.d.size ≤ maxLen ∧ x.k.size ≤ maxLen) (hR : RowC prC 4 w p ps) :
    Calls Tryd.prog 17 #[dbV d n p ps.length cap, .string f, .int .i64 id] w fun e w' => e = .returned (.bool (trB d n ps f id)) ∧ Below w.heap.size w w' := by
  by_cases hbig : 20000 < f.size
  · have HBG : Hid (trB d n ps f id = false) := Lib.hid (tr_big hbig)
    unfold dbV
    clear hR hw hd
    go_enter Tryd.func17, Tryd.ntmps17
    go_wp2
    go_ret
    exact ⟨ret_bool HBG.out.symm, (Below.refl _ _).alloc (Nat.le_refl _) _⟩
  have HA := Lib.hid (fun W (h : Below (w.alloc (.cells #[.string d, .int .i64 n, .slice p ps.length cap] 25)).heap.size (w.alloc (.cells #[.string d, .int .i64 n, .slice p ps.length cap] 25)) W) => box3 h)
  have hb0 : Below w.heap.size w (w.alloc (.cells #[.string d, .int .i64 n, .slice p ps.length cap] 25)) := (Below.refl _ _).alloc (Nat.le_refl _) _
  have i1 := spec_dbright d n ps p cap _ hd hl hw (RowC.on hR hb0)
  have i2 := fun W hR => spec_peer d n ps p cap id W hl hR
  have HR := Lib.hid (fun W (h : Below w.heap.size w W) => RowC.on hR h)
  unfold trB
  obtain ⟨b, hb⟩ : ∃ b, dbB d n ps = b := ⟨_, rfl⟩
  rw [hb] at i1 ⊢
  unfold dbV at *
  clear hb hw hR hd hb0
  cases b
  · rw [Bool.false_and]
    go_enter Tryd.func17, Tryd.ntmps17
    go_wp2_with (go_at_call 15; go_fit i1; rintro e w1 ⟨rfl, hb1⟩)
    go_ret
    exact ⟨rfl, (HA.out _ hb1).2⟩
  · rw [Bool.true_and]
    unfold atI at i2
    cases hk : atK id ps with
    | none =>
      rw [fd_none hk]
      rw [hk] at i2
      dsimp only at i2
      clear hk
      go_enter Tryd.func17, Tryd.ntmps17
      go_wp2_with (first
        | (go_at_call 15; go_fit i1; rintro e w1 ⟨rfl, hb1⟩; obtain ⟨hA1, hB1⟩ := HA.out _ hb1; obtain ⟨c0, c1, c2, _⟩ := arr_three hA1)
        | (go_at_call 33; go_fit (i2 _ (HR.out _ hB1)); rintro e w2 ⟨rfl, hb2⟩))
      go_ret
      exact ⟨rfl, hB1.trans (hb2.mono hB1.size)⟩
    | some k =>
      obtain ⟨hlt, _⟩ := atK_lt hk
      obtain ⟨x, hx⟩ : ∃ x, ps[k] = x := ⟨_, rfl⟩
      rw [fd_some hk (show ps[k]? = some x by rw [List.getElem?_eq_getElem hlt, hx])]
      rw [hk] at i2
      dsimp only at i2
      obtain ⟨g, rfl⟩ : ∃ g, p = some ⟨g, 0, none⟩ := by obtain ⟨g, h1, _⟩ := row4 (HR.out w (Below.refl _ _)) hlt; exact ⟨g, h1⟩
      have HROW : Hid (∀ W, Below w.heap.size w W → W.cell? ⟨g, k * 4, none⟩ = some (.string x.d) ∧ W.cell? ⟨g, k * 4 + 1, none⟩ = some (.int .i64 x.i) ∧ W.cell? ⟨g, k * 4 + 2, none⟩ = some (.int .i64 x.s) ∧ W.cell? ⟨g, k * 4 + 3, none⟩ = some (.string x.k)) := Lib.hid (fun W h => by
        obtain ⟨g2, hg2, _, a0, a1, a2, a3⟩ := row4 (HR.out W h) hlt
        injection hg2 with hg2
        injection hg2 with hg2
        subst hg2
        rw [hx] at a0 a1 a2 a3
        exact ⟨a0, a1, a2, a3⟩)
      clear hk hx
      obtain ⟨b5, h5⟩ : ∃ b, (x.d.toList == f.toList) = b := ⟨_, rfl⟩
      rw [h5]
      obtain ⟨N, hN⟩ : ∃ N, ps.length = N := ⟨_, rfl⟩
      rw [hN] at i1 i2 hlt HA hl ⊢
      clear hN
      cases b5
      · go_enter Tryd.func17, Tryd.ntmps17
        go_wp2_with (first
          | (go_at_call 15; go_fit i1; rintro e w1 ⟨rfl, hb1⟩; obtain ⟨hA1, hB1⟩ := HA.out _ hb1; obtain ⟨c0, c1, c2, _⟩ := arr_three hA1)
          | (go_at_call 33; go_fit (i2 _ (HR.out _ hB1)); rintro e w2 ⟨rfl, hb2⟩; obtain ⟨d0, d1, d2, _⟩ := arr_three (arr_below hA1 hb2); obtain ⟨a0, a1, a2, a3⟩ := HROW.out _ (hB1.trans (hb2.mono hB1.size))))
        go_ret
        exact ⟨rfl, hB1.trans (hb2.mono hB1.size)⟩
      · go_enter Tryd.func17, Tryd.ntmps17
        go_wp2_with (first
          | (go_at_call 15; go_fit i1; rintro e w1 ⟨rfl, hb1⟩; obtain ⟨hA1, hB1⟩ := HA.out _ hb1; obtain ⟨c0, c1, c2, _⟩ := arr_three hA1)
          | (go_at_call 33; go_fit (i2 _ (HR.out _ hB1)); rintro e w2 ⟨rfl, hb2⟩; obtain ⟨d0, d1, d2, _⟩ := arr_three (arr_below hA1 hb2); obtain ⟨a0, a1, a2, a3⟩ := HROW.out _ (hB1.trans (hb2.mono hB1.size))))
        all_goals
          go_ret
          exact ⟨ret_bool (by first | rfl | simp | (simp; omega)), hB1.trans (hb2.mono hB1.size)⟩
end Go.Proofs.YtkjkfcljejjpbaaDoor
