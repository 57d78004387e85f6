/- Valid peers, valid dialbacks; what impl.peerRight and impl.DialbackRight answer. -/
import Derived.Test.YtkjkfcljejjpbaaDoorDbBits
import Derived.Test.YtkjkfcljejjpbaaDoorSmHead
namespace Go.Proofs.YtkjkfcljejjpbaaDoor
set_option linter.unusedSimpArgs false
set_option linter.unusedVariables false
open Go.RowKit

/-- A valid peer, but for its number. -/
noncomputable def prB (x : PrL) : Bool := domB x.d && (decide (0 ≤ x.s) && decide (x.s ≤ 3)) && decide (x.k.size ≤ 64) && (decide (x.k.size = 0) == decide (x.s = 0))
noncomputable def prsB (n : Int) : Int → List PrL → Bool
  | _, [] => true
  | l, x :: r => prB x && decide (l < x.i) && decide (x.i < n) && prsB n x.i r
/-- A valid dialback. -/
noncomputable def dbB (d : ByteArray) (n : Int) (ps : List PrL) : Bool := domB d && (decide (1 ≤ n) && decide (n ≤ 1000000000)) && decide (ps.length ≤ 10) && prsB n 0 ps
theorem box4 {w w1 : World} {a b c d : Value} {t : Nat} (h : Below (w.alloc (.cells #[a, b, c, d] t)).heap.size (w.alloc (.cells #[a, b, c, d] t)) w1) : (w1.cell? ⟨w.heap.size, 0, none⟩ = some a ∧ w1.cell? ⟨w.heap.size, 1, none⟩ = some b ∧ w1.cell? ⟨w.heap.size, 2, none⟩ = some c ∧ w1.cell? ⟨w.heap.size, 3, none⟩ = some d) ∧ Below w.heap.size w w1 := by
  have hA : Arr w1 w.heap.size t [a, b, c, d] := (h.block w.heap.size (by simp)).trans (Arr.fresh w t [a, b, c, d])
  exact ⟨⟨hA.cell 0, hA.cell 1, hA.cell 2, hA.cell 3⟩, ((Below.refl _ _).alloc (Nat.le_refl _) _).trans (h.mono (by simp))⟩
theorem arr_drewN {w : World} {b t : Nat} {cs : List Value} (h : Arr w b t cs) (k : Nat) : Arr (w.drewN k) b t cs := h
theorem empty_key {s : ByteArray} : (s.toList = [] ↔ s.size = 0) := by
  rw [ByteArray.toList_eq]
  constructor
  · intro h
    have := size_data s
    rw [h] at this
    exact this.symm
  · intro h
    exact List.eq_nil_of_length_eq_zero ((size_data s).trans h)
set_option maxHeartbeats 1000000 in
theorem impl_peer (x : PrL) (w : World) (hd : x.d.size ≤ maxLen) (hk : x.k.size ≤ maxLen) (hm : MaxL w) :
    Calls Tryd.prog 38 #[prV x] w fun e w' => e = .returned (.bool (prB x)) ∧ Below w.heap.size w w' := by
  obtain ⟨b1, h1⟩ : ∃ b, domB x.d = b := ⟨_, rfl⟩
  have i1 := fun w => impl_domain x.d w hd
  rw [h1] at i1
  unfold prB prV
  rw [h1]
  have HM := Lib.hid (fun o => hd_max hm o)
  unfold maxLen at hk
  clear h1 hm hd
  cases b1
  · go_enter Tryd.func38, Tryd.ntmps38
    go_wp2_with (go_at_call 36; go_fit (i1 _ (HM.out _)); rintro e w' ⟨rfl, n1, rfl⟩)
    go_ret
    exact ⟨ret_bool (by simp), below_drewN ((Below.refl _ _).alloc (Nat.le_refl _) _) _⟩
  · have hs : x.s < 0 ∨ (0 ≤ x.s ∧ x.s ≤ 3) ∨ 3 < x.s := by omega
    rcases hs with hs | ⟨hs0, hs1⟩ | hs
    · go_enter Tryd.func38, Tryd.ntmps38
      go_wp2_with (go_at_call 36; go_fit (i1 _ (HM.out _)); rintro e w' ⟨rfl, n1, rfl⟩)
      go_ret
      exact ⟨ret_bool (by rw [decide_eq_false (show ¬ 0 ≤ x.s by omega)]; simp), below_drewN ((Below.refl _ _).alloc (Nat.le_refl _) _) _⟩
    · rw [decide_eq_true hs0, decide_eq_true hs1]
      by_cases hk4 : 64 < x.k.size
      · rw [decide_eq_false (show ¬ x.k.size ≤ 64 by omega)]
        go_enter Tryd.func38, Tryd.ntmps38
        go_wp2_with (go_at_call 36; go_fit (i1 _ (HM.out _)); rintro e w' ⟨rfl, n1, rfl⟩)
        go_ret
        exact ⟨ret_bool (by simp), below_drewN ((Below.refl _ _).alloc (Nat.le_refl _) _) _⟩
      · rw [decide_eq_true (show x.k.size ≤ 64 by omega)]
        by_cases hk0 : x.k.size = 0
        · have e1 := empty_key.2 hk0
          rw [decide_eq_true hk0]
          go_enter Tryd.func38, Tryd.ntmps38
          go_wp2_with (go_at_call 36; go_fit (i1 _ (HM.out _)); rintro e w' ⟨rfl, n1, rfl⟩)
          all_goals
            go_ret
            exact ⟨ret_bool (by first | (simp [*]; done) | (simp [*]; rfl)), below_drewN ((Below.refl _ _).alloc (Nat.le_refl _) _) _⟩
        · have e1 : x.k.toList ≠ [] := fun e => hk0 (empty_key.1 e)
          have e2 : x.k.toList.isEmpty = false := by cases h : x.k.toList with | nil => exact absurd h e1 | cons a l => rfl
          rw [decide_eq_false hk0]
          go_enter Tryd.func38, Tryd.ntmps38
          go_wp2_with (go_at_call 36; go_fit (i1 _ (HM.out _)); rintro e w' ⟨rfl, n1, rfl⟩)
          all_goals
            go_ret
            exact ⟨ret_bool (by first | (simp [*]; done) | (simp [*]; rfl)), below_drewN ((Below.refl _ _).alloc (Nat.le_refl _) _) _⟩
    · go_enter Tryd.func38, Tryd.ntmps38
      go_wp2_with (go_at_call 36; go_fit (i1 _ (HM.out _)); rintro e w' ⟨rfl, n1, rfl⟩)
      go_ret
      exact ⟨ret_bool (by rw [decide_eq_false (show ¬ x.s ≤ 3 by omega)]; simp), below_drewN ((Below.refl _ _).alloc (Nat.le_refl _) _) _⟩
/-- One peer more. -/
theorem prsB_step {n l : Int} {ps : List PrL} {k : Nat} (hk : k < ps.length) : prsB n l (ps.drop k) = (prB ps[k] && decide (l < ps[k].i) && decide (ps[k].i < n) && prsB n ps[k].i (ps.drop (k + 1))) := by
  rw [List.drop_eq_getElem_cons hk]
  rfl
theorem row4 {w : World} {p : Option Addr} {xs : List PrL} (h : RowC prC 4 w p xs) {i : Nat} (hi : i < xs.length) : ∃ g, p = some ⟨g, 0, none⟩ ∧ g < w.heap.size ∧ w.cell? ⟨g, i * 4, none⟩ = some (.string xs[i].d) ∧ w.cell? ⟨g, i * 4 + 1, none⟩ = some (.int .i64 xs[i].i) ∧ w.cell? ⟨g, i * 4 + 2, none⟩ = some (.int .i64 xs[i].s) ∧ w.cell? ⟨g, i * 4 + 3, none⟩ = some (.string xs[i].k) := by
  obtain ⟨g, h1, h2, h3⟩ := h (List.ne_nil_of_length_pos (by omega))
  exact ⟨g, h1, h2, h3 i hi 0 (by decide), h3 i hi 1 (by decide), h3 i hi 2 (by decide), h3 i hi 3 (by decide)⟩
set_option maxRecDepth 100000 in
set_option maxHeartbeats 1000000 in
theorem impl_dbright (d : ByteArray) (n : Int) (ps : List PrL) (p : Option Addr) (cap : Nat) (w : World) (hd : d.size ≤ maxLen) (hl : ps.length ≤ 1048576) (hw : ∀ x ∈ ps, x.d.size ≤ maxLen ∧ x.k.size ≤ maxLen) (hR : RowC prC 4 w p ps) (hm : MaxL w) :
    Calls Tryd.prog 18 #[dbV d n p ps.length cap] w fun e w' => e = .returned (.bool (dbB d n ps)) ∧ Below w.heap.size w w' := by
  obtain ⟨b1, h1⟩ : ∃ b, domB d = b := ⟨_, rfl⟩
  have i1 := fun w => impl_domain d w hd
  have i2 := fun w => impl_isid n w
  rw [h1] at i1
  unfold dbB dbV
  rw [h1]
  have HM := Lib.hid (fun W (h : Below w.heap.size w W) => hm.below h hm.pos)
  have HR := Lib.hid (fun W (h : Below w.heap.size w W) => RowC.on hR h)
  have HW := Lib.hid hw
  obtain ⟨N, hN⟩ : ∃ N, ps.length = N := ⟨_, rfl⟩
  have HN := Lib.hid hN
  rw [hN] at hl ⊢
  clear h1 hm hR hw hd hN
  obtain ⟨b2, h2⟩ : ∃ b, (decide (1 ≤ n) && decide (n ≤ 1000000000)) = b := ⟨_, rfl⟩
  rw [h2] at i2 ⊢
  clear h2
  cases b1
  · go_enter Tryd.func18, Tryd.ntmps18
    go_wp2_with (go_at_call 36; go_fit (i1 _ (HM.out _ ((Below.refl _ _).alloc (Nat.le_refl _) _))); rintro e w' ⟨rfl, n1, rfl⟩)
    go_ret
    exact ⟨ret_bool (by simp), below_drewN ((Below.refl _ _).alloc (Nat.le_refl _) _) _⟩
  cases b2
  · go_enter Tryd.func18, Tryd.ntmps18
    go_wp2_with (first
      | (go_at_call 36; go_fit (i1 _ (HM.out _ ((Below.refl _ _).alloc (Nat.le_refl _) _))); rintro e w' ⟨rfl, n1, rfl⟩)
      | (go_at_call 37; go_fit (i2 _); rintro e w' ⟨rfl, rfl⟩))
    go_ret
    exact ⟨ret_bool (by simp), below_drewN ((Below.refl _ _).alloc (Nat.le_refl _) _) _⟩
  by_cases hten : 10 < N
  · rw [decide_eq_false (show ¬ N ≤ 10 by omega)]
    go_enter Tryd.func18, Tryd.ntmps18
    go_wp2_with (first
      | (go_at_call 36; go_fit (i1 _ (HM.out _ ((Below.refl _ _).alloc (Nat.le_refl _) _))); rintro e w' ⟨rfl, n1, rfl⟩)
      | (go_at_call 37; go_fit (i2 _); rintro e w' ⟨rfl, rfl⟩))
    go_ret
    exact ⟨ret_bool (by simp), below_drewN ((Below.refl _ _).alloc (Nat.le_refl _) _) _⟩
  · rw [decide_eq_true (show N ≤ 10 by omega)]
    obtain ⟨Z, hZ⟩ : ∃ Z, prsB n 0 ps = Z := ⟨_, rfl⟩
    have HZ0 : Hid (prsB n 0 (ps.drop 0) = Z) := Lib.hid hZ
    rw [hZ]
    clear hZ
    have HA0 := Lib.hid (fun k : Nat => (⟨arr_drewN (Arr.fresh w 25 [.string d, .int .i64 n, .slice p N cap]) k, below_drewN ((Below.refl w.heap.size w).alloc (Nat.le_refl _) _) k⟩ : Arr ((w.alloc (.cells #[.string d, .int .i64 n, .slice p N cap] 25)).drewN k) w.heap.size 25 [.string d, .int .i64 n, .slice p N cap] ∧ Below w.heap.size w ((w.alloc (.cells #[.string d, .int .i64 n, .slice p N cap] 25)).drewN k)))
    go_enter Tryd.func18, Tryd.ntmps18
    go_wp2_with (first
      | (go_at_call 36; go_fit (i1 _ (HM.out _ ((Below.refl _ _).alloc (Nat.le_refl _) _))); rintro e w' ⟨rfl, n1, rfl⟩)
      | (go_at_call 37; go_fit (i2 _); rintro e w' ⟨rfl, rfl⟩))
    go_loopw [3, 25] (fun lq iq wr => ∃ (k : Nat) (l : Int), k ≤ N ∧ iq = .int .i64 k ∧ lq = .int .i64 l ∧ prsB n l (ps.drop k) = Z ∧ Arr wr w.heap.size 25 [.string d, .int .i64 n, .slice p N cap] ∧ Below w.heap.size w wr) (fun _ i _ => N - (intOf i).toNat)
    case atStart => exact ⟨0, 0, Nat.zero_le _, rfl, rfl, HZ0.out, (HA0.out _).1, (HA0.out _).2⟩
    case round =>
      obtain ⟨k, l, hk, rfl, rfl, hz, hA, hb⟩ := hrel
      obtain ⟨c0, c1, c2, _⟩ := arr_three hA
      have HB := Lib.hid hb
      have HA := Lib.hid hA
      have hzl := arr_lt hA
      by_cases hlt : k < N
      · have hlt' : k < ps.length := by rw [HN.out]; exact hlt
        obtain ⟨g, rfl, hg, a0, a1, a2, a3⟩ := row4 (HR.out _ hb) hlt'
        have hxw := HW.out _ (List.getElem_mem hlt')
        rw [prsB_step hlt'] at hz
        obtain ⟨x, hx⟩ : ∃ x, ps[k] = x := ⟨_, rfl⟩
        rw [hx] at a0 a1 a2 a3 hxw hz
        have i3 := fun W hm => impl_peer x W hxw.1 hxw.2 hm
        obtain ⟨b3, h3⟩ : ∃ b, prB x = b := ⟨_, rfl⟩
        rw [h3] at i3 hz
        unfold prV at i3
        have HZ := Lib.hid hz
        clear hz h3 hx hb hA hxw
        cases b3
        · go_wp2_with (go_at_call 38; go_fit (i3 _ (HM.out _ (HB.out.alloc HB.out.size _))); rintro e w2 ⟨rfl, hb2⟩)
          go_ret
          exact ⟨ret_bool (by rw [← HZ.out]; simp), (HB.out.alloc HB.out.size _).trans (hb2.mono (by have := HB.out.size; simp; omega))⟩
        · rcases (by omega : x.i ≤ l ∨ (l < x.i ∧ n ≤ x.i) ∨ (l < x.i ∧ x.i < n)) with h4 | ⟨h4, h5⟩ | ⟨h4, h5⟩
          · go_wp2_with (go_at_call 38; go_fit (i3 _ (HM.out _ (HB.out.alloc HB.out.size _))); rintro e w2 ⟨rfl, hb2⟩; obtain ⟨⟨m0, m1, m2, m3⟩, hb3⟩ := box4 hb2)
            go_ret
            exact ⟨ret_bool (by rw [← HZ.out, decide_eq_false (show ¬ l < x.i by omega)]; simp), HB.out.trans (hb3.mono HB.out.size)⟩
          · go_wp2_with (go_at_call 38; go_fit (i3 _ (HM.out _ (HB.out.alloc HB.out.size _))); rintro e w2 ⟨rfl, hb2⟩; obtain ⟨⟨m0, m1, m2, m3⟩, hb3⟩ := box4 hb2; obtain ⟨q0, q1, q2, _⟩ := arr_three (arr_below HA.out hb3))
            go_ret
            exact ⟨ret_bool (by rw [← HZ.out, decide_eq_false (show ¬ x.i < n by omega)]; simp), HB.out.trans (hb3.mono HB.out.size)⟩
          · go_wp2_with (go_at_call 38; go_fit (i3 _ (HM.out _ (HB.out.alloc HB.out.size _))); rintro e w2 ⟨rfl, hb2⟩; obtain ⟨⟨m0, m1, m2, m3⟩, hb3⟩ := box4 hb2; obtain ⟨q0, q1, q2, _⟩ := arr_three (arr_below HA.out hb3))
            go_roundw
            case rel => exact ⟨k + 1, x.i, by omega, by go_num, rfl, by have := HZ.out; rw [decide_eq_true h4, decide_eq_true h5] at this; simpa using this, arr_below HA.out hb3, HB.out.trans (hb3.mono HB.out.size)⟩
            case measure => simp [intOf]; omega
      · obtain rfl : k = N := by omega
        have HZ : Hid (Z = true) := Lib.hid (by rw [← hz, List.drop_eq_nil_of_le (by rw [HN.out]; exact Nat.le_refl _)]; rfl)
        clear hz
        go_wp2
        go_ret
        exact ⟨ret_bool (by rw [HZ.out]; simp), HB.out⟩
end Go.Proofs.YtkjkfcljejjpbaaDoor
