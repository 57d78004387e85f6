/- What impl.StanzaRead answers. -/
import Derived.Test.YtgcfognljkebjaaGreatDoorSrRead
import Derived.Test.YtgcfognljkebjaaGreatDoorSmHead
namespace Go.Proofs.YtgcfognljkebjaaGreatDoor
set_option linter.unusedSimpArgs false
set_option linter.unusedVariables false
open Go.RowKit Go.Joins

set_option maxRecDepth 100000 in
set_option maxHeartbeats 2000000 in
theorem impl_sread (s : ByteArray) (w : World) (hs : s.size ≤ 2000000) (hm : MaxL w) (hp : TabP w) (hE : ErrV w) :
    Calls Tryz.prog 87 #[.string s] w fun e w' => e = .returned (srV s.data.toList) ∧ Below w.heap.size w w' := by
  have hlen := size_data s
  unfold srV
  by_cases hbig : 20000 < s.data.toList.length
  · rw [if_pos hbig]
    have hbig2 : 20000 < s.size := by omega
    clear hbig hlen
    go_enter Tryz.func87, Tryz.ntmps87
    go_wp2
    exact bodyPost_ret (v := outV zeroL 2) (by simp [results, Tryz.results87, go_sem, outV, zeroL, strOf]) rfl ⟨rfl, (Below.refl _ _).alloc (Nat.le_refl _) _⟩
  · rw [if_neg hbig]
    have hs2 : s.size ≤ 20000 := by omega
    clear hbig
    have HA := Lib.hid (fun (o : Obj) => And.intro (hd_max hm o) (And.intro (hp.below ((Below.refl w.heap.size w).alloc (Nat.le_refl _) o)) (hE.below ((Below.refl w.heap.size w).alloc (Nat.le_refl _) o))))
    have HM := Lib.hid (fun W (h : Below w.heap.size w W) => And.intro (hm.below h hm.pos) (hp.below h))
    have i1 := fun W hm hE => impl_stparts s W hs2 hm hE
    have hle : LeL (rdI numI plI s.data.toList) 2000000 := rdI_le s.data.toList (by omega)
    have HR : Hid (∀ x, rdI numI plI s.data.toList = x → (okX x s.data.toList ↔ okX (rdS s.data.toList) s.data.toList) ∧ (okX x s.data.toList → rdS s.data.toList = x)) := Lib.hid (fun x hx => by
      subst hx
      exact ⟨ok_same _, fun h => ok_rdS h⟩)
    obtain ⟨x, hx⟩ : ∃ x, rdI numI plI s.data.toList = x := ⟨_, rfl⟩
    rw [hx] at i1 hle
    obtain ⟨HO, HO2⟩ := HR.out x hx
    clear hx HR
    unfold stLV at i1
    obtain ⟨l1, l2, l3, l4, l5⟩ := hle
    rw [← strOf_size] at l1 l2 l3 l4 l5
    have i2 := fun W hm => impl_stright (strOf x.k) (strOf x.t) (strOf x.f) (strOf x.o) x.n (strOf x.b) W (by unfold maxLen; omega) (by unfold maxLen; omega) (by unfold maxLen; omega) (by unfold maxLen; omega) hm
    have i3 := fun W hm hp => impl_sttext (strOf x.k) (strOf x.t) (strOf x.f) (strOf x.o) x.n (strOf x.b) W l1 l2 l3 l4 l5 hm hp
    clear l1 l2 l3 l4 l5 hlen
    by_cases hok : okX x s.data.toList
    · have hT := stT_ok hok
      rw [strOf_toList] at hT
      rw [if_pos (HO.1 hok), HO2 hok]
      have hne : s.toList ≠ [] := by rw [ByteArray.toList_eq, ← hok.2]; exact mark_cons _ _ _ _ _ _
      have he2 : s.toList.isEmpty = false := by cases h : s.toList with | nil => exact absurd h hne | cons a l => rfl
      rw [hT] at i3
      rw [hok.1] at i2
      clear hok hT HO HO2
      go_enter Tryz.func87, Tryz.ntmps87
      go_wp2_with (first | (go_at_call 108; go_fit (i1 _ (HA.out _).1 (HA.out _).2.2); rintro e w1 ⟨rfl, hb1⟩; have HMW := Lib.hid (HM.out _ (below_one hb1)); have hbx := (Below.refl (w1.alloc (.cells (stC x).toArray 70)).heap.size (w1.alloc (.cells (stC x).toArray 70)))) | (go_at_call 109; go_fit (i2 _ (HM.out _ (read_boxes hb1 hbx).2.2.1).1); rintro e w2 ⟨rfl, hb2⟩; have hbx := hbx.trans (hb2.mono hbx.size); have hb := hbx; obtain ⟨hA1, hA2, hB, hz⟩ := read_boxes hb1 hb; obtain ⟨b0, b1, b2, b3, b4, b5, b6, g0, g1, g2, g3, g4, g5, g6⟩ := arr_seven hA1; obtain ⟨a0, a1, a2, a3, a4, a5, f0, f1, f2, f3, f4, f5⟩ := arr_six hA2; have hz2 := arr_lt hA2; have hzW := arr_lt hA1; clear hb2 hb) | (go_at_call 110; go_fit (i3 _ (HM.out _ (read_boxes hb1 hbx).2.2.1).1 (HM.out _ (read_boxes hb1 hbx).2.2.1).2); rintro e w3 ⟨rfl, hb2⟩; have hb := hbx.trans (hb2.mono hbx.size); obtain ⟨hA1, hA2, hB, hz⟩ := read_boxes hb1 hb; obtain ⟨b0, b1, b2, b3, b4, b5, b6, g0, g1, g2, g3, g4, g5, g6⟩ := arr_seven hA1; obtain ⟨a0, a1, a2, a3, a4, a5, f0, f1, f2, f3, f4, f5⟩ := arr_six hA2; have hz2 := arr_lt hA2; have hzW := arr_lt hA1))
      exact bodyPost_ret (v := outV x 0) (by simp [results, Tryz.results87, go_sem, b0, b1, b2, b3, b4, b5, b6, hz, outV, zeroL]; try omega) rfl ⟨rfl, below_set7 hB (Nat.le_refl _) _ _ _ _ _ _ _⟩
    · rw [if_neg (fun h => hok (HO.2 h))]
      cases hst : stB (strOf x.k) (strOf x.t) (strOf x.f) (strOf x.o) x.n (strOf x.b)
      · rw [hst] at i2
        clear hok HO HO2 hst i3
        go_enter Tryz.func87, Tryz.ntmps87
        go_wp2_with (first | (go_at_call 108; go_fit (i1 _ (HA.out _).1 (HA.out _).2.2); rintro e w1 ⟨rfl, hb1⟩; have HMW := Lib.hid (HM.out _ (below_one hb1)); have hbx := (Below.refl (w1.alloc (.cells (stC x).toArray 70)).heap.size (w1.alloc (.cells (stC x).toArray 70)))) | (go_at_call 109; go_fit (i2 _ (HM.out _ (read_boxes hb1 hbx).2.2.1).1); rintro e w2 ⟨rfl, hb2⟩; have hbx := hbx.trans (hb2.mono hbx.size); have hb := hbx; obtain ⟨hA1, hA2, hB, hz⟩ := read_boxes hb1 hb; obtain ⟨b0, b1, b2, b3, b4, b5, b6, g0, g1, g2, g3, g4, g5, g6⟩ := arr_seven hA1; obtain ⟨a0, a1, a2, a3, a4, a5, f0, f1, f2, f3, f4, f5⟩ := arr_six hA2; have hz2 := arr_lt hA2; have hzW := arr_lt hA1; clear hb2 hb))
        exact bodyPost_ret (v := outV zeroL 3) (by simp [results, Tryz.results87, go_sem, b0, b1, b2, b3, b4, b5, b6, hz, outV, zeroL, strOf]; try omega) rfl ⟨rfl, below_set7 hB (Nat.le_refl _) _ _ _ _ _ _ _⟩
      · have hT : stT (strOf x.k) (strOf x.t) (strOf x.f) (strOf x.o) x.n (strOf x.b) ≠ s := by
          unfold stT
          rw [if_pos hst, strOf_data, strOf_data, strOf_data, strOf_data, strOf_data]
          intro e
          exact hok ⟨hst, by rw [← e, strOf_data]⟩
        rw [hst] at i2
        obtain ⟨Z, hZ⟩ : ∃ Z, stT (strOf x.k) (strOf x.t) (strOf x.f) (strOf x.o) x.n (strOf x.b) = Z := ⟨_, rfl⟩
        rw [hZ] at i3 hT
        have hn1 : Z.toList ≠ s.toList := fun e => hT (WideShapes.bytes_inj (by rw [← ByteArray.toList_eq, ← ByteArray.toList_eq]; exact e))
        have hn2 : (Z.toList == s.toList) = false := by rw [beq_eq_false_iff_ne]; exact hn1
        have hn3 : (Z.toList != s.toList) = true := by rw [bne_iff_ne]; exact hn1
        clear hok HO HO2 hst hZ hT
        go_enter Tryz.func87, Tryz.ntmps87
        go_wp2_with (first | (go_at_call 108; go_fit (i1 _ (HA.out _).1 (HA.out _).2.2); rintro e w1 ⟨rfl, hb1⟩; have HMW := Lib.hid (HM.out _ (below_one hb1)); have hbx := (Below.refl (w1.alloc (.cells (stC x).toArray 70)).heap.size (w1.alloc (.cells (stC x).toArray 70)))) | (go_at_call 109; go_fit (i2 _ (HM.out _ (read_boxes hb1 hbx).2.2.1).1); rintro e w2 ⟨rfl, hb2⟩; have hbx := hbx.trans (hb2.mono hbx.size); have hb := hbx; obtain ⟨hA1, hA2, hB, hz⟩ := read_boxes hb1 hb; obtain ⟨b0, b1, b2, b3, b4, b5, b6, g0, g1, g2, g3, g4, g5, g6⟩ := arr_seven hA1; obtain ⟨a0, a1, a2, a3, a4, a5, f0, f1, f2, f3, f4, f5⟩ := arr_six hA2; have hz2 := arr_lt hA2; have hzW := arr_lt hA1; clear hb2 hb) | (go_at_call 110; go_fit (i3 _ (HM.out _ (read_boxes hb1 hbx).2.2.1).1 (HM.out _ (read_boxes hb1 hbx).2.2.1).2); rintro e w3 ⟨rfl, hb2⟩; have hb := hbx.trans (hb2.mono hbx.size); obtain ⟨hA1, hA2, hB, hz⟩ := read_boxes hb1 hb; obtain ⟨b0, b1, b2, b3, b4, b5, b6, g0, g1, g2, g3, g4, g5, g6⟩ := arr_seven hA1; obtain ⟨a0, a1, a2, a3, a4, a5, f0, f1, f2, f3, f4, f5⟩ := arr_six hA2; have hz2 := arr_lt hA2; have hzW := arr_lt hA1))
        exact bodyPost_ret (v := outV zeroL 3) (by simp [results, Tryz.results87, go_sem, b0, b1, b2, b3, b4, b5, b6, hz, outV, zeroL, strOf]; try omega) rfl ⟨rfl, below_set7 hB (Nat.le_refl _) _ _ _ _ _ _ _⟩
end Go.Proofs.YtgcfognljkebjaaGreatDoor
